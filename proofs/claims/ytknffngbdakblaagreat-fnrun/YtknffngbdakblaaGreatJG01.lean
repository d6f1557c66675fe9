/- Small facts on boxed structs, method tables and comparisons of the program; no condition. laws.toIns hands its Ins on, field by field, in new memory. No condition. Lists of places as they lie in memory, and how the laws copy them. Conditions: lists of at most 1048576 places. Lists of integers, of places and of bodies as they lie in memory between two blocks, and how the laws copy them into new memory. Conditions: each list of at most 1048576. How the laws copy a program into new memory, and count how great it is. Conditions: each list of at most 1048576 where it is copied. The cursor over a draw's bytes: each function that draws a number turns the cursor's own block alone, and its number lies within its bounds. Conditions: the cursor and its bytes lie in memory as the reading says. The draws of chapter 1 of a place: each makes a place of five numbers, and turns the cursor's own block alone. Conditions: the cursor and its bytes lie in memory as the reading says. -/
import Derived.Test.YtknffngbdakblaaGreatJG00
import Derived.Test.YtknffngbdakblaaGreatChecked
import Derived.WalkKit
import Derived.KernelRfl
import Derived.WalkSpells
import Derived.WalkLawsBesides
import Derived.Test.YtknffngbdakblaaGreatJLeaves
import Derived.Laws.MakeOwn
import Derived.Deep.QuietTactic
import Derived.BigQuiet
namespace Go.Proofs.YtknffngbdakblaaGreat
section
set_option linter.unusedSimpArgs false
set_option linter.unusedVariables false
set_option maxRecDepth 100000
open Go.RowKit
theorem neqN (u:TypeId) (v:Value) (w:World):(binOp .neq 123 (.iface u v) .nilIface).run Tryz.prog w=.ok (.bool true) w:=by kernel_rfl
theorem neqNil (w:World):(binOp .neq 123 .nilIface .nilIface).run Tryz.prog w=.ok (.bool false) w:=by kernel_rfl
theorem mth_1 (v:Value) (w:World):(method 272 132 v "loop.example/g00238/impl.ins").run Tryz.prog w=.ok (124,v) w:=by kernel_rfl
theorem mth_2 (v:Value) (w:World):(method 272 134 v "loop.example/g00238/impl.ins").run Tryz.prog w=.ok (125,v) w:=by kernel_rfl
theorem mth_3 (v:Value) (w:World):(method 272 135 v "loop.example/g00238/impl.ins").run Tryz.prog w=.ok (126,v) w:=by kernel_rfl
theorem mth_4 (v:Value) (w:World):(method 272 136 v "loop.example/g00238/impl.ins").run Tryz.prog w=.ok (127,v) w:=by kernel_rfl
theorem mth_5 (v:Value) (w:World):(method 272 138 v "loop.example/g00238/impl.ins").run Tryz.prog w=.ok (128,v) w:=by kernel_rfl
theorem mth_6 (v:Value) (w:World):(method 272 140 v "loop.example/g00238/impl.ins").run Tryz.prog w=.ok (129,v) w:=by kernel_rfl
theorem mth_7 (v:Value) (w:World):(method 272 142 v "loop.example/g00238/impl.ins").run Tryz.prog w=.ok (130,v) w:=by kernel_rfl
theorem mth_8 (v:Value) (w:World):(method 272 143 v "loop.example/g00238/impl.ins").run Tryz.prog w=.ok (131,v) w:=by kernel_rfl
theorem mth_9 (v:Value) (w:World):(method 272 145 v "loop.example/g00238/impl.ins").run Tryz.prog w=.ok (132,v) w:=by kernel_rfl
theorem mth_10 (v:Value) (w:World):(method 272 147 v "loop.example/g00238/impl.ins").run Tryz.prog w=.ok (133,v) w:=by kernel_rfl
theorem mth_11 (v:Value) (w:World):(method 272 148 v "loop.example/g00238/impl.ins").run Tryz.prog w=.ok (134,v) w:=by kernel_rfl
theorem mth_12 (v:Value) (w:World):(method 272 149 v "loop.example/g00238/impl.ins").run Tryz.prog w=.ok (135,v) w:=by kernel_rfl
theorem mth_13 (v:Value) (w:World):(method 272 151 v "loop.example/g00238/impl.ins").run Tryz.prog w=.ok (136,v) w:=by kernel_rfl
theorem boxed5 {w w1 : World} {v0 v1 v2 v3 v4 : Value} {T : TypeId} (hb : Below (w.alloc (.cells #[v0, v1, v2, v3, v4] T)).heap.size (w.alloc (.cells #[v0, v1, v2, v3, v4] T)) w1) :
  w1.cell? ⟨w.heap.size,0,none⟩=some v0∧w1.cell? ⟨w.heap.size,1,none⟩=some v1∧w1.cell? ⟨w.heap.size,2,none⟩=some v2∧w1.cell? ⟨w.heap.size,3,none⟩=some v3∧w1.cell? ⟨w.heap.size,4,none⟩=some v4∧w.heap.size < w1.heap.size:=by
 refine ⟨?_,?_,?_,?_,?_,?_⟩
 iterate 5 (· rw [hb.cell (by simp)];simp [go_sem])
 ·have:=hb.size;simp at this;omega
theorem carry5 {w1 w2 : World} {B : Nat} {v0 v1 v2 v3 v4 : Value} (hb : Below w1.drew.heap.size w1.drew w2) (hz : B < w1.heap.size) (c0 : w1.cell? ⟨B, 0, none⟩ = some v0) (c1 : w1.cell? ⟨B, 1, none⟩ = some v1) (c2 : w1.cell? ⟨B, 2, none⟩ = some v2) (c3 : w1.cell? ⟨B, 3, none⟩ = some v3) (c4 : w1.cell? ⟨B, 4, none⟩ = some v4) :
  w2.cell? ⟨B,0,none⟩=some v0∧w2.cell? ⟨B,1,none⟩=some v1∧w2.cell? ⟨B,2,none⟩=some v2∧w2.cell? ⟨B,3,none⟩=some v3∧w2.cell? ⟨B,4,none⟩=some v4∧w1.heap.size≤w2.heap.size:=
 ⟨(hb.cell hz).trans c0,(hb.cell hz).trans c1,(hb.cell hz).trans c2,(hb.cell hz).trans c3,(hb.cell hz).trans c4,hb.size⟩
theorem areChans_is (c:Int) (v:Bool) (w:World) (h:Plain.chansB c=v):Calls Tryz.prog 83 #[.int .i64 c] w fun e w'=>e=.returned (.bool v)∧w'=w:=by
 subst h
 exact areChans_any c w
theorem eqNo (o r a b n o' r' a' b' n':Int) (w:World) (h:¬ (o=o'∧r=r'∧a=a'∧b=b'∧n=n')):(binOp .eql 85 (.agg #[.int .i64 o,.int .i64 r,.int .i64 a,.int .i64 b,.int .i64 n]) (.agg #[.int .i64 o',.int .i64 r',.int .i64 a',.int .i64 b',.int .i64 n'])).run Tryz.prog w=.ok (.bool false) w:=by
 have e:(binOp .eql 85 (.agg #[.int .i64 o,.int .i64 r,.int .i64 a,.int .i64 b,.int .i64 n]) (.agg #[.int .i64 o',.int .i64 r',.int .i64 a',.int .i64 b',.int .i64 n'])).run Tryz.prog w=.ok (.bool (decide (o=o'∧r=r'∧a=a'∧b=b'∧n=n'))) w:=by
  simp [go_sem]
  by_cases h1:o=o'<;>by_cases h2:r=r'<;>by_cases h3:a=a'<;>by_cases h4:b=b'<;>by_cases h5:n=n'<;>simp [h1,h2,h3,h4,h5]
 rw [e,decide_eq_false h]
end
section
set_option linter.unusedSimpArgs false
set_option linter.unusedVariables false
set_option maxRecDepth 100000
open Go.RowKit
end
section
set_option linter.unusedSimpArgs false
set_option linter.unusedVariables false
set_option maxRecDepth 100000
open Go.RowKit
structure I5 where
 o:Int
 r:Int
 a:Int
 b:Int
 n:Int
def z5:I5:=⟨0,0,0,0,0⟩
def At5 (w:World) (g off:Nat) (x:I5):Prop:=
 w.cell? ⟨g,off,none⟩=some (.int .i64 x.o)∧w.cell? ⟨g,off+1,none⟩=some (.int .i64 x.r)∧w.cell? ⟨g,off+2,none⟩=some (.int .i64 x.a)∧w.cell? ⟨g,off+3,none⟩=some (.int .i64 x.b)∧w.cell? ⟨g,off+4,none⟩=some (.int .i64 x.n)
theorem At5.keep {w w':World} {B g off:Nat} {x:I5} (h:At5 w g off x) (hb:Below B w w') (hg:g < B):At5 w' g off x:=
 ⟨(hb.cell hg).trans h.1,(hb.cell hg).trans h.2.1,(hb.cell hg).trans h.2.2.1,(hb.cell hg).trans h.2.2.2.1,(hb.cell hg).trans h.2.2.2.2⟩
/- a list of places below block B -/
def InsB (w:World) (B:Nat) (s:Option Addr) (l:List I5):Prop:=
 l=[]∨∃ g off,s=some ⟨g,off,none⟩∧g < B∧∀ i,i < l.length→At5 w g (off+i * 5) (l.getD i z5)
end
section
set_option linter.unusedSimpArgs false
set_option linter.unusedVariables false
set_option maxRecDepth 100000
open Go.RowKit
def InsR (w:World) (lo hi:Nat) (s:Option Addr) (l:List I5):Prop:=
 l=[]∨∃ g off,s=some ⟨g,off,none⟩∧lo≤g∧g < hi∧∀ i,i < l.length→At5 w g (off+i * 5) (l.getD i z5)
def BodR (w:World) (lo hi g off:Nat) (l:List I5):Prop:=∃ s c,w.cell? ⟨g,off,none⟩=some (.slice s l.length c)∧InsR w lo hi s l
def BodsR (w:World) (lo hi:Nat) (s:Option Addr) (l:List (List I5)):Prop:=
 l=[]∨∃ g off,s=some ⟨g,off,none⟩∧lo≤g∧g < hi∧∀ i,i < l.length→BodR w lo hi g (off+i) (l.getD i [])
theorem At5.of_keep {w w':World} {lo hi g off:Nat} {x:I5} (h:At5 w g off x) (hb:Keep lo hi w w') (h1:lo≤g) (h2:g < hi):At5 w' g off x:=
 ⟨(hb.cell h1 h2).trans h.1,(hb.cell h1 h2).trans h.2.1,(hb.cell h1 h2).trans h.2.2.1,(hb.cell h1 h2).trans h.2.2.2.1,(hb.cell h1 h2).trans h.2.2.2.2⟩
theorem InsR.keep {w w':World} {lo hi:Nat} {s:Option Addr} {l:List I5} (h:InsR w lo hi s l) (hb:Keep lo hi w w'):InsR w' lo hi s l:=by
 rcases h with h | ⟨g,o,hs,h1,h2,hc⟩
 ·exact .inl h
 ·exact .inr ⟨g,o,hs,h1,h2,fun i hi=>(hc i hi).of_keep hb h1 h2⟩
theorem BodR.keep {w w':World} {lo hi g off:Nat} {l:List I5} (h:BodR w lo hi g off l) (hb:Keep lo hi w w') (hc:w'.cell? ⟨g,off,none⟩=w.cell? ⟨g,off,none⟩):BodR w' lo hi g off l:=by
 obtain ⟨s,c,h1,h2⟩:=h
 exact ⟨s,c,hc.trans h1,h2.keep hb⟩
theorem BodsR.keep {w w':World} {lo hi:Nat} {s:Option Addr} {l:List (List I5)} (h:BodsR w lo hi s l) (hb:Keep lo hi w w'):BodsR w' lo hi s l:=by
 rcases h with h | ⟨g,o,hs,h1,h2,hc⟩
 ·exact .inl h
 ·exact .inr ⟨g,o,hs,h1,h2,fun i hi=>(hc i hi).keep hb (hb.cell h1 h2)⟩
theorem InsR.mono {w:World} {lo hi lo' hi':Nat} {s:Option Addr} {l:List I5} (h:InsR w lo hi s l) (h1:lo'≤lo) (h2:hi≤hi'):InsR w lo' hi' s l:=by
 rcases h with h | ⟨g,o,hs,a,b,hc⟩
 ·exact .inl h
 ·exact .inr ⟨g,o,hs,by omega,by omega,hc⟩
theorem BodR.mono {w:World} {lo hi lo' hi' g off:Nat} {l:List I5} (h:BodR w lo hi g off l) (h1:lo'≤lo) (h2:hi≤hi'):BodR w lo' hi' g off l:=by
 obtain ⟨s,c,a,b⟩:=h
 exact ⟨s,c,a,b.mono h1 h2⟩
theorem BodsR.mono {w:World} {lo hi lo' hi':Nat} {s:Option Addr} {l:List (List I5)} (h:BodsR w lo hi s l) (h1:lo'≤lo) (h2:hi≤hi'):BodsR w lo' hi' s l:=by
 rcases h with h | ⟨g,o,hs,a,b,hc⟩
 ·exact .inl h
 ·exact .inr ⟨g,o,hs,by omega,by omega,fun i hi=>(hc i hi).mono h1 h2⟩
theorem InsR.insB {w:World} {lo hi:Nat} {s:Option Addr} {l:List I5} (h:InsR w lo hi s l):InsB w hi s l:=by
 rcases h with h | ⟨g,o,hs,a,b,hc⟩
 ·exact .inl h
 ·exact .inr ⟨g,o,hs,b,hc⟩
end
section
set_option linter.unusedSimpArgs false
set_option linter.unusedVariables false
set_option maxRecDepth 100000
open Go.RowKit
structure PD where
 caps:List Int
 bods:List (List I5)
def ProgR (w:World) (lo hi:Nat) (s s':Option Addr) (p:PD):Prop:=IntsR w lo hi s p.caps∧BodsR w lo hi s' p.bods
def Fits (p:PD):Prop:=p.caps.length≤1048576∧p.bods.length≤1048576∧∀ i,i < p.bods.length→(p.bods.getD i []).length≤1048576
theorem ProgR.keep' {w w':World} {lo hi:Nat} {s s':Option Addr} {p:PD} (h:ProgR w lo hi s s' p) (hb:Keep lo hi w w'):ProgR w' lo hi s s' p:=⟨h.1.keep hb,h.2.keep hb⟩
end
section
set_option linter.unusedSimpArgs false
set_option linter.unusedVariables false
set_option maxRecDepth 100000
open Go.RowKit
structure But (g:Nat) (w w':World):Prop where
 os:w'.os=w.os
 tape:w'.tape=w.tape
 output:w'.output=w.output
 size:w.heap.size≤w'.heap.size
 block:∀ k,k < w.heap.size→k≠g→w'.heap[k]? =w.heap[k]?
theorem But.refl (g:Nat) (w:World):But g w w:=⟨rfl,rfl,rfl,Nat.le_refl _,fun _ _ _=>rfl⟩
theorem But.trans {g:Nat} {a b c:World} (h:But g a b) (k:But g b c):But g a c:=
 ⟨k.os.trans h.os,k.tape.trans h.tape,k.output.trans h.output,Nat.le_trans h.size k.size,fun i hi hg=>(k.block i (Nat.lt_of_lt_of_le hi h.size) hg).trans (h.block i hi hg)⟩
theorem But.drewN {g:Nat} {w w':World} (h:But g w w') (n:Nat):But g w (w'.drewN n):=⟨h.os,h.tape,h.output,h.size,h.block⟩
theorem But.setCell {g:Nat} {w w':World} (h:But g w w') (o:Nat) (v:Value):But g w (w'.setCell ⟨g,o,none⟩ v):=
 ⟨h.os,h.tape,h.output,by simpa using h.size,fun k hk hg=>(Below.heap_setCell w' ⟨g,o,none⟩ v k hg).trans (h.block k hk hg)⟩
theorem But.alloc {g:Nat} {w w':World} (h:But g w w') (o:Obj):But g w (w'.alloc o):=
 h.trans ⟨rfl,rfl,rfl,by simp,fun k hk _=>Below.heap_alloc _ _ _ hk⟩
theorem But.cell {g:Nat} {w w':World} (h:But g w w') {p:Addr} (hp:p.block < w.heap.size) (hg:p.block≠g):w'.cell? p=w.cell? p:=World.cell?_of_block (w:=w) (h.block p.block hp hg)
theorem But.frozen {g:Nat} {w w':World} (h:But g w w') {p:Addr} (hp:p.block < w.heap.size) (hg:p.block≠g):w'.frozen? p=w.frozen? p:=World.frozen?_of_block (w:=w) (h.block p.block hp hg)
theorem But.below {g B:Nat} {w w':World} (h:But g w w') (hB:B≤g) (hs:B≤w.heap.size):Below B w w':=
 ⟨h.os,h.tape,h.output,h.size,fun k hk=>h.block k (by omega) (by omega)⟩
theorem But.of_below {g:Nat} {w w':World} (h:Below w.heap.size w w'):But g w w':=⟨h.os,h.tape,h.output,h.size,fun k hk _=>h.block k hk⟩
/- the bytes of a draw lie below block p -/
def Bytes (w:World) (p:Nat) (s:Option Addr) (n:Nat):Prop:=
 n=0∨∃ g o,s=some ⟨g,o,none⟩∧g < p∧∀ k,k < n→∃ b:Int,w.cell? ⟨g,o+k,none⟩=some (.int .u8 b)∧0≤b∧b≤255
def Cur (w:World) (p:Nat) (s:Option Addr) (n c:Nat):Prop:=
 ∃ i h:Int,w.cell? ⟨p,0,none⟩=some (.slice s n c)∧w.cell? ⟨p,1,none⟩=some (.int .i64 i)∧w.cell? ⟨p,2,none⟩=some (.int .i64 h)∧(∀ j,w.frozen? ⟨p,j,none⟩=false)∧0≤i∧i≤n∧p < w.heap.size
theorem and255 (y:Int):0≤bits .and .i64 y 255∧bits .and .i64 y 255≤255:=by
 unfold bits
 have e:(255:Nat) % 2 ^ IntKind.i64.bits=255:=by decide
 simp
 rw [e]
 have h:(y % 2 ^ IntKind.i64.bits).toNat&&& 255≤255:=Nat.and_le_right
 generalize (y % 2 ^ IntKind.i64.bits).toNat&&& 255=z at h
 rw [IntKind.wrap_i64]
 omega
theorem Bytes.but {w w':World} {p n:Nat} {s:Option Addr} (h:Bytes w p s n) (hb:But p w w') (hp:p≤w.heap.size):Bytes w' p s n:=by
 rcases h with h | ⟨g,o,hs,hg,hc⟩
 ·exact .inl h
 ·refine .inr ⟨g,o,hs,hg,fun k hk=>?_⟩
  obtain ⟨b,h1,h2⟩:=hc k hk
  exact ⟨b,(hb.cell (p:=⟨g,o+k,none⟩) (by show g < _;omega) (by show g≠p;omega)).trans h1,h2⟩
theorem cur_set {w : World} {p n c : Nat} {s : Option Addr} {i h i' h' : Int} {m m' : Nat} (c0 : w.cell? ⟨p, 0, none⟩ = some (.slice s n c)) (c1 : w.cell? ⟨p, 1, none⟩ = some (.int .i64 i)) (c2 : w.cell? ⟨p, 2, none⟩ = some (.int .i64 h)) (hf : ∀ j, w.frozen? ⟨p, j, none⟩ = false) (hi : 0 ≤ i') (hi' : i' ≤ n) (hp : p < w.heap.size) :
  Cur ((((w.setCell ⟨p,2,none⟩ (.int .i64 h')).drewN m).setCell ⟨p,1,none⟩ (.int .i64 i')).drewN m') p s n c:=by
 refine ⟨i',h',?_,?_,?_,?_,hi,hi',by simpa using hp⟩
 ·simp [go_sem,c0]
 ·simp [go_sem,c1]
 ·simp [go_sem,c2]
 ·intro j;simp [hf]
theorem cur_set2 {w : World} {p n c : Nat} {s : Option Addr} {i h h' : Int} {m : Nat} (c0 : w.cell? ⟨p, 0, none⟩ = some (.slice s n c)) (c1 : w.cell? ⟨p, 1, none⟩ = some (.int .i64 i)) (c2 : w.cell? ⟨p, 2, none⟩ = some (.int .i64 h)) (hf : ∀ j, w.frozen? ⟨p, j, none⟩ = false) (hi : 0 ≤ i) (hi' : i ≤ n) (hp : p < w.heap.size) :
  Cur ((w.setCell ⟨p,2,none⟩ (.int .i64 h')).drewN m) p s n c:=by
 refine ⟨i,h',?_,?_,?_,?_,hi,hi',by simpa using hp⟩
 ·simp [go_sem,c0]
 ·simp [go_sem,c1]
 ·simp [go_sem,c2]
 ·intro j;simp [hf]
set_option maxRecDepth 100000 in
set_option maxHeartbeats 1000000 in
theorem l1Byte_t (p : Nat) (s : Option Addr) (n c : Nat) (w : World) (hc : Cur w p s n c) (hb : Bytes w p s n) (hn : n ≤ maxLen) :
  Calls Tryz.prog 43 #[.pointer (some ⟨p,0,none⟩)] w fun e w'=>∃ x:Int,e=.returned (.int .i64 x)∧0≤x∧x≤255∧Cur w' p s n c∧But p w w':=by
 obtain ⟨i,h,c0,c1,c2,hf,hi,hi',hp⟩:=hc
 unfold maxLen at hn
 by_cases hin:i < (n:Int)
 ·obtain ⟨k,rfl⟩:=Int.eq_ofNat_of_zero_le hi
  rcases hb with rfl | ⟨g,o,rfl,hg,hbs⟩
  ·exact absurd hin (by omega)
  obtain ⟨b,hb,b0,b1⟩:=hbs k (by omega)
  clear hbs
  have hgp:g≠p:=by omega
  go_enter Tryz.func43,Tryz.ntmps43
  go_wp2
  go_quiet (fail)
  go_wp2
  go_quiet (fail)
  go_wp2
  go_quiet (fail)
  go_wp2
  go_ret
  refine ⟨_,rfl,(and255 _).1,(and255 _).2,?_,?_⟩
  ·exact cur_set (m':=0) c0 c1 c2 hf (by omega) (by omega) hp
  ·exact ((((But.refl p w).setCell 2 _).drewN _).setCell 1 _)
 ·go_enter Tryz.func43,Tryz.ntmps43
  go_wp2
  go_quiet (fail)
  go_wp2
  go_quiet (fail)
  go_wp2
  go_ret
  refine ⟨_,rfl,(and255 _).1,(and255 _).2,?_,?_⟩
  ·rw [World.drewN_drewN]
   exact cur_set2 c0 c1 c2 hf hi hi' hp
  ·exact ((((But.refl p w).setCell 2 _).drewN _).drewN _)
set_option maxHeartbeats 400000 in
theorem l1Below_t (p : Nat) (s : Option Addr) (n c : Nat) (q : Int) (w : World) (hc : Cur w p s n c) (hb : Bytes w p s n) (hn : n ≤ maxLen) (hq0 : 0 < q) (hq : q ≤ 256) :
  Calls Tryz.prog 25 #[.pointer (some ⟨p,0,none⟩),.int .i64 q] w fun e w'=>∃ x:Int,e=.returned (.int .i64 x)∧0≤x∧x < q∧Cur w' p s n c∧But p w w':=by
 have h1:¬ q≤0:=by omega
 have h2:(q==0)=false:=by simp;omega
 go_enter Tryz.func25,Tryz.ntmps25
 go_wp2_with fail
 refine (l1Byte_t p s n c w hc hb hn).mono ?_
 rintro e w1 ⟨x,rfl,x0,x1,hc1,hb1⟩
 have HC:Hid (Cur w1 p s n c):=hc1
 clear hc1 hc hb
 go_wp2
 go_ret
 exact ⟨x % q,rfl,Int.emod_nonneg _ (by omega),Int.emod_lt_of_pos _ hq0,HC.out,hb1⟩
end
section
set_option linter.unusedSimpArgs false
set_option linter.unusedVariables false
set_option maxRecDepth 100000
open Go.RowKit
theorem Cur.but {w w':World} {p n c:Nat} {s:Option Addr} (h:Cur w p s n c) (hb:Below w.heap.size w w'):Cur w' p s n c:=by
 obtain ⟨i,h,c0,c1,c2,hf,hi,hi',hp⟩:=h
 exact ⟨i,h,(hb.cell (p:=⟨p,0,none⟩) hp).trans c0,(hb.cell (p:=⟨p,1,none⟩) hp).trans c1,(hb.cell (p:=⟨p,2,none⟩) hp).trans c2,fun j=>(hb.frozen (p:=⟨p,j,none⟩) hp).trans (hf j),hi,hi',by have:=hb.size;omega⟩
theorem Cur.lt {w:World} {p n c:Nat} {s:Option Addr} (h:Cur w p s n c):p < w.heap.size:=by
 obtain ⟨i,h,c0,c1,c2,hf,hi,hi',hp⟩:=h
 exact hp
theorem Cur.set {w:World} {p n c:Nat} {s:Option Addr} {a:Addr} {v:Value} (h:Cur w p s n c) (ha:a.block≠p):Cur (w.setCell a v) p s n c:=by
 obtain ⟨i,h,c0,c1,c2,hf,hi,hi',hp⟩:=h
 have e:∀ j,(w.setCell a v).cell? ⟨p,j,none⟩=w.cell? ⟨p,j,none⟩:=fun j=>by
  apply World.cell?_setCell_other
  intro e
  subst e
  exact ha rfl
 exact ⟨i,h,(e 0).trans c0,(e 1).trans c1,(e 2).trans c2,fun j=>by rw [World.frozen?_setCell];exact hf j,hi,hi',by simpa using hp⟩
theorem Bytes.below {w w':World} {p n B:Nat} {s:Option Addr} (h:Bytes w p s n) (hb:Below B w w') (hp:p≤B):Bytes w' p s n:=by
 rcases h with h | ⟨g,o,hs,hg,hc⟩
 ·exact .inl h
 ·refine .inr ⟨g,o,hs,hg,fun k hk=>?_⟩
  obtain ⟨b,h1,h2⟩:=hc k hk
  exact ⟨b,(hb.cell (p:=⟨g,o+k,none⟩) (by show g < _;omega)).trans h1,h2⟩
/- the cursor and the bytes together -/
def CB (w:World) (p:Nat) (s:Option Addr) (n c:Nat):Prop:=Cur w p s n c∧Bytes w p s n∧n≤maxLen
theorem CB.lt {w:World} {p n c:Nat} {s:Option Addr} (h:CB w p s n c):p < w.heap.size:=h.1.lt
theorem CB.alloc {w:World} {p n c:Nat} {s:Option Addr} (h:CB w p s n c) (o:Obj):CB (w.alloc o) p s n c:=
 ⟨h.1.but ((Below.refl _ _).alloc (Nat.le_refl _) _),h.2.1.below ((Below.refl w.heap.size w).alloc (Nat.le_refl _) o) (Nat.le_of_lt h.1.lt),h.2.2⟩
theorem CB.keep {w w':World} {p n c:Nat} {s:Option Addr} (h:CB w p s n c) (hb:Below w.heap.size w w'):CB w' p s n c:=
 ⟨h.1.but hb,h.2.1.below hb (Nat.le_of_lt h.1.lt),h.2.2⟩
theorem CB.set {w:World} {p n c:Nat} {s:Option Addr} {a:Addr} {v:Value} (h:CB w p s n c) (ha:p < a.block):CB (w.setCell a v) p s n c:=
 ⟨h.1.set (by omega),h.2.1.below ((Below.refl a.block w).setCell (p:=a) (Nat.le_refl _) v) (by omega),h.2.2⟩
theorem below_cb (p : Nat) (s : Option Addr) (n c : Nat) (q : Int) (w : World) (h : CB w p s n c) (hq0 : 0 < q) (hq : q ≤ 256) :
  Calls Tryz.prog 25 #[.pointer (some ⟨p,0,none⟩),.int .i64 q] w fun e w'=>∃ x:Int,e=.returned (.int .i64 x)∧0≤x∧x < q∧CB w' p s n c∧But p w w':=by
 refine (l1Below_t p s n c q w h.1 h.2.1 h.2.2 hq0 hq).mono ?_
 rintro e w' ⟨x,rfl,x0,x1,hc,hb⟩
 exact ⟨x,rfl,x0,x1,⟨hc,h.2.1.but hb (Nat.le_of_lt h.lt),h.2.2⟩,hb⟩
theorem max_any (a b:Int) (w:World):Calls Tryz.prog 103 #[.int .i64 a,.int .i64 b] w fun e w'=>e=.returned (.int .i64 (if b < a then a else b))∧w'=w:=by
 by_cases h:b < a
 ·rw [if_pos h]
  go_enter Tryz.func103,Tryz.ntmps103
  go_wp2
  go_ret
  exact ⟨rfl,rfl⟩
 ·rw [if_neg h]
  go_enter Tryz.func103,Tryz.ntmps103
  go_wp2
  go_ret
  exact ⟨rfl,rfl⟩
set_option maxHeartbeats 400000 in
theorem once_cb (p : Nat) (s : Option Addr) (n c : Nat) (q : Int) (w : World) (h : CB w p s n c) (hq0 : 0 < q) (hq : q ≤ 256) :
  Calls Tryz.prog 26 #[.pointer (some ⟨p,0,none⟩),.int .i64 q] w fun e w'=>∃ x:Bool,e=.returned (.bool x)∧CB w' p s n c∧But p w w':=by
 have H:Hid (CB w p s n c):=h
 clear h
 go_enter Tryz.func26,Tryz.ntmps26
 go_wp2_with fail
 refine (below_cb p s n c q w H.out hq0 hq).mono ?_
 rintro e w1 ⟨x,rfl,x0,x1,hc,hb⟩
 have HC:Hid (CB w1 p s n c):=hc
 clear hc
 go_wp2
 go_ret
 exact ⟨_,rfl,HC.out,hb⟩
/- a slice literal of integers, picked from -/
set_option maxHeartbeats 400000 in
theorem pick_cb (p : Nat) (s : Option Addr) (n c : Nat) (g m : Nat) (l : List Int) (w : World) (h : CB w p s n c) (hm : m = l.length) (hl0 : 0 < l.length) (hl : l.length ≤ 256) (hg : g < w.heap.size) (hgp : g ≠ p) (hcell : ∀ i, i < l.length → w.cell? ⟨g, 0 + i, none⟩ = some (.int .i64 (l.getD i 0))) :
  Calls Tryz.prog 41 #[.pointer (some ⟨p,0,none⟩),.slice (some ⟨g,0,none⟩) m m] w fun e w'=>∃ x:Int,e=.returned (.int .i64 x)∧x∈l∧CB w' p s n c∧But p w w':=by
 subst hm
 have H:Hid (CB w p s n c):=h
 have HC:Hid (∀ i,i < l.length→w.cell? ⟨g,0+i,none⟩=some (.int .i64 (l.getD i 0))):=hcell
 clear h hcell
 go_enter Tryz.func41,Tryz.ntmps41
 go_wp2_with fail
 refine (below_cb p s n c (l.length:Int) w H.out (by omega) (by omega)).mono ?_
 rintro e w1 ⟨x,rfl,x0,x1,hc,hb⟩
 obtain ⟨k,rfl⟩:=Int.eq_ofNat_of_zero_le x0
 have hk:k < l.length:=by omega
 have f0:=(hb.cell (p:=⟨g,0+k,none⟩) hg hgp).trans (HC.out k hk)
 rw [Nat.zero_add] at f0
 have HM:Hid (l.getD k 0∈l):=by
  show _∈_
  rw [List.getD_eq_getElem?_getD,List.getElem?_eq_getElem hk]
  exact List.getElem_mem hk
 generalize l.getD k 0=y at f0 HM
 have HC1:Hid (CB w1 p s n c):=hc
 clear hc
 go_wp2
 go_ret
 exact ⟨y,rfl,HM.out,HC1.out,hb⟩
end
end Go.Proofs.YtknffngbdakblaaGreat
