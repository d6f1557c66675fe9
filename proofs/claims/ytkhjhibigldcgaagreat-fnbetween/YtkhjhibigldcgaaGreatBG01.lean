/- Small facts on boxed structs, method tables and comparisons of the program; no condition. laws.toIns hands its Ins on, field by field, in new memory. No condition. Lists of places as they lie in memory, and how the laws copy them. Conditions: lists of at most 1048576 places. Lists of integers, of places and of bodies as they lie in memory between two blocks, and how the laws copy them into new memory. Conditions: each list of at most 1048576. How the laws copy a program into new memory, and count how great it is. Conditions: each list of at most 1048576 where it is copied. -/
import Derived.Test.YtkhjhibigldcgaaGreatBG00
import Derived.Test.YtkhjhibigldcgaaGreatChecked
import Derived.WalkKit
import Derived.KernelRfl
import Derived.WalkSpells
import Derived.WalkLawsBesides
import Derived.Test.YtkhjhibigldcgaaGreatBLeaves
import Derived.Laws.MakeOwn
import Derived.Deep.QuietTactic
import Derived.BigQuiet
namespace Go.Proofs.YtkhjhibigldcgaaGreat
section
set_option linter.unusedSimpArgs false
set_option linter.unusedVariables false
set_option maxRecDepth 100000
open Go.RowKit
theorem neqN (u:TypeId) (v:Value) (w:World):(binOp .neq 123 (.iface u v) .nilIface).run Tryz.prog w=.ok (.bool true) w:=by kernel_rfl
theorem neqNil (w:World):(binOp .neq 123 .nilIface .nilIface).run Tryz.prog w=.ok (.bool false) w:=by kernel_rfl
theorem mth_1 (v:Value) (w:World):(method 281 140 v "loop.example/g00238/impl.ins").run Tryz.prog w=.ok (133,v) w:=by kernel_rfl
theorem mth_2 (v:Value) (w:World):(method 281 142 v "loop.example/g00238/impl.ins").run Tryz.prog w=.ok (134,v) w:=by kernel_rfl
theorem mth_3 (v:Value) (w:World):(method 281 143 v "loop.example/g00238/impl.ins").run Tryz.prog w=.ok (135,v) w:=by kernel_rfl
theorem mth_4 (v:Value) (w:World):(method 281 144 v "loop.example/g00238/impl.ins").run Tryz.prog w=.ok (136,v) w:=by kernel_rfl
theorem mth_5 (v:Value) (w:World):(method 281 146 v "loop.example/g00238/impl.ins").run Tryz.prog w=.ok (137,v) w:=by kernel_rfl
theorem mth_6 (v:Value) (w:World):(method 281 148 v "loop.example/g00238/impl.ins").run Tryz.prog w=.ok (138,v) w:=by kernel_rfl
theorem mth_7 (v:Value) (w:World):(method 281 150 v "loop.example/g00238/impl.ins").run Tryz.prog w=.ok (139,v) w:=by kernel_rfl
theorem mth_8 (v:Value) (w:World):(method 281 151 v "loop.example/g00238/impl.ins").run Tryz.prog w=.ok (140,v) w:=by kernel_rfl
theorem mth_9 (v:Value) (w:World):(method 281 153 v "loop.example/g00238/impl.ins").run Tryz.prog w=.ok (141,v) w:=by kernel_rfl
theorem mth_10 (v:Value) (w:World):(method 281 155 v "loop.example/g00238/impl.ins").run Tryz.prog w=.ok (142,v) w:=by kernel_rfl
theorem mth_11 (v:Value) (w:World):(method 281 156 v "loop.example/g00238/impl.ins").run Tryz.prog w=.ok (143,v) w:=by kernel_rfl
theorem mth_12 (v:Value) (w:World):(method 281 157 v "loop.example/g00238/impl.ins").run Tryz.prog w=.ok (144,v) w:=by kernel_rfl
theorem mth_13 (v:Value) (w:World):(method 281 159 v "loop.example/g00238/impl.ins").run Tryz.prog w=.ok (145,v) w:=by kernel_rfl
theorem boxed5 {w w1 : World} {v0 v1 v2 v3 v4 : Value} {T : TypeId} (hb : Below (w.alloc (.cells #[v0, v1, v2, v3, v4] T)).heap.size (w.alloc (.cells #[v0, v1, v2, v3, v4] T)) w1) :
  w1.cell? ⟨w.heap.size,0,none⟩=some v0∧w1.cell? ⟨w.heap.size,1,none⟩=some v1∧w1.cell? ⟨w.heap.size,2,none⟩=some v2∧w1.cell? ⟨w.heap.size,3,none⟩=some v3∧w1.cell? ⟨w.heap.size,4,none⟩=some v4∧w.heap.size < w1.heap.size:=by
 refine ⟨?_,?_,?_,?_,?_,?_⟩
 iterate 5 (· rw [hb.cell (by simp)];simp [go_sem])
 ·have:=hb.size;simp at this;omega
theorem carry5 {w1 w2 : World} {B : Nat} {v0 v1 v2 v3 v4 : Value} (hb : Below w1.drew.heap.size w1.drew w2) (hz : B < w1.heap.size) (c0 : w1.cell? ⟨B, 0, none⟩ = some v0) (c1 : w1.cell? ⟨B, 1, none⟩ = some v1) (c2 : w1.cell? ⟨B, 2, none⟩ = some v2) (c3 : w1.cell? ⟨B, 3, none⟩ = some v3) (c4 : w1.cell? ⟨B, 4, none⟩ = some v4) :
  w2.cell? ⟨B,0,none⟩=some v0∧w2.cell? ⟨B,1,none⟩=some v1∧w2.cell? ⟨B,2,none⟩=some v2∧w2.cell? ⟨B,3,none⟩=some v3∧w2.cell? ⟨B,4,none⟩=some v4∧w1.heap.size≤w2.heap.size:=
 ⟨(hb.cell hz).trans c0,(hb.cell hz).trans c1,(hb.cell hz).trans c2,(hb.cell hz).trans c3,(hb.cell hz).trans c4,hb.size⟩
theorem areChans_is (c:Int) (v:Bool) (w:World) (h:Plain.chansB c=v):Calls Tryz.prog 49 #[.int .i64 c] w fun e w'=>e=.returned (.bool v)∧w'=w:=by
 subst h
 exact areChans_any c w
theorem eqNo (o r a b n o' r' a' b' n':Int) (w:World) (h:¬ (o=o'∧r=r'∧a=a'∧b=b'∧n=n')):(binOp .eql 71 (.agg #[.int .i64 o,.int .i64 r,.int .i64 a,.int .i64 b,.int .i64 n]) (.agg #[.int .i64 o',.int .i64 r',.int .i64 a',.int .i64 b',.int .i64 n'])).run Tryz.prog w=.ok (.bool false) w:=by
 have e:(binOp .eql 71 (.agg #[.int .i64 o,.int .i64 r,.int .i64 a,.int .i64 b,.int .i64 n]) (.agg #[.int .i64 o',.int .i64 r',.int .i64 a',.int .i64 b',.int .i64 n'])).run Tryz.prog w=.ok (.bool (decide (o=o'∧r=r'∧a=a'∧b=b'∧n=n'))) w:=by
  simp [go_sem]
  by_cases h1:o=o'<;>by_cases h2:r=r'<;>by_cases h3:a=a'<;>by_cases h4:b=b'<;>by_cases h5:n=n'<;>simp [h1,h2,h3,h4,h5]
 rw [e,decide_eq_false h]
end
section
set_option linter.unusedSimpArgs false
set_option linter.unusedVariables false
set_option maxRecDepth 100000
open Go.RowKit
end
section
set_option linter.unusedSimpArgs false
set_option linter.unusedVariables false
set_option maxRecDepth 100000
open Go.RowKit
structure I5 where
 o:Int
 r:Int
 a:Int
 b:Int
 n:Int
def z5:I5:=⟨0,0,0,0,0⟩
def At5 (w:World) (g off:Nat) (x:I5):Prop:=
 w.cell? ⟨g,off,none⟩=some (.int .i64 x.o)∧w.cell? ⟨g,off+1,none⟩=some (.int .i64 x.r)∧w.cell? ⟨g,off+2,none⟩=some (.int .i64 x.a)∧w.cell? ⟨g,off+3,none⟩=some (.int .i64 x.b)∧w.cell? ⟨g,off+4,none⟩=some (.int .i64 x.n)
theorem At5.keep {w w':World} {B g off:Nat} {x:I5} (h:At5 w g off x) (hb:Below B w w') (hg:g < B):At5 w' g off x:=
 ⟨(hb.cell hg).trans h.1,(hb.cell hg).trans h.2.1,(hb.cell hg).trans h.2.2.1,(hb.cell hg).trans h.2.2.2.1,(hb.cell hg).trans h.2.2.2.2⟩
/- a list of places below block B -/
def InsB (w:World) (B:Nat) (s:Option Addr) (l:List I5):Prop:=
 l=[]∨∃ g off,s=some ⟨g,off,none⟩∧g < B∧∀ i,i < l.length→At5 w g (off+i * 5) (l.getD i z5)
theorem InsB.mono {w:World} {B B':Nat} {s:Option Addr} {l:List I5} (h:InsB w B s l) (hB:B≤B'):InsB w B' s l:=by
 rcases h with h | ⟨g,o,hs,hg,hc⟩
 ·exact .inl h
 ·exact .inr ⟨g,o,hs,by omega,hc⟩
end
section
set_option linter.unusedSimpArgs false
set_option linter.unusedVariables false
set_option maxRecDepth 100000
open Go.RowKit
def InsR (w:World) (lo hi:Nat) (s:Option Addr) (l:List I5):Prop:=
 l=[]∨∃ g off,s=some ⟨g,off,none⟩∧lo≤g∧g < hi∧∀ i,i < l.length→At5 w g (off+i * 5) (l.getD i z5)
def BodR (w:World) (lo hi g off:Nat) (l:List I5):Prop:=∃ s c,w.cell? ⟨g,off,none⟩=some (.slice s l.length c)∧InsR w lo hi s l
def BodsR (w:World) (lo hi:Nat) (s:Option Addr) (l:List (List I5)):Prop:=
 l=[]∨∃ g off,s=some ⟨g,off,none⟩∧lo≤g∧g < hi∧∀ i,i < l.length→BodR w lo hi g (off+i) (l.getD i [])
theorem At5.of_keep {w w':World} {lo hi g off:Nat} {x:I5} (h:At5 w g off x) (hb:Keep lo hi w w') (h1:lo≤g) (h2:g < hi):At5 w' g off x:=
 ⟨(hb.cell h1 h2).trans h.1,(hb.cell h1 h2).trans h.2.1,(hb.cell h1 h2).trans h.2.2.1,(hb.cell h1 h2).trans h.2.2.2.1,(hb.cell h1 h2).trans h.2.2.2.2⟩
theorem InsR.keep {w w':World} {lo hi:Nat} {s:Option Addr} {l:List I5} (h:InsR w lo hi s l) (hb:Keep lo hi w w'):InsR w' lo hi s l:=by
 rcases h with h | ⟨g,o,hs,h1,h2,hc⟩
 ·exact .inl h
 ·exact .inr ⟨g,o,hs,h1,h2,fun i hi=>(hc i hi).of_keep hb h1 h2⟩
theorem BodR.keep {w w':World} {lo hi g off:Nat} {l:List I5} (h:BodR w lo hi g off l) (hb:Keep lo hi w w') (hc:w'.cell? ⟨g,off,none⟩=w.cell? ⟨g,off,none⟩):BodR w' lo hi g off l:=by
 obtain ⟨s,c,h1,h2⟩:=h
 exact ⟨s,c,hc.trans h1,h2.keep hb⟩
theorem BodsR.keep {w w':World} {lo hi:Nat} {s:Option Addr} {l:List (List I5)} (h:BodsR w lo hi s l) (hb:Keep lo hi w w'):BodsR w' lo hi s l:=by
 rcases h with h | ⟨g,o,hs,h1,h2,hc⟩
 ·exact .inl h
 ·exact .inr ⟨g,o,hs,h1,h2,fun i hi=>(hc i hi).keep hb (hb.cell h1 h2)⟩
theorem InsR.mono {w:World} {lo hi lo' hi':Nat} {s:Option Addr} {l:List I5} (h:InsR w lo hi s l) (h1:lo'≤lo) (h2:hi≤hi'):InsR w lo' hi' s l:=by
 rcases h with h | ⟨g,o,hs,a,b,hc⟩
 ·exact .inl h
 ·exact .inr ⟨g,o,hs,by omega,by omega,hc⟩
theorem BodR.mono {w:World} {lo hi lo' hi' g off:Nat} {l:List I5} (h:BodR w lo hi g off l) (h1:lo'≤lo) (h2:hi≤hi'):BodR w lo' hi' g off l:=by
 obtain ⟨s,c,a,b⟩:=h
 exact ⟨s,c,a,b.mono h1 h2⟩
theorem BodsR.mono {w:World} {lo hi lo' hi':Nat} {s:Option Addr} {l:List (List I5)} (h:BodsR w lo hi s l) (h1:lo'≤lo) (h2:hi≤hi'):BodsR w lo' hi' s l:=by
 rcases h with h | ⟨g,o,hs,a,b,hc⟩
 ·exact .inl h
 ·exact .inr ⟨g,o,hs,by omega,by omega,fun i hi=>(hc i hi).mono h1 h2⟩
theorem InsR.insB {w:World} {lo hi:Nat} {s:Option Addr} {l:List I5} (h:InsR w lo hi s l):InsB w hi s l:=by
 rcases h with h | ⟨g,o,hs,a,b,hc⟩
 ·exact .inl h
 ·exact .inr ⟨g,o,hs,b,hc⟩
end
section
set_option linter.unusedSimpArgs false
set_option linter.unusedVariables false
set_option maxRecDepth 100000
open Go.RowKit
structure PD where
 caps:List Int
 bods:List (List I5)
def ProgR (w:World) (lo hi:Nat) (s s':Option Addr) (p:PD):Prop:=IntsR w lo hi s p.caps∧BodsR w lo hi s' p.bods
def Fits (p:PD):Prop:=p.caps.length≤1048576∧p.bods.length≤1048576∧∀ i,i < p.bods.length→(p.bods.getD i []).length≤1048576
theorem ProgR.keep' {w w':World} {lo hi:Nat} {s s':Option Addr} {p:PD} (h:ProgR w lo hi s s' p) (hb:Keep lo hi w w'):ProgR w' lo hi s s' p:=⟨h.1.keep hb,h.2.keep hb⟩
end
end Go.Proofs.YtkhjhibigldcgaaGreat
