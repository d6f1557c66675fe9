/- MachineNew of the specification. Conditions: the codes are counted. The cursor over a draw's bytes: each function that draws a number turns the cursor's own block alone, and its number lies within its bounds. Conditions: the cursor and its bytes lie in memory as the reading says. -/
import Derived.Test.YtkhjhibigldcgaaGreatBG00
import Derived.Test.YtkhjhibigldcgaaGreatBG12
import Derived.Test.YtkhjhibigldcgaaGreatBG07
import Derived.Test.YtkhjhibigldcgaaGreatBG10
import Derived.Test.YtkhjhibigldcgaaGreatBG04
import Derived.Test.YtkhjhibigldcgaaGreatBG01
import Derived.Test.YtkhjhibigldcgaaGreatBG09
import Derived.Test.YtkhjhibigldcgaaGreatBG11
import Derived.Test.YtkhjhibigldcgaaGreatBKOkS
import Derived.Test.YtkhjhibigldcgaaGreatChecked
import Derived.WalkKit
import Derived.KernelRfl
import Derived.WalkSpells
import Derived.WalkLawsBesides
import Derived.Deep.QuietTactic
import Derived.BigQuiet
namespace Go.Proofs.YtkhjhibigldcgaaGreat
section
set_option linter.unusedSimpArgs false
set_option linter.unusedVariables false
set_option maxRecDepth 100000
open Go.RowKit
set_option maxHeartbeats 400000 in
theorem specMachineOk_long (s1 s2 s3 s4 : Option Addr) (c1 c2 c3 c4 n1 n2 n3 n4 : Nat) (w : World) (hn : Plain.inB (n1 : Int) 1 4 = false) :
  Calls Tryz.prog 33 #[.agg #[.slice s1 n1 c1,.slice s2 n2 c2,.slice s3 n3 c3,.slice s4 n4 c4]] w fun e w'=>e=.returned (.bool false)∧Below w.heap.size w w':=by
 go_enter Tryz.func33,Tryz.ntmps33
 go_wp2_with (go_at_call 13;refine (l1In_is _ _ _ _ _ hn).mono ?_;rintro e w' ⟨rfl,rfl⟩)
 go_ret
 exact ⟨rfl,(Below.refl _ _).alloc (Nat.le_refl _) _⟩
theorem specMachNew_ok (s1 s2 s3 : Option Addr) (c1 c2 c3 lo hi : Nat) (l : List (List I5)) (w : World) (h : MaR w lo hi s1 s2 s3 none (newMd l)) (hB : hi ≤ w.heap.size) (hl : l.length + szC l ≤ 1048576) :
  Calls Tryz.prog 33 #[.agg #[.slice s1 l.length c1,.slice s2 l.length c2,.slice s3 24 c3,.slice none 0 0]] w fun e w'=>e=.returned (.bool (codesB l))∧Below w.heap.size w w':=by
 cases hn:Plain.inB (l.length:Int) 1 4 with
 | true=>
  have C:=specMachineOk_any s1 s2 s3 none c1 c2 c3 0 lo hi (newMd l) w h hB (fits_new hl (by simp [Plain.inB] at hn;omega))
  rw [mach_new] at C
  simp only [newMd,List.length_replicate,newM_len,List.length_nil] at C
  exact C
 | false=>
  have e:codesB l=false:=by
   unfold codesB
   rw [decide_eq_false (by simp [Plain.inB] at hn;omega)]
   rfl
  rw [e]
  exact specMachineOk_long s1 s2 s3 none c1 c2 c3 0 l.length l.length 24 0 w hn
end
section
set_option linter.unusedSimpArgs false
set_option linter.unusedVariables false
set_option maxRecDepth 100000
open Go.RowKit
structure But (g:Nat) (w w':World):Prop where
 os:w'.os=w.os
 tape:w'.tape=w.tape
 output:w'.output=w.output
 size:w.heap.size≤w'.heap.size
 block:∀ k,k < w.heap.size→k≠g→w'.heap[k]? =w.heap[k]?
theorem But.refl (g:Nat) (w:World):But g w w:=⟨rfl,rfl,rfl,Nat.le_refl _,fun _ _ _=>rfl⟩
theorem But.trans {g:Nat} {a b c:World} (h:But g a b) (k:But g b c):But g a c:=
 ⟨k.os.trans h.os,k.tape.trans h.tape,k.output.trans h.output,Nat.le_trans h.size k.size,fun i hi hg=>(k.block i (Nat.lt_of_lt_of_le hi h.size) hg).trans (h.block i hi hg)⟩
theorem But.drewN {g:Nat} {w w':World} (h:But g w w') (n:Nat):But g w (w'.drewN n):=⟨h.os,h.tape,h.output,h.size,h.block⟩
theorem But.setCell {g:Nat} {w w':World} (h:But g w w') (o:Nat) (v:Value):But g w (w'.setCell ⟨g,o,none⟩ v):=
 ⟨h.os,h.tape,h.output,by simpa using h.size,fun k hk hg=>(Below.heap_setCell w' ⟨g,o,none⟩ v k hg).trans (h.block k hk hg)⟩
theorem But.alloc {g:Nat} {w w':World} (h:But g w w') (o:Obj):But g w (w'.alloc o):=
 h.trans ⟨rfl,rfl,rfl,by simp,fun k hk _=>Below.heap_alloc _ _ _ hk⟩
theorem But.cell {g:Nat} {w w':World} (h:But g w w') {p:Addr} (hp:p.block < w.heap.size) (hg:p.block≠g):w'.cell? p=w.cell? p:=World.cell?_of_block (w:=w) (h.block p.block hp hg)
theorem But.frozen {g:Nat} {w w':World} (h:But g w w') {p:Addr} (hp:p.block < w.heap.size) (hg:p.block≠g):w'.frozen? p=w.frozen? p:=World.frozen?_of_block (w:=w) (h.block p.block hp hg)
theorem But.below {g B:Nat} {w w':World} (h:But g w w') (hB:B≤g) (hs:B≤w.heap.size):Below B w w':=
 ⟨h.os,h.tape,h.output,h.size,fun k hk=>h.block k (by omega) (by omega)⟩
theorem But.of_below {g:Nat} {w w':World} (h:Below w.heap.size w w'):But g w w':=⟨h.os,h.tape,h.output,h.size,fun k hk _=>h.block k hk⟩
/- the bytes of a draw lie below block p -/
def Bytes (w:World) (p:Nat) (s:Option Addr) (n:Nat):Prop:=
 n=0∨∃ g o,s=some ⟨g,o,none⟩∧g < p∧∀ k,k < n→∃ b:Int,w.cell? ⟨g,o+k,none⟩=some (.int .u8 b)∧0≤b∧b≤255
def Cur (w:World) (p:Nat) (s:Option Addr) (n c:Nat):Prop:=
 ∃ i h:Int,w.cell? ⟨p,0,none⟩=some (.slice s n c)∧w.cell? ⟨p,1,none⟩=some (.int .i64 i)∧w.cell? ⟨p,2,none⟩=some (.int .i64 h)∧(∀ j,w.frozen? ⟨p,j,none⟩=false)∧0≤i∧i≤n∧p < w.heap.size
theorem and255 (y:Int):0≤bits .and .i64 y 255∧bits .and .i64 y 255≤255:=by
 unfold bits
 have e:(255:Nat) % 2 ^ IntKind.i64.bits=255:=by decide
 simp
 rw [e]
 have h:(y % 2 ^ IntKind.i64.bits).toNat&&& 255≤255:=Nat.and_le_right
 generalize (y % 2 ^ IntKind.i64.bits).toNat&&& 255=z at h
 rw [IntKind.wrap_i64]
 omega
theorem Bytes.but {w w':World} {p n:Nat} {s:Option Addr} (h:Bytes w p s n) (hb:But p w w') (hp:p≤w.heap.size):Bytes w' p s n:=by
 rcases h with h | ⟨g,o,hs,hg,hc⟩
 ·exact .inl h
 ·refine .inr ⟨g,o,hs,hg,fun k hk=>?_⟩
  obtain ⟨b,h1,h2⟩:=hc k hk
  exact ⟨b,(hb.cell (p:=⟨g,o+k,none⟩) (by show g < _;omega) (by show g≠p;omega)).trans h1,h2⟩
theorem cur_set {w : World} {p n c : Nat} {s : Option Addr} {i h i' h' : Int} {m m' : Nat} (c0 : w.cell? ⟨p, 0, none⟩ = some (.slice s n c)) (c1 : w.cell? ⟨p, 1, none⟩ = some (.int .i64 i)) (c2 : w.cell? ⟨p, 2, none⟩ = some (.int .i64 h)) (hf : ∀ j, w.frozen? ⟨p, j, none⟩ = false) (hi : 0 ≤ i') (hi' : i' ≤ n) (hp : p < w.heap.size) :
  Cur ((((w.setCell ⟨p,2,none⟩ (.int .i64 h')).drewN m).setCell ⟨p,1,none⟩ (.int .i64 i')).drewN m') p s n c:=by
 refine ⟨i',h',?_,?_,?_,?_,hi,hi',by simpa using hp⟩
 ·simp [go_sem,c0]
 ·simp [go_sem,c1]
 ·simp [go_sem,c2]
 ·intro j;simp [hf]
theorem cur_set2 {w : World} {p n c : Nat} {s : Option Addr} {i h h' : Int} {m : Nat} (c0 : w.cell? ⟨p, 0, none⟩ = some (.slice s n c)) (c1 : w.cell? ⟨p, 1, none⟩ = some (.int .i64 i)) (c2 : w.cell? ⟨p, 2, none⟩ = some (.int .i64 h)) (hf : ∀ j, w.frozen? ⟨p, j, none⟩ = false) (hi : 0 ≤ i) (hi' : i ≤ n) (hp : p < w.heap.size) :
  Cur ((w.setCell ⟨p,2,none⟩ (.int .i64 h')).drewN m) p s n c:=by
 refine ⟨i,h',?_,?_,?_,?_,hi,hi',by simpa using hp⟩
 ·simp [go_sem,c0]
 ·simp [go_sem,c1]
 ·simp [go_sem,c2]
 ·intro j;simp [hf]
set_option maxRecDepth 100000 in
set_option maxHeartbeats 1000000 in
theorem l1Byte_t (p : Nat) (s : Option Addr) (n c : Nat) (w : World) (hc : Cur w p s n c) (hb : Bytes w p s n) (hn : n ≤ maxLen) :
  Calls Tryz.prog 21 #[.pointer (some ⟨p,0,none⟩)] w fun e w'=>∃ x:Int,e=.returned (.int .i64 x)∧0≤x∧x≤255∧Cur w' p s n c∧But p w w':=by
 obtain ⟨i,h,c0,c1,c2,hf,hi,hi',hp⟩:=hc
 unfold maxLen at hn
 by_cases hin:i < (n:Int)
 ·obtain ⟨k,rfl⟩:=Int.eq_ofNat_of_zero_le hi
  rcases hb with rfl | ⟨g,o,rfl,hg,hbs⟩
  ·exact absurd hin (by omega)
  obtain ⟨b,hb,b0,b1⟩:=hbs k (by omega)
  clear hbs
  have hgp:g≠p:=by omega
  go_enter Tryz.func21,Tryz.ntmps21
  go_wp2
  go_quiet (fail)
  go_wp2
  go_quiet (fail)
  go_wp2
  go_quiet (fail)
  go_wp2
  go_ret
  refine ⟨_,rfl,(and255 _).1,(and255 _).2,?_,?_⟩
  ·exact cur_set (m':=0) c0 c1 c2 hf (by omega) (by omega) hp
  ·exact ((((But.refl p w).setCell 2 _).drewN _).setCell 1 _)
 ·go_enter Tryz.func21,Tryz.ntmps21
  go_wp2
  go_quiet (fail)
  go_wp2
  go_quiet (fail)
  go_wp2
  go_ret
  refine ⟨_,rfl,(and255 _).1,(and255 _).2,?_,?_⟩
  ·rw [World.drewN_drewN]
   exact cur_set2 c0 c1 c2 hf hi hi' hp
  ·exact ((((But.refl p w).setCell 2 _).drewN _).drewN _)
set_option maxHeartbeats 400000 in
theorem l1Below_t (p : Nat) (s : Option Addr) (n c : Nat) (q : Int) (w : World) (hc : Cur w p s n c) (hb : Bytes w p s n) (hn : n ≤ maxLen) (hq0 : 0 < q) (hq : q ≤ 256) :
  Calls Tryz.prog 11 #[.pointer (some ⟨p,0,none⟩),.int .i64 q] w fun e w'=>∃ x:Int,e=.returned (.int .i64 x)∧0≤x∧x < q∧Cur w' p s n c∧But p w w':=by
 have h1:¬ q≤0:=by omega
 have h2:(q==0)=false:=by simp;omega
 go_enter Tryz.func11,Tryz.ntmps11
 go_wp2_with fail
 refine (l1Byte_t p s n c w hc hb hn).mono ?_
 rintro e w1 ⟨x,rfl,x0,x1,hc1,hb1⟩
 have HC:Hid (Cur w1 p s n c):=hc1
 clear hc1 hc hb
 go_wp2
 go_ret
 exact ⟨x % q,rfl,Int.emod_nonneg _ (by omega),Int.emod_lt_of_pos _ hq0,HC.out,hb1⟩
end
end Go.Proofs.YtkhjhibigldcgaaGreat
