/- The cursor over a draw's bytes: each function that draws a number turns the cursor's own block alone, and its number lies within its bounds. Conditions: the cursor and its bytes lie in memory as the reading says. MemoryNew of the specification: its rows are owned whole. No condition. MemoryNew of the specification: its memory may be written. No condition. Store of the specification: its memory may be written. Conditions: memories that are counted, views of at most 2^20. Swap of the specification: its memory may be written. Conditions: memories that are counted, views of at most 2^20. What holds of every memory that chapter 6 draws: 24 rows with something in each, views of 24, and how much there is. No condition. -/
import Derived.Test.YtkhjhibigldcgaaLG00
import Derived.Test.YtkhjhibigldcgaaChecked
import Derived.WalkKit
import Derived.KernelRfl
import Derived.WalkSpells
import Derived.WalkLawsBesides
import Derived.Deep.QuietTactic
import Derived.BigQuiet
import Derived.Test.YtkhjhibigldcgaaLG04
import Derived.Test.YtkhjhibigldcgaaLG02
import Derived.Test.YtkhjhibigldcgaaLG07
import Derived.Test.YtkhjhibigldcgaaLG05
import Derived.Test.YtkhjhibigldcgaaLMemStoreS
namespace Go.Proofs.Ytkhjhibigldcgaa
section
set_option linter.unusedSimpArgs false
set_option linter.unusedVariables false
set_option maxRecDepth 100000
open Go.RowKit
structure But (g:Nat) (w w':World):Prop where
 os:w'.os=w.os
 tape:w'.tape=w.tape
 output:w'.output=w.output
 size:w.heap.size≤w'.heap.size
 block:∀ k,k < w.heap.size→k≠g→w'.heap[k]? =w.heap[k]?
theorem But.refl (g:Nat) (w:World):But g w w:=⟨rfl,rfl,rfl,Nat.le_refl _,fun _ _ _=>rfl⟩
theorem But.trans {g:Nat} {a b c:World} (h:But g a b) (k:But g b c):But g a c:=
 ⟨k.os.trans h.os,k.tape.trans h.tape,k.output.trans h.output,Nat.le_trans h.size k.size,fun i hi hg=>(k.block i (Nat.lt_of_lt_of_le hi h.size) hg).trans (h.block i hi hg)⟩
theorem But.drewN {g:Nat} {w w':World} (h:But g w w') (n:Nat):But g w (w'.drewN n):=⟨h.os,h.tape,h.output,h.size,h.block⟩
theorem But.setCell {g:Nat} {w w':World} (h:But g w w') (o:Nat) (v:Value):But g w (w'.setCell ⟨g,o,none⟩ v):=
 ⟨h.os,h.tape,h.output,by simpa using h.size,fun k hk hg=>(Below.heap_setCell w' ⟨g,o,none⟩ v k hg).trans (h.block k hk hg)⟩
theorem But.alloc {g:Nat} {w w':World} (h:But g w w') (o:Obj):But g w (w'.alloc o):=
 h.trans ⟨rfl,rfl,rfl,by simp,fun k hk _=>Below.heap_alloc _ _ _ hk⟩
theorem But.cell {g:Nat} {w w':World} (h:But g w w') {p:Addr} (hp:p.block < w.heap.size) (hg:p.block≠g):w'.cell? p=w.cell? p:=World.cell?_of_block (w:=w) (h.block p.block hp hg)
theorem But.frozen {g:Nat} {w w':World} (h:But g w w') {p:Addr} (hp:p.block < w.heap.size) (hg:p.block≠g):w'.frozen? p=w.frozen? p:=World.frozen?_of_block (w:=w) (h.block p.block hp hg)
theorem But.below {g B:Nat} {w w':World} (h:But g w w') (hB:B≤g) (hs:B≤w.heap.size):Below B w w':=
 ⟨h.os,h.tape,h.output,h.size,fun k hk=>h.block k (by omega) (by omega)⟩
theorem But.of_below {g:Nat} {w w':World} (h:Below w.heap.size w w'):But g w w':=⟨h.os,h.tape,h.output,h.size,fun k hk _=>h.block k hk⟩
/- the bytes of a draw lie below block p -/
def Bytes (w:World) (p:Nat) (s:Option Addr) (n:Nat):Prop:=
 n=0∨∃ g o,s=some ⟨g,o,none⟩∧g < p∧∀ k,k < n→∃ b:Int,w.cell? ⟨g,o+k,none⟩=some (.int .u8 b)∧0≤b∧b≤255
def Cur (w:World) (p:Nat) (s:Option Addr) (n c:Nat):Prop:=
 ∃ i h:Int,w.cell? ⟨p,0,none⟩=some (.slice s n c)∧w.cell? ⟨p,1,none⟩=some (.int .i64 i)∧w.cell? ⟨p,2,none⟩=some (.int .i64 h)∧(∀ j,w.frozen? ⟨p,j,none⟩=false)∧0≤i∧i≤n∧p < w.heap.size
theorem and255 (y:Int):0≤bits .and .i64 y 255∧bits .and .i64 y 255≤255:=by
 unfold bits
 have e:(255:Nat) % 2 ^ IntKind.i64.bits=255:=by decide
 simp
 rw [e]
 have h:(y % 2 ^ IntKind.i64.bits).toNat&&& 255≤255:=Nat.and_le_right
 generalize (y % 2 ^ IntKind.i64.bits).toNat&&& 255=z at h
 rw [IntKind.wrap_i64]
 omega
theorem Bytes.but {w w':World} {p n:Nat} {s:Option Addr} (h:Bytes w p s n) (hb:But p w w') (hp:p≤w.heap.size):Bytes w' p s n:=by
 rcases h with h | ⟨g,o,hs,hg,hc⟩
 ·exact .inl h
 ·refine .inr ⟨g,o,hs,hg,fun k hk=>?_⟩
  obtain ⟨b,h1,h2⟩:=hc k hk
  exact ⟨b,(hb.cell (p:=⟨g,o+k,none⟩) (by show g < _;omega) (by show g≠p;omega)).trans h1,h2⟩
theorem cur_set {w : World} {p n c : Nat} {s : Option Addr} {i h i' h' : Int} {m m' : Nat} (c0 : w.cell? ⟨p, 0, none⟩ = some (.slice s n c)) (c1 : w.cell? ⟨p, 1, none⟩ = some (.int .i64 i)) (c2 : w.cell? ⟨p, 2, none⟩ = some (.int .i64 h)) (hf : ∀ j, w.frozen? ⟨p, j, none⟩ = false) (hi : 0 ≤ i') (hi' : i' ≤ n) (hp : p < w.heap.size) :
  Cur ((((w.setCell ⟨p,2,none⟩ (.int .i64 h')).drewN m).setCell ⟨p,1,none⟩ (.int .i64 i')).drewN m') p s n c:=by
 refine ⟨i',h',?_,?_,?_,?_,hi,hi',by simpa using hp⟩
 ·simp [go_sem,c0]
 ·simp [go_sem,c1]
 ·simp [go_sem,c2]
 ·intro j;simp [hf]
theorem cur_set2 {w : World} {p n c : Nat} {s : Option Addr} {i h h' : Int} {m : Nat} (c0 : w.cell? ⟨p, 0, none⟩ = some (.slice s n c)) (c1 : w.cell? ⟨p, 1, none⟩ = some (.int .i64 i)) (c2 : w.cell? ⟨p, 2, none⟩ = some (.int .i64 h)) (hf : ∀ j, w.frozen? ⟨p, j, none⟩ = false) (hi : 0 ≤ i) (hi' : i ≤ n) (hp : p < w.heap.size) :
  Cur ((w.setCell ⟨p,2,none⟩ (.int .i64 h')).drewN m) p s n c:=by
 refine ⟨i,h',?_,?_,?_,?_,hi,hi',by simpa using hp⟩
 ·simp [go_sem,c0]
 ·simp [go_sem,c1]
 ·simp [go_sem,c2]
 ·intro j;simp [hf]
set_option maxRecDepth 100000 in
set_option maxHeartbeats 1000000 in
theorem l1Byte_t (p : Nat) (s : Option Addr) (n c : Nat) (w : World) (hc : Cur w p s n c) (hb : Bytes w p s n) (hn : n ≤ maxLen) :
  Calls Try.prog 34 #[.pointer (some ⟨p,0,none⟩)] w fun e w'=>∃ x:Int,e=.returned (.int .i64 x)∧0≤x∧x≤255∧Cur w' p s n c∧But p w w':=by
 obtain ⟨i,h,c0,c1,c2,hf,hi,hi',hp⟩:=hc
 unfold maxLen at hn
 by_cases hin:i < (n:Int)
 ·obtain ⟨k,rfl⟩:=Int.eq_ofNat_of_zero_le hi
  rcases hb with rfl | ⟨g,o,rfl,hg,hbs⟩
  ·exact absurd hin (by omega)
  obtain ⟨b,hb,b0,b1⟩:=hbs k (by omega)
  clear hbs
  have hgp:g≠p:=by omega
  go_enter Try.func34,Try.ntmps34
  go_wp2
  go_quiet (fail)
  go_wp2
  go_quiet (fail)
  go_wp2
  go_quiet (fail)
  go_wp2
  go_ret
  refine ⟨_,rfl,(and255 _).1,(and255 _).2,?_,?_⟩
  ·exact cur_set (m':=0) c0 c1 c2 hf (by omega) (by omega) hp
  ·exact ((((But.refl p w).setCell 2 _).drewN _).setCell 1 _)
 ·go_enter Try.func34,Try.ntmps34
  go_wp2
  go_quiet (fail)
  go_wp2
  go_quiet (fail)
  go_wp2
  go_ret
  refine ⟨_,rfl,(and255 _).1,(and255 _).2,?_,?_⟩
  ·rw [World.drewN_drewN]
   exact cur_set2 c0 c1 c2 hf hi hi' hp
  ·exact ((((But.refl p w).setCell 2 _).drewN _).drewN _)
set_option maxHeartbeats 400000 in
theorem l1Below_t (p : Nat) (s : Option Addr) (n c : Nat) (q : Int) (w : World) (hc : Cur w p s n c) (hb : Bytes w p s n) (hn : n ≤ maxLen) (hq0 : 0 < q) (hq : q ≤ 256) :
  Calls Try.prog 17 #[.pointer (some ⟨p,0,none⟩),.int .i64 q] w fun e w'=>∃ x:Int,e=.returned (.int .i64 x)∧0≤x∧x < q∧Cur w' p s n c∧But p w w':=by
 have h1:¬ q≤0:=by omega
 have h2:(q==0)=false:=by simp;omega
 go_enter Try.func17,Try.ntmps17
 go_wp2_with fail
 refine (l1Byte_t p s n c w hc hb hn).mono ?_
 rintro e w1 ⟨x,rfl,x0,x1,hc1,hb1⟩
 have HC:Hid (Cur w1 p s n c):=hc1
 clear hc1 hc hb
 go_wp2
 go_ret
 exact ⟨x % q,rfl,Int.emod_nonneg _ (by omega),Int.emod_lt_of_pos _ hq0,HC.out,hb1⟩
end
section
set_option linter.unusedSimpArgs false
set_option linter.unusedVariables false
set_option maxRecDepth 100000
open Go.RowKit
theorem W3_orow (w:World):ORow (W3 w) w.heap.size ⟨some ⟨w.heap.size+1,0,none⟩,1,[⟨some ⟨w.heap.size,0,none⟩,24,24⟩]⟩ zRow:=by
 have hr:=W3_row w
 have h0:=World.ownsRow_lit (base:=w.heap.size) (e:=81) (size:=2) (w.alloc (.cells (madeCells #[.int .i64 0] 24) 3)) #[.int .i64 0,.slice (some ⟨w.heap.size,0,none⟩) 24 24] 1 (by simp) (by unfold maxLen;omega) rfl
 rw [World.size_alloc] at h0
 refine ⟨rfl,ownKeep' (w:=(w.alloc (.cells (madeCells #[.int .i64 0] 24) 3)).alloc (.cells #[.int .i64 0,.slice (some ⟨w.heap.size,0,none⟩) 24 24] 81)) h0 (fun k hk=>Below.heap_alloc _ _ _ ?_),hr.v,fun a ha=>?_,?_⟩
 ·have e:some (w.heap.size+1)=some k:=hk
  injection e with e
  simp
  omega
 ·obtain ⟨x,hx,hax⟩:=mem_vsA.1 ha
  simp at hx
  subst hx
  obtain ⟨i,-,rfl⟩:=mem_vAs.1 hax
  refine ⟨madeCells #[.int .i64 0] 24,(0,0),?_⟩
  show (W3 w).heap[w.heap.size]? =some (.cells (madeCells #[.int .i64 0] 24) 3 (0,0))
  unfold W3
  rw [Below.heap_alloc _ _ _ (by simp;omega),Below.heap_alloc _ _ _ (by simp)]
  exact heap_alloc_new w _
 ·simp only [vsA,List.append_nil]
  exact vAs_nodup rfl
set_option maxHeartbeats 2000000 in
theorem specNewW_any (w:World):Calls Try.prog 40 #[] w fun e w'=>∃ s c S,e=.returned (.agg #[.slice s 24 c])∧OW w' w.heap.size (.slice s 24 c) S (newM 24)∧Below w.heap.size w w':=by
 have hmk:∀ w:World,(Instr.makeSlice 24 (.int .i64 24) (.int .i64 24)).run Try.prog w=.ok (.slice (some ⟨w.heap.size,0,none⟩) 24 24) (w.alloc (.cells (madeCells #[.int .i64 0] 24) 3)):=fun w=>mkInt 24 (by omega) w
 go_enter Try.func40,Try.ntmps40
 go_wp2
 go_loopw [2] (fun i wr=>∃ (k:Nat) (v:Value) (S:List RS),k≤24∧i=.int .i64 k∧S.length=k∧OW wr (w.heap.size+2) v S (newM k)∧wr.cell? ⟨w.heap.size+1,0,none⟩=some v∧(wr.cell? ⟨w.heap.size,0,none⟩).isSome=true∧(∀ j,wr.frozen? ⟨w.heap.size+1,j,none⟩=false)∧(∀ j,wr.frozen? ⟨w.heap.size,j,none⟩=false)∧w.heap.size+1 < wr.heap.size∧Below w.heap.size w wr) (fun i _=>24 - (intOf i).toNat)
 case atStart=>exact ⟨0,.slice none 0 0,[],Nat.zero_le _,rfl,rfl,OW.nil _ _,by simp [go_sem],by simp [go_sem],fun j=>by simp [go_sem],fun j=>by simp [go_sem],by simp,((Below.refl _ _).alloc (Nat.le_refl _) _).alloc (by simp) _⟩
 case round=>
  obtain ⟨k,v,S,hk,rfl,hS,ho,c1,c0,f1,f0,hz,hb⟩:=hrel
  obtain ⟨s,c,hv,-⟩:=ho.om.mo
  rw [newM_len] at hv
  subst hv
  have HO:Hid (OW wr (w.heap.size+2) (.slice s k c) S (newM k)):=ho
  have HB:Hid (Below w.heap.size w wr):=hb
  have HS:Hid (S.length=k):=hS
  have hzz:w.heap.size < wr.heap.size:=by omega
  have hz2:w.heap.size+2≤wr.heap.size:=by omega
  obtain ⟨u0,c0'⟩:=Option.isSome_iff_exists.1 c0
  clear ho hb hS c0
  by_cases hlt:k < 24
  ·have b0:(k:Int) < 24:=by omega
   go_wp2
   have HOX:Hid (OW (W3 wr.drew) (w.heap.size+2) (.slice s k c) S (newM k)):=(HO.out.below (Below.drew (Below.refl _ _))).below (W3_below _)
   go_region_law (refine step_rowW rfl _ _ rfl (W3 wr.drew) (w.heap.size+2) (.slice s k c) S.length (S.map RS.val) rfl HOX.out.row (wr.heap.size+1+1) (.slice (some ⟨wr.heap.size+1,0,none⟩) 1 1) rfl rfl (by simp [W3,go_sem]) (by have:=HS.out;omega) (by rw [W3_size];show w.heap.size+2≤wr.heap.size+3;omega) ?_;intro g1 cap1 w1 ho1 hg1 hn1 hl1;have hb1:Below (w.heap.size+2) wr w1:=((Below.drew (Below.refl _ _)).trans ((W3_below wr.drew).mono (show w.heap.size+2≤wr.heap.size by omega))).trans (Below.grown (Below.refl _ _) hg1 (by rw [W3_size];show w.heap.size+2≤wr.heap.size+3;omega) (fun j hj=>(World.ownsRow.lt HOX.out.row _ hj).1));have t1:=(hb1.cell (p:=⟨w.heap.size+1,0,none⟩) (show w.heap.size+1 < w.heap.size+2 by omega)).trans c1;have t2:=(hb1.frozen (p:=⟨w.heap.size+1,0,none⟩) (show w.heap.size+1 < w.heap.size+2 by omega)).trans (f1 0);have HO1:=(show Hid _ from ho1);have HG1:=(show Hid _ from hg1);have HN1:=(show Hid _ from hn1);have HB1:=(show Hid _ from hb1);clear ho1 hg1 hn1 hb1)
   all_goals
    have HP:=(HO.out.below (Below.drew (Below.refl _ _))).push _ zRow (W3_below _) (W3_orow wr.drew) (show w.heap.size+2≤wr.heap.size by omega) HO1.out HG1.out
    have HP1:Hid (OW w1 (w.heap.size+2) (.slice (some ⟨g1,0,none⟩) (S.length+1) cap1) (S++[⟨some ⟨wr.heap.size+1,0,none⟩,1,[⟨some ⟨wr.heap.size,0,none⟩,24,24⟩]⟩]) (newM (k+1))):=by
     show OW _ _ _ _ _
     rw [newM_succ]
     have e:(S++[(⟨some ⟨wr.heap.size+1,0,none⟩,1,[⟨some ⟨wr.heap.size,0,none⟩,24,24⟩]⟩:RS)]).length=S.length+1:=by simp
     rw [← e]
     exact HP
    have t3:=(HB1.out.cell (p:=⟨w.heap.size,0,none⟩) (show w.heap.size < w.heap.size+2 by omega)).trans c0'
    have hz1:=HB1.out.size
    clear HP
    go_wp2
    go_roundw
    case rel=>
     refine ⟨k+1,.slice (some ⟨g1,0,none⟩) (S.length+1) cap1,_,by omega,by go_num,by simp [HS.out],HP1.out.kept (fun b hb _=>Below.heap_setCell _ _ _ b (by show b≠w.heap.size+1;omega)) (by simp),setC_at (by rw [t1];rfl),?_,fun j=>?_,fun j=>?_,by simp;omega,?_⟩
     ·rw [setC_blk (by omega),t3];rfl
     ·rw [World.frozen?_setCell,HB1.out.frozen (p:=⟨w.heap.size+1,j,none⟩) (show w.heap.size+1 < w.heap.size+2 by omega)];exact f1 j
     ·rw [World.frozen?_setCell,HB1.out.frozen (p:=⟨w.heap.size,j,none⟩) (show w.heap.size < w.heap.size+2 by omega)];exact f0 j
     ·exact (HB.out.trans (HB1.out.mono (by omega))).setCell (p:=⟨w.heap.size+1,0,none⟩) (by show w.heap.size≤w.heap.size+1;omega) _
    case measure=>simp [intOf];omega
  ·have e24:k=24:=by omega
   subst e24
   go_wp2
   refine bodyPost_ret (v:=.agg #[.slice s 24 c]) (by simp [results,Try.results40,go_sem,c0']) rfl ⟨s,c,S,rfl,?_,?_⟩
   ·exact (HO.out.kept (w':=wr.setCell ⟨w.heap.size,0,none⟩ (.slice s 24 c)) (fun b h1 h2=>Below.heap_setCell _ _ _ b (by show b≠w.heap.size;omega)) (by simp)).low (by omega)
   ·exact HB.out.setCell (p:=⟨w.heap.size,0,none⟩) (Nat.le_refl _) _
end
section
set_option linter.unusedSimpArgs false
set_option linter.unusedVariables false
set_option maxRecDepth 100000
open Go.RowKit
theorem specNewU_any (w:World):Calls Try.prog 40 #[] w fun e w'=>∃ s c,e=.returned (.agg #[.slice s 24 c])∧MU w' w.heap.size s c (newM 24)∧Below w.heap.size w w':=by
 refine (specNewW_any w).mono ?_
 rintro e w' ⟨s,c,S,rfl,h,hb⟩
 refine ⟨s,c,rfl,⟨S,?_⟩,hb⟩
 rw [newM_len]
 exact h.om
end
section
set_option linter.unusedSimpArgs false
set_option linter.unusedVariables false
set_option maxRecDepth 100000
open Go.RowKit
set_option maxHeartbeats 4000000 in
theorem specStoreU_any (s s' : Option Addr) (c c' lo hi lo' hi' : Nat) (m : List (List WD)) (l : List Int) (cell z : Int) (b : Bool) (w : World) (h : MemR w lo hi s m) (h' : IntsR w lo' hi' s' l) (hB : hi ≤ w.heap.size) (hB' : hi' ≤ w.heap.size) (hl : l.length ≤ 1048577) (hm : MFits m) :
  Calls Try.prog 52 #[.agg #[.slice s m.length c],.slice s' l.length c',.int .i64 cell,.int .i64 z,.bool b] w fun e w'=>∃ sM cM n v,e=.returned (.tuple #[.agg #[.slice sM n cM],v])∧n=(stoM m l cell z b).length∧MU w' w.heap.size sM cM (stoM m l cell z b)∧OwnN w' w.heap.size v (stoW m l cell)∧Below w.heap.size w w':=by
 have H:Hid (MemR w lo hi s m):=h
 have H':Hid (IntsR w lo' hi' s' l):=h'
 have HM:Hid (MFits m):=hm
 have HM2:Hid (m.length+szR m≤1048676):=by show m.length+szR m≤1048676;unfold MFits at hm;omega
 clear h h' hm
 go_enter Try.func52,Try.ntmps52
 go_wp2_with fail
 obtain ⟨W,hW⟩:∃ W,(w.alloc (.cells #[.slice s m.length c] 30)).alloc (.cells #[.slice none 0 0] 30)=W:=⟨_,rfl⟩
 have c0:W.cell? ⟨w.heap.size,0,none⟩=some (.slice s m.length c):=by subst hW;simp [go_sem]
 have c1:W.cell? ⟨w.heap.size+1,0,none⟩=some (.slice none 0 0):=by subst hW;simp [go_sem]
 have f1:∀ j,W.frozen? ⟨w.heap.size+1,j,none⟩=false:=fun j=>by subst hW;simp [go_sem]
 have kW:Below w.heap.size w W:=by subst hW;exact ((Below.refl _ _).alloc (Nat.le_refl _) _).alloc (by simp) _
 have sW:W.heap.size=w.heap.size+2:=by subst hW;simp
 rw [hW]
 clear hW
 have HKW:Hid (Below w.heap.size w W):=kW
 have SW:Hid (W.heap.size=w.heap.size+2):=sW
 have z0:w.heap.size+1 < W.heap.size:=by omega
 have z9:hi≤W.heap.size:=by omega
 have z8:hi'≤W.heap.size:=by omega
 have HW:Hid (MemR W lo hi s m):=H.out.keep (Keep.of_below kW hB)
 have HW':Hid (IntsR W lo' hi' s' l):=H'.out.keep (Keep.of_below kW hB')
 clear kW sW
 refine (l6Right_any s s' c c' lo hi lo' hi' m l cell W HW.out HW'.out z9 z8 (by omega) HM2.out).mono ?_
 rintro e w1 ⟨rfl,hb1⟩
 have HB1:Hid (Below W.heap.size W w1):=hb1
 have y1:=hb1.size
 have d1:=(hb1.cell (p:=⟨w.heap.size,0,none⟩) (by show w.heap.size < _;omega)).trans c0
 have g1:=(hb1.cell (p:=⟨w.heap.size+1,0,none⟩) z0).trans c1
 have h1:∀ j,w1.frozen? ⟨w.heap.size+1,j,none⟩=false:=fun j=>(hb1.frozen (p:=⟨w.heap.size+1,j,none⟩) z0).trans (f1 j)
 have y8:w.heap.size < w1.heap.size:=by omega
 have y9:w.heap.size+1 < w1.heap.size:=by omega
 clear hb1
 by_cases hr:rightB m l cell=true
 ·obtain ⟨k,r,rfl,hrt⟩:=right_of hr
  rw [hr]
  obtain ⟨gm,om,s1,cx,es,a1,a2,a3,-⟩:=(HW.out.keep (Keep.of_below HB1.out z9)).row hrt.hr
  subst es
  have hk:=hrt.hk
  have hml:=hrt.hm
  have b0:(0:Int)≤(k:Int):=by omega
  have b1:(k:Int) < (m.length:Int):=by omega
  have gl:gm < w1.heap.size:=by omega
  have HML:Hid (m.length=24):=hml
  clear hml
  by_cases hn:r.length < 4000
  ·have hne4:((r.length:Int)==4000)=false:=by simp;omega
   obtain ⟨em,ew⟩:=sto_yes (v:=z) (b:=b) hrt hr hn
   have EM:Hid (stoM m l k z b=m.set k (r++[⟨z,toldL l k r.length b⟩])):=em
   have EW:Hid (stoW m l k=l.set k (r.length:Int)):=ew
   have HRT:Hid (Rtx102 m l k r):=hrt
   have HRP:Hid (∀ (i:Nat) (q:List WD),m[i]? =some q→1≤q.length):=rows_pos hr
   have hr4:r.length≤4000:=by omega
   clear em ew hrt hr hn
   go_wp2_with fail
   refine (l6Copy_any (some ⟨gm,om,none⟩) c lo hi m w1 (HW.out.keep (Keep.of_below HB1.out z9)) (by omega) HM.out).mono ?_
   rintro e w2 ⟨vM,S,rfl,hO2,hb2⟩
   have hml:=HML.out
   obtain ⟨gO,cO,eO,-⟩:=World.ownsRow.form hO2.row (by rw [hO2.n];omega)
   rw [hO2.n] at eO
   subst eO
   have hne:∀ (i:Nat) (q:RS),S[i]? =some q→0 < q.vs.length:=fun i q hq=>by
    obtain ⟨lq,hlq⟩:=at_same hO2.n.symm hq
    have h1:=(hO2.r i q lq hq hlq).n
    have h2:=HRP.out i lq hlq
    omega
   obtain ⟨rk,hrk⟩:=at_same hO2.n HRT.out.hr
   have y2:=hb2.size
   have st:=l6Store_any gO cO w1.heap.size S m rk r s' c' lo' hi' l k z b w2 ((HW'.out.keep (Keep.of_below HB1.out z8)).keep (Keep.of_below hb2 (by omega))) (by omega) hO2 hne hrk HRT.out.hr HRT.out.hl hk hml hr4 y2
   have HB2:Hid (Below w1.heap.size w1 w2):=hb2
   have g2:=(hb2.cell (p:=⟨w.heap.size+1,0,none⟩) y9).trans g1
   have h2:∀ j,w2.frozen? ⟨w.heap.size+1,j,none⟩=false:=fun j=>(hb2.frozen (p:=⟨w.heap.size+1,j,none⟩) y9).trans (h1 j)
   have z2:w.heap.size+1 < w2.heap.size:=by omega
   clear hO2 hb2 hne hrk hml
   go_wp2_with fail
   refine st.mono ?_
   rintro e w3 ⟨v3,r3,rfl,n3,o3,b3,-,-,-⟩
   obtain ⟨s3,c3,rfl⟩:=ownSl n3
   have g3:=(b3.cell (p:=⟨w.heap.size+1,0,none⟩) y9).trans g2
   have h3:∀ j,w3.frozen? ⟨w.heap.size+1,j,none⟩=false:=fun j=>(b3.frozen (p:=⟨w.heap.size+1,j,none⟩) y9).trans (h2 j)
   obtain ⟨sx,cx3,ex,mx3⟩:=o3.om.mo
   injection ex with ex1 ex2 ex3
   subst ex1
   have M3:Hid (MU w3 w1.heap.size (some ⟨gO,0,none⟩) cO (m.set k (r++[⟨z,toldL l k r.length b⟩]))):=⟨_,by rw [List.length_set];exact o3.om⟩
   have hls:(l.set k (r.length:Int)).length=l.length:=List.length_set
   have N3:Hid (OwnN w3 w2.heap.size (.slice s3 l.length c3) (l.set k (r.length:Int))):=by show OwnN _ _ _ _;rw [← hls];exact n3
   have B3:Hid (Below w1.heap.size w2 w3):=b3
   have y3:=b3.size
   have z3:w.heap.size+1 < w3.heap.size:=by omega
   clear n3 o3 b3 st mx3 ex2 ex3
   go_wp2
   have n9:¬ w.heap.size+1=w3.heap.size:=by omega
   have kX:∀ b,b < w3.heap.size→b≠w.heap.size+1→((w3.setCell ⟨w.heap.size+1,0,none⟩ (.slice (some ⟨gO,0,none⟩) m.length cO)).alloc (.cells #[.slice (some ⟨gO,0,none⟩) m.length cO] 30)).heap[b]? =w3.heap[b]? :=fun b q1 q2=>by rw [Below.heap_alloc _ _ _ (by simpa using q1),Below.heap_setCell _ _ _ b q2]
   have hX0:((w3.setCell ⟨w.heap.size+1,0,none⟩ (.slice (some ⟨gO,0,none⟩) m.length cO)).alloc (.cells #[.slice (some ⟨gO,0,none⟩) m.length cO] 30)).cell? ⟨w.heap.size+1,0,none⟩=some (.slice (some ⟨gO,0,none⟩) m.length cO):=(World.cell?_of_block (w:=w3.setCell ⟨w.heap.size+1,0,none⟩ (.slice (some ⟨gO,0,none⟩) m.length cO)) (a:=⟨w.heap.size+1,0,none⟩) (Below.heap_alloc _ _ _ (by simpa using z3))).trans (setC_at (by rw [g3];rfl))
   refine bodyPost_ret (v:=.tuple #[.agg #[.slice (some ⟨gO,0,none⟩) m.length cO],.slice s3 l.length c3]) (by simp [results,Try.results52,go_sem,hX0]) rfl ⟨_,_,_,_,rfl,by rw [EM.out,List.length_set],?_,?_,?_⟩
   ·rw [EM.out]
    exact (M3.out.kept (fun b q1 q2=>kX b q2 (by omega)) (by simp)).low (by omega)
   ·rw [EW.out]
    exact ownLow' (ownKeep' N3.out (fun b e=>kX b (World.ownsRow.lt N3.out _ e).2 (by have:=(World.ownsRow.lt N3.out _ e).1;omega))) (by omega)
   ·exact (((HKW.out.trans ((HB1.out.mono (by omega)).trans ((HB2.out.mono (by omega)).trans (B3.out.mono (by omega)))))).setCell (p:=⟨w.heap.size+1,0,none⟩) (by show w.heap.size≤w.heap.size+1;omega) _).alloc (by simp;omega) _
  ·have hr4:r.length=4000:=by have:=hrt.n2;omega
   have hne4:((r.length:Int)==4000)=true:=by simp;omega
   obtain ⟨em,ew⟩:=sto_no (v:=z) (b:=b) (show canB m l k=false by unfold canB;rw [hrt.row,decide_eq_false hn];simp)
   clear hr4
   go_wp2_with fail
   refine (l6Copy_any (some ⟨gm,om,none⟩) c lo hi m w1 (HW.out.keep (Keep.of_below HB1.out z9)) (by omega) HM.out).mono ?_
   rintro e w2 ⟨vM,S,rfl,hO2,hb2⟩
   obtain ⟨sv,cv,ev,hmo⟩:=hO2.om.mo
   subst ev
   have HR2:Hid (MU w2 w1.heap.size sv cv m):=⟨_,hO2.om⟩
   have HB2:Hid (Below w1.heap.size w1 w2):=hb2
   have y2:=hb2.size
   have g2:=(hb2.cell (p:=⟨w.heap.size+1,0,none⟩) y9).trans g1
   have h2:∀ j,w2.frozen? ⟨w.heap.size+1,j,none⟩=false:=fun j=>(hb2.frozen (p:=⟨w.heap.size+1,j,none⟩) y9).trans (h1 j)
   have L2:Hid (IntsR (w2.alloc (.cells #[] 3)) lo' hi' s' l):=(HW'.out.keep (Keep.of_below HB1.out z8)).keep (Keep.of_below (hb2.trans (((Below.refl w2.heap.size w2).alloc (Nat.le_refl _) _).mono y2)) (by omega))
   have z2:w.heap.size+1 < w2.heap.size:=by omega
   clear hO2 hb2 hmo
   go_wp2_with (at_builtin;refine app_copyI rfl _ _ rfl rfl _ w2.heap.size (some ⟨w2.heap.size,0,none⟩) 0 rfl (ownN_empty (Nat.le_refl _)) s' c' l rfl L2.out (by omega) (by simp) ?_;intro s5 c5 w5 ho5 hc5;have HO5:=(show Hid (OwnN w5 w2.heap.size (.slice s5 l.length c5) l) from ho5);have hb5:Below w2.heap.size w2 w5:=((Below.refl _ _).alloc (Nat.le_refl _) _).trans hc5.low;have HB5:Hid (Below w2.heap.size w2 w5):=hb5;have g5:=(hb5.cell (p:=⟨w.heap.size+1,0,none⟩) z2).trans g2;have h5:∀ j,w5.frozen? ⟨w.heap.size+1,j,none⟩=false:=(fun j=>(hb5.frozen (p:=⟨w.heap.size+1,j,none⟩) z2).trans (h2 j));have y5:=hb5.size;clear ho5 hc5 hb5)
   refine bodyPost_ret (v:=.tuple #[.agg #[.slice sv m.length cv],.slice s5 l.length c5]) (by simp [results,Try.results52,go_sem,g5]) rfl ⟨sv,cv,m.length,_,rfl,by rw [em],?_,?_,?_⟩
   ·rw [em]
    exact ((HR2.out.kept (fun b _ q=>HB5.out.block b q) HB5.out.size).kept (fun b q1 q2=>Below.heap_setCell _ _ _ b (by show b≠w.heap.size+1;omega)) (by simp)).low (by omega)
   ·rw [ew]
    exact ownLow' (ownKeep' HO5.out (fun b e=>Below.heap_setCell _ _ _ b (by have:=(World.ownsRow.lt HO5.out _ e).1;show b≠w.heap.size+1;omega))) (by omega)
   ·exact (HKW.out.trans ((HB1.out.mono (by omega)).trans ((HB2.out.mono (by omega)).trans (HB5.out.mono (by omega))))).setCell (p:=⟨w.heap.size+1,0,none⟩) (by show w.heap.size≤w.heap.size+1;omega) _
 ·have hf:rightB m l cell=false:=by simpa using hr
  rw [hf]
  obtain ⟨em,ew⟩:=sto_no (v:=z) (b:=b) (show canB m l cell=false by unfold canB;rw [hf];rfl)
  go_wp2_with fail
  refine (l6Copy_any s c lo hi m w1 (HW.out.keep (Keep.of_below HB1.out z9)) (by omega) HM.out).mono ?_
  rintro e w2 ⟨vM,S,rfl,hO2,hb2⟩
  obtain ⟨sv,cv,ev,hmo⟩:=hO2.om.mo
  subst ev
  have HR2:Hid (MU w2 w1.heap.size sv cv m):=⟨_,hO2.om⟩
  have HB2:Hid (Below w1.heap.size w1 w2):=hb2
  have y2:=hb2.size
  have g2:=(hb2.cell (p:=⟨w.heap.size+1,0,none⟩) y9).trans g1
  have h2:∀ j,w2.frozen? ⟨w.heap.size+1,j,none⟩=false:=fun j=>(hb2.frozen (p:=⟨w.heap.size+1,j,none⟩) y9).trans (h1 j)
  have L2:Hid (IntsR (w2.alloc (.cells #[] 3)) lo' hi' s' l):=(HW'.out.keep (Keep.of_below HB1.out z8)).keep (Keep.of_below (hb2.trans (((Below.refl w2.heap.size w2).alloc (Nat.le_refl _) _).mono y2)) (by omega))
  have z2:w.heap.size+1 < w2.heap.size:=by omega
  clear hO2 hb2 hmo
  go_wp2_with (at_builtin;refine app_copyI rfl _ _ rfl rfl _ w2.heap.size (some ⟨w2.heap.size,0,none⟩) 0 rfl (ownN_empty (Nat.le_refl _)) s' c' l rfl L2.out (by omega) (by simp) ?_;intro s5 c5 w5 ho5 hc5;have HO5:=(show Hid (OwnN w5 w2.heap.size (.slice s5 l.length c5) l) from ho5);have hb5:Below w2.heap.size w2 w5:=((Below.refl _ _).alloc (Nat.le_refl _) _).trans hc5.low;have HB5:Hid (Below w2.heap.size w2 w5):=hb5;have g5:=(hb5.cell (p:=⟨w.heap.size+1,0,none⟩) z2).trans g2;have h5:∀ j,w5.frozen? ⟨w.heap.size+1,j,none⟩=false:=(fun j=>(hb5.frozen (p:=⟨w.heap.size+1,j,none⟩) z2).trans (h2 j));have y5:=hb5.size;clear ho5 hc5 hb5)
  refine bodyPost_ret (v:=.tuple #[.agg #[.slice sv m.length cv],.slice s5 l.length c5]) (by simp [results,Try.results52,go_sem,g5]) rfl ⟨sv,cv,m.length,_,rfl,by rw [em],?_,?_,?_⟩
  ·rw [em]
   exact ((HR2.out.kept (fun b _ q=>HB5.out.block b q) HB5.out.size).kept (fun b q1 q2=>Below.heap_setCell _ _ _ b (by show b≠w.heap.size+1;omega)) (by simp)).low (by omega)
  ·rw [ew]
   exact ownLow' (ownKeep' HO5.out (fun b e=>Below.heap_setCell _ _ _ b (by have:=(World.ownsRow.lt HO5.out _ e).1;show b≠w.heap.size+1;omega))) (by omega)
  ·exact (HKW.out.trans ((HB1.out.mono (by omega)).trans ((HB2.out.mono (by omega)).trans (HB5.out.mono (by omega))))).setCell (p:=⟨w.heap.size+1,0,none⟩) (by show w.heap.size≤w.heap.size+1;omega) _
end
section
set_option linter.unusedSimpArgs false
set_option linter.unusedVariables false
set_option maxRecDepth 100000
open Go.RowKit
set_option maxHeartbeats 4000000 in
theorem specSwapU_any (s s' : Option Addr) (c c' lo hi lo' hi' : Nat) (m : List (List WD)) (l : List Int) (cell z : Int) (w : World) (h : MemR w lo hi s m) (h' : IntsR w lo' hi' s' l) (hB : hi ≤ w.heap.size) (hB' : hi' ≤ w.heap.size) (hl : l.length ≤ 1048577) (hm : MFits m) :
  Calls Try.prog 54 #[.agg #[.slice s m.length c],.slice s' l.length c',.int .i64 cell,.int .i64 z] w fun e w'=>∃ sM cM n v,e=.returned (.tuple #[.agg #[.slice sM n cM],v,.int .i64 (swV m l cell)])∧n=(swM m l cell z).length∧MU w' w.heap.size sM cM (swM m l cell z)∧OwnN w' w.heap.size v (swW m l cell)∧Below w.heap.size w w':=by
 have H:Hid (MemR w lo hi s m):=h
 have H':Hid (IntsR w lo' hi' s' l):=h'
 have HM:Hid (MFits m):=hm
 have HM2:Hid (m.length+szR m≤1048676):=by show m.length+szR m≤1048676;unfold MFits at hm;omega
 clear h h' hm
 go_enter Try.func54,Try.ntmps54
 go_wp2_with fail
 obtain ⟨W,hW⟩:∃ W,(w.alloc (.cells #[.slice s m.length c] 30)).alloc (.cells #[.slice none 0 0] 30)=W:=⟨_,rfl⟩
 have c0:W.cell? ⟨w.heap.size,0,none⟩=some (.slice s m.length c):=by subst hW;simp [go_sem]
 have c1:W.cell? ⟨w.heap.size+1,0,none⟩=some (.slice none 0 0):=by subst hW;simp [go_sem]
 have f1:∀ j,W.frozen? ⟨w.heap.size+1,j,none⟩=false:=fun j=>by subst hW;simp [go_sem]
 have kW:Below w.heap.size w W:=by subst hW;exact ((Below.refl _ _).alloc (Nat.le_refl _) _).alloc (by simp) _
 have sW:W.heap.size=w.heap.size+2:=by subst hW;simp
 rw [hW]
 clear hW
 have HKW:Hid (Below w.heap.size w W):=kW
 have SW:Hid (W.heap.size=w.heap.size+2):=sW
 have z0:w.heap.size+1 < W.heap.size:=by omega
 have z9:hi≤W.heap.size:=by omega
 have z8:hi'≤W.heap.size:=by omega
 have HW:Hid (MemR W lo hi s m):=H.out.keep (Keep.of_below kW hB)
 have HW':Hid (IntsR W lo' hi' s' l):=H'.out.keep (Keep.of_below kW hB')
 clear kW sW
 refine (l6Right_any s s' c c' lo hi lo' hi' m l cell W HW.out HW'.out z9 z8 (by omega) HM2.out).mono ?_
 rintro e w1 ⟨rfl,hb1⟩
 have HB1:Hid (Below W.heap.size W w1):=hb1
 have y1:=hb1.size
 have d1:=(hb1.cell (p:=⟨w.heap.size,0,none⟩) (by show w.heap.size < _;omega)).trans c0
 have g1:=(hb1.cell (p:=⟨w.heap.size+1,0,none⟩) z0).trans c1
 have h1:∀ j,w1.frozen? ⟨w.heap.size+1,j,none⟩=false:=fun j=>(hb1.frozen (p:=⟨w.heap.size+1,j,none⟩) z0).trans (f1 j)
 have y8:w.heap.size < w1.heap.size:=by omega
 have y9:w.heap.size+1 < w1.heap.size:=by omega
 clear hb1
 by_cases hr:rightB m l cell=true
 ·obtain ⟨k,r,rfl,hrt⟩:=right_of hr
  rw [hr]
  obtain ⟨gm,om,s1,cx,es,a1,a2,a3,-⟩:=(HW.out.keep (Keep.of_below HB1.out z9)).row hrt.hr
  subst es
  have hk:=hrt.hk
  have hml:=hrt.hm
  have b0:(0:Int)≤(k:Int):=by omega
  have b1:(k:Int) < (m.length:Int):=by omega
  have gl:gm < w1.heap.size:=by omega
  have HML:Hid (m.length=24):=hml
  clear hml
  by_cases hn:r.length < 4000
  ·have hne4:((r.length:Int)==4000)=false:=by simp;omega
   obtain ⟨j,x,t1,t2,t3,t4,t5⟩:=hrt.at' 0
   obtain ⟨em,ew,ev⟩:=sw_yes (v:=z) hrt hr hn t1 t4
   have EM:Hid (swM m l k z=m.set k (r++[⟨z,(joinL (l.set k j) x.vw).set k (r.length:Int)⟩])):=em
   have EW:Hid (swW m l k=(joinL (l.set k j) x.vw).set k (r.length:Int)):=ew
   have EV:Hid (swV m l k=x.v):=ev
   have hjl:(joinL (l.set k (j:Int)) x.vw).length=l.length:=by rw [join_len,List.length_set,hrt.hl,hrt.hw j x t3];rfl
   have HJL:Hid ((joinL (l.set k (j:Int)) x.vw).length=l.length):=hjl
   have ld:=l6Load_any (some ⟨gm,om,none⟩) s' c c' lo hi lo' hi' m l k r 0 true j x w1 (HW.out.keep (Keep.of_below HB1.out z9)) (HW'.out.keep (Keep.of_below HB1.out z8)) (by omega) (by omega) hrt (by omega) t5 t3
   have HRT:Hid (Rtx102 m l k r):=hrt
   have HRP:Hid (∀ (i:Nat) (q:List WD),m[i]? =some q→1≤q.length):=rows_pos hr
   have hr4:r.length≤4000:=by omega
   clear em ew ev hrt hr hn t1 t2 t3 t4 t5 hjl
   go_wp2_with fail
   refine ld.mono ?_
   rintro e w9 ⟨v9,rfl,n9,b9⟩
   generalize hlj:joinL (l.set k (j:Int)) x.vw=lj at EM EW HJL n9
   have n9b:OwnN w9 w1.heap.size v9 lj:=by simpa [hlj] using n9
   obtain ⟨s9,c9,rfl,i9,-⟩:=NB.ints n9b
   rw [HJL.out]
   have HI9:Hid (IntsR w9 w1.heap.size w9.heap.size s9 lj):=i9
   have HB9:Hid (Below w1.heap.size w1 w9):=b9
   have d9:=(b9.cell (p:=⟨w.heap.size,0,none⟩) y8).trans d1
   have g9:=(b9.cell (p:=⟨w.heap.size+1,0,none⟩) y9).trans g1
   have h9:∀ j,w9.frozen? ⟨w.heap.size+1,j,none⟩=false:=fun j=>(b9.frozen (p:=⟨w.heap.size+1,j,none⟩) y9).trans (h1 j)
   have s9s:=b9.size
   have v8:w.heap.size < w9.heap.size:=by omega
   have v9':w.heap.size+1 < w9.heap.size:=by omega
   clear n9 n9b b9 i9 ld hlj
   go_wp2_with fail
   refine (l6Copy_any (some ⟨gm,om,none⟩) c lo hi m w9 ((HW.out.keep (Keep.of_below HB1.out z9)).keep (Keep.of_below HB9.out (by omega))) (by omega) HM.out).mono ?_
   rintro e w2 ⟨vM,S,rfl,hO2,hb2⟩
   have hml:=HML.out
   obtain ⟨gO,cO,eO,-⟩:=World.ownsRow.form hO2.row (by rw [hO2.n];omega)
   rw [hO2.n] at eO
   subst eO
   have hne:∀ (i:Nat) (q:RS),S[i]? =some q→0 < q.vs.length:=fun i q hq=>by
    obtain ⟨lq,hlq⟩:=at_same hO2.n.symm hq
    have h1:=(hO2.r i q lq hq hlq).n
    have h2:=HRP.out i lq hlq
    omega
   obtain ⟨rk,hrk⟩:=at_same hO2.n HRT.out.hr
   have y2:=hb2.size
   have st:=l6Store_any gO cO w9.heap.size S m rk r s9 c9 w1.heap.size w9.heap.size lj k z true w2 (HI9.out.keep (Keep.of_below hb2 (Nat.le_refl _))) y2 hO2 hne hrk HRT.out.hr (by rw [HJL.out];exact HRT.out.hl) hk hml hr4 y2
   rw [HJL.out] at st
   have HB2:Hid (Below w9.heap.size w9 w2):=hb2
   have g2:=(hb2.cell (p:=⟨w.heap.size+1,0,none⟩) v9').trans g9
   have h2:∀ j,w2.frozen? ⟨w.heap.size+1,j,none⟩=false:=fun j=>(hb2.frozen (p:=⟨w.heap.size+1,j,none⟩) v9').trans (h9 j)
   have z2:w.heap.size+1 < w2.heap.size:=by omega
   clear hO2 hb2 hne hrk hml
   go_wp2_with fail
   refine st.mono ?_
   rintro e w3 ⟨v3,r3,rfl,n3,o3,b3,-,-,-⟩
   obtain ⟨s3,c3,rfl⟩:=ownSl n3
   have g3:=(b3.cell (p:=⟨w.heap.size+1,0,none⟩) v9').trans g2
   have h3:∀ j,w3.frozen? ⟨w.heap.size+1,j,none⟩=false:=fun j=>(b3.frozen (p:=⟨w.heap.size+1,j,none⟩) v9').trans (h2 j)
   obtain ⟨sx,cx3,ex,mx3⟩:=o3.om.mo
   injection ex with ex1 ex2 ex3
   subst ex1
   have M3:Hid (MU w3 w9.heap.size (some ⟨gO,0,none⟩) cO (m.set k (r++[⟨z,lj.set k (r.length:Int)⟩]))):=⟨_,by rw [List.length_set];exact o3.om⟩
   have hls:(lj.set k (r.length:Int)).length=l.length:=by rw [List.length_set];exact HJL.out
   have N3:Hid (OwnN w3 w2.heap.size (.slice s3 l.length c3) (lj.set k (r.length:Int))):=by show OwnN _ _ _ _;rw [← hls];exact n3
   have B3:Hid (Below w9.heap.size w2 w3):=b3
   have y3:=b3.size
   have z3:w.heap.size+1 < w3.heap.size:=by omega
   rw [hls]
   clear n3 o3 b3 st mx3 ex2 ex3 hls
   go_wp2
   have kX:∀ b,b < w3.heap.size→b≠w.heap.size+1→((w3.setCell ⟨w.heap.size+1,0,none⟩ (.slice (some ⟨gO,0,none⟩) m.length cO)).alloc (.cells #[.slice (some ⟨gO,0,none⟩) m.length cO] 30)).heap[b]? =w3.heap[b]? :=fun b q1 q2=>by rw [Below.heap_alloc _ _ _ (by simpa using q1),Below.heap_setCell _ _ _ b q2]
   have hX0:((w3.setCell ⟨w.heap.size+1,0,none⟩ (.slice (some ⟨gO,0,none⟩) m.length cO)).alloc (.cells #[.slice (some ⟨gO,0,none⟩) m.length cO] 30)).cell? ⟨w.heap.size+1,0,none⟩=some (.slice (some ⟨gO,0,none⟩) m.length cO):=(World.cell?_of_block (w:=w3.setCell ⟨w.heap.size+1,0,none⟩ (.slice (some ⟨gO,0,none⟩) m.length cO)) (a:=⟨w.heap.size+1,0,none⟩) (Below.heap_alloc _ _ _ (by simpa using z3))).trans (setC_at (by rw [g3];rfl))
   refine bodyPost_ret (v:=.tuple #[.agg #[.slice (some ⟨gO,0,none⟩) m.length cO],.slice s3 l.length c3,.int .i64 x.v]) (by simp [results,Try.results54,go_sem,hX0]) rfl ⟨_,_,_,_,by rw [EV.out],by rw [EM.out,List.length_set],?_,?_,?_⟩
   ·rw [EM.out]
    exact (M3.out.kept (fun b q1 q2=>kX b q2 (by omega)) (by simp)).low (by omega)
   ·rw [EW.out]
    exact ownLow' (ownKeep' N3.out (fun b e=>kX b (World.ownsRow.lt N3.out _ e).2 (by have:=(World.ownsRow.lt N3.out _ e).1;omega))) (by omega)
   ·exact (((HKW.out.trans ((HB1.out.mono (by omega)).trans ((HB9.out.mono (by omega)).trans ((HB2.out.mono (by omega)).trans (B3.out.mono (by omega))))))).setCell (p:=⟨w.heap.size+1,0,none⟩) (by show w.heap.size≤w.heap.size+1;omega) _).alloc (by simp;omega) _
  ·have hr4:r.length=4000:=by have:=hrt.n2;omega
   have hne4:((r.length:Int)==4000)=true:=by simp;omega
   obtain ⟨em,ew,ev⟩:=sw_no (v:=z) (show canB m l k=false by unfold canB;rw [hrt.row,decide_eq_false hn];simp)
   clear hr4
   go_wp2_with fail
   refine (l6Copy_any (some ⟨gm,om,none⟩) c lo hi m w1 (HW.out.keep (Keep.of_below HB1.out z9)) (by omega) HM.out).mono ?_
   rintro e w2 ⟨vM,S,rfl,hO2,hb2⟩
   obtain ⟨sv,cv,ev,hmo⟩:=hO2.om.mo
   subst ev
   have HR2:Hid (MU w2 w1.heap.size sv cv m):=⟨_,hO2.om⟩
   have HB2:Hid (Below w1.heap.size w1 w2):=hb2
   have y2:=hb2.size
   have g2:=(hb2.cell (p:=⟨w.heap.size+1,0,none⟩) y9).trans g1
   have h2:∀ j,w2.frozen? ⟨w.heap.size+1,j,none⟩=false:=fun j=>(hb2.frozen (p:=⟨w.heap.size+1,j,none⟩) y9).trans (h1 j)
   have L2:Hid (IntsR (w2.alloc (.cells #[] 3)) lo' hi' s' l):=(HW'.out.keep (Keep.of_below HB1.out z8)).keep (Keep.of_below (hb2.trans (((Below.refl w2.heap.size w2).alloc (Nat.le_refl _) _).mono y2)) (by omega))
   have z2:w.heap.size+1 < w2.heap.size:=by omega
   clear hO2 hb2 hmo
   go_wp2_with (at_builtin;refine app_copyI rfl _ _ rfl rfl _ w2.heap.size (some ⟨w2.heap.size,0,none⟩) 0 rfl (ownN_empty (Nat.le_refl _)) s' c' l rfl L2.out (by omega) (by simp) ?_;intro s5 c5 w5 ho5 hc5;have HO5:=(show Hid (OwnN w5 w2.heap.size (.slice s5 l.length c5) l) from ho5);have hb5:Below w2.heap.size w2 w5:=((Below.refl _ _).alloc (Nat.le_refl _) _).trans hc5.low;have HB5:Hid (Below w2.heap.size w2 w5):=hb5;have g5:=(hb5.cell (p:=⟨w.heap.size+1,0,none⟩) z2).trans g2;have h5:∀ j,w5.frozen? ⟨w.heap.size+1,j,none⟩=false:=(fun j=>(hb5.frozen (p:=⟨w.heap.size+1,j,none⟩) z2).trans (h2 j));have y5:=hb5.size;clear ho5 hc5 hb5)
   refine bodyPost_ret (v:=.tuple #[.agg #[.slice sv m.length cv],.slice s5 l.length c5,.int .i64 0]) (by simp [results,Try.results54,go_sem,g5]) rfl ⟨sv,cv,m.length,_,by rw [ev],by rw [em],?_,?_,?_⟩
   ·rw [em]
    exact ((HR2.out.kept (fun b _ q=>HB5.out.block b q) HB5.out.size).kept (fun b q1 q2=>Below.heap_setCell _ _ _ b (by show b≠w.heap.size+1;omega)) (by simp)).low (by omega)
   ·rw [ew]
    exact ownLow' (ownKeep' HO5.out (fun b e=>Below.heap_setCell _ _ _ b (by have:=(World.ownsRow.lt HO5.out _ e).1;show b≠w.heap.size+1;omega))) (by omega)
   ·exact (HKW.out.trans ((HB1.out.mono (by omega)).trans ((HB2.out.mono (by omega)).trans (HB5.out.mono (by omega))))).setCell (p:=⟨w.heap.size+1,0,none⟩) (by show w.heap.size≤w.heap.size+1;omega) _
 ·have hf:rightB m l cell=false:=by simpa using hr
  rw [hf]
  obtain ⟨em,ew,ev⟩:=sw_no (v:=z) (show canB m l cell=false by unfold canB;rw [hf];rfl)
  go_wp2_with fail
  refine (l6Copy_any s c lo hi m w1 (HW.out.keep (Keep.of_below HB1.out z9)) (by omega) HM.out).mono ?_
  rintro e w2 ⟨vM,S,rfl,hO2,hb2⟩
  obtain ⟨sv,cv,ev,hmo⟩:=hO2.om.mo
  subst ev
  have HR2:Hid (MU w2 w1.heap.size sv cv m):=⟨_,hO2.om⟩
  have HB2:Hid (Below w1.heap.size w1 w2):=hb2
  have y2:=hb2.size
  have g2:=(hb2.cell (p:=⟨w.heap.size+1,0,none⟩) y9).trans g1
  have h2:∀ j,w2.frozen? ⟨w.heap.size+1,j,none⟩=false:=fun j=>(hb2.frozen (p:=⟨w.heap.size+1,j,none⟩) y9).trans (h1 j)
  have L2:Hid (IntsR (w2.alloc (.cells #[] 3)) lo' hi' s' l):=(HW'.out.keep (Keep.of_below HB1.out z8)).keep (Keep.of_below (hb2.trans (((Below.refl w2.heap.size w2).alloc (Nat.le_refl _) _).mono y2)) (by omega))
  have z2:w.heap.size+1 < w2.heap.size:=by omega
  clear hO2 hb2 hmo
  go_wp2_with (at_builtin;refine app_copyI rfl _ _ rfl rfl _ w2.heap.size (some ⟨w2.heap.size,0,none⟩) 0 rfl (ownN_empty (Nat.le_refl _)) s' c' l rfl L2.out (by omega) (by simp) ?_;intro s5 c5 w5 ho5 hc5;have HO5:=(show Hid (OwnN w5 w2.heap.size (.slice s5 l.length c5) l) from ho5);have hb5:Below w2.heap.size w2 w5:=((Below.refl _ _).alloc (Nat.le_refl _) _).trans hc5.low;have HB5:Hid (Below w2.heap.size w2 w5):=hb5;have g5:=(hb5.cell (p:=⟨w.heap.size+1,0,none⟩) z2).trans g2;have h5:∀ j,w5.frozen? ⟨w.heap.size+1,j,none⟩=false:=(fun j=>(hb5.frozen (p:=⟨w.heap.size+1,j,none⟩) z2).trans (h2 j));have y5:=hb5.size;clear ho5 hc5 hb5)
  refine bodyPost_ret (v:=.tuple #[.agg #[.slice sv m.length cv],.slice s5 l.length c5,.int .i64 0]) (by simp [results,Try.results54,go_sem,g5]) rfl ⟨sv,cv,m.length,_,by rw [ev],by rw [em],?_,?_,?_⟩
  ·rw [em]
   exact ((HR2.out.kept (fun b _ q=>HB5.out.block b q) HB5.out.size).kept (fun b q1 q2=>Below.heap_setCell _ _ _ b (by show b≠w.heap.size+1;omega)) (by simp)).low (by omega)
  ·rw [ew]
   exact ownLow' (ownKeep' HO5.out (fun b e=>Below.heap_setCell _ _ _ b (by have:=(World.ownsRow.lt HO5.out _ e).1;show b≠w.heap.size+1;omega))) (by omega)
  ·exact (HKW.out.trans ((HB1.out.mono (by omega)).trans ((HB2.out.mono (by omega)).trans (HB5.out.mono (by omega))))).setCell (p:=⟨w.heap.size+1,0,none⟩) (by show w.heap.size≤w.heap.size+1;omega) _
end
section
set_option linter.unusedSimpArgs false
set_option linter.unusedVariables false
set_option maxRecDepth 100000
def V24 (r:List WD):Prop:=1≤r.length∧∀ x∈r,x.vw.length=24
structure Inv6 (m:List (List WD)) (N:Nat):Prop where
 n:m.length=24
 r:∀ r∈m,V24 r
 z:szR m≤N
theorem szV_app (x:WD):∀ l:List WD,szV (l++[x])=szV l+x.vw.length
 | []=>by simp [szV]
 | y::r=>by simp [szV,szV_app x r];omega
theorem szR_setx191 (x:WD):∀ (m:List (List WD)) (k:Nat) (r:List WD),m[k]? =some r→szR (m.set k (r++[x]))=szR m+(1+x.vw.length)
 | [],k,r,h=>by simp at h
 | y::t,0,r,h=>by
  simp at h
  subst h
  simp [szR,szV_app]
  omega
 | y::t,k+1,r,h=>by
  simp at h
  have:=szR_setx191 x t k r h
  simp [szR,this]
  omega
theorem Inv6.set {m:List (List WD)} {N:Nat} (h:Inv6 m N) {k:Nat} {r:List WD} (hk:m[k]? =some r) (x:WD) (hx:x.vw.length=24):Inv6 (m.set k (r++[x])) (N+25):=by
 refine ⟨by rw [List.length_set];exact h.n,fun q hq=>?_,by rw [szR_setx191 x m k r hk,hx];have:=h.z;omega⟩
 rcases List.mem_or_eq_of_mem_set hq with hq | rfl
 ·exact h.r q hq
 ·have hr:=h.r r (List.mem_of_getElem? hk)
  refine ⟨by simp,fun y hy=>?_⟩
  simp at hy
  rcases hy with hy | rfl
  ·exact hr.2 y hy
  ·exact hx
theorem Inv6.up {m:List (List WD)} {N N':Nat} (h:Inv6 m N) (hN:N≤N'):Inv6 m N':=⟨h.n,h.r,Nat.le_trans h.z hN⟩
theorem Inv6.fits {m:List (List WD)} {N:Nat} (h:Inv6 m N) (hN:N≤1000000):MFits m:=by
 have:=h.n
 have:=h.z
 unfold MFits
 omega
theorem told_len (l:List Int) (k n:Nat) (b:Bool) (hl:l.length=24):(toldL l k n b).length=24:=by
 unfold toldL
 split<;>simp [hl]
theorem sto_inv {m:List (List WD)} {N:Nat} {l:List Int} (cell v:Int) (b:Bool) (h:Inv6 m N) (hl:l.length=24):Inv6 (stoM m l cell v b) (N+25)∧(stoW m l cell).length=24:=by
 by_cases hc:canB m l cell=true
 ·have hr:rightB m l cell=true:=by unfold canB at hc;rw [Bool.and_eq_true] at hc;exact hc.1
  obtain ⟨k,r,rfl,hrt⟩:=right_of hr
  unfold stoM stoW
  rw [if_pos hc,if_pos hc,hrt.row]
  exact ⟨h.set hrt.hr _ (told_len _ _ _ _ hl),by rw [List.length_set];exact hl⟩
 ·obtain ⟨e1,e2⟩:=sto_no (v:=v) (b:=b) (show canB m l cell=false by simpa using hc)
  rw [e1,e2]
  exact ⟨h.up (by omega),hl⟩
theorem load_len {m:List (List WD)} {N:Nat} {l:List Int} (cell late:Int) (hold:Bool) (h:Inv6 m N) (hl:l.length=24):(loadW m l cell late hold).length=24:=by
 by_cases hr:rightB m l cell=true
 ·obtain ⟨k,r,rfl,hrt⟩:=right_of hr
  obtain ⟨j,x,e1,e2,e3,e4,-⟩:=hrt.at' late
  rw [loadW_yes (j:=j) hr e1 e4]
  have hx:=(h.r r (List.mem_of_getElem? hrt.hr)).2 x (List.mem_of_getElem? e3)
  split
  ·rw [join_len,List.length_set,hl,hx];rfl
  ·rw [List.length_set];exact hl
 ·unfold loadW
  rw [if_neg hr]
  exact hl
theorem sw_inv {m:List (List WD)} {N:Nat} {l:List Int} (cell v:Int) (h:Inv6 m N) (hl:l.length=24):Inv6 (swM m l cell v) (N+25)∧(swW m l cell).length=24:=by
 by_cases hc:canB m l cell=true
 ·have hr:rightB m l cell=true:=by unfold canB at hc;rw [Bool.and_eq_true] at hc;exact hc.1
  have hle:=load_len (N:=N) cell 0 true h hl
  obtain ⟨k,r,rfl,hrt⟩:=right_of hr
  unfold swM swW
  rw [if_pos hc,if_pos hc,hrt.row]
  exact ⟨h.set hrt.hr _ (by rw [List.length_set];exact hle),by rw [List.length_set];exact hle⟩
 ·obtain ⟨e1,e2,e3⟩:=sw_no (v:=v) (show canB m l cell=false by simpa using hc)
  rw [e1,e2]
  exact ⟨h.up (by omega),hl⟩
theorem new_inv:Inv6 (newM 24) 600:=by
 refine ⟨newM_len 24,fun r hr=>?_,?_⟩
 ·have e:r=zRow:=List.eq_of_mem_replicate hr
  subst e
  exact ⟨by decide,fun x hx=>by simp [zRow] at hx;subst hx;simp⟩
 ·have e:szR (newM 24)=600:=by kernel_rfl
  omega
end
end Go.Proofs.Ytkhjhibigldcgaa
