/- How much a step adds to a machine. No condition. Drawn picks: a row of its own, of few. Conditions: the cursor and its bytes lie in memory as the reading says; at most 20 rounds. A step of the specification, of an op: registers set. No condition. -/
import Derived.Test.YtepfpbcjklaenaaNG00
import Derived.Test.YtepfpbcjklaenaaNG01
import Derived.Test.YtepfpbcjklaenaaNMemStore
import Derived.Test.YtepfpbcjklaenaaNG02
import Derived.Test.YtepfpbcjklaenaaNG08
import Derived.Test.YtepfpbcjklaenaaNG06
import Derived.Test.YtepfpbcjklaenaaNKOkB
import Derived.Test.YtepfpbcjklaenaaNG16
import Derived.Test.YtepfpbcjklaenaaNG17
import Derived.Test.YtepfpbcjklaenaaNG10
import Derived.Test.YtepfpbcjklaenaaNDraw7
import Derived.Test.YtepfpbcjklaenaaNG07
import Derived.Test.YtepfpbcjklaenaaNG20
import Derived.Test.YtepfpbcjklaenaaNG03
namespace Go.Proofs.Ytepfpbcjklaenaa
section
set_option linter.unusedSimpArgs false
set_option linter.unusedVariables false
set_option maxRecDepth 100000
open Go.RowKit
theorem goM_same (d : MD) (who : Nat) (k : KD) (n : Nat) (p : Int) : (goM d who k n p).mem = d.mem ∧ (goM d who k n p).codes = d.codes := by
 unfold goM
 split
 ·exact ⟨rfl, rfl⟩
 ·exact ⟨rfl, rfl⟩
theorem szV_snoc (x : WD) : ∀ l : List WD, szV (l ++ [x]) = szV l + x.vw.length
 | [] => by simp [szV]
 | y :: r => by simp [szV, szV_snoc x r]; omega
theorem szR_set (x : WD) : ∀ (m : List (List WD)) (c : Nat) (r : List WD), m[c]? = some r → szR (m.set c (r ++ [x])) = szR m + 1 + x.vw.length
 | [], c, r, h => by simp at h
 | y :: t, 0, r, h => by
  simp at h
  subst h
  simp [szR, szV_snoc]
  omega
 | y :: t, c + 1, r, h => by
  have q := szR_set x t c r (by simpa using h)
  simp [szR, q]
  omega
theorem told24 (l : List Int) (k n : Nat) (b : Bool) (hl : l.length = 24) : (toldL l k n b).length = 24 := by
 unfold toldL
 split
 ·rw [List.length_set]; exact hl
 ·rw [List.length_set, List.length_replicate]
theorem stM_sz {m : List (List WD)} {l : List Int} {c : Nat} (z : Int) (b : Bool) (hm : memB m = true) (hc : c < 24) (hl : l.length = 24) : (stM m l c z b).length + szR (stM m l c z b) = m.length + szR m + 25 := by
 obtain ⟨-, r, hr, -⟩ := memB_at hm hc
 have e : m.getD c [] = r := by rw [List.getD_eq_getElem?_getD, hr]; rfl
 unfold stM
 rw [e, szR_set _ m c r hr, List.length_set]
 simp only [told24 _ _ _ _ hl]
 omega
theorem stepAt_sz {d : MD} {who : Nat} {k : KD} {code : List I5} {s : I5} (late : Int) (ha : At8 d who k code s) : (stepAt d who late k code.length s).1.codes = d.codes ∧ (stepAt d who late k code.length s).1.mem.length + szR (stepAt d who late k code.length s).1.mem ≤ d.mem.length + szR d.mem + 25 := by
 have hm := ha.mem
 have hl : k.vw.length = 24 := by
  have q := (viewB_iff.1 ha.vw).1
  have m := (memB_at ha.mem (i := 0) (by omega)).1
  omega
 have go : ∀ (d1 : MD) (k1 : KD) (p : Int), d1.codes = d.codes → d1.mem.length + szR d1.mem ≤ d.mem.length + szR d.mem + 25 → (goM d1 who k1 code.length p, (0 : Int)).1.codes = d.codes ∧ (goM d1 who k1 code.length p, (0 : Int)).1.mem.length + szR (goM d1 who k1 code.length p, (0 : Int)).1.mem ≤ d.mem.length + szR d.mem + 25 := fun d1 k1 p h1 h2 => by
  obtain ⟨e1, e2⟩ := goM_same d1 who k1 code.length p
  simp only [e1, e2]
  exact ⟨h1, h2⟩
 have st : ∀ (k1 : KD) (z : Int), (putK d who k1, z).1.codes = d.codes ∧ (putK d who k1, z).1.mem.length + szR (putK d who k1, z).1.mem ≤ d.mem.length + szR d.mem + 25 := fun k1 z => ⟨rfl, Nat.le_add_right _ _⟩
 have no : ∀ z : Int, (d, z).1.codes = d.codes ∧ (d, z).1.mem.length + szR (d, z).1.mem ≤ d.mem.length + szR d.mem + 25 := fun z => ⟨rfl, Nat.le_add_right _ _⟩
 unfold stepAt
 by_cases e1 : s.o = 1
 ·rw [if_pos e1]; exact go _ _ _ rfl (Nat.le_add_right _ _)
 rw [if_neg e1]
 by_cases e2 : s.o = 2
 ·rw [if_pos e2]; exact go _ _ _ rfl (Nat.le_add_right _ _)
 rw [if_neg e2]
 by_cases e3 : s.o = 3
 ·rw [if_pos e3]; exact go _ _ _ rfl (Nat.le_add_right _ _)
 rw [if_neg e3]
 by_cases e4 : s.o = 4
 ·rw [if_pos e4]; exact go _ _ _ rfl (Nat.le_add_right _ _)
 rw [if_neg e4]
 by_cases e9 : s.o = 9
 ·rw [if_pos e9]
  by_cases hf : d.tr.length = 4000
  ·rw [if_pos hf]; exact no 3
  ·rw [if_neg hf]; exact go _ _ _ rfl (Nat.le_add_right _ _)
 rw [if_neg e9]
 by_cases e10 : s.o = 10
 ·rw [if_pos e10]; exact go _ _ _ rfl (Nat.le_add_right _ _)
 rw [if_neg e10]
 by_cases e11 : s.o = 11
 ·rw [if_pos e11]; exact go _ _ _ rfl (Nat.le_add_right _ _)
 rw [if_neg e11]
 by_cases e12 : s.o = 12
 ·rw [if_pos e12]; exact st _ 0
 rw [if_neg e12]
 by_cases e13 : s.o = 13
 ·rw [if_pos e13]; exact st _ 0
 rw [if_neg e13]
 by_cases hc : 0 ≤ cellM k s ∧ cellM k s ≤ 23
 ·rw [if_pos hc]
  generalize hcc : (cellM k s).toNat = c
  have hc24 : c < 24 := by omega
  by_cases hfull : s.o ≠ 5 ∧ (d.mem.getD c []).length = 4000
  ·rw [if_pos hfull]; exact no 3
  ·rw [if_neg hfull]
   unfold memS
   by_cases e5 : s.o = 5
   ·rw [if_pos e5]; exact go _ _ _ rfl (Nat.le_add_right _ _)
   ·rw [if_neg e5]
    by_cases e8 : s.o = 8
    ·rw [if_pos e8]
     have hw : (ldW d.mem k.vw c 0 true).length = 24 := by
      have q := (viewB_iff.1 (ldW_ok 0 true hm ha.vw hc24)).1
      have := (memB_at hm hc24).1
      omega
     exact go _ _ _ rfl (Nat.le_of_eq (stM_sz _ _ hm hc24 hw))
    ·rw [if_neg e8]
     exact go _ _ _ rfl (Nat.le_of_eq (stM_sz _ _ hm hc24 hl))
 ·rw [if_neg hc]; exact st _ 0
theorem stepM_sz {d : MD} (who late : Int) (h : machB d = true) : (stepM d who late).1.codes = d.codes ∧ (stepM d who late).1.mem.length + szR (stepM d who late).1.mem ≤ d.mem.length + szR d.mem + 25 := by
 by_cases hw : 0 ≤ who ∧ who < (d.cores.length : Int)
 ·obtain ⟨n, rfl⟩ : ∃ n : Nat, who = (n : Int) := ⟨who.toNat, by omega⟩
  obtain ⟨k, code, s, ha⟩ := mach_at h (who := n) (by omega)
  by_cases hr : k.st = 0
  ·rw [stepM_at ha late hr]; exact stepAt_sz late ha
  ·rw [stepM_over ha late hr]; exact ⟨rfl, Nat.le_add_right _ _⟩
 ·rw [stepM_none late hw]; exact ⟨rfl, Nat.le_add_right _ _⟩
theorem szK_all : ∀ (l : List KD), (∀ (i : Nat) (x : KD), l[i]? = some x → x.regs.length = 8 ∧ x.vw.length = 24) → szK l = 32 * l.length
 | [], _ => rfl
 | x :: r, h => by
  have q := szK_all r (fun i y hy => h (i + 1) y (by simpa using hy))
  have a := h 0 x rfl
  simp [szK, q]
  omega
theorem mach_k {d : MD} (h : machB d = true) : d.cores.length + szK d.cores ≤ 132 ∧ d.tr.length ≤ 4000 := by
 have hl := mach_len h
 have hk : szK d.cores = 32 * d.cores.length := szK_all _ fun i x hx => by
  have hi := (List.getElem?_eq_some_iff.1 hx).1
  obtain ⟨k, code, s, ha⟩ := mach_at h (who := i) hi
  have e : k = x := by have q := ha.hk; rw [hx] at q; injection q with q; exact q.symm
  subst e
  have m24 := (memB_at ha.mem (i := 0) (by omega)).1
  have v24 := (viewB_iff.1 ha.vw).1
  exact ⟨ha.regs, by omega⟩
 unfold machB codesB trB at h
 simp only [Bool.and_eq_true, decide_eq_true_eq] at h
 have h1 := h.1.1
 exact ⟨by omega, h.2.2.1.1⟩
end
section
set_option linter.unusedSimpArgs false
set_option linter.unusedVariables false
set_option maxRecDepth 100000
open Go.RowKit
theorem rnM_sz : ∀ (l : List ND) {d : MD}, machB d = true → (rnM d l).mem.length + szR (rnM d l).mem ≤ d.mem.length + szR d.mem + 25 * l.length
 | [], _, _ => by simp [rnM]
 | x :: r, d, h => by
  have h1 := (stepM_sz x.who x.v h).2
  have h2 := rnM_sz r (stepM_ok x.who x.v h)
  have e : rnM d (x :: r) = rnM (stepM d x.who x.v).1 r := rfl
  rw [e, List.length_cons]
  omega
theorem rnM_cds : ∀ (l : List ND) {d : MD}, machB d = true → (rnM d l).codes = d.codes
 | [], _, _ => rfl
 | x :: r, d, h => (rnM_cds r (stepM_ok x.who x.v h)).trans (stepM_sz x.who x.v h).1
theorem max_at (a : Int) (w : World) : Calls Try.prog 62 #[.int .i64 a, .int .i64 1] w fun e w' => e = .returned (.int .i64 (if a < 1 then 1 else a)) ∧ w' = w := by
 by_cases h : a < 1
 ·have h1 : ¬ 1 < a := by omega
  rw [if_pos h]
  go_enter Try.func62, Try.ntmps62
  go_wp2
  go_ret
  exact ⟨rfl, rfl⟩
 ·by_cases h2 : a = 1
  ·subst h2
   rw [if_neg h]
   go_enter Try.func62, Try.ntmps62
   go_wp2
   go_ret
   exact ⟨rfl, rfl⟩
  have h1 : 1 < a := by omega
  rw [if_neg h]
  go_enter Try.func62, Try.ntmps62
  go_wp2
  go_ret
  exact ⟨rfl, rfl⟩
structure PkD (w wr : World) (p : Nat) (s : Option Addr) (n c : Nat) (m : Nat) (v : Value) (l : List ND) : Prop where
 o : OwnPk wr w.heap.size v l
 le : l.length ≤ m
 v3 : ∀ x ∈ l, 0 ≤ x.v ∧ x.v ≤ 3
 cb : CB wr p s n c
 bt : But p w wr
theorem PkD.but {w wr w' : World} {p n c m : Nat} {s : Option Addr} {v : Value} {l : List ND} (h : PkD w wr p s n c m v l) (hp : p < w.heap.size) (hc : CB w' p s n c) (hb : But p wr w') : PkD w w' p s n c m v l :=
 ⟨ownKeep' h.o (fun k hk => by have := World.ownsRow.lt h.o _ hk; exact hb.block k this.2 (by omega)), h.le, h.v3, hc, h.bt.trans hb⟩
theorem PkD.add {w wr w' : World} {p n c m g cap : Nat} {s : Option Addr} {v : Value} {l : List ND} {who x : Int} (h : PkD w wr p s n c m v l) (hp : p < w.heap.size) (x0 : 0 ≤ x) (x1 : x < 4) (ho : w'.ownsRow w.heap.size 40 2 (.slice (some ⟨g, 0, none⟩) (l.length + 1) cap) (l.length + 1) (flatN l ++ [.int .i64 who, .int .i64 x])) (hg : (wr.alloc (.cells #[.int .i64 who, .int .i64 x] 40)).grownBy w' v.ownBlock) : PkD w w' p s n c (m + 1) (.slice (some ⟨g, 0, none⟩) (l.length + 1) cap) (l ++ [⟨who, x⟩]) := by
 have hr : ∀ k, v.ownBlock = some k → w.heap.size ≤ k := fun k hk => (World.ownsRow.lt h.o _ hk).1
 refine ⟨?_, by have := h.le; simp; omega, fun y hy => ?_, (h.cb.alloc _).grown hg (fun k hk => by have := hr k hk; omega), (h.bt.alloc _).grown hg hr⟩
 ·unfold OwnPk
  rw [flatN_app, List.length_append]
  exact ho
 ·rcases List.mem_append.1 hy with e | e
  ·exact h.v3 y e
  ·simp at e; subst e; exact ⟨x0, by show x ≤ 3; omega⟩
theorem PkD.wide {w wr : World} {p n c m m' : Nat} {s : Option Addr} {v : Value} {l : List ND} (h : PkD w wr p s n c m v l) (e : m ≤ m') : PkD w wr p s n c m' v l := ⟨h.o, Nat.le_trans h.le e, h.v3, h.cb, h.bt⟩
set_option maxRecDepth 100000 in
set_option maxHeartbeats 4000000 in
theorem drawPicks_ok (p : Nat) (s : Option Addr) (n c : Nat) (k : Nat) (most : Int) (w : World) (h : CB w p s n c) (hk : k ≤ 200) (hm0 : 0 ≤ most) (hm : most ≤ 20) :
  Calls Try.prog 44 #[.pointer (some ⟨p, 0, none⟩), .int .i64 k, .int .i64 most] w fun e w' => ∃ (v : Value) (l : List ND), e = .returned v ∧ PkD w w' p s n c 120 v l := by
 have hp := h.lt
 have H0 : Hid (CB w p s n c) := h
 clear h
 go_enter Try.func44, Try.ntmps44
 go_wp2_with fail
 refine (below_cb p s n c (most + 1) _ (H0.out.alloc _) (by omega) (by omega)).mono ?_
 rintro e w4 ⟨q, rfl, q0, q1, hc4, hb4⟩
 have Q : Hid (0 ≤ q ∧ q ≤ 20) := by show _ ∧ _; omega
 have P0 : Hid (PkD w w4 p s n c 0 (.slice (some ⟨w.heap.size, 0, none⟩) 0 0) []) := by
  refine ⟨?_, by simp, fun x hx => by simp at hx, hc4, ((But.refl _ _).alloc _).trans hb4⟩
  have h0 := World.ownsRow_lit (base := w.heap.size) (e := 40) (size := 2) w #[] 0 (Nat.le_refl _) (by unfold maxLen; omega) rfl
  exact ownKeep' h0 (fun k hk => by have := World.ownsRow.lt h0 _ hk; exact hb4.block k this.2 (by omega))
 clear hc4 hb4 q0 q1
 go_wp2_with fail
 go_loopw [7, 9] (fun v i wr => ∃ (j : Nat) (l : List ND), (j : Int) ≤ q ∧ i = .int .i64 j ∧ PkD w wr p s n c (j * 6) v l) (fun _ i _ => 20 - (intOf i).toNat)
 case atStart => exact ⟨0, [], by have := Q.out; omega, rfl, P0.out⟩
 case round =>
  obtain ⟨j, l, hj, rfl, hd⟩ := hrel
  have D := hidM1 hd
  clear hd
  have hzr := D.out.bt.size
  by_cases hlt : (j : Int) < q
  ·have hj20 : (j : Int) < 20 := by have := Q.out; omega
   go_wp2_with fail
   refine (max_at (k : Int) wr).mono ?_
   rintro e w5 ⟨rfl, hw⟩
   have hw' := hw.symm
   clear hw
   subst hw'
   have g0 : 0 < (if (k : Int) < 1 then (1 : Int) else k) := by split <;> omega
   have g1 : (if (k : Int) < 1 then (1 : Int) else k) ≤ 256 := by split <;> omega
   generalize (if (k : Int) < 1 then (1 : Int) else k) = cc at g0 g1 ⊢
   go_wp2_with fail
   refine (below_cb p s n c cc wr D.out.cb g0 g1).mono ?_
   rintro e w5 ⟨who, rfl, -, -, hc5, hb5⟩
   have D5 := hidM1 (D.out.but hp hc5 hb5)
   clear hc5 hb5 D g0 g1
   go_wp2_with fail
   go_loopw [7, 11] (fun v i wr => ∃ (k : Nat) (l : List ND), k ≤ 6 ∧ i = .int .i64 k ∧ PkD w wr p s n c (j * 6 + k) v l) (fun _ i _ => 6 - (intOf i).toNat)
   case atStart => exact ⟨0, l, by omega, rfl, D5.out⟩
   case round =>
    obtain ⟨k2, l2, hk2, rfl, hd⟩ := hrel
    have D := hidM1 hd
    clear hd D5
    have hzr2 := D.out.bt.size
    go_wp2_with fail
    refine (below_cb p s n c 6 wr D.out.cb (by omega) (by omega)).mono ?_
    rintro e w6 ⟨x, rfl, x0, x1, hc6, hb6⟩
    have D6 := hidM1 (D.out.but hp hc6 hb6)
    have hzr3 := D6.out.bt.size
    clear hc6 hb6 D
    by_cases hl2 : (k2 : Int) < 1 + x
    ·have hk3 : k2 < 6 := by omega
     go_wp2_with fail
     refine (below_cb p s n c 4 w6 D6.out.cb (by omega) (by omega)).mono ?_
     rintro e w7 ⟨y, rfl, y0, y1, hc7, hb7⟩
     have D7 := hidM1 (D6.out.but hp hc7 hb7)
     have hzr4 := D7.out.bt.size
     have O7 : Hid (OwnPk (w7.alloc (.cells #[.int .i64 who, .int .i64 y] 40)) w.heap.size u7 l2) := ownKeep' D7.out.o (fun q hq => Below.heap_alloc w7 _ _ (World.ownsRow.lt D7.out.o _ hq).2)
     clear hc7 hb7 D6
     go_wp2_with (at_builtin; refine app_pick rfl _ _ rfl (w7.alloc (.cells #[.int .i64 who, .int .i64 y] 40)) w.heap.size u7 l2.length (flatN l2) rfl O7.out w7.heap.size (.int .i64 who) (.int .i64 y) rfl rfl rfl (by simp [go_sem]) (by simp [go_sem]) (by have := D7.out.le; have := Q.out; omega) (by simp; omega) ?_; intro g5 cap5 w8 ho8 hb8 hf8 hl8; have D8 := hidM1 (D7.out.add hp y0 y1 ho8 hb8); clear ho8 hb8 hf8)
     go_roundw
     case rel => exact ⟨k2 + 1, l2 ++ [⟨who, y⟩], by omega, by go_num, D8.out⟩
     case measure => simp [intOf]; omega
    ·go_wp2_with fail
     go_roundw
     case rel => exact ⟨j + 1, l2, by omega, by go_num, D6.out.wide (by omega)⟩
     case measure => simp [intOf]; have := Q.out; omega
  ·go_wp2
   go_ret
   exact ⟨_, rfl, l, D.out.wide (by have := Q.out; omega)⟩
end
section
set_option linter.unusedSimpArgs false
set_option linter.unusedVariables false
set_option maxRecDepth 100000
open Go.RowKit
/- what a step answers, and the blocks that it leaves alone: those behind any world in which the machine was -/
def StepX (w : World) (B : Nat) (Hq : Nat → Prop) (vc vk vm vt : Value) (LC : List CV) (LK : List KV) (S : List RS) (d : MD) (x : MD × Int) (e : Ending) (w' : World) : Prop := StepQ w B Hq x e w' ∧ ∀ b, ¬ Hq b → w'.heap[b]? = w.heap[b]?
theorem ex7 {Hq : Nat → Prop} {w F : World} {B : Nat} {vc vk vm vt : Value} {LC : List CV} {S : List RS} {d : MD} {c : Int} (h : ∃ LK', MQ F B Hq vc vk vm vt LC LK' S d) (hb : Below B w F) : StepQ w B Hq (d, c) (.returned (.tuple #[.agg #[vc, vk, vm, vt], .int .i64 c])) F := by
 obtain ⟨LK', h⟩ := h
 exact ⟨vc, vk, vm, vt, LC, LK', S, rfl, h, hb⟩
set_option maxHeartbeats 4000000 in
theorem sp1 {Hq : Nat → Prop} (B : Nat) (vc vk vm vt : Value) (LC : List CV) (LK : List KV) (S : List RS) (d : MD) (who : Nat) (k : KD) (code : List I5) (s : I5) (late : Int) (w : World) (h : MQ w B Hq vc vk vm vt LC LK S d) (ha : At8 d who k code s) (hb : B ≤ w.heap.size) (ho : s.o = 1) :
  Calls Try.prog 35 #[.agg #[vc, vk, vm, vt], .agg #[.int .i64 who, .int .i64 late]] w fun e w' => StepX w B Hq vc vk vm vt LC LK S d (stepAt d who late k code.length s) e w' := by
 obtain ⟨p, gc, cc, gk, ck, gs, cs, gr, cr, gv, cv, gO, cO, st, ct, O⟩ := h.open ha
 have HO8 := (show Hid (Op8 w B vc vk vm vt LK d who p k code s gc cc gk ck gs cs gr cr gv cv gO cO st ct) from O)
 obtain ⟨n1, n2, n3, n4, n5, n6, n7, n8, n9, n10⟩ := O.ne h
 obtain ⟨ec, ek, em, et, hx, hp, wc, wk, c0, k0, k1, k2, k3, s0, s1, s2, s3, s4, rr, fk, fr, zc, zk, zs, zr, zv, zO, bk, br, bv, bO⟩ := O
 subst ec ek em et
 have H := hidS h
 have HA := hidS ha
 have H8 : Hid (k.regs.length = 8) := ha.regs
 have HX := hidS hx
 have hok := ha.ok
 unfold stX Plain.stepB at hok
 rw [decide_eq_true_eq] at hok
 have hpl := ha.pcl
 have hn8 := ha.n8
 have htr := ha.tr
 obtain ⟨pc, regs, vw, st_⟩ := k
 obtain ⟨o, r, a, b, n⟩ := s
 simp only at ho hp hok k0 k3 rr s0 s1 s2 s3 s4 hpl
 subst hp
 subst ho
 obtain ⟨r', hr'⟩ : ∃ r' : Nat, r = r' := ⟨r.toNat, by omega⟩
 subst hr'
 have br0 : (0 : Int) ≤ (r' : Int) := by omega
 have br1 : (r' : Int) < 8 := by omega
 have br2 : r' < 8 := by omega
 obtain ⟨a', ha'⟩ : ∃ a' : Nat, a = a' := ⟨a.toNat, by omega⟩
 subst ha'
 have ba0 : (0 : Int) ≤ (a' : Int) := by omega
 have ba1 : (a' : Int) < 8 := by omega
 have ba2 : a' < 8 := by omega
 obtain ⟨b', hb'⟩ : ∃ b' : Nat, b = b' := ⟨b.toNat, by omega⟩
 subst hb'
 have bb0 : (0 : Int) ≤ (b' : Int) := by omega
 have bb1 : (b' : Int) < 8 := by omega
 have bb2 : b' < 8 := by omega
 clear hok
 have b0 : (0 : Int) ≤ (who : Int) := by omega
 have b1 : (who : Int) < (d.codes.length : Int) := by omega
 have b2 : (who : Int) < (LK.length : Int) := by omega
 have b3 : (0 : Int) ≤ (p : Int) := by omega
 have b4 : (p : Int) < (code.length : Int) := by omega
 have z1 : gk < w.heap.size + 1 := by omega
 have z2 : gk < w.heap.size + 1 + 1 := by omega
 have C0 := hidS c0
 have K0 := hidS k0
 have K3 := hidS k3
 have RR := hidS rr
 have FK := hidS fk
 have FR := hidS fr
 clear h ha hx rr fk fr
 go_enter Try.func35, Try.ntmps35
 go_wp2_with fail
 obtain ⟨W, hW⟩ : ∃ W, (((w.alloc (.cells #[.slice (some ⟨gc, 0, none⟩) d.codes.length cc, .slice (some ⟨gk, 0, none⟩) LK.length ck, .slice (some ⟨gO, 0, none⟩) d.mem.length cO, .slice st d.tr.length ct] 34)).alloc (.cells #[.int .i64 who, .int .i64 late] 40)).alloc (.cells #[.slice none 0 0, .slice none 0 0, .slice none 0 0, .slice none 0 0] 34)).alloc (.cells #[.int .i64 p, .slice (some ⟨gr, 0, none⟩) 8 cr, .slice (some ⟨gv, 0, none⟩) 24 cv, .int .i64 st_] 46) = W := ⟨_, rfl⟩
 obtain ⟨V, hV⟩ : ∃ V, (W.alloc (.cells #[.int .i64 1, .int .i64 r', .int .i64 a', .int .i64 b', .int .i64 n] 25)).drew = V := ⟨_, rfl⟩
 obtain ⟨BX, KV⟩ := boxes5 hW hV
 have HBT : Hid (BxT V w.heap.size ∧ BxT V (w.heap.size + 1 + 1)) := boxT hW hV
 have q0 : W.cell? ⟨w.heap.size, 0, none⟩ = some (.slice (some ⟨gc, 0, none⟩) d.codes.length cc) := by subst hW; simp [go_sem]
 have q1 : W.cell? ⟨w.heap.size + 1, 0, none⟩ = some (.int .i64 who) := by subst hW; simp [go_sem]
 have q2 : W.cell? ⟨w.heap.size + 1 + 1 + 1, 0, none⟩ = some (.int .i64 p) := by subst hW; simp [go_sem]
 have kW : Below w.heap.size w W := by subst hW; exact ((((Below.refl _ _).alloc (Nat.le_refl _) _).alloc (by simp) _).alloc (by simp; omega) _).alloc (by simp; omega) _
 have q3 := (kW.cell (p := ⟨gc, who, none⟩) zc).trans c0
 have q4 := (kW.cell (p := ⟨gs, p * 5, none⟩) zs).trans s0
 have q5 := (kW.cell (p := ⟨gs, p * 5 + 1, none⟩) zs).trans s1
 have q6 := (kW.cell (p := ⟨gs, p * 5 + 2, none⟩) zs).trans s2
 have q7 := (kW.cell (p := ⟨gs, p * 5 + 3, none⟩) zs).trans s3
 have q8 := (kW.cell (p := ⟨gs, p * 5 + 4, none⟩) zs).trans s4
 have zW := (show Hid (W.heap.size = w.heap.size + 1 + 1 + 1 + 1) from by subst hW; show _ = _; simp)
 have y0 : w.heap.size < W.heap.size := by have := zW.out; omega
 have y1 : w.heap.size + 1 < W.heap.size := by have := zW.out; omega
 have y2 : w.heap.size + 1 + 1 + 1 < W.heap.size := by have := zW.out; omega
 have y3 : gc < W.heap.size := by omega
 have y4 : gs < W.heap.size := by omega
 rw [hW]
 have HV := hidS hV
 have HBX := (show Hid (Bx5 V w.heap.size _ _ _ _ _ _ _ _ _ _ _ _ _ _ _) from BX)
 have HKV : Hid (Below w.heap.size w V) := KV
 clear hW hV BX KV kW
 go_region
 rw [HV.out]
 rw [zW.out]
 clear q0 q1 q2 q3 q4 q5 q6 q7 q8 y0 y1 y2 y3 y4 c0 k0 k1 k2 k3 s0 s1 s2 s3 s4
 obtain ⟨m0, m1, m2, m3, x0, x1, a0, a1, a2, a3, e0, e1, e2, e3, t0, t1, t2, t3, t4, fm, fa, zV⟩ := HBX.out
 have l0 := (HKV.out.cell (p := ⟨gc, who, none⟩) zc).trans C0.out
 have l2 := (HKV.out.cell (p := ⟨gk, who * 4, none⟩) zk).trans K0.out
 have l3 := (HKV.out.cell (p := ⟨gk, who * 4 + 3, none⟩) zk).trans K3.out
 obtain ⟨vr, hvr⟩ : ∃ v, regs.getD r' 0 = v := ⟨_, rfl⟩
 have HVr := hidS hvr
 clear hvr
 have lr : V.cell? ⟨gr, r', none⟩ = some (.int .i64 vr) := by rw [← HVr.out]; exact (HKV.out.cell (p := ⟨gr, r', none⟩) zr).trans (RR.out r' (by omega))
 obtain ⟨va, hva⟩ : ∃ v, regs.getD a' 0 = v := ⟨_, rfl⟩
 have HVa := hidS hva
 clear hva
 have la : V.cell? ⟨gr, a', none⟩ = some (.int .i64 va) := by rw [← HVa.out]; exact (HKV.out.cell (p := ⟨gr, a', none⟩) zr).trans (RR.out a' (by omega))
 obtain ⟨vb, hvb⟩ : ∃ v, regs.getD b' 0 = v := ⟨_, rfl⟩
 have HVb := hidS hvb
 clear hvb
 have lb : V.cell? ⟨gr, b', none⟩ = some (.int .i64 vb) := by rw [← HVb.out]; exact (HKV.out.cell (p := ⟨gr, b', none⟩) zr).trans (RR.out b' (by omega))
 have f2 : ∀ j, V.frozen? ⟨gk, j, none⟩ = false := fun j => (HKV.out.frozen (p := ⟨gk, j, none⟩) zk).trans (FK.out j)
 have f3 : ∀ j, V.frozen? ⟨gr, j, none⟩ = false := fun j => (HKV.out.frozen (p := ⟨gr, j, none⟩) zr).trans (FR.out j)
 have v0 : w.heap.size < V.heap.size := by omega
 have v1 : w.heap.size + 1 < V.heap.size := by omega
 have v2 : w.heap.size + 1 + 1 < V.heap.size := by omega
 have v3 : w.heap.size + 1 + 1 + 1 < V.heap.size := by omega
 have v4 : gc < V.heap.size := by omega
 have v5 : gr < V.heap.size := by omega
 have v6 : gk < V.heap.size := by omega
 have w1 : IntKind.i64.wrap ((p : Int) + 1) = (p : Int) + 1 := Go.IntWalk.i64_in _ (by omega)
 have HQ := (show Hid _ from H.out.reg HX.out H8.out r' n)
 have LN : (LK.set who ⟨⟨p, regs.set r' n, vw, st_⟩, .slice (some ⟨gr, 0, none⟩) 8 cr, .slice (some ⟨gv, 0, none⟩) 24 cv⟩).length = LK.length := by rw [List.length_set]
 have HXN := set_at (y := ⟨⟨p, regs.set r' n, vw, st_⟩, .slice (some ⟨gr, 0, none⟩) 8 cr, .slice (some ⟨gv, 0, none⟩) 24 cv⟩) HX.out
 have HSZ := (show Hid ((w.setCell ⟨gr, r', none⟩ (.int .i64 n)).heap.size = w.heap.size) from by show _ = _; simp)
 have EQ : Hid (stepAt d who late ⟨p, regs, vw, st_⟩ code.length ⟨1, r', a', b', n⟩ = (goM (putK d who ⟨p, regs.set r' n, vw, st_⟩) who ⟨p, regs.set r' n, vw, st_⟩ code.length (p + 1), 0)) := by
  show _ = _
  rw [goM_put]
  rw [stepAt1 _ _ _ _ _ _ rfl]; unfold setR; simp only [Int.toNat_natCast]
 by_cases hin : (p : Int) + 1 < (code.length : Int)
 ·go_wp2_with fail
  refine bodyPost_ret (v := .tuple #[.agg #[.slice (some ⟨gc, 0, none⟩) d.codes.length cc, .slice (some ⟨gk, 0, none⟩) LK.length ck, .slice (some ⟨gO, 0, none⟩) d.mem.length cO, .slice st d.tr.length ct], .int .i64 0]) (by simp [results, Try.results35, go_sem, fa, a0, a1, a2, a3]) rfl ?_
  rw [EQ.out]
  have hsz := HSZ.out
  refine ⟨ex7 (HQ.out.go (n := code.length) LN HXN (p + 1) (by omega) (fun b hb1 => ?_) ?_) ?_, fun b9 hX1 => ?_⟩
  ·rw [hsz] at hb1; repeat' (first | with_reducible exact HKV.out.block b hb1 | (with_reducible refine (Below.heap_setCell _ ⟨w.heap.size + 1 + 1, _, none⟩ _ b (by show b ≠ w.heap.size + 1 + 1; omega)).trans ?_) | (with_reducible refine heap_pair ?_))
  ·rw [hsz]; simp; omega
  ·repeat' (first | with_reducible exact HKV.out.mono hb | (with_reducible refine Below.setCell ?_ (by first | exact br | exact bk | (show B ≤ w.heap.size + 1 + 1; omega)) _))
  ·have hX2 := H.out.lt hX1
   have hk9 : b9 ≠ gk := fun e => hX1 (e ▸ H.out.hh.k gk rfl)
   have hr9 : b9 ≠ gr := fun e => hX1 (e ▸ H.out.hh.ki who _ gr HX.out (.inl rfl))
   repeat' (first | with_reducible exact HKV.out.block b9 hX2 | (with_reducible refine (Below.heap_setCell _ ⟨_, _, none⟩ _ b9 (by first | (show b9 ≠ w.heap.size + 1 + 1; omega) | (show b9 ≠ gk; omega) | (show b9 ≠ gr; omega) | (show b9 ≠ w.heap.size; omega))).trans ?_) | (with_reducible refine (Below.heap_alloc _ _ _ (by simp; omega)).trans ?_))
 ·go_wp2_with fail
  refine bodyPost_ret (v := .tuple #[.agg #[.slice (some ⟨gc, 0, none⟩) d.codes.length cc, .slice (some ⟨gk, 0, none⟩) LK.length ck, .slice (some ⟨gO, 0, none⟩) d.mem.length cO, .slice st d.tr.length ct], .int .i64 0]) (by simp [results, Try.results35, go_sem, fa, a0, a1, a2, a3]) rfl ?_
  rw [EQ.out]
  have hsz := HSZ.out
  refine ⟨ex7 (HQ.out.no (n := code.length) LN HXN (p + 1) (by omega) (fun b hb1 => ?_) ?_) ?_, fun b9 hX1 => ?_⟩
  ·rw [hsz] at hb1; repeat' (first | with_reducible exact HKV.out.block b hb1 | (with_reducible refine (Below.heap_setCell _ ⟨w.heap.size + 1 + 1, _, none⟩ _ b (by show b ≠ w.heap.size + 1 + 1; omega)).trans ?_) | (with_reducible refine heap_pair ?_))
  ·rw [hsz]; simp; omega
  ·repeat' (first | with_reducible exact HKV.out.mono hb | (with_reducible refine Below.setCell ?_ (by first | exact br | exact bk | (show B ≤ w.heap.size + 1 + 1; omega)) _))
  ·have hX2 := H.out.lt hX1
   have hk9 : b9 ≠ gk := fun e => hX1 (e ▸ H.out.hh.k gk rfl)
   have hr9 : b9 ≠ gr := fun e => hX1 (e ▸ H.out.hh.ki who _ gr HX.out (.inl rfl))
   repeat' (first | with_reducible exact HKV.out.block b9 hX2 | (with_reducible refine (Below.heap_setCell _ ⟨_, _, none⟩ _ b9 (by first | (show b9 ≠ w.heap.size + 1 + 1; omega) | (show b9 ≠ gk; omega) | (show b9 ≠ gr; omega) | (show b9 ≠ w.heap.size; omega))).trans ?_) | (with_reducible refine (Below.heap_alloc _ _ _ (by simp; omega)).trans ?_))
end
end Go.Proofs.Ytepfpbcjklaenaa
