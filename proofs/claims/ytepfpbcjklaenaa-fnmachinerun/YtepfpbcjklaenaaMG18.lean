/- MemoryNew of the program and of the specification. No condition. New cores put behind a row of them, and new machines. Conditions: fewer than 2^30 of them. -/
import Derived.Test.YtepfpbcjklaenaaMG00
import Derived.Test.YtepfpbcjklaenaaMG01
import Derived.Test.YtepfpbcjklaenaaMG05
import Derived.Test.YtepfpbcjklaenaaMG02
import Derived.Test.YtepfpbcjklaenaaMG07
import Derived.Test.YtepfpbcjklaenaaMG03
import Derived.Test.YtepfpbcjklaenaaMG17
import Derived.Test.YtepfpbcjklaenaaMG04
import Derived.Test.YtepfpbcjklaenaaMKOkB
namespace Go.Proofs.Ytepfpbcjklaenaa
section
set_option linter.unusedSimpArgs false
set_option linter.unusedVariables false
set_option maxRecDepth 100000
open Go.RowKit
def zRow : List WD := [⟨0, List.replicate 24 0⟩]
def newM (k : Nat) : List (List WD) := List.replicate k zRow
theorem newM_len (k : Nat) : (newM k).length = k := by simp [newM]
theorem newM_succ (k : Nat) : newM (k + 1) = newM k ++ [zRow] := List.replicate_succ'
/- the three blocks of a new row -/
def W3 (w : World) : World := ((w.alloc (.cells (madeCells #[.int .i64 0] 24) 3)).alloc (.cells #[.int .i64 0, .slice (some ⟨w.heap.size, 0, none⟩) 24 24] 48)).alloc (.cells #[.slice (some ⟨w.heap.size + 1, 0, none⟩) 1 1] 44)
theorem W3_below (w : World) : Below w.heap.size w (W3 w) := (((Below.refl _ _).alloc (Nat.le_refl _) _).alloc (by simp) _).alloc (by simp; omega) _
theorem W3_size (w : World) : (W3 w).heap.size = w.heap.size + 3 := by simp [W3]
theorem W3_row (w : World) : RO (W3 w) w.heap.size (W3 w).heap.size ⟨some ⟨w.heap.size + 1, 0, none⟩, 1, [⟨some ⟨w.heap.size, 0, none⟩, 24, 24⟩]⟩ zRow := by
 have h := RO.push (w := W3 w) (w' := W3 w) (lo := w.heap.size) (hi := (W3 w).heap.size) (G := w.heap.size + 1) (O := 0) (c := 1) (vs := []) (l := []) ⟨some ⟨w.heap.size, 0, none⟩, 24, 24⟩ ⟨0, List.replicate 24 0⟩ (RO.nil _ _ _ _ _) ⟨by omega, by rw [W3_size]; omega⟩ (fun a _ _ => ⟨rfl, rfl⟩) (by simp [W3, go_sem]) (by simp [W3, go_sem]) (by simp [W3, go_sem]) ?_ ?_ (vAs_nodup (g := w.heap.size) (o := 0) rfl) (fun x hx => by simp at hx)
 ·exact h
 ·refine ⟨by simp, .inr ⟨w.heap.size, 0, rfl, Nat.le_refl _, by rw [W3_size]; omega, fun i hi' => ?_⟩⟩
  simp at hi'
  rw [Nat.zero_add]
  refine ⟨?_, by simp [W3, go_sem]⟩
  have e : (W3 w).cell? ⟨w.heap.size, i, none⟩ = (madeCells #[.int .i64 0] 24)[i]? := by simp [W3, go_sem]
  show _ = some (Value.int .i64 ((List.replicate 24 (0 : Int)).getD i 0))
  rw [e, ← Array.getElem?_toList, toList_madeCells_one, List.getElem?_replicate, if_pos hi', List.getD_eq_getElem?_getD, List.getElem?_replicate, if_pos hi']
  rfl
 ·intro a ha
  obtain ⟨i, -, rfl⟩ := mem_vAs.1 ha
  show w.heap.size ≠ w.heap.size + 1
  omega
set_option maxHeartbeats 2000000 in
theorem implNew_any (w : World) : Calls Try.prog 24 #[] w fun e w' => ∃ s c S, e = .returned (.agg #[.slice s 24 c]) ∧ MO w' w.heap.size w'.heap.size s S (newM 24) ∧ Below w.heap.size w w' := by
 have hmk : ∀ w : World, (Instr.makeSlice 41 (.int .i64 24) (.int .i64 24)).run Try.prog w = .ok (.slice (some ⟨w.heap.size, 0, none⟩) 24 24) (w.alloc (.cells (madeCells #[.int .i64 0] 24) 3)) := fun w => mkInt 24 (by omega) w
 go_enter Try.func24, Try.ntmps24
 go_wp2
 go_loopw [2] (fun i wr => ∃ (k : Nat) (v : Value) (S : List RS), k ≤ 24 ∧ i = .int .i64 k ∧ S.length = k ∧ OM wr (w.heap.size + 2) v S (newM k) ∧ wr.cell? ⟨w.heap.size + 1, 0, none⟩ = some v ∧ (wr.cell? ⟨w.heap.size, 0, none⟩).isSome = true ∧ (∀ j, wr.frozen? ⟨w.heap.size + 1, j, none⟩ = false) ∧ (∀ j, wr.frozen? ⟨w.heap.size, j, none⟩ = false) ∧ w.heap.size + 1 < wr.heap.size ∧ Below w.heap.size w wr) (fun i _ => 24 - (intOf i).toNat)
 case atStart => exact ⟨0, .slice none 0 0, [], Nat.zero_le _, rfl, rfl, OM.nil _ _, by simp [go_sem], by simp [go_sem], fun j => by simp [go_sem], fun j => by simp [go_sem], by simp, ((Below.refl _ _).alloc (Nat.le_refl _) _).alloc (by simp) _⟩
 case round =>
  obtain ⟨k, v, S, hk, rfl, hS, ho, c1, c0, f1, f0, hz, hb⟩ := hrel
  obtain ⟨s, c, hv, -⟩ := ho.mo
  rw [newM_len] at hv
  subst hv
  have HO : Hid (OM wr (w.heap.size + 2) (.slice s k c) S (newM k)) := ho
  have HB : Hid (Below w.heap.size w wr) := hb
  have HS : Hid (S.length = k) := hS
  have hzz : w.heap.size < wr.heap.size := by omega
  have hz2 : w.heap.size + 2 ≤ wr.heap.size := by omega
  obtain ⟨u0, c0'⟩ := Option.isSome_iff_exists.1 c0
  clear ho hb hS c0
  by_cases hlt : k < 24
  ·have b0 : (k : Int) < 24 := by omega
   go_wp2
   have HOX : Hid (OM (W3 wr.drew) (w.heap.size + 2) (.slice s k c) S (newM k)) := (HO.out.below (Below.drew (Below.refl _ _))).below (W3_below _)
   go_region_law (refine step_rowW rfl _ _ rfl (W3 wr.drew) (w.heap.size + 2) (.slice s k c) S.length (S.map RS.val) rfl HOX.out.row (wr.heap.size + 1 + 1) (.slice (some ⟨wr.heap.size + 1, 0, none⟩) 1 1) rfl rfl (by simp [W3, go_sem]) (by have := HS.out; omega) (by rw [W3_size]; show w.heap.size + 2 ≤ wr.heap.size + 3; omega) ?_; intro g1 cap1 w1 ho1 hg1 hn1 hl1; have hb1 : Below (w.heap.size + 2) wr w1 := ((Below.drew (Below.refl _ _)).trans ((W3_below wr.drew).mono (show w.heap.size + 2 ≤ wr.heap.size by omega))).trans (Below.grown (Below.refl _ _) hg1 (by rw [W3_size]; show w.heap.size + 2 ≤ wr.heap.size + 3; omega) (fun j hj => (World.ownsRow.lt HOX.out.row _ hj).1)); have t1 := (hb1.cell (p := ⟨w.heap.size + 1, 0, none⟩) (show w.heap.size + 1 < w.heap.size + 2 by omega)).trans c1; have t2 := (hb1.frozen (p := ⟨w.heap.size + 1, 0, none⟩) (show w.heap.size + 1 < w.heap.size + 2 by omega)).trans (f1 0); have HO1 := (show Hid _ from ho1); have HG1 := (show Hid _ from hg1); have HN1 := (show Hid _ from hn1); have HB1 := (show Hid _ from hb1); clear ho1 hg1 hn1 hb1)
   all_goals
    have HP := (HO.out.below (Below.drew (Below.refl _ _))).push _ zRow (W3_below _) (W3_row wr.drew) (show w.heap.size + 2 ≤ wr.heap.size by omega) HO1.out HG1.out HN1.out
    have HP1 : Hid (OM w1 (w.heap.size + 2) (.slice (some ⟨g1, 0, none⟩) (S.length + 1) cap1) (S ++ [⟨some ⟨wr.heap.size + 1, 0, none⟩, 1, [⟨some ⟨wr.heap.size, 0, none⟩, 24, 24⟩]⟩]) (newM (k + 1))) := by
     show OM _ _ _ _ _
     rw [newM_succ]
     have e : (S ++ [(⟨some ⟨wr.heap.size + 1, 0, none⟩, 1, [⟨some ⟨wr.heap.size, 0, none⟩, 24, 24⟩]⟩ : RS)]).length = S.length + 1 := by simp
     rw [← e]
     exact HP
    have t3 := (HB1.out.cell (p := ⟨w.heap.size, 0, none⟩) (show w.heap.size < w.heap.size + 2 by omega)).trans c0'
    have hz1 := HB1.out.size
    clear HP
    go_wp2
    go_roundw
    case rel =>
     refine ⟨k + 1, .slice (some ⟨g1, 0, none⟩) (S.length + 1) cap1, _, by omega, by go_num, by simp [HS.out], HP1.out.keepB (fun b hb => Below.heap_setCell _ _ _ b (by show b ≠ w.heap.size + 1; omega)) (by simp), setC_at (by rw [t1]; rfl), ?_, fun j => ?_, fun j => ?_, by simp; omega, ?_⟩
     ·rw [setC_blk (by omega), t3]; rfl
     ·rw [World.frozen?_setCell, HB1.out.frozen (p := ⟨w.heap.size + 1, j, none⟩) (show w.heap.size + 1 < w.heap.size + 2 by omega)]; exact f1 j
     ·rw [World.frozen?_setCell, HB1.out.frozen (p := ⟨w.heap.size, j, none⟩) (show w.heap.size < w.heap.size + 2 by omega)]; exact f0 j
     ·exact (HB.out.trans (HB1.out.mono (by omega))).setCell (p := ⟨w.heap.size + 1, 0, none⟩) (by show w.heap.size ≤ w.heap.size + 1; omega) _
    case measure => simp [intOf]; omega
  ·have e24 : k = 24 := by omega
   subst e24
   go_wp2
   obtain ⟨s', c', ev, hmo⟩ := HO.out.mo
   injection ev with e1 e2 e3
   subst e1
   refine bodyPost_ret (v := .agg #[.slice s 24 c]) (by simp [results, Try.results24, go_sem, c0']) rfl ⟨s, c, S, rfl, ?_, ?_⟩
   ·refine MO.mono (lo := w.heap.size + 2) (hi := wr.heap.size) ?_ (by omega) (by simp)
    exact hmo.keep (fun b h1 h2 => Below.heap_setCell _ _ _ b (by show b ≠ w.heap.size; omega))
   ·exact HB.out.setCell (p := ⟨w.heap.size, 0, none⟩) (Nat.le_refl _) _
set_option maxHeartbeats 2000000 in
theorem specNew_any (w : World) : Calls Try.prog 26 #[] w fun e w' => ∃ s c S, e = .returned (.agg #[.slice s 24 c]) ∧ MO w' w.heap.size w'.heap.size s S (newM 24) ∧ Below w.heap.size w w' := by
 have hmk : ∀ w : World, (Instr.makeSlice 41 (.int .i64 24) (.int .i64 24)).run Try.prog w = .ok (.slice (some ⟨w.heap.size, 0, none⟩) 24 24) (w.alloc (.cells (madeCells #[.int .i64 0] 24) 3)) := fun w => mkInt 24 (by omega) w
 go_enter Try.func26, Try.ntmps26
 go_wp2
 go_loopw [2] (fun i wr => ∃ (k : Nat) (v : Value) (S : List RS), k ≤ 24 ∧ i = .int .i64 k ∧ S.length = k ∧ OM wr (w.heap.size + 2) v S (newM k) ∧ wr.cell? ⟨w.heap.size + 1, 0, none⟩ = some v ∧ (wr.cell? ⟨w.heap.size, 0, none⟩).isSome = true ∧ (∀ j, wr.frozen? ⟨w.heap.size + 1, j, none⟩ = false) ∧ (∀ j, wr.frozen? ⟨w.heap.size, j, none⟩ = false) ∧ w.heap.size + 1 < wr.heap.size ∧ Below w.heap.size w wr) (fun i _ => 24 - (intOf i).toNat)
 case atStart => exact ⟨0, .slice none 0 0, [], Nat.zero_le _, rfl, rfl, OM.nil _ _, by simp [go_sem], by simp [go_sem], fun j => by simp [go_sem], fun j => by simp [go_sem], by simp, ((Below.refl _ _).alloc (Nat.le_refl _) _).alloc (by simp) _⟩
 case round =>
  obtain ⟨k, v, S, hk, rfl, hS, ho, c1, c0, f1, f0, hz, hb⟩ := hrel
  obtain ⟨s, c, hv, -⟩ := ho.mo
  rw [newM_len] at hv
  subst hv
  have HO : Hid (OM wr (w.heap.size + 2) (.slice s k c) S (newM k)) := ho
  have HB : Hid (Below w.heap.size w wr) := hb
  have HS : Hid (S.length = k) := hS
  have hzz : w.heap.size < wr.heap.size := by omega
  have hz2 : w.heap.size + 2 ≤ wr.heap.size := by omega
  obtain ⟨u0, c0'⟩ := Option.isSome_iff_exists.1 c0
  clear ho hb hS c0
  by_cases hlt : k < 24
  ·have b0 : (k : Int) < 24 := by omega
   go_wp2
   have HOX : Hid (OM (W3 wr.drew) (w.heap.size + 2) (.slice s k c) S (newM k)) := (HO.out.below (Below.drew (Below.refl _ _))).below (W3_below _)
   go_region_law (refine step_rowW rfl _ _ rfl (W3 wr.drew) (w.heap.size + 2) (.slice s k c) S.length (S.map RS.val) rfl HOX.out.row (wr.heap.size + 1 + 1) (.slice (some ⟨wr.heap.size + 1, 0, none⟩) 1 1) rfl rfl (by simp [W3, go_sem]) (by have := HS.out; omega) (by rw [W3_size]; show w.heap.size + 2 ≤ wr.heap.size + 3; omega) ?_; intro g1 cap1 w1 ho1 hg1 hn1 hl1; have hb1 : Below (w.heap.size + 2) wr w1 := ((Below.drew (Below.refl _ _)).trans ((W3_below wr.drew).mono (show w.heap.size + 2 ≤ wr.heap.size by omega))).trans (Below.grown (Below.refl _ _) hg1 (by rw [W3_size]; show w.heap.size + 2 ≤ wr.heap.size + 3; omega) (fun j hj => (World.ownsRow.lt HOX.out.row _ hj).1)); have t1 := (hb1.cell (p := ⟨w.heap.size + 1, 0, none⟩) (show w.heap.size + 1 < w.heap.size + 2 by omega)).trans c1; have t2 := (hb1.frozen (p := ⟨w.heap.size + 1, 0, none⟩) (show w.heap.size + 1 < w.heap.size + 2 by omega)).trans (f1 0); have HO1 := (show Hid _ from ho1); have HG1 := (show Hid _ from hg1); have HN1 := (show Hid _ from hn1); have HB1 := (show Hid _ from hb1); clear ho1 hg1 hn1 hb1)
   all_goals
    have HP := (HO.out.below (Below.drew (Below.refl _ _))).push _ zRow (W3_below _) (W3_row wr.drew) (show w.heap.size + 2 ≤ wr.heap.size by omega) HO1.out HG1.out HN1.out
    have HP1 : Hid (OM w1 (w.heap.size + 2) (.slice (some ⟨g1, 0, none⟩) (S.length + 1) cap1) (S ++ [⟨some ⟨wr.heap.size + 1, 0, none⟩, 1, [⟨some ⟨wr.heap.size, 0, none⟩, 24, 24⟩]⟩]) (newM (k + 1))) := by
     show OM _ _ _ _ _
     rw [newM_succ]
     have e : (S ++ [(⟨some ⟨wr.heap.size + 1, 0, none⟩, 1, [⟨some ⟨wr.heap.size, 0, none⟩, 24, 24⟩]⟩ : RS)]).length = S.length + 1 := by simp
     rw [← e]
     exact HP
    have t3 := (HB1.out.cell (p := ⟨w.heap.size, 0, none⟩) (show w.heap.size < w.heap.size + 2 by omega)).trans c0'
    have hz1 := HB1.out.size
    clear HP
    go_wp2
    go_roundw
    case rel =>
     refine ⟨k + 1, .slice (some ⟨g1, 0, none⟩) (S.length + 1) cap1, _, by omega, by go_num, by simp [HS.out], HP1.out.keepB (fun b hb => Below.heap_setCell _ _ _ b (by show b ≠ w.heap.size + 1; omega)) (by simp), setC_at (by rw [t1]; rfl), ?_, fun j => ?_, fun j => ?_, by simp; omega, ?_⟩
     ·rw [setC_blk (by omega), t3]; rfl
     ·rw [World.frozen?_setCell, HB1.out.frozen (p := ⟨w.heap.size + 1, j, none⟩) (show w.heap.size + 1 < w.heap.size + 2 by omega)]; exact f1 j
     ·rw [World.frozen?_setCell, HB1.out.frozen (p := ⟨w.heap.size, j, none⟩) (show w.heap.size < w.heap.size + 2 by omega)]; exact f0 j
     ·exact (HB.out.trans (HB1.out.mono (by omega))).setCell (p := ⟨w.heap.size + 1, 0, none⟩) (by show w.heap.size ≤ w.heap.size + 1; omega) _
    case measure => simp [intOf]; omega
  ·have e24 : k = 24 := by omega
   subst e24
   go_wp2
   obtain ⟨s', c', ev, hmo⟩ := HO.out.mo
   injection ev with e1 e2 e3
   subst e1
   refine bodyPost_ret (v := .agg #[.slice s 24 c]) (by simp [results, Try.results26, go_sem, c0']) rfl ⟨s, c, S, rfl, ?_, ?_⟩
   ·refine MO.mono (lo := w.heap.size + 2) (hi := wr.heap.size) ?_ (by omega) (by simp)
    exact hmo.keep (fun b h1 h2 => Below.heap_setCell _ _ _ b (by show b ≠ w.heap.size; omega))
   ·exact HB.out.setCell (p := ⟨w.heap.size, 0, none⟩) (Nat.le_refl _) _
end
section
set_option linter.unusedSimpArgs false
set_option linter.unusedVariables false
set_option maxRecDepth 100000
open Go.RowKit
/- new cores -/
def zKD : KD := ⟨0, List.replicate 8 0, List.replicate 24 0, 0⟩
theorem made0 {w : World} {base n : Nat} (hb : base ≤ w.heap.size) (hn : n ≤ 1048576) : OwnN (w.alloc (.cells (madeCells #[.int .i64 0] n) 3)) base (.slice (some ⟨w.heap.size, 0, none⟩) n n) (List.replicate n 0) := by
 have h0 := World.ownsRow_lit (base := base) (e := 3) (size := 1) w (madeCells #[.int .i64 0] n) n hb (by unfold maxLen; omega) (by rw [size_madeCells, Nat.mul_one])
 rw [toList_madeCells_one] at h0
 show World.ownsRow _ _ _ _ _ _ _
 rw [List.length_replicate, List.map_replicate]
 exact h0
def WA (w : World) : World := (w.alloc (.cells (madeCells #[.int .i64 0] 8) 3)).alloc (.cells (madeCells #[.int .i64 0] 24) 3)
def WB (w : World) : World := (w.alloc (.cells (madeCells #[.int .i64 0] 24) 3)).alloc (.cells (madeCells #[.int .i64 0] 8) 3)
def yA (w : World) : KV := ⟨zKD, .slice (some ⟨w.heap.size, 0, none⟩) 8 8, .slice (some ⟨w.heap.size + 1, 0, none⟩) 24 24⟩
def yB (w : World) : KV := ⟨zKD, .slice (some ⟨w.heap.size + 1, 0, none⟩) 8 8, .slice (some ⟨w.heap.size, 0, none⟩) 24 24⟩
theorem WA_below (w : World) : Below w.heap.size w (WA w) := ((Below.refl _ _).alloc (Nat.le_refl _) _).alloc (by simp) _
theorem WB_below (w : World) : Below w.heap.size w (WB w) := ((Below.refl _ _).alloc (Nat.le_refl _) _).alloc (by simp) _
theorem WA_size (w : World) : (WA w).heap.size = w.heap.size + 2 := by simp [WA]
theorem WB_size (w : World) : (WB w).heap.size = w.heap.size + 2 := by simp [WB]
theorem WA_own {w : World} {base : Nat} (hb : base ≤ w.heap.size) : OwnN (WA w) base (yA w).r (yA w).d.regs ∧ OwnN (WA w) base (yA w).v (yA w).d.vw := by
 refine ⟨ownKeep' (made0 (n := 8) hb (by omega)) (fun k hk => Below.heap_alloc _ _ _ ?_), ?_⟩
 ·have hk2 : some w.heap.size = some k := hk
  injection hk2 with hk2
  simp
  omega
 ·have h := made0 (w := w.alloc (.cells (madeCells #[.int .i64 0] 8) 3)) (base := base) (n := 24) (by simp; omega) (by omega)
  rw [World.size_alloc] at h
  exact h
theorem WB_own {w : World} {base : Nat} (hb : base ≤ w.heap.size) : OwnN (WB w) base (yB w).r (yB w).d.regs ∧ OwnN (WB w) base (yB w).v (yB w).d.vw := by
 refine ⟨?_, ownKeep' (made0 (n := 24) hb (by omega)) (fun k hk => Below.heap_alloc _ _ _ ?_)⟩
 ·have h := made0 (w := w.alloc (.cells (madeCells #[.int .i64 0] 24) 3)) (base := base) (n := 8) (by simp; omega) (by omega)
  rw [World.size_alloc] at h
  exact h
 ·have hk2 : some w.heap.size = some k := hk
  injection hk2 with hk2
  simp
  omega
theorem new_sep {w : World} {base : Nat} {v : Value} {L : List KV} (h : OwnK w base v L) {y : KV} (hy : y = yA w ∨ y = yB w) : ∀ (i : Nat) (z : KV) (k : Nat), L[i]? = some z → (y.r.ownBlock = some k ∨ y.v.ownBlock = some k) → ¬ (z.r.ownBlock = some k ∨ z.v.ownBlock = some k) := fun i z k hz hk hk' => by
 have h1 : w.heap.size ≤ k := by
  rcases hy with rfl | rfl <;> rcases hk with hk | hk
  ·have e : some w.heap.size = some k := hk
   injection e with e; omega
  ·have e : some (w.heap.size + 1) = some k := hk
   injection e with e; omega
  ·have e : some (w.heap.size + 1) = some k := hk
   injection e with e; omega
  ·have e : some w.heap.size = some k := hk
   injection e with e; omega
 rcases hk' with hk' | hk'
 ·have := (World.ownsRow.lt (h.inn i z hz).1 _ hk').2
  omega
 ·have := (World.ownsRow.lt (h.inn i z hz).2 _ hk').2
  omega
theorem new_two {w : World} {y : KV} (hy : y = yA w ∨ y = yB w) : ∀ k, y.r.ownBlock = some k → y.v.ownBlock ≠ some k := fun k hk hk' => by
 rcases hy with rfl | rfl
 ·have e : some w.heap.size = some k := hk
  have e' : some (w.heap.size + 1) = some k := hk'
  injection e with e
  injection e' with e'
  omega
 ·have e : some (w.heap.size + 1) = some k := hk
  have e' : some w.heap.size = some k := hk'
  injection e with e
  injection e' with e'
  omega
def newMd (l : List (List I5)) : MD := ⟨l, List.replicate l.length zKD, newM 24, []⟩
def newMa (l : List (List I5)) : MD := if codesB l then newMd l else noMd
theorem view_new : viewB (newM 24) (List.replicate 24 0) = true := by decide +kernel
theorem mem_new : memB (newM 24) = true := by decide +kernel
theorem code_pos {x : List I5} (h : codeB x = true) : 1 ≤ x.length := by
 unfold codeB at h
 simp at h
 omega
theorem mach_new (l : List (List I5)) : machB (newMd l) = codesB l := by
 cases hc : codesB l with
 | false => unfold machB; simp [newMd, hc]
 | true =>
  have ha : l.all codeB = true := by unfold codesB at hc; simp at hc ⊢; exact hc.2
  have hz : coresB (newM 24) (List.replicate l.length zKD) l = true := by
   unfold coresB
   rw [decide_eq_true (by simp)]
   simp only [Bool.true_and]
   refine all_yes (fun i t ht => ?_)
   obtain ⟨h1, h2⟩ := List.getElem?_zip_eq_some.1 ht
   have e1 : t.1 = zKD := by
    rw [List.getElem?_replicate] at h1
    split at h1
    ·injection h1 with h1; exact h1.symm
    ·cases h1
   have hp := code_pos (List.all_eq_true.1 ha t.2 (List.mem_of_getElem? h2))
   unfold coreB
   rw [e1]
   simp only [zKD, List.length_replicate]
   rw [view_new]
   simp [Plain.inB, Plain.oneB]
   omega
  have ht : trB [] (List.replicate l.length zKD).length = true := by simp [trB]
  unfold machB
  simp only [newMd]
  rw [hc, hz, ht, mem_new]
  rfl
theorem szK_new : ∀ n, szK (List.replicate n zKD) = n * 32
 | 0 => rfl
 | n + 1 => by
  rw [List.replicate_succ]
  show zKD.regs.length + zKD.vw.length + szK (List.replicate n zKD) = (n + 1) * 32
  rw [szK_new n]
  show 8 + 24 + n * 32 = (n + 1) * 32
  omega
theorem szR_new : szR (newM 24) = 600 := by decide +kernel
theorem fits_new {l : List (List I5)} (h : l.length + szC l ≤ 1048576) (h4 : l.length ≤ 4) : MaFits (newMd l) := by
 refine ⟨h, ?_, ?_, by simp [newMd]⟩
 ·simp only [newMd, szK_new, List.length_replicate]
  omega
 ·simp only [newMd, szR_new, newM_len]
  omega
theorem MaO.of3 {w : World} {lo hi a1 b1 a2 b2 a3 b3 : Nat} {p : MP} {d : MD} (hc : GO w a1 b1 p.s1 TC p.RC (d.codes.map codeV)) (hm : MO w a2 b2 p.s3 p.S d.mem) (hk : GO w a3 b3 p.s2 TK p.RK (d.cores.map coreV)) (ht : d.tr = []) (l1 : lo ≤ a1) (l2 : b1 ≤ a2) (l3 : b2 ≤ a3) (l4 : b3 ≤ hi) (l5 : a1 ≤ b1 := by omega) (l6 : a2 ≤ b2 := by omega) (l7 : a3 ≤ b3 := by omega) : MaO w lo hi p d := by
 have hv : vAs (p.x4 d) = [] := by simp [MP.x4, VS.wide, vAs, ht]
 refine ⟨hc.mono (by omega) (by omega), hk.mono (by omega) (by omega), hm.mono (by omega) (by omega), ⟨by simp [MP.x4, VS.wide, ht, fl2], .inl (by simp [ht, fl2])⟩, ?_⟩
 unfold MP.as
 rw [hv, List.append_nil]
 refine List.nodup_append.2 ⟨hc.d, List.nodup_append.2 ⟨hk.d, hm.d, fun a ha b hb e => ?_⟩, fun a ha b hb e => ?_⟩
 ·subst e
  have := (hk.blk ha).1
  have := (hm.blk hb).2
  omega
 ·subst e
  have := (hc.blk ha).2
  rcases List.mem_append.1 hb with hb | hb
  ·have := (hk.blk hb).1
   omega
  ·have := (hm.blk hb).1
   omega
end
end Go.Proofs.Ytepfpbcjklaenaa
