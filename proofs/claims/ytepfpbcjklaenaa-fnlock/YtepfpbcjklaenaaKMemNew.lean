/- MemoryNew of the program and of the specification. No condition. -/
import Derived.Test.YtepfpbcjklaenaaKG00
import Derived.Test.YtepfpbcjklaenaaKG03
namespace Go.Proofs.Ytepfpbcjklaenaa
set_option linter.unusedSimpArgs false
set_option linter.unusedVariables false
set_option maxRecDepth 100000
open Go.RowKit
def zRow : List WD := [⟨0, List.replicate 24 0⟩]
def newM (k : Nat) : List (List WD) := List.replicate k zRow
theorem newM_len (k : Nat) : (newM k).length = k := by simp [newM]
theorem newM_succ (k : Nat) : newM (k + 1) = newM k ++ [zRow] := List.replicate_succ'
/- the three blocks of a new row -/
def W3 (w : World) : World := ((w.alloc (.cells (madeCells #[.int .i64 0] 24) 3)).alloc (.cells #[.int .i64 0, .slice (some ⟨w.heap.size, 0, none⟩) 24 24] 48)).alloc (.cells #[.slice (some ⟨w.heap.size + 1, 0, none⟩) 1 1] 44)
theorem W3_below (w : World) : Below w.heap.size w (W3 w) := (((Below.refl _ _).alloc (Nat.le_refl _) _).alloc (by simp) _).alloc (by simp; omega) _
theorem W3_size (w : World) : (W3 w).heap.size = w.heap.size + 3 := by simp [W3]
theorem W3_row (w : World) : RO (W3 w) w.heap.size (W3 w).heap.size ⟨some ⟨w.heap.size + 1, 0, none⟩, 1, [⟨some ⟨w.heap.size, 0, none⟩, 24, 24⟩]⟩ zRow := by
 have h := RO.push (w := W3 w) (w' := W3 w) (lo := w.heap.size) (hi := (W3 w).heap.size) (G := w.heap.size + 1) (O := 0) (c := 1) (vs := []) (l := []) ⟨some ⟨w.heap.size, 0, none⟩, 24, 24⟩ ⟨0, List.replicate 24 0⟩ (RO.nil _ _ _ _ _) ⟨by omega, by rw [W3_size]; omega⟩ (fun a _ _ => ⟨rfl, rfl⟩) (by simp [W3, go_sem]) (by simp [W3, go_sem]) (by simp [W3, go_sem]) ?_ ?_ (vAs_nodup (g := w.heap.size) (o := 0) rfl) (fun x hx => by simp at hx)
 ·exact h
 ·refine ⟨by simp, .inr ⟨w.heap.size, 0, rfl, Nat.le_refl _, by rw [W3_size]; omega, fun i hi' => ?_⟩⟩
  simp at hi'
  rw [Nat.zero_add]
  refine ⟨?_, by simp [W3, go_sem]⟩
  have e : (W3 w).cell? ⟨w.heap.size, i, none⟩ = (madeCells #[.int .i64 0] 24)[i]? := by simp [W3, go_sem]
  show _ = some (Value.int .i64 ((List.replicate 24 (0 : Int)).getD i 0))
  rw [e, ← Array.getElem?_toList, toList_madeCells_one, List.getElem?_replicate, if_pos hi', List.getD_eq_getElem?_getD, List.getElem?_replicate, if_pos hi']
  rfl
 ·intro a ha
  obtain ⟨i, -, rfl⟩ := mem_vAs.1 ha
  show w.heap.size ≠ w.heap.size + 1
  omega
set_option maxHeartbeats 2000000 in
theorem implNew_any (w : World) : Calls Try.prog 24 #[] w fun e w' => ∃ s c S, e = .returned (.agg #[.slice s 24 c]) ∧ MO w' w.heap.size w'.heap.size s S (newM 24) ∧ Below w.heap.size w w' := by
 have hmk : ∀ w : World, (Instr.makeSlice 41 (.int .i64 24) (.int .i64 24)).run Try.prog w = .ok (.slice (some ⟨w.heap.size, 0, none⟩) 24 24) (w.alloc (.cells (madeCells #[.int .i64 0] 24) 3)) := fun w => mkInt 24 (by omega) w
 go_enter Try.func24, Try.ntmps24
 go_wp2
 go_loopw [2] (fun i wr => ∃ (k : Nat) (v : Value) (S : List RS), k ≤ 24 ∧ i = .int .i64 k ∧ S.length = k ∧ OM wr (w.heap.size + 2) v S (newM k) ∧ wr.cell? ⟨w.heap.size + 1, 0, none⟩ = some v ∧ (wr.cell? ⟨w.heap.size, 0, none⟩).isSome = true ∧ (∀ j, wr.frozen? ⟨w.heap.size + 1, j, none⟩ = false) ∧ (∀ j, wr.frozen? ⟨w.heap.size, j, none⟩ = false) ∧ w.heap.size + 1 < wr.heap.size ∧ Below w.heap.size w wr) (fun i _ => 24 - (intOf i).toNat)
 case atStart => exact ⟨0, .slice none 0 0, [], Nat.zero_le _, rfl, rfl, OM.nil _ _, by simp [go_sem], by simp [go_sem], fun j => by simp [go_sem], fun j => by simp [go_sem], by simp, ((Below.refl _ _).alloc (Nat.le_refl _) _).alloc (by simp) _⟩
 case round =>
  obtain ⟨k, v, S, hk, rfl, hS, ho, c1, c0, f1, f0, hz, hb⟩ := hrel
  obtain ⟨s, c, hv, -⟩ := ho.mo
  rw [newM_len] at hv
  subst hv
  have HO : Hid (OM wr (w.heap.size + 2) (.slice s k c) S (newM k)) := ho
  have HB : Hid (Below w.heap.size w wr) := hb
  have HS : Hid (S.length = k) := hS
  have hzz : w.heap.size < wr.heap.size := by omega
  have hz2 : w.heap.size + 2 ≤ wr.heap.size := by omega
  obtain ⟨u0, c0'⟩ := Option.isSome_iff_exists.1 c0
  clear ho hb hS c0
  by_cases hlt : k < 24
  ·have b0 : (k : Int) < 24 := by omega
   go_wp2
   have HOX : Hid (OM (W3 wr.drew) (w.heap.size + 2) (.slice s k c) S (newM k)) := (HO.out.below (Below.drew (Below.refl _ _))).below (W3_below _)
   go_region_law (refine step_rowW rfl _ _ rfl (W3 wr.drew) (w.heap.size + 2) (.slice s k c) S.length (S.map RS.val) rfl HOX.out.row (wr.heap.size + 1 + 1) (.slice (some ⟨wr.heap.size + 1, 0, none⟩) 1 1) rfl rfl (by simp [W3, go_sem]) (by have := HS.out; omega) (by rw [W3_size]; show w.heap.size + 2 ≤ wr.heap.size + 3; omega) ?_; intro g1 cap1 w1 ho1 hg1 hn1 hl1; have hb1 : Below (w.heap.size + 2) wr w1 := ((Below.drew (Below.refl _ _)).trans ((W3_below wr.drew).mono (show w.heap.size + 2 ≤ wr.heap.size by omega))).trans (Below.grown (Below.refl _ _) hg1 (by rw [W3_size]; show w.heap.size + 2 ≤ wr.heap.size + 3; omega) (fun j hj => (World.ownsRow.lt HOX.out.row _ hj).1)); have t1 := (hb1.cell (p := ⟨w.heap.size + 1, 0, none⟩) (show w.heap.size + 1 < w.heap.size + 2 by omega)).trans c1; have t2 := (hb1.frozen (p := ⟨w.heap.size + 1, 0, none⟩) (show w.heap.size + 1 < w.heap.size + 2 by omega)).trans (f1 0); have HO1 := (show Hid _ from ho1); have HG1 := (show Hid _ from hg1); have HN1 := (show Hid _ from hn1); have HB1 := (show Hid _ from hb1); clear ho1 hg1 hn1 hb1)
   all_goals
    have HP := (HO.out.below (Below.drew (Below.refl _ _))).push _ zRow (W3_below _) (W3_row wr.drew) (show w.heap.size + 2 ≤ wr.heap.size by omega) HO1.out HG1.out HN1.out
    have HP1 : Hid (OM w1 (w.heap.size + 2) (.slice (some ⟨g1, 0, none⟩) (S.length + 1) cap1) (S ++ [⟨some ⟨wr.heap.size + 1, 0, none⟩, 1, [⟨some ⟨wr.heap.size, 0, none⟩, 24, 24⟩]⟩]) (newM (k + 1))) := by
     show OM _ _ _ _ _
     rw [newM_succ]
     have e : (S ++ [(⟨some ⟨wr.heap.size + 1, 0, none⟩, 1, [⟨some ⟨wr.heap.size, 0, none⟩, 24, 24⟩]⟩ : RS)]).length = S.length + 1 := by simp
     rw [← e]
     exact HP
    have t3 := (HB1.out.cell (p := ⟨w.heap.size, 0, none⟩) (show w.heap.size < w.heap.size + 2 by omega)).trans c0'
    have hz1 := HB1.out.size
    clear HP
    go_wp2
    go_roundw
    case rel =>
     refine ⟨k + 1, .slice (some ⟨g1, 0, none⟩) (S.length + 1) cap1, _, by omega, by go_num, by simp [HS.out], HP1.out.keepB (fun b hb => Below.heap_setCell _ _ _ b (by show b ≠ w.heap.size + 1; omega)) (by simp), setC_at (by rw [t1]; rfl), ?_, fun j => ?_, fun j => ?_, by simp; omega, ?_⟩
     ·rw [setC_blk (by omega), t3]; rfl
     ·rw [World.frozen?_setCell, HB1.out.frozen (p := ⟨w.heap.size + 1, j, none⟩) (show w.heap.size + 1 < w.heap.size + 2 by omega)]; exact f1 j
     ·rw [World.frozen?_setCell, HB1.out.frozen (p := ⟨w.heap.size, j, none⟩) (show w.heap.size < w.heap.size + 2 by omega)]; exact f0 j
     ·exact (HB.out.trans (HB1.out.mono (by omega))).setCell (p := ⟨w.heap.size + 1, 0, none⟩) (by show w.heap.size ≤ w.heap.size + 1; omega) _
    case measure => simp [intOf]; omega
  ·have e24 : k = 24 := by omega
   subst e24
   go_wp2
   obtain ⟨s', c', ev, hmo⟩ := HO.out.mo
   injection ev with e1 e2 e3
   subst e1
   refine bodyPost_ret (v := .agg #[.slice s 24 c]) (by simp [results, Try.results24, go_sem, c0']) rfl ⟨s, c, S, rfl, ?_, ?_⟩
   ·refine MO.mono (lo := w.heap.size + 2) (hi := wr.heap.size) ?_ (by omega) (by simp)
    exact hmo.keep (fun b h1 h2 => Below.heap_setCell _ _ _ b (by show b ≠ w.heap.size; omega))
   ·exact HB.out.setCell (p := ⟨w.heap.size, 0, none⟩) (Nat.le_refl _) _
set_option maxHeartbeats 2000000 in
theorem specNew_any (w : World) : Calls Try.prog 26 #[] w fun e w' => ∃ s c S, e = .returned (.agg #[.slice s 24 c]) ∧ MO w' w.heap.size w'.heap.size s S (newM 24) ∧ Below w.heap.size w w' := by
 have hmk : ∀ w : World, (Instr.makeSlice 41 (.int .i64 24) (.int .i64 24)).run Try.prog w = .ok (.slice (some ⟨w.heap.size, 0, none⟩) 24 24) (w.alloc (.cells (madeCells #[.int .i64 0] 24) 3)) := fun w => mkInt 24 (by omega) w
 go_enter Try.func26, Try.ntmps26
 go_wp2
 go_loopw [2] (fun i wr => ∃ (k : Nat) (v : Value) (S : List RS), k ≤ 24 ∧ i = .int .i64 k ∧ S.length = k ∧ OM wr (w.heap.size + 2) v S (newM k) ∧ wr.cell? ⟨w.heap.size + 1, 0, none⟩ = some v ∧ (wr.cell? ⟨w.heap.size, 0, none⟩).isSome = true ∧ (∀ j, wr.frozen? ⟨w.heap.size + 1, j, none⟩ = false) ∧ (∀ j, wr.frozen? ⟨w.heap.size, j, none⟩ = false) ∧ w.heap.size + 1 < wr.heap.size ∧ Below w.heap.size w wr) (fun i _ => 24 - (intOf i).toNat)
 case atStart => exact ⟨0, .slice none 0 0, [], Nat.zero_le _, rfl, rfl, OM.nil _ _, by simp [go_sem], by simp [go_sem], fun j => by simp [go_sem], fun j => by simp [go_sem], by simp, ((Below.refl _ _).alloc (Nat.le_refl _) _).alloc (by simp) _⟩
 case round =>
  obtain ⟨k, v, S, hk, rfl, hS, ho, c1, c0, f1, f0, hz, hb⟩ := hrel
  obtain ⟨s, c, hv, -⟩ := ho.mo
  rw [newM_len] at hv
  subst hv
  have HO : Hid (OM wr (w.heap.size + 2) (.slice s k c) S (newM k)) := ho
  have HB : Hid (Below w.heap.size w wr) := hb
  have HS : Hid (S.length = k) := hS
  have hzz : w.heap.size < wr.heap.size := by omega
  have hz2 : w.heap.size + 2 ≤ wr.heap.size := by omega
  obtain ⟨u0, c0'⟩ := Option.isSome_iff_exists.1 c0
  clear ho hb hS c0
  by_cases hlt : k < 24
  ·have b0 : (k : Int) < 24 := by omega
   go_wp2
   have HOX : Hid (OM (W3 wr.drew) (w.heap.size + 2) (.slice s k c) S (newM k)) := (HO.out.below (Below.drew (Below.refl _ _))).below (W3_below _)
   go_region_law (refine step_rowW rfl _ _ rfl (W3 wr.drew) (w.heap.size + 2) (.slice s k c) S.length (S.map RS.val) rfl HOX.out.row (wr.heap.size + 1 + 1) (.slice (some ⟨wr.heap.size + 1, 0, none⟩) 1 1) rfl rfl (by simp [W3, go_sem]) (by have := HS.out; omega) (by rw [W3_size]; show w.heap.size + 2 ≤ wr.heap.size + 3; omega) ?_; intro g1 cap1 w1 ho1 hg1 hn1 hl1; have hb1 : Below (w.heap.size + 2) wr w1 := ((Below.drew (Below.refl _ _)).trans ((W3_below wr.drew).mono (show w.heap.size + 2 ≤ wr.heap.size by omega))).trans (Below.grown (Below.refl _ _) hg1 (by rw [W3_size]; show w.heap.size + 2 ≤ wr.heap.size + 3; omega) (fun j hj => (World.ownsRow.lt HOX.out.row _ hj).1)); have t1 := (hb1.cell (p := ⟨w.heap.size + 1, 0, none⟩) (show w.heap.size + 1 < w.heap.size + 2 by omega)).trans c1; have t2 := (hb1.frozen (p := ⟨w.heap.size + 1, 0, none⟩) (show w.heap.size + 1 < w.heap.size + 2 by omega)).trans (f1 0); have HO1 := (show Hid _ from ho1); have HG1 := (show Hid _ from hg1); have HN1 := (show Hid _ from hn1); have HB1 := (show Hid _ from hb1); clear ho1 hg1 hn1 hb1)
   all_goals
    have HP := (HO.out.below (Below.drew (Below.refl _ _))).push _ zRow (W3_below _) (W3_row wr.drew) (show w.heap.size + 2 ≤ wr.heap.size by omega) HO1.out HG1.out HN1.out
    have HP1 : Hid (OM w1 (w.heap.size + 2) (.slice (some ⟨g1, 0, none⟩) (S.length + 1) cap1) (S ++ [⟨some ⟨wr.heap.size + 1, 0, none⟩, 1, [⟨some ⟨wr.heap.size, 0, none⟩, 24, 24⟩]⟩]) (newM (k + 1))) := by
     show OM _ _ _ _ _
     rw [newM_succ]
     have e : (S ++ [(⟨some ⟨wr.heap.size + 1, 0, none⟩, 1, [⟨some ⟨wr.heap.size, 0, none⟩, 24, 24⟩]⟩ : RS)]).length = S.length + 1 := by simp
     rw [← e]
     exact HP
    have t3 := (HB1.out.cell (p := ⟨w.heap.size, 0, none⟩) (show w.heap.size < w.heap.size + 2 by omega)).trans c0'
    have hz1 := HB1.out.size
    clear HP
    go_wp2
    go_roundw
    case rel =>
     refine ⟨k + 1, .slice (some ⟨g1, 0, none⟩) (S.length + 1) cap1, _, by omega, by go_num, by simp [HS.out], HP1.out.keepB (fun b hb => Below.heap_setCell _ _ _ b (by show b ≠ w.heap.size + 1; omega)) (by simp), setC_at (by rw [t1]; rfl), ?_, fun j => ?_, fun j => ?_, by simp; omega, ?_⟩
     ·rw [setC_blk (by omega), t3]; rfl
     ·rw [World.frozen?_setCell, HB1.out.frozen (p := ⟨w.heap.size + 1, j, none⟩) (show w.heap.size + 1 < w.heap.size + 2 by omega)]; exact f1 j
     ·rw [World.frozen?_setCell, HB1.out.frozen (p := ⟨w.heap.size, j, none⟩) (show w.heap.size < w.heap.size + 2 by omega)]; exact f0 j
     ·exact (HB.out.trans (HB1.out.mono (by omega))).setCell (p := ⟨w.heap.size + 1, 0, none⟩) (by show w.heap.size ≤ w.heap.size + 1; omega) _
    case measure => simp [intOf]; omega
  ·have e24 : k = 24 := by omega
   subst e24
   go_wp2
   obtain ⟨s', c', ev, hmo⟩ := HO.out.mo
   injection ev with e1 e2 e3
   subst e1
   refine bodyPost_ret (v := .agg #[.slice s 24 c]) (by simp [results, Try.results26, go_sem, c0']) rfl ⟨s, c, S, rfl, ?_, ?_⟩
   ·refine MO.mono (lo := w.heap.size + 2) (hi := wr.heap.size) ?_ (by omega) (by simp)
    exact hmo.keep (fun b h1 h2 => Below.heap_setCell _ _ _ b (by show b ≠ w.heap.size; omega))
   ·exact HB.out.setCell (p := ⟨w.heap.size, 0, none⟩) (Nat.le_refl _) _
end Go.Proofs.Ytepfpbcjklaenaa
