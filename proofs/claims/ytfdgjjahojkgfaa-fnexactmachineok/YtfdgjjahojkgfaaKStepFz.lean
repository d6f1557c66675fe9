/- How the laws copy a list of steps into new memory that may be written. Conditions: lists of at most 1048576 steps. -/
import Derived.Test.YtfdgjjahojkgfaaKDefs
namespace Go.Proofs.Ytfdgjjahojkgfaa
set_option linter.unusedSimpArgs false
set_option linter.unusedVariables false
set_option maxRecDepth 100000
open Go.RowKit

set_option maxHeartbeats 400000 in
theorem toStepS_fz (g off c : Nat) (l : List I5) (w : World) (hg : g < w.heap.size) (hl : l.length ≤ 1048576) (hc : ∀ i, i < l.length → At5 w g (off + i * 5) (l.getD i z5)) :
    Calls Try.prog 38 #[.slice (some ⟨g, off, none⟩) l.length c] w fun e w' => e = .returned (.slice (some ⟨w.heap.size, 0, none⟩) l.length l.length) ∧ Below w.heap.size w w' ∧ w.heap.size < w'.heap.size ∧ (∀ i, i < l.length → At5 w' w.heap.size (0 + i * 5) (l.getD i z5)) ∧ ∀ j, j < l.length * 5 → w'.frozen? ⟨w.heap.size, j, none⟩ = false := by
  have hmk := mk25 l.length hl
  have HC : Hid (∀ i, i < l.length → At5 w g (off + i * 5) (l.getD i z5)) := hc
  clear hc
  go_enter Try.func38, Try.ntmps38
  go_wp2
  clear hmk
  go_loopw [4] (fun i wr => ∃ k : Nat, k ≤ l.length ∧ i = .int .i64 k ∧ Below w.heap.size w wr ∧ w.heap.size < wr.heap.size ∧ (∀ j, j < l.length * 5 → (wr.cell? ⟨w.heap.size, j, none⟩).isSome = true) ∧ (∀ j, j < l.length * 5 → wr.frozen? ⟨w.heap.size, j, none⟩ = false) ∧ (∀ i, i < k → At5 wr w.heap.size (0 + i * 5) (l.getD i z5))) (fun i _ => l.length - (intOf i).toNat)
  case atStart => exact ⟨0, Nat.zero_le _, rfl, (Below.refl _ _).alloc (Nat.le_refl _) _, by simp, fun j hj => new_cell (by rw [size_madeCells]; exact hj), fun j hj => new_frozen, fun i hi => absurd hi (Nat.not_lt_zero _)⟩
  case round =>
    obtain ⟨k, hk, rfl, hb, hsz, hso, hfz, hdone⟩ := hrel
    have HB : Hid (Below w.heap.size w wr) := hb
    have HSO : Hid (∀ j, j < l.length * 5 → (wr.cell? ⟨w.heap.size, j, none⟩).isSome = true) := hso
    have HFZ : Hid (∀ j, j < l.length * 5 → wr.frozen? ⟨w.heap.size, j, none⟩ = false) := hfz
    have HD : Hid (∀ i, i < k → At5 wr w.heap.size (0 + i * 5) (l.getD i z5)) := hdone
    clear hb hso hfz hdone
    by_cases hlt : k < l.length
    · obtain ⟨f0, f1, f2, f3, f4⟩ := (HC.out k hlt).keep HB.out hg
      generalize hx : l.getD k z5 = x at f0 f1 f2 f3 f4
      have HX : Hid (l.getD k z5 = x) := hx
      clear hx
      obtain ⟨xo, xr, xa, xb, xn⟩ := x
      have b0 : (0 : Int) ≤ (k : Int) := by omega
      have b1 : (k : Int) < (l.length : Int) := by omega
      go_wp2_with fail
      refine (toStep_any _ _ _ _ _ _).mono ?_
      rintro e w1 ⟨rfl, hb1⟩
      have HB1 : Hid (Below wr.heap.size wr w1) := hb1
      clear hb1 f0 f1 f2 f3 f4
      have C : ∀ j, j < 5 → ∃ u, w1.cell? ⟨w.heap.size, k * 5 + j, none⟩ = some u := fun j hj => by
        rw [HB1.out.cell (p := ⟨w.heap.size, k * 5 + j, none⟩) hsz]
        exact Option.isSome_iff_exists.1 (HSO.out (k * 5 + j) (by omega))
      have Z : ∀ j, j < 5 → w1.frozen? ⟨w.heap.size, k * 5 + j, none⟩ = false := fun j hj => by
        rw [HB1.out.frozen (p := ⟨w.heap.size, k * 5 + j, none⟩) hsz]
        exact HFZ.out (k * 5 + j) (by omega)
      obtain ⟨u0, g0⟩ := C 0 (by omega)
      obtain ⟨u1, g1⟩ := C 1 (by omega)
      obtain ⟨u2, g2⟩ := C 2 (by omega)
      obtain ⟨u3, g3⟩ := C 3 (by omega)
      obtain ⟨u4, g4⟩ := C 4 (by omega)
      have z0 := Z 0 (by omega)
      have z1 := Z 1 (by omega)
      have z2 := Z 2 (by omega)
      have z3 := Z 3 (by omega)
      have z4 := Z 4 (by omega)
      rw [Nat.add_zero] at g0 z0
      clear C Z
      go_wp2
      go_roundw
      case rel =>
        show ∃ k' : Nat, _ ∧ _ ∧ Below w.heap.size w (set5 w1 w.heap.size (k * 5) ⟨xo, xr, xa, xb, xn⟩) ∧ _ < (set5 w1 w.heap.size (k * 5) ⟨xo, xr, xa, xb, xn⟩).heap.size ∧ (∀ j, _ → ((set5 w1 w.heap.size (k * 5) ⟨xo, xr, xa, xb, xn⟩).cell? _).isSome = true) ∧ (∀ j, _ → (set5 w1 w.heap.size (k * 5) ⟨xo, xr, xa, xb, xn⟩).frozen? _ = false) ∧ (∀ i, _ → At5 (set5 w1 w.heap.size (k * 5) ⟨xo, xr, xa, xb, xn⟩) _ _ _)
        have hs1 := HB1.out.size
        refine ⟨k + 1, by omega, by go_num, set5_below (HB.out.trans (HB1.out.mono (by omega))) (Nat.le_refl _), by rw [set5_size]; omega, ?_, ?_, ?_⟩
        · intro j hj
          refine set5_some ?_
          rw [HB1.out.cell (p := ⟨w.heap.size, j, none⟩) hsz]
          exact HSO.out j hj
        · intro j hj
          rw [set5_frozen, HB1.out.frozen (p := ⟨w.heap.size, j, none⟩) hsz]
          exact HFZ.out j hj
        · intro i hi
          by_cases e : i = k
          · subst e
            rw [HX.out, Nat.zero_add]
            exact set5_at (by rw [g0]; rfl) (by rw [g1]; rfl) (by rw [g2]; rfl) (by rw [g3]; rfl) (by rw [g4]; rfl)
          · exact ((HD.out i (by omega)).keep HB1.out hsz).set5_off (by omega)
      case measure => simp [intOf]; omega
    · go_wp2
      go_ret
      have : k = l.length := by omega
      subst this
      exact ⟨rfl, HB.out, hsz, HD.out, HFZ.out⟩


end Go.Proofs.Ytfdgjjahojkgfaa
