/- Views joined and held against each other, as lists: what FnViews asks. No condition. -/
import Derived.Test.YtlhhdkemmhlloaaViews
namespace Go.Proofs.Ytlhhdkemmhlloaa
set_option linter.unusedSimpArgs false
set_option linter.unusedVariables false
set_option maxRecDepth 100000

theorem mxC (a b : Int) : mx a b = mx b a := by unfold mx; split <;> split <;> omega
theorem mx_left (a b : Int) : a ≤ mx a b := by unfold mx; split <;> omega
theorem mx_of_le {a b : Int} (h : b ≤ a) : mx a b = a := by unfold mx; split <;> omega
theorem joinL_comm : ∀ (a b : List Int), joinL a b = joinL b a
  | [], [] => rfl
  | [], _ :: _ => rfl
  | _ :: _, [] => rfl
  | a :: l, b :: r => by
    have h := joinL_comm l r
    simp only [joinL] at h ⊢
    rw [List.zipWith_cons_cons, List.zipWith_cons_cons, mxC, h]
theorem knowsB_iff {a b : List Int} : knowsB a b = true ↔ a.length = b.length ∧ ∀ i, i < a.length → b.getD i 0 ≤ a.getD i 0 := by unfold knowsB; rw [decide_eq_true_iff]
theorem knowsB_refl (a : List Int) : knowsB a a = true := knowsB_iff.2 ⟨rfl, fun _ _ => Int.le_refl _⟩
theorem knowsB_len {a b : List Int} (h : a.length ≠ b.length) : knowsB a b = false := by
  cases hk : knowsB a b with
  | false => rfl
  | true => exact absurd (knowsB_iff.1 hk).1 h
theorem joinL_getD (a b : List Int) (i : Nat) (h : i < a.length) (h' : i < b.length) : (joinL a b).getD i 0 = mx (a.getD i 0) (b.getD i 0) := by
  simp [joinL, List.getD_eq_getElem?_getD, List.getElem?_zipWith, h, h']
theorem knows_join (a b : List Int) (h : a.length = b.length) : knowsB (joinL a b) a = true := knowsB_iff.2 ⟨by rw [join_len]; omega, fun i hi => by
  rw [join_len] at hi
  rw [joinL_getD a b i (by omega) (by omega)]
  exact mx_left _ _⟩
theorem join_of_knows {a b : List Int} (h : knowsB a b = true) : joinL a b = a := by
  obtain ⟨h1, h2⟩ := knowsB_iff.1 h
  refine getD_eq_all _ _ (by rw [join_len]; omega) (fun i hi => ?_)
  rw [join_len] at hi
  rw [joinL_getD a b i (by omega) (by omega)]
  exact mx_of_le (h2 i (by omega))
theorem knows_both {a b : List Int} (h : knowsB a b = true) (h' : knowsB b a = true) : a = b := by
  obtain ⟨h1, h2⟩ := knowsB_iff.1 h
  obtain ⟨-, h4⟩ := knowsB_iff.1 h'
  exact getD_eq_all _ _ h1 (fun i hi => Int.le_antisymm (h4 i (by omega)) (h2 i hi))

end Go.Proofs.Ytlhhdkemmhlloaa
