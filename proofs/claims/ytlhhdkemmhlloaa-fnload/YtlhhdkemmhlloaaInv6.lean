/- What holds of every memory that chapter 6 draws: 24 rows with something in each, views of 24, and how much there is. No condition. -/
import Derived.Test.YtlhhdkemmhlloaaMemSwI
import Derived.Test.YtlhhdkemmhlloaaMemNew
namespace Go.Proofs.Ytlhhdkemmhlloaa
set_option linter.unusedSimpArgs false
set_option linter.unusedVariables false
set_option maxRecDepth 100000

def V24 (r : List WD) : Prop := 1 ≤ r.length ∧ ∀ x ∈ r, x.vw.length = 24
structure Inv6 (m : List (List WD)) (N : Nat) : Prop where
  n : m.length = 24
  r : ∀ r ∈ m, V24 r
  z : szR m ≤ N
theorem szV_app (x : WD) : ∀ l : List WD, szV (l ++ [x]) = szV l + x.vw.length
  | [] => by simp [szV]
  | y :: r => by simp [szV, szV_app x r]; omega
theorem szR_set (x : WD) : ∀ (m : List (List WD)) (k : Nat) (r : List WD), m[k]? = some r → szR (m.set k (r ++ [x])) = szR m + (1 + x.vw.length)
  | [], k, r, h => by simp at h
  | y :: t, 0, r, h => by
    simp at h
    subst h
    simp [szR, szV_app]
    omega
  | y :: t, k + 1, r, h => by
    simp at h
    have := szR_set x t k r h
    simp [szR, this]
    omega
theorem Inv6.set {m : List (List WD)} {N : Nat} (h : Inv6 m N) {k : Nat} {r : List WD} (hk : m[k]? = some r) (x : WD) (hx : x.vw.length = 24) : Inv6 (m.set k (r ++ [x])) (N + 25) := by
  refine ⟨by rw [List.length_set]; exact h.n, fun q hq => ?_, by rw [szR_set x m k r hk, hx]; have := h.z; omega⟩
  rcases List.mem_or_eq_of_mem_set hq with hq | rfl
  · exact h.r q hq
  · have hr := h.r r (List.mem_of_getElem? hk)
    refine ⟨by simp, fun y hy => ?_⟩
    simp at hy
    rcases hy with hy | rfl
    · exact hr.2 y hy
    · exact hx
theorem Inv6.up {m : List (List WD)} {N N' : Nat} (h : Inv6 m N) (hN : N ≤ N') : Inv6 m N' := ⟨h.n, h.r, Nat.le_trans h.z hN⟩
theorem Inv6.fits {m : List (List WD)} {N : Nat} (h : Inv6 m N) (hN : N ≤ 1000000) : MFits m := by
  have := h.n
  have := h.z
  unfold MFits
  omega
theorem told_len (l : List Int) (k n : Nat) (b : Bool) (hl : l.length = 24) : (toldL l k n b).length = 24 := by
  unfold toldL
  split <;> simp [hl]
theorem sto_inv {m : List (List WD)} {N : Nat} {l : List Int} (cell v : Int) (b : Bool) (h : Inv6 m N) (hl : l.length = 24) : Inv6 (stoM m l cell v b) (N + 25) ∧ (stoW m l cell).length = 24 := by
  by_cases hc : canB m l cell = true
  · have hr : rightB m l cell = true := by unfold canB at hc; rw [Bool.and_eq_true] at hc; exact hc.1
    obtain ⟨k, r, rfl, hrt⟩ := right_of hr
    unfold stoM stoW
    rw [if_pos hc, if_pos hc, hrt.row]
    exact ⟨h.set hrt.hr _ (told_len _ _ _ _ hl), by rw [List.length_set]; exact hl⟩
  · obtain ⟨e1, e2⟩ := sto_no (v := v) (b := b) (show canB m l cell = false by simpa using hc)
    rw [e1, e2]
    exact ⟨h.up (by omega), hl⟩
theorem load_len {m : List (List WD)} {N : Nat} {l : List Int} (cell late : Int) (hold : Bool) (h : Inv6 m N) (hl : l.length = 24) : (loadW m l cell late hold).length = 24 := by
  by_cases hr : rightB m l cell = true
  · obtain ⟨k, r, rfl, hrt⟩ := right_of hr
    obtain ⟨j, x, e1, e2, e3, e4, -⟩ := hrt.at' late
    rw [loadW_yes (j := j) hr e1 e4]
    have hx := (h.r r (List.mem_of_getElem? hrt.hr)).2 x (List.mem_of_getElem? e3)
    split
    · rw [join_len, List.length_set, hl, hx]; rfl
    · rw [List.length_set]; exact hl
  · unfold loadW
    rw [if_neg hr]
    exact hl
theorem sw_inv {m : List (List WD)} {N : Nat} {l : List Int} (cell v : Int) (h : Inv6 m N) (hl : l.length = 24) : Inv6 (swM m l cell v) (N + 25) ∧ (swW m l cell).length = 24 := by
  by_cases hc : canB m l cell = true
  · have hr : rightB m l cell = true := by unfold canB at hc; rw [Bool.and_eq_true] at hc; exact hc.1
    have hle := load_len (N := N) cell 0 true h hl
    obtain ⟨k, r, rfl, hrt⟩ := right_of hr
    unfold swM swW
    rw [if_pos hc, if_pos hc, hrt.row]
    exact ⟨h.set hrt.hr _ (by rw [List.length_set]; exact hle), by rw [List.length_set]; exact hle⟩
  · obtain ⟨e1, e2, e3⟩ := sw_no (v := v) (show canB m l cell = false by simpa using hc)
    rw [e1, e2]
    exact ⟨h.up (by omega), hl⟩
theorem new_inv : Inv6 (newM 24) 600 := by
  refine ⟨newM_len 24, fun r hr => ?_, ?_⟩
  · have e : r = zRow := List.eq_of_mem_replicate hr
    subst e
    exact ⟨by decide, fun x hx => by simp [zRow] at hx; subst hx; simp⟩
  · have e : szR (newM 24) = 600 := by kernel_rfl
    omega

end Go.Proofs.Ytlhhdkemmhlloaa
