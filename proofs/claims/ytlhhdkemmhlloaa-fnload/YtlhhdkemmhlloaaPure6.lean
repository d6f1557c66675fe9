/- What holds of a memory that is right behind a store or a swap. No condition. -/
import Derived.Test.YtlhhdkemmhlloaaInv6
import Derived.Test.YtlhhdkemmhlloaaViewsP
namespace Go.Proofs.Ytlhhdkemmhlloaa
set_option linter.unusedSimpArgs false
set_option linter.unusedVariables false
set_option maxRecDepth 100000

theorem viewB_iff {m : List (List WD)} {l : List Int} : viewB m l = true ↔ (l.length = m.length ∧ ∀ i, i < l.length → 0 ≤ l.getD i 0 ∧ l.getD i 0 < ((m.getD i []).length : Int)) := by
  unfold viewB
  rw [decide_eq_true_eq]
theorem rows_grow {m : List (List WD)} {k : Nat} {r : List WD} (hk : m[k]? = some r) (x : WD) (i : Nat) : (m.getD i []).length ≤ ((m.set k (r ++ [x])).getD i []).length ∧ (i = k → ((m.set k (r ++ [x])).getD i []).length = r.length + 1) ∧ (i ≠ k → ((m.set k (r ++ [x])).getD i []).length = (m.getD i []).length) := by
  have hlt := (List.getElem?_eq_some_iff.1 hk).1
  by_cases e : i = k
  · subst e
    simp [List.getD, hk, List.getElem?_set_self hlt]
  · have e' : ¬ k = i := fun h => e h.symm
    simp [List.getD, List.getElem?_set_ne e', e]
theorem viewB_set {m : List (List WD)} {k : Nat} {r : List WD} (hk : m[k]? = some r) (x : WD) {l : List Int} (h : viewB m l = true) : viewB (m.set k (r ++ [x])) l = true := by
  obtain ⟨h1, h2⟩ := viewB_iff.1 h
  refine viewB_iff.2 ⟨by rw [List.length_set]; exact h1, fun i hi => ?_⟩
  obtain ⟨a, b⟩ := h2 i hi
  have := (rows_grow hk x i).1
  exact ⟨a, by omega⟩
theorem viewB_now {m : List (List WD)} {k : Nat} {r : List WD} (hk : m[k]? = some r) (x : WD) {l : List Int} (h : viewB m l = true) : viewB (m.set k (r ++ [x])) (l.set k (r.length : Int)) = true := by
  obtain ⟨h1, h2⟩ := viewB_iff.1 h
  refine viewB_iff.2 ⟨by rw [List.length_set, List.length_set]; exact h1, fun i hi => ?_⟩
  rw [List.length_set] at hi
  obtain ⟨a, b⟩ := h2 i hi
  have g := rows_grow hk x i
  by_cases e : i = k
  · subst e
    rw [g.2.1 rfl]
    have : (l.set i (r.length : Int)).getD i 0 = r.length := by simp [List.getD, List.getElem?_set_self hi]
    rw [this]
    omega
  · have e' : ¬ k = i := fun h => e h.symm
    have : (l.set k (r.length : Int)).getD i 0 = l.getD i 0 := by simp [List.getD, List.getElem?_set_ne e']
    rw [this]
    exact ⟨a, by have := g.1; omega⟩
theorem memB_iff {m : List (List WD)} : memB m = true ↔ (m.length = 24 ∧ ∀ r ∈ m, (1 ≤ r.length ∧ r.length ≤ 4000) ∧ ∀ x ∈ r, viewB m x.vw = true) := by
  unfold memB rowB
  simp [List.all_eq_true]
theorem memB_set {m : List (List WD)} {k : Nat} {r : List WD} (h : memB m = true) (hk : m[k]? = some r) (hn : r.length < 4000) (x : WD) (hx : viewB (m.set k (r ++ [x])) x.vw = true) : memB (m.set k (r ++ [x])) = true := by
  obtain ⟨h1, h2⟩ := memB_iff.1 h
  refine memB_iff.2 ⟨by rw [List.length_set]; exact h1, fun q hq => ?_⟩
  rcases List.mem_or_eq_of_mem_set hq with hq | rfl
  · obtain ⟨a, b⟩ := h2 q hq
    exact ⟨a, fun y hy => viewB_set hk x (b y hy)⟩
  · obtain ⟨a, b⟩ := h2 r (List.mem_of_getElem? hk)
    refine ⟨by simp; omega, fun y hy => ?_⟩
    simp at hy
    rcases hy with hy | rfl
    · exact viewB_set hk x (b y hy)
    · exact hx
theorem zeros_view {m : List (List WD)} (h : memB m = true) : viewB m (List.replicate 24 0) = true := by
  obtain ⟨h1, h2⟩ := memB_iff.1 h
  refine viewB_iff.2 ⟨by rw [List.length_replicate, h1], fun i hi => ?_⟩
  rw [List.length_replicate] at hi
  have e : (List.replicate 24 (0 : Int)).getD i 0 = 0 := by rw [List.getD_eq_getElem?_getD, List.getElem?_replicate]; split <;> rfl
  have hm : i < m.length := by omega
  have := (h2 (m.getD i []) (by simp [List.getD, List.getElem?_eq_getElem hm])).1
  rw [e]
  omega
theorem right_parts {m : List (List WD)} {l : List Int} {cell : Int} (h : rightB m l cell = true) : memB m = true ∧ viewB m l = true ∧ 0 ≤ cell ∧ cell < 24 := by
  unfold rightB at h
  simp at h
  exact ⟨h.1.1, h.1.2, h.2.1, h.2.2⟩
theorem knows_now {m : List (List WD)} {l : List Int} {k : Nat} {r : List WD} (hr : Rt m l k r) : knowsB (l.set k (r.length : Int)) l = true := by
  refine knowsB_iff.2 ⟨by simp, fun i hi => ?_⟩
  rw [List.length_set] at hi
  by_cases e : i = k
  · subst e
    have : (l.set i (r.length : Int)).getD i 0 = r.length := by simp [List.getD, List.getElem?_set_self hi]
    rw [this]
    have := hr.v1
    omega
  · have e' : ¬ k = i := fun h => e h.symm
    have : (l.set k (r.length : Int)).getD i 0 = l.getD i 0 := by simp [List.getD, List.getElem?_set_ne e']
    rw [this]
    exact Int.le_refl _
/- what is stored in a memory that is right -/
theorem sto_facts {m : List (List WD)} {l : List Int} {cell : Int} (v : Int) (b : Bool) (late : Int) (h : rightB m l cell = true) (hs : szR m ≤ 2024) : ∃ (k : Nat) (r : List WD), cell = k ∧ Rt m l k r ∧ stoM m l k v b = m.set k (r ++ [⟨v, toldL l k r.length b⟩]) ∧ stoW m l k = l.set k (r.length : Int) ∧ memB (stoM m l k v b) = true ∧ knowsB (stoW m l k) l = true ∧ loadV (stoM m l k v b) (stoW m l k) k late = v := by
  obtain ⟨hm, hv, c0, c1⟩ := right_parts h
  obtain ⟨k, r, rfl, hrt⟩ := right_of h
  have hn : r.length < 4000 := by have := szR_at m k r hrt.hr; omega
  obtain ⟨e1, e2⟩ := sto_yes (v := v) (b := b) hrt h hn
  have hx : viewB (m.set k (r ++ [⟨v, toldL l k r.length b⟩])) (toldL l k r.length b) = true := by
    unfold toldL
    split
    · exact viewB_now hrt.hr _ hv
    · exact viewB_now hrt.hr _ (zeros_view hm)
  have hmem := memB_set hm hrt.hr hn _ hx
  have hview := viewB_now hrt.hr ⟨v, toldL l k r.length b⟩ hv
  refine ⟨k, r, rfl, hrt, e1, e2, by rw [e1]; exact hmem, by rw [e2]; exact knows_now hrt, ?_⟩
  rw [e1, e2]
  have hkm : k < m.length := (List.getElem?_eq_some_iff.1 hrt.hr).1
  have hkl : k < l.length := by rw [hrt.hl]; exact hrt.hk
  have hrow : rowAt (m.set k (r ++ [⟨v, toldL l k r.length b⟩])) (k : Int) = r ++ [⟨v, toldL l k r.length b⟩] := by
    unfold rowAt
    simp [List.getD, List.getElem?_set_self hkm]
  have hat : atL (m.set k (r ++ [⟨v, toldL l k r.length b⟩])) (l.set k (r.length : Int)) k late = r.length := by
    unfold atL
    rw [hrow]
    have e : (l.set k (r.length : Int)).getD (k : Int).toNat 0 = r.length := by simp [List.getD, List.getElem?_set_self hkl]
    rw [e, List.length_append]
    simp only [List.length_cons, List.length_nil]
    unfold mx
    split <;> split at * <;> omega
  have hright : rightB (m.set k (r ++ [⟨v, toldL l k r.length b⟩])) (l.set k (r.length : Int)) k = true := by
    unfold rightB
    rw [hmem, hview, decide_eq_true ⟨c0, c1⟩]
    rfl
  unfold loadV
  rw [if_pos hright, hat]
  unfold wrAt
  rw [hrow]
  simp [List.getD]

end Go.Proofs.Ytlhhdkemmhlloaa
