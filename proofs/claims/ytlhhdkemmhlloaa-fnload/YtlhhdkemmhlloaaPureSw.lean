/- What holds of a memory that is right behind a swap. No condition. -/
import Derived.Test.YtlhhdkemmhlloaaPure6
namespace Go.Proofs.Ytlhhdkemmhlloaa
set_option linter.unusedSimpArgs false
set_option linter.unusedVariables false
set_option maxRecDepth 100000

theorem viewB_join {m : List (List WD)} {a b : List Int} (ha : viewB m a = true) (hb : viewB m b = true) : viewB m (joinL a b) = true := by
  obtain ⟨a1, a2⟩ := viewB_iff.1 ha
  obtain ⟨b1, b2⟩ := viewB_iff.1 hb
  have hl : (joinL a b).length = a.length := by rw [join_len, b1, a1]; simp
  refine viewB_iff.2 ⟨by rw [hl]; exact a1, fun i hi => ?_⟩
  rw [hl] at hi
  have h1 := a2 i hi
  have h2 := b2 i (by omega)
  rw [joinL_getD a b i hi (by omega)]
  unfold mx
  split <;> omega
theorem viewB_at {m : List (List WD)} {l : List Int} {k : Nat} {j : Nat} (h : viewB m l = true) (hj : (j : Int) < ((m.getD k []).length : Int)) : viewB m (l.set k (j : Int)) = true := by
  obtain ⟨a1, a2⟩ := viewB_iff.1 h
  refine viewB_iff.2 ⟨by rw [List.length_set]; exact a1, fun i hi => ?_⟩
  rw [List.length_set] at hi
  by_cases e : i = k
  · subst e
    have : (l.set i (j : Int)).getD i 0 = j := by simp [List.getD, List.getElem?_set_self hi]
    rw [this]
    omega
  · have e' : ¬ k = i := fun h => e h.symm
    have : (l.set k (j : Int)).getD i 0 = l.getD i 0 := by simp [List.getD, List.getElem?_set_ne e']
    rw [this]
    exact a2 i hi
theorem knows_trans {a b c : List Int} (h1 : knowsB a b = true) (h2 : knowsB b c = true) : knowsB a c = true := by
  obtain ⟨a1, a2⟩ := knowsB_iff.1 h1
  obtain ⟨b1, b2⟩ := knowsB_iff.1 h2
  refine knowsB_iff.2 ⟨by omega, fun i hi => Int.le_trans (b2 i (by omega)) (a2 i hi)⟩
theorem knows_set {l : List Int} {k : Nat} {j : Int} (h : l.getD k 0 ≤ j) : knowsB (l.set k j) l = true := by
  refine knowsB_iff.2 ⟨by simp, fun i hi => ?_⟩
  rw [List.length_set] at hi
  by_cases e : i = k
  · subst e
    have : (l.set i j).getD i 0 = j := by simp [List.getD, List.getElem?_set_self hi]
    rw [this]
    exact h
  · have e' : ¬ k = i := fun h => e h.symm
    have : (l.set k j).getD i 0 = l.getD i 0 := by simp [List.getD, List.getElem?_set_ne e']
    rw [this]
    exact Int.le_refl _
/- what is swapped in a memory that is right -/
theorem sw_facts {m : List (List WD)} {l : List Int} {cell : Int} (v : Int) (h : rightB m l cell = true) (hs : szR m ≤ 2024) : ∃ (k : Nat), cell = k ∧ k < 24 ∧ memB (swM m l k v) = true ∧ knowsB (swW m l k) l = true ∧ loadV (swM m l k v) (swW m l k) k 0 = v ∧ swV m l k = loadV m l k 0 := by
  obtain ⟨hm, hv, c0, c1⟩ := right_parts h
  obtain ⟨k, r, rfl, hrt⟩ := right_of h
  have hn : r.length < 4000 := by have := szR_at m k r hrt.hr; omega
  have hcan : canB m l k = true := by unfold canB; rw [h, hrt.row, decide_eq_true hn]; rfl
  obtain ⟨j, x, e1, e2, e3, e4, e5⟩ := hrt.at' 0
  have hload : loadW m l k 0 true = joinL (l.set k j) x.vw := by rw [loadW_yes (j := j) h e1 e4, if_pos rfl]
  have hrow0 : (m.getD k []).length = r.length := by simp [List.getD, hrt.hr]
  have hjl : l.getD k 0 ≤ (j : Int) := by rw [← e5]; exact mx_left _ _
  have hxv : viewB m x.vw = true := ((memB_iff.1 hm).2 r (List.mem_of_getElem? hrt.hr)).2 x (List.mem_of_getElem? e3)
  have hset : viewB m (l.set k (j : Int)) = true := viewB_at hv (by rw [hrow0]; omega)
  have hsl : viewB m (swL m l k) = true := by unfold swL; rw [hload]; exact viewB_join hset hxv
  have hlen : (swL m l k).length = 24 := by obtain ⟨a, -⟩ := viewB_iff.1 hsl; rw [a, hrt.hm]
  have hM : swM m l k v = m.set k (r ++ [⟨v, (swL m l k).set k (r.length : Int)⟩]) := by unfold swM; rw [if_pos hcan, hrt.row]; simp
  have hW : swW m l k = (swL m l k).set k (r.length : Int) := by unfold swW; rw [if_pos hcan, hrt.row]; simp
  have hview := viewB_now hrt.hr ⟨v, (swL m l k).set k (r.length : Int)⟩ hsl
  have hmem := memB_set hm hrt.hr hn ⟨v, (swL m l k).set k (r.length : Int)⟩ hview
  have hk : knowsB (swL m l k) l = true := by
    unfold swL
    rw [hload]
    refine knows_trans (knows_join (l.set k (j : Int)) x.vw ?_) (knows_set hjl)
    rw [List.length_set, hrt.hl, (viewB_iff.1 hxv).1, hrt.hm]
  have hlast : (swL m l k).getD k 0 ≤ (r.length : Int) := by
    have := ((viewB_iff.1 hsl).2 k (by rw [hlen]; exact hrt.hk)).2
    rw [hrow0] at this
    omega
  refine ⟨k, rfl, hrt.hk, by rw [hM]; exact hmem, by rw [hW]; exact knows_trans (knows_set hlast) hk, ?_, by unfold swV; rw [if_pos hcan]⟩
  rw [hM, hW]
  have hkm : k < m.length := (List.getElem?_eq_some_iff.1 hrt.hr).1
  have hkl : k < (swL m l k).length := by rw [hlen]; exact hrt.hk
  have hrow : rowAt (m.set k (r ++ [⟨v, (swL m l k).set k (r.length : Int)⟩])) (k : Int) = r ++ [⟨v, (swL m l k).set k (r.length : Int)⟩] := by
    unfold rowAt
    simp [List.getD, List.getElem?_set_self hkm]
  have hat : atL (m.set k (r ++ [⟨v, (swL m l k).set k (r.length : Int)⟩])) ((swL m l k).set k (r.length : Int)) k 0 = r.length := by
    unfold atL
    rw [hrow]
    have e : ((swL m l k).set k (r.length : Int)).getD (k : Int).toNat 0 = r.length := by simp [List.getD, List.getElem?_set_self hkl]
    rw [e, List.length_append]
    simp only [List.length_cons, List.length_nil]
    unfold mx
    split <;> split at * <;> omega
  have hright : rightB (m.set k (r ++ [⟨v, (swL m l k).set k (r.length : Int)⟩])) ((swL m l k).set k (r.length : Int)) k = true := by
    unfold rightB
    rw [hmem, hview, decide_eq_true ⟨c0, c1⟩]
    rfl
  unfold loadV
  rw [if_pos hright, hat]
  unfold wrAt
  rw [hrow]
  simp [List.getD]

end Go.Proofs.Ytlhhdkemmhlloaa
