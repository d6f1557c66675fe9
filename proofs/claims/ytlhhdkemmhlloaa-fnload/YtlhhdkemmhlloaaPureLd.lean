/- What holds of what is read of a memory that is right. No condition. -/
import Derived.Test.YtlhhdkemmhlloaaPureSw
namespace Go.Proofs.Ytlhhdkemmhlloaa
set_option linter.unusedSimpArgs false
set_option linter.unusedVariables false
set_option maxRecDepth 100000

theorem load_facts {m : List (List WD)} {l : List Int} {cell late : Int} {hold : Bool} (h : rightB m l cell = true) : ∃ (k : Nat) (r : List WD) (j : Nat) (x : WD) (a : Nat), cell = k ∧ Rt m l k r ∧ r[j]? = some x ∧ loadV m l k late = x.v ∧ l.getD k 0 = (a : Int) ∧ a ≤ j ∧ knowsB (loadW m l k late hold) l = true ∧ viewB m (loadW m l k late hold) = true ∧ (late ≤ 0 → j = r.length - 1) := by
  obtain ⟨hm, hv, c0, c1⟩ := right_parts h
  obtain ⟨k, r, rfl, hrt⟩ := right_of h
  obtain ⟨j, x, e1, e2, e3, e4, e5⟩ := hrt.at' late
  obtain ⟨a, ha⟩ := Int.eq_ofNat_of_zero_le hrt.v0
  have hjl : l.getD k 0 ≤ (j : Int) := by rw [← e5]; exact mx_left _ _
  have hrow0 : (m.getD k []).length = r.length := by simp [List.getD, hrt.hr]
  have hxv : viewB m x.vw = true := ((memB_iff.1 hm).2 r (List.mem_of_getElem? hrt.hr)).2 x (List.mem_of_getElem? e3)
  have hset : viewB m (l.set k (j : Int)) = true := viewB_at hv (by rw [hrow0]; omega)
  have hload := loadW_yes (j := j) (hold := hold) h e1 e4
  refine ⟨k, r, j, x, a, rfl, hrt, e3, loadV_yes (j := j) h e4, ha, by omega, ?_, ?_, fun hl => ?_⟩
  · rw [hload]
    split
    · refine knows_trans (knows_join (l.set k (j : Int)) x.vw ?_) (knows_set hjl)
      rw [List.length_set, hrt.hl, (viewB_iff.1 hxv).1, hrt.hm]
    · exact knows_set hjl
  · rw [hload]
    split
    · exact viewB_join hset hxv
    · exact hset
  · have h1 := hrt.v1
    have h2 := hrt.n1
    have e : mx late 0 = 0 := by unfold mx; split <;> omega
    rw [e] at e5
    unfold mx at e5
    split at e5 <;> omega
def tB (r : List WD) (q : Int) (a i : Nat) : Bool := ((r.take i).drop a).any (fun x => x.v == q)
theorem tB_start (r : List WD) (q : Int) (a : Nat) : tB r q a a = false := by
  unfold tB
  have e : (r.take a).drop a = [] := by rw [List.drop_eq_nil_iff]; simp; omega
  rw [e]
  rfl
theorem tB_step {r : List WD} {q : Int} {a i : Nat} {x : WD} (h : r[i]? = some x) (ha : a ≤ i) : tB r q a (i + 1) = (tB r q a i || (x.v == q)) := by
  have hi := (List.getElem?_eq_some_iff.1 h).1
  unfold tB
  rw [List.take_add_one, h, List.drop_append]
  have e : a - (r.take i).length = 0 := by simp; omega
  rw [e]
  simp
theorem tB_end {r : List WD} {q : Int} {a j : Nat} {x : WD} (h : r[j]? = some x) (ha : a ≤ j) (hx : x.v = q) : tB r q a r.length = true := by
  unfold tB
  rw [List.any_eq_true]
  refine ⟨x, ?_, by simp [hx]⟩
  rw [List.take_length]
  have : (r.drop a)[j - a]? = some x := by rw [List.getElem?_drop]; rw [show a + (j - a) = j by omega]; exact h
  exact List.mem_of_getElem? this

end Go.Proofs.Ytlhhdkemmhlloaa
