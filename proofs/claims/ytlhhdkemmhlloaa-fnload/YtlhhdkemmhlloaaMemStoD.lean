/- What Store leaves, as lists; hasRoom. No condition. -/
import Derived.Test.YtlhhdkemmhlloaaMemStore
namespace Go.Proofs.Ytlhhdkemmhlloaa
set_option linter.unusedSimpArgs false
set_option linter.unusedVariables false
set_option maxRecDepth 100000
open Go.RowKit

def canB (m : List (List WD)) (l : List Int) (cell : Int) : Bool := rightB m l cell && decide ((rowAt m cell).length < 4000)
def stoM (m : List (List WD)) (l : List Int) (cell v : Int) (b : Bool) : List (List WD) := if canB m l cell = true then m.set cell.toNat (rowAt m cell ++ [⟨v, toldL l cell.toNat (rowAt m cell).length b⟩]) else m
def stoW (m : List (List WD)) (l : List Int) (cell : Int) : List Int := if canB m l cell = true then l.set cell.toNat ((rowAt m cell).length : Int) else l
theorem rows_pos {m : List (List WD)} {l : List Int} {cell : Int} (h : rightB m l cell = true) : ∀ (i : Nat) (r : List WD), m[i]? = some r → 1 ≤ r.length := fun i r hr => by
  unfold rightB at h
  rw [Bool.and_eq_true, Bool.and_eq_true] at h
  have h1 := h.1.1
  unfold memB at h1
  rw [Bool.and_eq_true, List.all_eq_true] at h1
  have h4 := h1.2 r (List.mem_of_getElem? hr)
  unfold rowB at h4
  rw [Bool.and_eq_true, decide_eq_true_eq] at h4
  exact h4.1.1
theorem sto_yes {m : List (List WD)} {l : List Int} {k : Nat} {r : List WD} {v : Int} {b : Bool} (hr : Rt m l k r) (h : rightB m l k = true) (hn : r.length < 4000) : stoM m l k v b = m.set k (r ++ [⟨v, toldL l k r.length b⟩]) ∧ stoW m l k = l.set k (r.length : Int) := by
  have hc : canB m l k = true := by unfold canB; rw [h, hr.row, decide_eq_true hn]; rfl
  unfold stoM stoW
  rw [if_pos hc, if_pos hc, hr.row, Int.toNat_natCast]
  exact ⟨rfl, rfl⟩
theorem sto_no {m : List (List WD)} {l : List Int} {cell : Int} {v : Int} {b : Bool} (h : canB m l cell = false) : stoM m l cell v b = m ∧ stoW m l cell = l := by
  unfold stoM stoW
  rw [if_neg (by rw [h]; decide), if_neg (by rw [h]; decide)]
  exact ⟨rfl, rfl⟩

set_option maxHeartbeats 2000000 in
theorem hasRoom_any (s : Option Addr) (c lo hi : Nat) (m : List (List WD)) (k : Nat) (r : List WD) (w : World) (h : MemR w lo hi s m) (hB : hi ≤ w.heap.size) (hr : m[k]? = some r) :
    Calls Try.prog 28 #[.agg #[.slice s m.length c], .int .i64 k] w fun e w' => e = .returned (.bool (decide (r.length < 4000))) ∧ Below w.heap.size w w' := by
  obtain ⟨g, o, s1, c1, es, a1, a2, a3, -⟩ := h.row hr
  subst es
  have hk := (List.getElem?_eq_some_iff.1 hr).1
  have b0 : (0 : Int) ≤ (k : Int) := by omega
  have b1 : (k : Int) < (m.length : Int) := by omega
  have g1 : g < w.heap.size := by omega
  clear h hr
  by_cases hn : (r.length : Int) < 4000
  · have e : decide (r.length < 4000) = true := decide_eq_true (by omega)
    rw [e]
    go_enter Try.func28, Try.ntmps28
    go_wp2
    go_ret
    exact ⟨by simp [hn], (Below.refl _ _).alloc (Nat.le_refl _) _⟩
  · have e : decide (r.length < 4000) = false := decide_eq_false (by omega)
    rw [e]
    go_enter Try.func28, Try.ntmps28
    go_wp2
    go_ret
    exact ⟨by simp [hn], (Below.refl _ _).alloc (Nat.le_refl _) _⟩

end Go.Proofs.Ytlhhdkemmhlloaa
