/- The specification's l2Put, at every kind of place. Condition: the list has three numbers at least. -/
import Derived.Test.YtajblippcnidiaaGreatDoorRead4
namespace Go.Proofs.YtajblippcnidiaaGreatDoor
set_option linter.unusedSimpArgs false
set_option linter.unusedVariables false
set_option maxRecDepth 100000
open Go.RowKit

def putX (q : Nat) (v0 v1 v2 : Int) : R5 := putF q [v0, v1, v2]
set_option maxHeartbeats 8000000 in
theorem l2Put_any (q : Nat) (hq : q < 14) (g m cap : Nat) (v0 v1 v2 : Int) (hm : 3 ≤ m) (w : World) (c0 : w.cell? ⟨g, 0, none⟩ = some (.int .i64 v0)) (c1 : w.cell? ⟨g, 1, none⟩ = some (.int .i64 v1)) (c2 : w.cell? ⟨g, 2, none⟩ = some (.int .i64 v2)) (hg : g < w.heap.size) :
    Calls Tryz.prog 66 #[.int .i64 q, .slice (some ⟨g, 0, none⟩) m cap] w fun e w' => e = .returned (.agg #[.int .i64 (putX q v0 v1 v2).o, .int .i64 (putX q v0 v1 v2).r, .int .i64 (putX q v0 v1 v2).a, .int .i64 (putX q v0 v1 v2).b, .int .i64 (putX q v0 v1 v2).n]) ∧ Below w.heap.size w w' := by
  have m0 : (0 : Int) < (m : Int) := by omega
  have m1 : (1 : Int) < (m : Int) := by omega
  have m2 : (2 : Int) < (m : Int) := by omega
  by_cases e0 : q = 0
  · subst e0
    have e : putX 0 v0 v1 v2 = ⟨0, 0, 0, 0, 0⟩ := rfl
    rw [e]
    clear e
    go_enter Tryz.func66, Tryz.ntmps66
    go_wp2
    exact bodyPost_ret (v := .agg #[.int .i64 0, .int .i64 0, .int .i64 0, .int .i64 0, .int .i64 0]) (by simp [results, Tryz.results66, go_sem]) rfl ⟨rfl, ((Below.refl _ _).alloc (Nat.le_refl _) _).alloc (by simp) _⟩
  by_cases e1 : q = 1
  · subst e1
    have e : putX 1 v0 v1 v2 = ⟨1, v0, 0, 0, v1⟩ := rfl
    rw [e]
    clear e
    go_enter Tryz.func66, Tryz.ntmps66
    go_wp2
    exact bodyPost_ret (v := .agg #[.int .i64 1, .int .i64 v0, .int .i64 0, .int .i64 0, .int .i64 v1]) (by simp [results, Tryz.results66, go_sem]) rfl ⟨rfl, ((Below.refl _ _).alloc (Nat.le_refl _) _).alloc (by simp) _⟩
  by_cases e2 : q = 2
  · subst e2
    have e : putX 2 v0 v1 v2 = ⟨2, v0, v1, v2, 0⟩ := rfl
    rw [e]
    clear e
    go_enter Tryz.func66, Tryz.ntmps66
    go_wp2
    exact bodyPost_ret (v := .agg #[.int .i64 2, .int .i64 v0, .int .i64 v1, .int .i64 v2, .int .i64 0]) (by simp [results, Tryz.results66, go_sem]) rfl ⟨rfl, ((Below.refl _ _).alloc (Nat.le_refl _) _).alloc (by simp) _⟩
  by_cases e3 : q = 3
  · subst e3
    have e : putX 3 v0 v1 v2 = ⟨3, v0, v1, v2, 0⟩ := rfl
    rw [e]
    clear e
    go_enter Tryz.func66, Tryz.ntmps66
    go_wp2
    exact bodyPost_ret (v := .agg #[.int .i64 3, .int .i64 v0, .int .i64 v1, .int .i64 v2, .int .i64 0]) (by simp [results, Tryz.results66, go_sem]) rfl ⟨rfl, ((Below.refl _ _).alloc (Nat.le_refl _) _).alloc (by simp) _⟩
  by_cases e4 : q = 4
  · subst e4
    have e : putX 4 v0 v1 v2 = ⟨4, v0, v1, v2, 0⟩ := rfl
    rw [e]
    clear e
    go_enter Tryz.func66, Tryz.ntmps66
    go_wp2
    exact bodyPost_ret (v := .agg #[.int .i64 4, .int .i64 v0, .int .i64 v1, .int .i64 v2, .int .i64 0]) (by simp [results, Tryz.results66, go_sem]) rfl ⟨rfl, ((Below.refl _ _).alloc (Nat.le_refl _) _).alloc (by simp) _⟩
  by_cases e5 : q = 5
  · subst e5
    have e : putX 5 v0 v1 v2 = ⟨5, 0, v1, 0, v0⟩ := rfl
    rw [e]
    clear e
    go_enter Tryz.func66, Tryz.ntmps66
    go_wp2
    exact bodyPost_ret (v := .agg #[.int .i64 5, .int .i64 0, .int .i64 v1, .int .i64 0, .int .i64 v0]) (by simp [results, Tryz.results66, go_sem]) rfl ⟨rfl, ((Below.refl _ _).alloc (Nat.le_refl _) _).alloc (by simp) _⟩
  by_cases e6 : q = 6
  · subst e6
    have e : putX 6 v0 v1 v2 = ⟨6, v0, 0, v1, v2⟩ := rfl
    rw [e]
    clear e
    go_enter Tryz.func66, Tryz.ntmps66
    go_wp2
    exact bodyPost_ret (v := .agg #[.int .i64 6, .int .i64 v0, .int .i64 0, .int .i64 v1, .int .i64 v2]) (by simp [results, Tryz.results66, go_sem]) rfl ⟨rfl, ((Below.refl _ _).alloc (Nat.le_refl _) _).alloc (by simp) _⟩
  by_cases e7 : q = 7
  · subst e7
    have e : putX 7 v0 v1 v2 = ⟨7, v0, v2, 0, v1⟩ := rfl
    rw [e]
    clear e
    go_enter Tryz.func66, Tryz.ntmps66
    go_wp2
    exact bodyPost_ret (v := .agg #[.int .i64 7, .int .i64 v0, .int .i64 v2, .int .i64 0, .int .i64 v1]) (by simp [results, Tryz.results66, go_sem]) rfl ⟨rfl, ((Below.refl _ _).alloc (Nat.le_refl _) _).alloc (by simp) _⟩
  by_cases e8 : q = 8
  · subst e8
    have e : putX 8 v0 v1 v2 = ⟨8, v0, 0, v1, v2⟩ := rfl
    rw [e]
    clear e
    go_enter Tryz.func66, Tryz.ntmps66
    go_wp2
    exact bodyPost_ret (v := .agg #[.int .i64 8, .int .i64 v0, .int .i64 0, .int .i64 v1, .int .i64 v2]) (by simp [results, Tryz.results66, go_sem]) rfl ⟨rfl, ((Below.refl _ _).alloc (Nat.le_refl _) _).alloc (by simp) _⟩
  by_cases e9 : q = 9
  · subst e9
    have e : putX 9 v0 v1 v2 = ⟨9, 0, 0, 0, v0⟩ := rfl
    rw [e]
    clear e
    go_enter Tryz.func66, Tryz.ntmps66
    go_wp2
    exact bodyPost_ret (v := .agg #[.int .i64 9, .int .i64 0, .int .i64 0, .int .i64 0, .int .i64 v0]) (by simp [results, Tryz.results66, go_sem]) rfl ⟨rfl, ((Below.refl _ _).alloc (Nat.le_refl _) _).alloc (by simp) _⟩
  by_cases e10 : q = 10
  · subst e10
    have e : putX 10 v0 v1 v2 = ⟨10, 0, v0, 0, 0⟩ := rfl
    rw [e]
    clear e
    go_enter Tryz.func66, Tryz.ntmps66
    go_wp2
    exact bodyPost_ret (v := .agg #[.int .i64 10, .int .i64 0, .int .i64 v0, .int .i64 0, .int .i64 0]) (by simp [results, Tryz.results66, go_sem]) rfl ⟨rfl, ((Below.refl _ _).alloc (Nat.le_refl _) _).alloc (by simp) _⟩
  by_cases e11 : q = 11
  · subst e11
    have e : putX 11 v0 v1 v2 = ⟨11, 0, 0, 0, v0⟩ := rfl
    rw [e]
    clear e
    go_enter Tryz.func66, Tryz.ntmps66
    go_wp2
    exact bodyPost_ret (v := .agg #[.int .i64 11, .int .i64 0, .int .i64 0, .int .i64 0, .int .i64 v0]) (by simp [results, Tryz.results66, go_sem]) rfl ⟨rfl, ((Below.refl _ _).alloc (Nat.le_refl _) _).alloc (by simp) _⟩
  by_cases e12 : q = 12
  · subst e12
    have e : putX 12 v0 v1 v2 = ⟨12, 0, v0, 0, v1⟩ := rfl
    rw [e]
    clear e
    go_enter Tryz.func66, Tryz.ntmps66
    go_wp2
    exact bodyPost_ret (v := .agg #[.int .i64 12, .int .i64 0, .int .i64 v0, .int .i64 0, .int .i64 v1]) (by simp [results, Tryz.results66, go_sem]) rfl ⟨rfl, ((Below.refl _ _).alloc (Nat.le_refl _) _).alloc (by simp) _⟩
  · have e13 : q = 13 := by omega
    subst e13
    have e : putX 13 v0 v1 v2 = ⟨13, 0, 0, 0, 0⟩ := rfl
    rw [e]
    clear e
    go_enter Tryz.func66, Tryz.ntmps66
    go_wp2
    exact bodyPost_ret (v := .agg #[.int .i64 13, .int .i64 0, .int .i64 0, .int .i64 0, .int .i64 0]) (by simp [results, Tryz.results66, go_sem]) rfl ⟨rfl, ((Below.refl _ _).alloc (Nat.le_refl _) _).alloc (by simp) _⟩

end Go.Proofs.YtajblippcnidiaaGreatDoor
