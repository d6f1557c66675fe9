/- How great sources are counted. No condition but the lists' own bounds. -/
import Derived.Test.YthgefddocenjmaaDoorQuietC
import Derived.Test.YthgefddocenjmaaDoorIntRows
import Derived.Test.YthgefddocenjmaaDoorSrcDefs
namespace Go.Proofs.YthgefddocenjmaaDoor
set_option linter.unusedSimpArgs false
set_option linter.unusedVariables false
set_option maxRecDepth 100000
open Go.RowKit
set_option maxHeartbeats 400000 in
theorem szChan_all (pc : Int) (st : Bool) (s : Option Addr) (n c : Nat) (q : Int) (w : World) (hn : n ≤ maxLen) (hq : 0 ≤ q) (hq' : q ≤ 1048576) :
    Calls Tryd.prog 20 #[.agg #[.int .i64 pc, .slice s n c, .bool st], .int .i64 q] w fun e w' => e = .returned (.int .i64 (if q < n then -1 else q - (n : Int))) ∧ Below w.heap.size w w' := by
  by_cases h : q < n
  · rw [if_pos h]
    go_enter Tryd.func20, Tryd.ntmps20
    go_wp2_with (go_at_call 41; refine (szIntS_any _ _ _ _ _ hn hq hq').mono ?_; rintro e w' ⟨rfl, hw⟩; have hw' := hw.symm; clear hw; subst hw'; rw [if_pos h])
    go_ret
    exact ⟨rfl, (Below.refl _ _).alloc (Nat.le_refl _) _⟩
  · rw [if_neg h]
    have hnn : ¬ q - (n : Int) < 0 := by omega
    go_enter Tryd.func20, Tryd.ntmps20
    go_wp2_with (go_at_call 41; refine (szIntS_any _ _ _ _ _ hn hq hq').mono ?_; rintro e w' ⟨rfl, hw⟩; have hw' := hw.symm; clear hw; subst hw'; rw [if_neg h])
    go_ret
    exact ⟨rfl, (Below.refl _ _).alloc (Nat.le_refl _) _⟩

theorem szNoteS_all (s : Option Addr) (n c : Nat) (q : Int) (w : World) (hn : n ≤ maxLen) (hq : 0 ≤ q) (hq' : q ≤ 1048576) : Calls Tryd.prog 15 #[.slice s n c, .int .i64 q] w fun e w' => e = .returned (.int .i64 (if q < n then -1 else q - (n : Int))) ∧ w' = w := by
  unfold maxLen at hn
  by_cases h : q < n
  · rw [if_pos h]
    have h1 : q - (n : Int) < 0 := by omega
    go_enter Tryd.func15, Tryd.ntmps15
    go_wp2
    go_ret
    exact ⟨rfl, rfl⟩
  · rw [if_neg h]
    have h1 : ¬ q - (n : Int) < 0 := by omega
    go_enter Tryd.func15, Tryd.ntmps15
    go_wp2
    go_ret
    exact ⟨rfl, rfl⟩

def SLens (d : SD) : Prop := (d.ths.length ≤ maxLen ∧ ∀ (i : Nat) (t : TD), d.ths[i]? = some t → t.regs.length ≤ maxLen) ∧ (d.chs.length ≤ maxLen ∧ ∀ (i : Nat) (t : CD), d.chs[i]? = some t → t.list.length ≤ maxLen) ∧ d.tr.length ≤ maxLen

theorem tri {w W : World} {v0 v1 v2 : Value} {T : TypeId} (hb : Below (w.alloc (.cells #[v0, v1, v2] T)).heap.size (w.alloc (.cells #[v0, v1, v2] T)) W) : W.cell? ⟨w.heap.size, 0, none⟩ = some v0 ∧ W.cell? ⟨w.heap.size, 1, none⟩ = some v1 ∧ W.cell? ⟨w.heap.size, 2, none⟩ = some v2 ∧ w.heap.size < W.heap.size := by
  refine ⟨?_, ?_, ?_, ?_⟩
  iterate 3 (· rw [hb.cell (by simp)]; simp [go_sem])
  · have := hb.size; simp at this; omega
theorem tri.carry {w1 w2 : World} {B K : Nat} {v0 v1 v2 : Value} (hb : Below K w1 w2) (hz : B < K) (c : w1.cell? ⟨B, 0, none⟩ = some v0 ∧ w1.cell? ⟨B, 1, none⟩ = some v1 ∧ w1.cell? ⟨B, 2, none⟩ = some v2) : w2.cell? ⟨B, 0, none⟩ = some v0 ∧ w2.cell? ⟨B, 1, none⟩ = some v1 ∧ w2.cell? ⟨B, 2, none⟩ = some v2 :=
  ⟨(hb.cell hz).trans c.1, (hb.cell hz).trans c.2.1, (hb.cell hz).trans c.2.2⟩

end Go.Proofs.YthgefddocenjmaaDoor
