/- Rows of writes laid anew, and what a store into one leaves. No condition. -/
import Derived.Test.YtlhhdkemmhlloaaMemDefs
namespace Go.Proofs.Ytlhhdkemmhlloaa
set_option linter.unusedSimpArgs false
set_option linter.unusedVariables false
set_option maxRecDepth 100000
open Go.RowKit

theorem mkW (n : Nat) (hn : n ≤ 1048576) (w : World) : (Instr.makeSlice 41 (.int .i64 (n : Int)) (.int .i64 (n : Int))).run Try.prog w = .ok (.slice (some ⟨w.heap.size, 0, none⟩) n n) (w.alloc (.cells (madeCells #[.int .i64 0, .slice none 0 0] (n * 2)) 40)) := by
  have h := run_make (P := Try.prog) w 41 40 _ (.agg #[.int .i64 0, .slice none 0 0]) Try.underlying41 rfl rfl .i64 .i64 n n (by omega) (Int.le_refl _) (by show (32 : Int) * _ ≤ _; omega) (by omega)
  have e : (Value.agg #[.int .i64 0, .slice none 0 0]).cells = #[.int .i64 0, .slice none 0 0] := rfl
  have e' : ∀ t, Try.prog.info? 40 = some t → t.size = 2 := by intro t h; cases h; rfl
  rw [e, e' _ rfl] at h
  simpa using h
theorem mkWW (n : Nat) (hn : n ≤ 1048576) (w : World) : (Instr.makeSlice 24 (.int .i64 (n : Int)) (.int .i64 (n : Int))).run Try.prog w = .ok (.slice (some ⟨w.heap.size, 0, none⟩) n n) (w.alloc (.cells (madeCells #[.slice none 0 0] (n * 1)) 41)) := by
  have h := run_make (P := Try.prog) w 24 41 _ (.slice none 0 0) Try.underlying24 rfl rfl .i64 .i64 n n (by omega) (Int.le_refl _) (by show (24 : Int) * _ ≤ _; omega) (by omega)
  have e : (Value.slice none 0 0).cells = #[.slice none 0 0] := rfl
  have e' : ∀ t, Try.prog.info? 41 = some t → t.size = 1 := by intro t h; cases h; rfl
  rw [e, e' _ rfl] at h
  simpa using h

def set2 (w : World) (g o : Nat) (a b : Value) : World := (w.setCell ⟨g, o, none⟩ a).setCell ⟨g, o + 1, none⟩ b
theorem set2_below {B g o : Nat} {w w' : World} {a b : Value} (h : Below B w w') (hg : B ≤ g) : Below B w (set2 w' g o a b) := (h.setCell (p := ⟨g, o, none⟩) hg _).setCell (p := ⟨g, o + 1, none⟩) hg _
theorem set2_size {g o : Nat} {w : World} {a b : Value} : (set2 w g o a b).heap.size = w.heap.size := by simp [set2]
theorem set2_block {g o k : Nat} {w : World} {a b : Value} (h : k ≠ g) : (set2 w g o a b).heap[k]? = w.heap[k]? := by
  unfold set2
  rw [Below.heap_setCell _ _ _ k h, Below.heap_setCell _ _ _ k h]
theorem set2_frozen {g o : Nat} {w : World} {a b : Value} (p : Addr) : (set2 w g o a b).frozen? p = w.frozen? p := by simp [set2, World.frozen?_setCell]
theorem set2_off {g o : Nat} {w : World} {a b : Value} (p : Addr) (h1 : p ≠ ⟨g, o, none⟩) (h2 : p ≠ ⟨g, o + 1, none⟩) : (set2 w g o a b).cell? p = w.cell? p := by
  unfold set2
  rw [World.cell?_setCell_other _ _ _ _ (fun e => h2 e.symm), World.cell?_setCell_other _ _ _ _ (fun e => h1 e.symm)]
theorem set2_at {g o : Nat} {w : World} {a b : Value} (h1 : (w.cell? ⟨g, o, none⟩).isSome = true) (h2 : (w.cell? ⟨g, o + 1, none⟩).isSome = true) : (set2 w g o a b).cell? ⟨g, o, none⟩ = some a ∧ (set2 w g o a b).cell? ⟨g, o + 1, none⟩ = some b := by
  unfold set2
  refine ⟨?_, setC_at (setC_some h2)⟩
  rw [setC_off (by omega)]
  exact setC_at h1

end Go.Proofs.Ytlhhdkemmhlloaa
