/- Lists of steps as they lie in memory, and how the laws copy them. Conditions: lists of at most 1048576 steps. -/
import Derived.Test.YtfgikjipkfggbaaGreatDoorQuietC
import Derived.Test.YtfgikjipkfggbaaGreatDoorIntRows
import Derived.Laws.MakeOwn
import Derived.Deep.QuietTactic
import Derived.BigQuiet
namespace Go.Proofs.YtfgikjipkfggbaaGreatDoor
set_option linter.unusedSimpArgs false
set_option linter.unusedVariables false
set_option maxRecDepth 100000
open Go.RowKit

structure I5 where
  o : Int
  r : Int
  a : Int
  b : Int
  n : Int
def z5 : I5 := ⟨0, 0, 0, 0, 0⟩

def At5 (w : World) (g off : Nat) (x : I5) : Prop :=
  w.cell? ⟨g, off, none⟩ = some (.int .i64 x.o) ∧ w.cell? ⟨g, off + 1, none⟩ = some (.int .i64 x.r) ∧ w.cell? ⟨g, off + 2, none⟩ = some (.int .i64 x.a) ∧ w.cell? ⟨g, off + 3, none⟩ = some (.int .i64 x.b) ∧ w.cell? ⟨g, off + 4, none⟩ = some (.int .i64 x.n)

theorem At5.keep {w w' : World} {B g off : Nat} {x : I5} (h : At5 w g off x) (hb : Below B w w') (hg : g < B) : At5 w' g off x :=
  ⟨(hb.cell hg).trans h.1, (hb.cell hg).trans h.2.1, (hb.cell hg).trans h.2.2.1, (hb.cell hg).trans h.2.2.2.1, (hb.cell hg).trans h.2.2.2.2⟩

/- a list of steps below block B -/
def InsB (w : World) (B : Nat) (s : Option Addr) (l : List I5) : Prop :=
  l = [] ∨ ∃ g off, s = some ⟨g, off, none⟩ ∧ g < B ∧ ∀ i, i < l.length → At5 w g (off + i * 5) (l.getD i z5)

theorem InsB.keep {w w' : World} {B : Nat} {s : Option Addr} {l : List I5} (h : InsB w B s l) (hb : Below B w w') : InsB w' B s l := by
  rcases h with h | ⟨g, o, hs, hg, hc⟩
  · exact .inl h
  · exact .inr ⟨g, o, hs, hg, fun i hi => (hc i hi).keep hb hg⟩
theorem InsB.mono {w : World} {B B' : Nat} {s : Option Addr} {l : List I5} (h : InsB w B s l) (hB : B ≤ B') : InsB w B' s l := by
  rcases h with h | ⟨g, o, hs, hg, hc⟩
  · exact .inl h
  · exact .inr ⟨g, o, hs, by omega, hc⟩

theorem mk25 (n : Nat) (hn : n ≤ 1048576) (w : World) : (Instr.makeSlice 27 (.int .i64 (n : Int)) (.int .i64 (n : Int))).run Tryz.prog w = .ok (.slice (some ⟨w.heap.size, 0, none⟩) n n) (w.alloc (.cells (madeCells #[.int .i64 0, .int .i64 0, .int .i64 0, .int .i64 0, .int .i64 0] (n * 5)) 25)) := by
  have h := run_make (P := Tryz.prog) w 27 25 _ (.agg #[.int .i64 0, .int .i64 0, .int .i64 0, .int .i64 0, .int .i64 0]) Tryz.underlying27 rfl rfl .i64 .i64 n n (by omega) (Int.le_refl _) (by show (40 : Int) * _ ≤ _; omega) (by omega)
  have e : (Value.agg #[.int .i64 0, .int .i64 0, .int .i64 0, .int .i64 0, .int .i64 0]).cells = #[.int .i64 0, .int .i64 0, .int .i64 0, .int .i64 0, .int .i64 0] := rfl
  have e' : ∀ t, Tryz.prog.info? 25 = some t → t.size = 5 := by intro t h; cases h; rfl
  rw [e, e' _ rfl] at h
  simpa using h

/- what the store of a step into a list leaves -/
def set5 (w : World) (g o : Nat) (x : I5) : World := ((((w.setCell ⟨g, o, none⟩ (.int .i64 x.o)).setCell ⟨g, o + 1, none⟩ (.int .i64 x.r)).setCell ⟨g, o + 2, none⟩ (.int .i64 x.a)).setCell ⟨g, o + 3, none⟩ (.int .i64 x.b)).setCell ⟨g, o + 4, none⟩ (.int .i64 x.n)

theorem set5_below {B g o : Nat} {w w' : World} {x : I5} (h : Below B w w') (hg : B ≤ g) : Below B w (set5 w' g o x) := ((((h.setCell (p := ⟨g, o, none⟩) hg _).setCell (p := ⟨g, o + 1, none⟩) hg _).setCell (p := ⟨g, o + 2, none⟩) hg _).setCell (p := ⟨g, o + 3, none⟩) hg _).setCell (p := ⟨g, o + 4, none⟩) hg _
theorem set5_size {g o : Nat} {w : World} {x : I5} : (set5 w g o x).heap.size = w.heap.size := by simp [set5]
theorem set5_frozen {g o : Nat} {w : World} {x : I5} {b : Addr} : (set5 w g o x).frozen? b = w.frozen? b := by simp [set5]
theorem set5_other {g o j : Nat} {w : World} {x : I5} (h : j < o ∨ o + 5 ≤ j) : (set5 w g o x).cell? ⟨g, j, none⟩ = w.cell? ⟨g, j, none⟩ := by
  unfold set5
  rw [setC_off (by omega), setC_off (by omega), setC_off (by omega), setC_off (by omega), setC_off (by omega)]
theorem set5_some {g o j : Nat} {w : World} {x : I5} (h : (w.cell? ⟨g, j, none⟩).isSome = true) : ((set5 w g o x).cell? ⟨g, j, none⟩).isSome = true :=
  setC_some (setC_some (setC_some (setC_some (setC_some h))))
theorem set5_at {g o : Nat} {w : World} {x : I5} (h0 : (w.cell? ⟨g, o, none⟩).isSome = true) (h1 : (w.cell? ⟨g, o + 1, none⟩).isSome = true) (h2 : (w.cell? ⟨g, o + 2, none⟩).isSome = true) (h3 : (w.cell? ⟨g, o + 3, none⟩).isSome = true) (h4 : (w.cell? ⟨g, o + 4, none⟩).isSome = true) : At5 (set5 w g o x) g o x := by
  unfold set5
  refine ⟨?_, ?_, ?_, ?_, ?_⟩
  · rw [setC_off (by omega), setC_off (by omega), setC_off (by omega), setC_off (by omega), setC_at h0]
  · rw [setC_off (by omega), setC_off (by omega), setC_off (by omega), setC_at (setC_some h1)]
  · rw [setC_off (by omega), setC_off (by omega), setC_at (setC_some (setC_some h2))]
  · rw [setC_off (by omega), setC_at (setC_some (setC_some (setC_some h3)))]
  · rw [setC_at (setC_some (setC_some (setC_some (setC_some h4))))]
theorem At5.set5_off {w : World} {g o o' : Nat} {x y : I5} (h : At5 w g o' y) (hd : o' + 5 ≤ o ∨ o + 5 ≤ o') : At5 (set5 w g o x) g o' y := by
  obtain ⟨h0, h1, h2, h3, h4⟩ := h
  exact ⟨(set5_other (by omega)).trans h0, (set5_other (by omega)).trans h1, (set5_other (by omega)).trans h2, (set5_other (by omega)).trans h3, (set5_other (by omega)).trans h4⟩

end Go.Proofs.YtfgikjipkfggbaaGreatDoor
