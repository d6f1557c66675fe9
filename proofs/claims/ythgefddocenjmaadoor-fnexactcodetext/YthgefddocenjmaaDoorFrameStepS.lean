/- How a list of steps that came in reads: each step is five integers. No condition. -/
import Derived.Test.YthgefddocenjmaaDoorQuietC
import Derived.Test.YthgefddocenjmaaDoorFrameStp
import Derived.Test.YthgefddocenjmaaDoorStepLists
import Derived.Deep.Slices
namespace Go.Proofs.YthgefddocenjmaaDoor
set_option linter.unusedSimpArgs false
set_option linter.unusedVariables false
set_option maxRecDepth 100000
open Go.ChangeShapes Go.WideShapes Go.ChangeAt Go.RowKit Go.Deep

theorem cell_lt {w : World} {a : Addr} {v : Value} (h : w.cell? a = some v) : a.block < w.heap.size := by
  apply Classical.byContradiction
  intro hn
  have : w.heap[a.block]? = none := by simp; omega
  simp [World.cell?, this] at h

theorem add_plain (g off n : Nat) : (Addr.add ⟨g, off, none⟩ n) = ⟨g, off + n, none⟩ := by
  by_cases h : n = 0
  · subst h; rfl
  · simp [Addr.add, h]

theorem stepS_spot {H : Type} {enc : TypeId × Value → H} {w : World} {base : Nat} {spare : TypeId → Bool} {held : Bool} {n : Nat} {a : Addr} {cs : List Value} {x : DataW H × List MemPlace}
    (hc : w.cells? base (a.add (0 * 5)) 5 = some cs) (h : DataW.trod enc Tryd.prog w base spare held n 23 cs = some x) :
    a.spot = none ∧ a.block < w.heap.size := by
  obtain ⟨o, r, b, c, d, rfl, -⟩ := step_cells h
  obtain ⟨-, -, hcell⟩ := World.cells?_some hc
  have c0 : w.cell? a = some (.int .i64 o) := by simpa [Addr.add] using hcell 0 (by omega)
  exact ⟨World.cell?_spot c0, cell_lt c0⟩

theorem stepS_at {H : Type} {enc : TypeId × Value → H} {w : World} {base : Nat} {spare : TypeId → Bool} {held : Bool} {n g off i : Nat} {cs : List Value} {x : DataW H × List MemPlace}
    (hc : w.cells? base (Addr.add ⟨g, off, none⟩ (i * 5)) 5 = some cs) (h : DataW.trod enc Tryd.prog w base spare held n 23 cs = some x) :
    ∃ y : I5, At5 w g (off + i * 5) y := by
  obtain ⟨o, r, b, c, d, rfl, -⟩ := step_cells h
  obtain ⟨-, -, hcell⟩ := World.cells?_some hc
  rw [add_plain] at hcell
  have c0 := hcell 0 (by omega)
  have c1 := hcell 1 (by omega)
  have c2 := hcell 2 (by omega)
  have c3 := hcell 3 (by omega)
  have c4 := hcell 4 (by omega)
  rw [add_plain] at c0 c1 c2 c3 c4
  exact ⟨⟨o, r, b, c, d⟩, c0, c1, c2, c3, c4⟩

theorem open_stepS {H : Type} {enc : TypeId × Value → H} {w : World} {base b0 : Nat} {spare : TypeId → Bool} {held : Bool} {k : Reach} {v : Value} {d : DataW H} {p : List MemPlace}
    (hv : Value.okWide Tryd.prog w k b0 28 v) (h : DataW.Trod enc Tryd.prog w base spare held 28 v d p) :
    ∃ (s : Option Addr) (c : Nat) (l : List I5), v = .slice s l.length c ∧ l.length ≤ maxLen ∧ InsB w w.heap.size s l := by
  obtain ⟨s, len, cap, rfl⟩ := okWide_slice Tryd.underlying28 hv
  obtain ⟨fuel, hf⟩ := h
  rcases open_slice Tryd.underlying28 hf with ⟨hcs, -⟩ | ⟨a, len', cap', m, n, D, Pl, hcs, -, hl, hm, hmm, -, hel⟩
  · simp [Value.cells] at hcs
    obtain ⟨rfl, rfl, rfl⟩ := hcs
    exact ⟨none, 0, [], rfl, Nat.zero_le _, .inl rfl⟩
  · simp [Value.cells] at hcs
    obtain ⟨rfl, rfl, rfl⟩ := hcs
    rw [cellsStep] at hel
    have hle : len ≤ m := by rw [hmm]; split <;> omega
    by_cases h0 : len = 0
    · subst h0
      exact ⟨some a, cap, [], rfl, Nat.zero_le _, .inl rfl⟩
    · obtain ⟨cs0, h1, h2⟩ := hel 0 (by omega)
      obtain ⟨hs, hg⟩ := stepS_spot h1 h2
      obtain ⟨g, off, spot⟩ := a
      simp at hs
      subst hs
      obtain ⟨V, hV⟩ := @choose_lt I5 ⟨z5⟩ len (fun i y => At5 w g (off + i * 5) y) (fun i hi => by
        obtain ⟨cs', h1, h2⟩ := hel i (by omega)
        exact stepS_at h1 h2)
      refine ⟨some ⟨g, off, none⟩, cap, (List.range len).map V, by simp, by simp; omega, .inr ⟨g, off, rfl, hg, ?_⟩⟩
      intro i hi
      simp at hi
      have e : ((List.range len).map V).getD i z5 = V i := by simp [hi]
      rw [e]
      exact hV i hi


end Go.Proofs.YthgefddocenjmaaDoor
