/- How a channel reads as an argument of a law. No condition. -/
import Derived.Test.YthgefddocenjmaaDoorQuietC
import Derived.Test.YthgefddocenjmaaDoorChDefs
import Derived.Test.YthgefddocenjmaaDoorRows
import Derived.Test.YthgefddocenjmaaDoorChLaws1
import Derived.ProofKit
import Derived.OpenShut
import Derived.ShutString
import Derived.ChangeOld
import Derived.ChangeSlices
import Derived.Deep.Slices
namespace Go.Proofs.YthgefddocenjmaaDoor
set_option linter.unusedSimpArgs false
set_option linter.unusedVariables false
set_option maxRecDepth 100000
open Go.ChangeShapes Go.WideShapes Go.ChangeAt Go.RowKit Go.Deep

theorem cellsI : Tryd.prog.cellsOf 3 = 1 := by kernel_rfl
theorem cellsIS : Tryd.prog.cellsOf 42 = 1 := by kernel_rfl
theorem cellsB : Tryd.prog.cellsOf 4 = 1 := by kernel_rfl
theorem cellsCh : Tryd.prog.cellsOf 44 = 3 := by kernel_rfl
theorem ownC : ownKnob Tryd.prog.godebug = none := by kernel_rfl
theorem laidOutC : laidOutB Tryd.prog = true := by kernel_rfl

theorem cellLt {w : World} {a : Addr} {v : Value} (h : w.cell? a = some v) : a.block < w.heap.size := by
  apply Classical.byContradiction
  intro hn
  have : w.heap[a.block]? = none := by simp; omega
  simp [World.cell?, this] at h
theorem addPlain (g off n : Nat) : (Addr.add ⟨g, off, none⟩ n) = ⟨g, off + n, none⟩ := by
  by_cases h : n = 0
  · subst h; rfl
  · simp [Addr.add, h]
theorem list3 {α : Type} {cs : List α} (h : cs.length = 3) : ∃ c0 c1 c2, cs = [c0, c1, c2] := by
  match cs, h with
  | [c0, c1, c2], _ => exact ⟨c0, c1, c2, rfl⟩

theorem rowRead {H : Type} {enc : TypeId × Value → H} {w : World} {base : Nat} {held : Bool} {fuel : Nat} {v : Value} {x : DataW H × List MemPlace}
    (hf : DataW.trod enc Tryd.prog w base (fun _ => true) held fuel 42 [v] = some x) :
    ∃ (s : Option Addr) (c : Nat) (l : List Int), v = .slice s l.length c ∧ l.length ≤ maxLen ∧ l.length ≤ c ∧ RowI w w.heap.size s l := by
  rcases open_ints Tryd.underlying42 Tryd.underlying3 cellsI hf with ⟨hcs, _⟩ | ⟨a, len, cap, zs, hcs, _, hl, hm, hz, _, hcell, _⟩
  · simp at hcs
    exact ⟨none, 0, [], hcs, Nat.zero_le _, Nat.zero_le _, .inl rfl⟩
  · simp at hcs hz
    by_cases h0 : len = 0
    · subst h0
      exact ⟨some a, cap, [], hcs, Nat.zero_le _, Nat.zero_le _, .inl rfl⟩
    · have c0 := hcell 0 (by omega)
      have c0' : w.cell? a = some (.int .i64 (zs.getD 0 0)) := by simpa [Addr.add] using c0
      have hs := World.cell?_spot c0'
      have hg := cellLt c0'
      obtain ⟨g, off, spot⟩ := a
      simp at hs
      subst hs
      refine ⟨some ⟨g, off, none⟩, cap, zs.take len, ?_, ?_, ?_, .inr ⟨g, off, rfl, hg, ?_⟩⟩
      · rw [hcs]
        congr 1
        simp
        omega
      · simp
        omega
      · simp
        omega
      · intro i hi
        have hi' : i < len := by simp at hi; omega
        have := hcell i (by omega)
        rw [addPlain] at this
        rw [this]
        simp [List.getD_eq_getElem?_getD, List.getElem?_take, hi']

theorem open_chan {H : Type} {enc : TypeId × Value → H} {w : World} {base b0 : Nat} {held : Bool} {k : Reach} {v : Value} {d : DataW H} {q : List MemPlace}
    (hv : Value.okWide Tryd.prog w k b0 44 v) (h : DataW.Trod enc Tryd.prog w base (fun _ => true) held 44 v d q) :
    ∃ (cap : Int) (s : Option Addr) (l : List Int) (c : Nat) (cl : Bool), v = .agg #[.int .i64 cap, .slice s l.length c, .bool cl] ∧ l.length ≤ maxLen ∧ RowI w w.heap.size s l := by
  obtain ⟨cs, rfl, hsz⟩ := okWide_struct Tryd.underlying44 hv
  obtain ⟨fuel, hf⟩ := h
  obtain ⟨xs, n, _, _, hl, hlen, hfs⟩ := DataW.trod_struct Tryd.underlying44 hf
  rw [cellsCh] at hl
  obtain ⟨l⟩ := cs
  have hl' : l.length = 3 := by simpa [Value.cells] using hl
  obtain ⟨c0, c1, c2, rfl⟩ := list3 hl'
  obtain ⟨y0, y1, y2, rfl⟩ := list3 (hlen.trans rfl)
  have g0 := hfs 0 _ rfl
  have g1 := hfs 1 _ rfl
  have g2 := hfs 2 _ rfl
  simp [cellsI, cellsIS, cellsB, Value.cells] at g0 g1 g2
  obtain ⟨cap, e0, -, w0⟩ := DataW.trod_int Tryd.underlying3 g0
  obtain ⟨s, c, a, rfl, ha, -, hA⟩ := rowRead g1
  obtain ⟨b, e2, -⟩ := DataW.trod_bool Tryd.underlying4 g2
  simp at e0 e2
  subst e0 e2
  exact ⟨cap, s, a, c, b, rfl, ha, hA⟩


end Go.Proofs.YthgefddocenjmaaDoor
