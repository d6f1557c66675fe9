/- How rows of notes and channels read as arguments of a law, their numbers of 64 bits; strconv's table as laid. Condition: the row's own ('laid'). -/
import Derived.Test.YthgefddocenjmaaDoorRows
import Derived.Test.YthgefddocenjmaaDoorT16ChS
import Derived.Test.YthgefddocenjmaaDoorSrcSz
import Derived.Test.YthgefddocenjmaaDoorSrcCopy2
import Derived.Test.YthgefddocenjmaaDoorSrcEq
import Derived.Test.YthgefddocenjmaaDoorChFrame
import Derived.WalkKit
import Derived.ProofKit
import Derived.OpenShut
import Derived.ShutString
import Derived.ChangeOld
import Derived.ChangeVars
import Derived.LaidMore
import Derived.MakeChecks
import Derived.Lib.LaidTab
import Derived.Stop.Joined
import Derived.Stop.LaidErr
import Derived.Deep.Slices
namespace Go.Proofs.YthgefddocenjmaaDoor
set_option linter.unusedSimpArgs false
set_option linter.unusedVariables false
set_option maxRecDepth 100000
open Go.ChangeShapes Go.WideShapes Go.ChangeAt Go.RowKit Go.Deep

structure Box1 (G : Nat) (W : World) (v0 v1 v2 : Value) : Prop where
  c0 : W.cell? ⟨G, 0, none⟩ = some v0
  c1 : W.cell? ⟨G, 1, none⟩ = some v1
  c2 : W.cell? ⟨G, 2, none⟩ = some v2
  f : ∀ j, W.frozen? ⟨G, j, none⟩ = false
  z : G < W.heap.size
theorem Box1.keep {G : Nat} {W w1 : World} {v0 v1 v2 : Value} (h : Box1 G W v0 v1 v2) (hb : w1.heap[G]? = W.heap[G]?) (hs : W.heap.size ≤ w1.heap.size) : Box1 G w1 v0 v1 v2 :=
  ⟨(World.cell?_of_block (w := W) (a := ⟨G, 0, none⟩) hb).trans h.c0, (World.cell?_of_block (w := W) (a := ⟨G, 1, none⟩) hb).trans h.c1, (World.cell?_of_block (w := W) (a := ⟨G, 2, none⟩) hb).trans h.c2, fun j => (World.frozen?_of_block (w := W) (a := ⟨G, j, none⟩) hb).trans (h.f j), by have := h.z; omega⟩
theorem box1 (X : World) (v0 v1 v2 : Value) (T : TypeId) : ∃ Y, X.alloc (.cells #[v0, v1, v2] T) = Y ∧ Box1 X.heap.size Y v0 v1 v2 ∧ Below X.heap.size X Y ∧ Y.heap.size = X.heap.size + 1 :=
  ⟨_, rfl, ⟨by simp [go_sem], by simp [go_sem], by simp [go_sem], fun j => by simp [go_sem], by simp⟩, (Below.refl _ _).alloc (Nat.le_refl _) _, by simp⟩
theorem tPow : (Tryd.prog.globals[1]?).map (·.type) = some 126 := by kernel_rfl
theorem cellsU64 : Tryd.prog.cellsOf 116 = 1 := by kernel_rfl
theorem cellsPow : Tryd.prog.cellsOf 126 = 20 := by kernel_rfl
theorem lt_of_cell {w : World} {g o : Nat} {v : Value} (h : w.cell? ⟨g, o, none⟩ = some v) : g < w.heap.size := cellLt h
theorem env_of_laid {W : World} (h0 : laidMetH Tryd.prog Rows.fnExactStepTextRow.laid W) : Env W W.heap.size := by
  have h : laidMet Tryd.prog Rows.fnExactStepTextRow.laid W := by
    rw [MakeChecks.laidMetH_plain _ _ _ (by kernel_rfl)] at h0
    exact h0
  have hp := laidMet.tail (laidMet.tail h)
  have htab := Lib.tabIs_of_head (k := .u64) (zs := Lib.pow10Tab) pow_at tPow Tryd.underlying126 Tryd.underlying116 cellsU64 cellsPow hp
  have ht := htab.cell pow_at 0 (by decide)
  exact ⟨htab, lt_of_cell ht⟩
theorem door_met (os : Os) (args : Array Value) : laidMetH Tryd.prog Rows.fnExactStepTextRow.laid ((World.doorLaid Tryd.prog 42 os).forCall (fun _ _ => 0) ⟨#[], args, []⟩).memory :=
  laidMetH_of_parts3 (fuel := 8) (laidMet_of_run' 8 (by kernel_rfl) (by kernel_rfl)) (by kernel_rfl) (by kernel_rfl)

theorem i64_of_wf {n : Int} (h : (Lit.int .i64 n).wf = true) : I64 n := by
  have hmin : IntKind.i64.min = -9223372036854775808 := rfl
  have hmax : IntKind.i64.max = 9223372036854775807 := rfl
  simp only [Lit.wf, Bool.and_eq_true, decide_eq_true_eq] at h
  unfold I64
  omega
theorem list2 {α : Type} {cs : List α} (h : cs.length = 2) : ∃ c0 c1, cs = [c0, c1] := by
  match cs, h with
  | [c0, c1], _ => exact ⟨c0, c1, rfl⟩
theorem cellsNote : Tryd.prog.cellsOf 79 = 2 := by kernel_rfl
theorem note_cells {H : Type} {enc : TypeId × Value → H} {w : World} {base : Nat} {held : Bool} {fuel : Nat} {cs : List Value} {x : DataW H × List MemPlace}
    (h : DataW.trod enc Tryd.prog w base (fun _ => true) held fuel 79 cs = some x) : ∃ t : ND, cs = [.int .i64 t.who, .int .i64 t.v] ∧ I64 t.who ∧ I64 t.v := by
  obtain ⟨xs, n, _, rfl, hl, hlen, hf⟩ := DataW.trod_struct Tryd.underlying79 h
  rw [cellsNote] at hl
  obtain ⟨c0, c1, rfl⟩ := list2 hl
  obtain ⟨y0, y1, rfl⟩ := list2 (hlen.trans rfl)
  have g0 := hf 0 _ rfl
  have g1 := hf 1 _ rfl
  simp [cellsI] at g0 g1
  obtain ⟨a, e0, -, w0⟩ := DataW.trod_int Tryd.underlying3 g0
  obtain ⟨b, e1, -, w1⟩ := DataW.trod_int Tryd.underlying3 g1
  simp at e0 e1
  subst e0 e1
  exact ⟨⟨a, b⟩, rfl, i64_of_wf w0, i64_of_wf w1⟩
theorem notes_read {H : Type} {enc : TypeId × Value → H} {w : World} {base : Nat} {held : Bool} {fuel : Nat} {v : Value} {x : DataW H × List MemPlace}
    (hf : DataW.trod enc Tryd.prog w base (fun _ => true) held fuel 35 [v] = some x) :
    ∃ (s : Option Addr) (c : Nat) (l : List ND), v = .slice s l.length c ∧ l.length ≤ maxLen ∧ NtsR w 0 w.heap.size s l ∧ NtB l := by
  rcases open_slice Tryd.underlying35 hf with ⟨hcs, -⟩ | ⟨a, len, cap, m, n, D, Pl, hcs, -, hl, hm, hmm, -, hel⟩
  · simp at hcs
    exact ⟨none, 0, [], hcs, Nat.zero_le _, .inl rfl, fun i t h => by simp at h⟩
  · simp at hcs
    rw [cellsNote] at hel
    have hle : len ≤ m := by rw [hmm]; split <;> omega
    by_cases h0 : len = 0
    · subst h0
      exact ⟨some a, cap, [], hcs, Nat.zero_le _, .inl rfl, fun i t h => by simp at h⟩
    · obtain ⟨cs0, h1, h2⟩ := hel 0 (by omega)
      obtain ⟨t0, rfl, -, -⟩ := note_cells h2
      obtain ⟨-, -, hcell0⟩ := World.cells?_some h1
      have c0 : w.cell? a = some (.int .i64 t0.who) := by simpa [Addr.add] using hcell0 0 (by omega)
      have hs := World.cell?_spot c0
      have hg := cellLt c0
      obtain ⟨g, off, spot⟩ := a
      simp at hs
      subst hs
      obtain ⟨V, hV⟩ := @choose_lt ND ⟨t0⟩ len (fun i y => NtR w g (off + i * 2) y ∧ I64 y.who ∧ I64 y.v) (fun i hi => by
        obtain ⟨cs', h1, h2⟩ := hel i (by omega)
        obtain ⟨t, rfl, b0, b1⟩ := note_cells h2
        obtain ⟨-, -, hcell⟩ := World.cells?_some h1
        rw [addPlain] at hcell
        have c0 := hcell 0 (by omega)
        have c1 := hcell 1 (by omega)
        rw [addPlain] at c0 c1
        exact ⟨t, ⟨c0, c1⟩, b0, b1⟩)
      have hat : ∀ (i : Nat) (r : ND), ((List.range len).map V)[i]? = some r → NtR w g (off + i * 2) r ∧ I64 r.who ∧ I64 r.v := by
        intro i r hr
        rw [List.getElem?_map] at hr
        obtain ⟨y, hy, rfl⟩ := Option.map_eq_some_iff.1 hr
        have hi : i < len := by have := (List.getElem?_eq_some_iff.1 hy).1; simpa using this
        rw [List.getElem?_range hi] at hy
        injection hy with hy
        rw [← hy]
        exact hV i hi
      exact ⟨some ⟨g, off, none⟩, cap, (List.range len).map V, by simp [hcs], by simp; omega, .inr ⟨g, off, rfl, Nat.zero_le _, hg, fun i r hr => (hat i r hr).1⟩, fun i r hr => (hat i r hr).2⟩
theorem open_notes {H : Type} {enc : TypeId × Value → H} {w : World} {base b0 : Nat} {held : Bool} {k : Reach} {v : Value} {d : DataW H} {q : List MemPlace}
    (hv : Value.okWide Tryd.prog w k b0 35 v) (h : DataW.Trod enc Tryd.prog w base (fun _ => true) held 35 v d q) :
    ∃ (s : Option Addr) (c : Nat) (l : List ND), v = .slice s l.length c ∧ l.length ≤ maxLen ∧ NtsR w 0 w.heap.size s l ∧ NtB l := by
  obtain ⟨fuel, hf⟩ := h
  obtain ⟨s, n, c, rfl⟩ : ∃ s n c, v = .slice s n c := okWide_slice Tryd.underlying35 hv
  exact notes_read hf

theorem rowReadB {H : Type} {enc : TypeId × Value → H} {w : World} {base : Nat} {held : Bool} {fuel : Nat} {v : Value} {x : DataW H × List MemPlace}
    (hf : DataW.trod enc Tryd.prog w base (fun _ => true) held fuel 42 [v] = some x) :
    ∃ (s : Option Addr) (c : Nat) (l : List Int), v = .slice s l.length c ∧ l.length ≤ maxLen ∧ RowI w w.heap.size s l ∧ IB l := by
  rcases open_ints Tryd.underlying42 Tryd.underlying3 cellsI hf with ⟨hcs, _⟩ | ⟨a, len, cap, zs, hcs, _, hl, hm, hz, _, hcell, hwf⟩
  · simp at hcs
    exact ⟨none, 0, [], hcs, Nat.zero_le _, .inl rfl, fun i t h => by simp at h⟩
  · simp at hcs hz
    by_cases h0 : len = 0
    · subst h0
      exact ⟨some a, cap, [], hcs, Nat.zero_le _, .inl rfl, fun i t h => by simp at h⟩
    · have c0 := hcell 0 (by omega)
      have c0' : w.cell? a = some (.int .i64 (zs.getD 0 0)) := by simpa [Addr.add] using c0
      have hs := World.cell?_spot c0'
      have hg := cellLt c0'
      obtain ⟨g, off, spot⟩ := a
      simp at hs
      subst hs
      refine ⟨some ⟨g, off, none⟩, cap, zs.take len, ?_, ?_, .inr ⟨g, off, rfl, hg, ?_⟩, fun i t h => ?_⟩
      · rw [hcs]
        congr 1
        simp
        omega
      · simp
        omega
      · intro i hi
        have hi' : i < len := by simp at hi; omega
        have := hcell i (by omega)
        rw [addPlain] at this
        rw [this]
        simp [List.getD_eq_getElem?_getD, List.getElem?_take, hi']
      · exact i64_of_wf (hwf t (List.mem_of_mem_take (List.mem_of_getElem? h)))

theorem open_chanB {H : Type} {enc : TypeId × Value → H} {w : World} {base b0 : Nat} {held : Bool} {k : Reach} {v : Value} {d : DataW H} {q : List MemPlace}
    (hv : Value.okWide Tryd.prog w k b0 44 v) (h : DataW.Trod enc Tryd.prog w base (fun _ => true) held 44 v d q) :
    ∃ (cap : Int) (s : Option Addr) (l : List Int) (c : Nat) (cl : Bool), v = .agg #[.int .i64 cap, .slice s l.length c, .bool cl] ∧ l.length ≤ maxLen ∧ RowI w w.heap.size s l ∧ IB l := by
  obtain ⟨cs, rfl, hsz⟩ := okWide_struct Tryd.underlying44 hv
  obtain ⟨fuel, hf⟩ := h
  obtain ⟨xs, n, _, _, hl, hlen, hfs⟩ := DataW.trod_struct Tryd.underlying44 hf
  rw [cellsCh] at hl
  obtain ⟨l⟩ := cs
  have hl' : l.length = 3 := by simpa [Value.cells] using hl
  obtain ⟨c0, c1, c2, rfl⟩ := list3 hl'
  obtain ⟨y0, y1, y2, rfl⟩ := list3 (hlen.trans rfl)
  have g0 := hfs 0 _ rfl
  have g1 := hfs 1 _ rfl
  have g2 := hfs 2 _ rfl
  simp [cellsI, cellsIS, cellsB, Value.cells] at g0 g1 g2
  obtain ⟨cap, e0, -, w0⟩ := DataW.trod_int Tryd.underlying3 g0
  obtain ⟨s, c, a, rfl, ha, hA, hb⟩ := rowReadB g1
  obtain ⟨b, e2, -⟩ := DataW.trod_bool Tryd.underlying4 g2
  simp at e0 e2
  subst e0 e2
  exact ⟨cap, s, a, c, b, rfl, ha, hA, hb⟩
end Go.Proofs.YthgefddocenjmaaDoor
