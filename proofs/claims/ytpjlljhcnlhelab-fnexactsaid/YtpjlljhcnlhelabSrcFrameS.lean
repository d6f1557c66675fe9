/- How sources read as arguments of a law, in a cut that has no programs. No condition. -/
import Derived.Test.YtpjlljhcnlhelabRows
import Derived.Test.YtpjlljhcnlhelabSrcSz
import Derived.ProofKit
import Derived.OpenShut
import Derived.ShutString
import Derived.ChangeOld
import Derived.Below
import Derived.Deep.Slices
namespace Go.Proofs.Ytpjlljhcnlhelab
set_option linter.unusedSimpArgs false
set_option linter.unusedVariables false
set_option maxRecDepth 100000
open Go.ChangeShapes Go.WideShapes Go.ChangeAt Go.RowKit Go.Deep

theorem cellsInt : Try.prog.cellsOf 3 = 1 := by kernel_rfl
theorem cell_lt {w : World} {a : Addr} {v : Value} (h : w.cell? a = some v) : a.block < w.heap.size := by
  apply Classical.byContradiction
  intro hn
  have : w.heap[a.block]? = none := by simp; omega
  simp [World.cell?, this] at h

theorem add_plain (g off n : Nat) : (Addr.add ⟨g, off, none⟩ n) = ⟨g, off + n, none⟩ := by
  by_cases h : n = 0
  · subst h; rfl
  · simp [Addr.add, h]

theorem list2 {α : Type} {cs : List α} (h : cs.length = 2) : ∃ c0 c1, cs = [c0, c1] := by
  match cs, h with
  | [c0, c1], _ => exact ⟨c0, c1, rfl⟩
theorem list3 {α : Type} {cs : List α} (h : cs.length = 3) : ∃ c0 c1 c2, cs = [c0, c1, c2] := by
  match cs, h with
  | [c0, c1, c2], _ => exact ⟨c0, c1, c2, rfl⟩
theorem cellsBo : Try.prog.cellsOf 4 = 1 := by kernel_rfl
theorem ownP : ownKnob Try.prog.godebug = none := by kernel_rfl
theorem laidOutP : laidOutB Try.prog = true := by kernel_rfl
theorem cellsSi : Try.prog.cellsOf 28 = 1 := by kernel_rfl
theorem ints_read {H : Type} {enc : TypeId × Value → H} {w : World} {base : Nat} {held : Bool} {fuel : Nat} {v : Value} {x : DataW H × List MemPlace}
    (hf : DataW.trod enc Try.prog w base (fun _ => true) held fuel 28 [v] = some x) :
    ∃ (s : Option Addr) (c : Nat) (l : List Int), v = .slice s l.length c ∧ l.length ≤ maxLen ∧ IntsR w 0 w.heap.size s l := by
  rcases open_ints Try.underlying28 Try.underlying3 cellsInt hf with ⟨hcs, _⟩ | ⟨a, len, cap, zs, hcs, _, hl, hm, hz, _, hcell, _⟩
  · simp at hcs
    exact ⟨none, 0, [], hcs, Nat.zero_le _, .inl rfl⟩
  · simp at hcs hz
    by_cases h0 : len = 0
    · subst h0
      exact ⟨some a, cap, [], hcs, Nat.zero_le _, .inl rfl⟩
    · have c0 := hcell 0 (by omega)
      have c0' : w.cell? a = some (.int .i64 (zs.getD 0 0)) := by simpa [Addr.add] using c0
      have hs := World.cell?_spot c0'
      have hg := cell_lt c0'
      obtain ⟨g, off, spot⟩ := a
      simp at hs
      subst hs
      refine ⟨some ⟨g, off, none⟩, cap, zs.take len, ?_, ?_, .inr ⟨g, off, rfl, Nat.zero_le _, hg, ?_⟩⟩
      · rw [hcs]
        congr 1
        simp
        omega
      · simp
        omega
      · intro i hi
        have hi' : i < len := by simp at hi; omega
        have := hcell i (by omega)
        rw [add_plain] at this
        rw [this]
        simp [List.getD_eq_getElem?_getD, List.getElem?_take, hi']

theorem cellsThread : Try.prog.cellsOf 57 = 3 := by kernel_rfl
theorem recT_cells {H : Type} {enc : TypeId × Value → H} {w : World} {base : Nat} {held : Bool} {fuel : Nat} {cs : List Value} {x : DataW H × List MemPlace}
    (h : DataW.trod enc Try.prog w base (fun _ => true) held fuel 57 cs = some x) :
    ∃ (t : TD) (s : Option Addr) (c : Nat), cs = [t.rec3.a, .slice s t.rec3.l.length c, t.rec3.z] ∧ t.regs.length ≤ maxLen ∧ IntsR w 0 w.heap.size s t.rec3.l := by
  obtain ⟨xs, n, _, rfl, hl, hlen, hf⟩ := DataW.trod_struct Try.underlying57 h
  rw [cellsThread] at hl
  obtain ⟨c0, c1, c2, rfl⟩ := list3 hl
  obtain ⟨y0, y1, y2, rfl⟩ := list3 (hlen.trans rfl)
  have g0 := hf 0 _ rfl
  have g1 := hf 1 _ rfl
  have g2 := hf 2 _ rfl
  simp [cellsInt, cellsSi, cellsInt] at g0 g1 g2
  obtain ⟨pc, e0, -, -⟩ := DataW.trod_int Try.underlying3 g0
  obtain ⟨s, c, l, rfl, ha, hA⟩ := ints_read g1
  obtain ⟨st, e2, -, -⟩ := DataW.trod_int Try.underlying3 g2
  simp at e0 e2
  subst e0 e2
  exact ⟨⟨pc, l, st⟩, s, c, rfl, ha, hA⟩
theorem recsT_read {H : Type} {enc : TypeId × Value → H} {w : World} {base : Nat} {held : Bool} {fuel : Nat} {v : Value} {x : DataW H × List MemPlace}
    (hf : DataW.trod enc Try.prog w base (fun _ => true) held fuel 22 [v] = some x) :
    ∃ (s : Option Addr) (c : Nat) (l : List TD), v = .slice s l.length c ∧ l.length ≤ maxLen ∧ (∀ (i : Nat) (t : TD), l[i]? = some t → t.regs.length ≤ maxLen) ∧ RecsR w 0 w.heap.size s (l.map TD.rec3) := by
  rcases open_slice Try.underlying22 hf with ⟨hcs, -⟩ | ⟨a, len, cap, m, n, D, Pl, hcs, -, hl, hm, hmm, -, hel⟩
  · simp at hcs
    exact ⟨none, 0, [], hcs, Nat.zero_le _, fun i t ht => by simp at ht, .inl rfl⟩
  · simp at hcs
    rw [cellsThread] at hel
    have hle : len ≤ m := by rw [hmm]; split <;> omega
    by_cases h0 : len = 0
    · subst h0
      exact ⟨some a, cap, [], hcs, Nat.zero_le _, fun i t ht => by simp at ht, .inl rfl⟩
    · obtain ⟨cs0, h1, h2⟩ := hel 0 (by omega)
      obtain ⟨t0, q0, r0, rfl, -, -⟩ := recT_cells h2
      obtain ⟨-, -, hcell0⟩ := World.cells?_some h1
      have c0 : w.cell? a = some t0.rec3.a := by simpa [Addr.add] using hcell0 0 (by omega)
      have hs := World.cell?_spot c0
      have hg := cell_lt c0
      obtain ⟨g, off, spot⟩ := a
      simp at hs
      subst hs
      obtain ⟨V, hV⟩ := @choose_lt TD ⟨t0⟩ len (fun i y => RecR w 0 w.heap.size g (off + i * 3) y.rec3 ∧ y.regs.length ≤ maxLen) (fun i hi => by
        obtain ⟨cs', h1, h2⟩ := hel i (by omega)
        obtain ⟨t, q, r, rfl, hm1, hI⟩ := recT_cells h2
        obtain ⟨-, -, hcell⟩ := World.cells?_some h1
        rw [add_plain] at hcell
        have c0 := hcell 0 (by omega)
        have c1 := hcell 1 (by omega)
        have c2 := hcell 2 (by omega)
        rw [add_plain] at c0 c1 c2
        exact ⟨t, ⟨q, r, c0, c1, c2, hI⟩, hm1⟩)
      have e : ∀ i t, ((List.range len).map V)[i]? = some t → i < len ∧ t = V i := fun i t ht => by
        rw [List.getElem?_map] at ht
        obtain ⟨y, hy, rfl⟩ := Option.map_eq_some_iff.1 ht
        have hi : i < len := by have := (List.getElem?_eq_some_iff.1 hy).1; simpa using this
        rw [List.getElem?_range hi] at hy
        injection hy with hy
        exact ⟨hi, by rw [hy]⟩
      refine ⟨some ⟨g, off, none⟩, cap, (List.range len).map V, by simp [hcs], by simp; omega, fun i t ht => ?_, .inr ⟨g, off, rfl, Nat.zero_le _, hg, fun i r hr => ?_⟩⟩
      · obtain ⟨hi, rfl⟩ := e i t ht
        exact (hV i hi).2
      · rw [List.getElem?_map] at hr
        obtain ⟨y, hy, rfl⟩ := Option.map_eq_some_iff.1 hr
        obtain ⟨hi, rfl⟩ := e i y hy
        exact (hV i hi).1

theorem cellsChan : Try.prog.cellsOf 60 = 3 := by kernel_rfl
theorem recC_cells {H : Type} {enc : TypeId × Value → H} {w : World} {base : Nat} {held : Bool} {fuel : Nat} {cs : List Value} {x : DataW H × List MemPlace}
    (h : DataW.trod enc Try.prog w base (fun _ => true) held fuel 60 cs = some x) :
    ∃ (t : CD) (s : Option Addr) (c : Nat), cs = [t.rec3.a, .slice s t.rec3.l.length c, t.rec3.z] ∧ t.list.length ≤ maxLen ∧ IntsR w 0 w.heap.size s t.rec3.l := by
  obtain ⟨xs, n, _, rfl, hl, hlen, hf⟩ := DataW.trod_struct Try.underlying60 h
  rw [cellsChan] at hl
  obtain ⟨c0, c1, c2, rfl⟩ := list3 hl
  obtain ⟨y0, y1, y2, rfl⟩ := list3 (hlen.trans rfl)
  have g0 := hf 0 _ rfl
  have g1 := hf 1 _ rfl
  have g2 := hf 2 _ rfl
  simp [cellsInt, cellsSi, cellsBo] at g0 g1 g2
  obtain ⟨pc, e0, -, -⟩ := DataW.trod_int Try.underlying3 g0
  obtain ⟨s, c, l, rfl, ha, hA⟩ := ints_read g1
  obtain ⟨st, e2, -⟩ := DataW.trod_bool Try.underlying4 g2
  simp at e0 e2
  subst e0 e2
  exact ⟨⟨pc, l, st⟩, s, c, rfl, ha, hA⟩
theorem recsC_read {H : Type} {enc : TypeId × Value → H} {w : World} {base : Nat} {held : Bool} {fuel : Nat} {v : Value} {x : DataW H × List MemPlace}
    (hf : DataW.trod enc Try.prog w base (fun _ => true) held fuel 23 [v] = some x) :
    ∃ (s : Option Addr) (c : Nat) (l : List CD), v = .slice s l.length c ∧ l.length ≤ maxLen ∧ (∀ (i : Nat) (t : CD), l[i]? = some t → t.list.length ≤ maxLen) ∧ RecsR w 0 w.heap.size s (l.map CD.rec3) := by
  rcases open_slice Try.underlying23 hf with ⟨hcs, -⟩ | ⟨a, len, cap, m, n, D, Pl, hcs, -, hl, hm, hmm, -, hel⟩
  · simp at hcs
    exact ⟨none, 0, [], hcs, Nat.zero_le _, fun i t ht => by simp at ht, .inl rfl⟩
  · simp at hcs
    rw [cellsChan] at hel
    have hle : len ≤ m := by rw [hmm]; split <;> omega
    by_cases h0 : len = 0
    · subst h0
      exact ⟨some a, cap, [], hcs, Nat.zero_le _, fun i t ht => by simp at ht, .inl rfl⟩
    · obtain ⟨cs0, h1, h2⟩ := hel 0 (by omega)
      obtain ⟨t0, q0, r0, rfl, -, -⟩ := recC_cells h2
      obtain ⟨-, -, hcell0⟩ := World.cells?_some h1
      have c0 : w.cell? a = some t0.rec3.a := by simpa [Addr.add] using hcell0 0 (by omega)
      have hs := World.cell?_spot c0
      have hg := cell_lt c0
      obtain ⟨g, off, spot⟩ := a
      simp at hs
      subst hs
      obtain ⟨V, hV⟩ := @choose_lt CD ⟨t0⟩ len (fun i y => RecR w 0 w.heap.size g (off + i * 3) y.rec3 ∧ y.list.length ≤ maxLen) (fun i hi => by
        obtain ⟨cs', h1, h2⟩ := hel i (by omega)
        obtain ⟨t, q, r, rfl, hm1, hI⟩ := recC_cells h2
        obtain ⟨-, -, hcell⟩ := World.cells?_some h1
        rw [add_plain] at hcell
        have c0 := hcell 0 (by omega)
        have c1 := hcell 1 (by omega)
        have c2 := hcell 2 (by omega)
        rw [add_plain] at c0 c1 c2
        exact ⟨t, ⟨q, r, c0, c1, c2, hI⟩, hm1⟩)
      have e : ∀ i t, ((List.range len).map V)[i]? = some t → i < len ∧ t = V i := fun i t ht => by
        rw [List.getElem?_map] at ht
        obtain ⟨y, hy, rfl⟩ := Option.map_eq_some_iff.1 ht
        have hi : i < len := by have := (List.getElem?_eq_some_iff.1 hy).1; simpa using this
        rw [List.getElem?_range hi] at hy
        injection hy with hy
        exact ⟨hi, by rw [hy]⟩
      refine ⟨some ⟨g, off, none⟩, cap, (List.range len).map V, by simp [hcs], by simp; omega, fun i t ht => ?_, .inr ⟨g, off, rfl, Nat.zero_le _, hg, fun i r hr => ?_⟩⟩
      · obtain ⟨hi, rfl⟩ := e i t ht
        exact (hV i hi).2
      · rw [List.getElem?_map] at hr
        obtain ⟨y, hy, rfl⟩ := Option.map_eq_some_iff.1 hr
        obtain ⟨hi, rfl⟩ := e i y hy
        exact (hV i hi).1

theorem cellsNote : Try.prog.cellsOf 66 = 2 := by kernel_rfl
theorem note_cells {H : Type} {enc : TypeId × Value → H} {w : World} {base : Nat} {held : Bool} {fuel : Nat} {cs : List Value} {x : DataW H × List MemPlace}
    (h : DataW.trod enc Try.prog w base (fun _ => true) held fuel 66 cs = some x) : ∃ t : ND, cs = [.int .i64 t.who, .int .i64 t.v] := by
  obtain ⟨xs, n, _, rfl, hl, hlen, hf⟩ := DataW.trod_struct Try.underlying66 h
  rw [cellsNote] at hl
  obtain ⟨c0, c1, rfl⟩ := list2 hl
  obtain ⟨y0, y1, rfl⟩ := list2 (hlen.trans rfl)
  have g0 := hf 0 _ rfl
  have g1 := hf 1 _ rfl
  simp [cellsInt] at g0 g1
  obtain ⟨a, e0, -, -⟩ := DataW.trod_int Try.underlying3 g0
  obtain ⟨b, e1, -, -⟩ := DataW.trod_int Try.underlying3 g1
  simp at e0 e1
  subst e0 e1
  exact ⟨⟨a, b⟩, rfl⟩
theorem notes_read {H : Type} {enc : TypeId × Value → H} {w : World} {base : Nat} {held : Bool} {fuel : Nat} {v : Value} {x : DataW H × List MemPlace}
    (hf : DataW.trod enc Try.prog w base (fun _ => true) held fuel 24 [v] = some x) :
    ∃ (s : Option Addr) (c : Nat) (l : List ND), v = .slice s l.length c ∧ l.length ≤ maxLen ∧ NtsR w 0 w.heap.size s l := by
  rcases open_slice Try.underlying24 hf with ⟨hcs, -⟩ | ⟨a, len, cap, m, n, D, Pl, hcs, -, hl, hm, hmm, -, hel⟩
  · simp at hcs
    exact ⟨none, 0, [], hcs, Nat.zero_le _, .inl rfl⟩
  · simp at hcs
    rw [cellsNote] at hel
    have hle : len ≤ m := by rw [hmm]; split <;> omega
    by_cases h0 : len = 0
    · subst h0
      exact ⟨some a, cap, [], hcs, Nat.zero_le _, .inl rfl⟩
    · obtain ⟨cs0, h1, h2⟩ := hel 0 (by omega)
      obtain ⟨t0, rfl⟩ := note_cells h2
      obtain ⟨-, -, hcell0⟩ := World.cells?_some h1
      have c0 : w.cell? a = some (.int .i64 t0.who) := by simpa [Addr.add] using hcell0 0 (by omega)
      have hs := World.cell?_spot c0
      have hg := cell_lt c0
      obtain ⟨g, off, spot⟩ := a
      simp at hs
      subst hs
      obtain ⟨V, hV⟩ := @choose_lt ND ⟨t0⟩ len (fun i y => NtR w g (off + i * 2) y) (fun i hi => by
        obtain ⟨cs', h1, h2⟩ := hel i (by omega)
        obtain ⟨t, rfl⟩ := note_cells h2
        obtain ⟨-, -, hcell⟩ := World.cells?_some h1
        rw [add_plain] at hcell
        have c0 := hcell 0 (by omega)
        have c1 := hcell 1 (by omega)
        rw [add_plain] at c0 c1
        exact ⟨t, c0, c1⟩)
      refine ⟨some ⟨g, off, none⟩, cap, (List.range len).map V, by simp [hcs], by simp; omega, .inr ⟨g, off, rfl, Nat.zero_le _, hg, fun i r hr => ?_⟩⟩
      rw [List.getElem?_map] at hr
      obtain ⟨y, hy, rfl⟩ := Option.map_eq_some_iff.1 hr
      have hi : i < len := by have := (List.getElem?_eq_some_iff.1 hy).1; simpa using this
      rw [List.getElem?_range hi] at hy
      injection hy with hy
      rw [← hy]
      exact hV i hi

theorem cellsST : Try.prog.cellsOf 22 = 1 := by kernel_rfl
theorem cellsSC : Try.prog.cellsOf 23 = 1 := by kernel_rfl
theorem cellsSN : Try.prog.cellsOf 24 = 1 := by kernel_rfl
theorem cellsSrc : Try.prog.cellsOf 26 = 3 := by kernel_rfl
theorem open_source {H : Type} {enc : TypeId × Value → H} {w : World} {base b0 : Nat} {held : Bool} {k : Reach} {v : Value} {d : DataW H} {q : List MemPlace}
    (hv : Value.okWide Try.prog w k b0 26 v) (h : DataW.Trod enc Try.prog w base (fun _ => true) held 26 v d q) :
    ∃ (s1 s2 s3 : Option Addr) (c1 c2 c3 : Nat) (p : SD), v = .agg #[.slice s1 p.ths.length c1, .slice s2 p.chs.length c2, .slice s3 p.tr.length c3] ∧ SLens p ∧ SrcR w 0 w.heap.size s1 s2 s3 p := by
  obtain ⟨cs, rfl, hsz⟩ := okWide_struct Try.underlying26 hv
  obtain ⟨fuel, hf⟩ := h
  obtain ⟨xs, n, _, _, hl, hlen, hfs⟩ := DataW.trod_struct Try.underlying26 hf
  rw [cellsSrc] at hl
  obtain ⟨l⟩ := cs
  have hl' : l.length = 3 := by simpa [Value.cells] using hl
  obtain ⟨c0, c1, c2, rfl⟩ := list3 hl'
  obtain ⟨y0, y1, y2, rfl⟩ := list3 (hlen.trans rfl)
  have g0 := hfs 0 _ rfl
  have g1 := hfs 1 _ rfl
  have g2 := hfs 2 _ rfl
  simp [cellsST, cellsSC, cellsSN, Value.cells] at g0 g1 g2
  obtain ⟨s1, k1, a, rfl, ha, ha', hA⟩ := recsT_read g0
  obtain ⟨s2, k2, b, rfl, hb, hb', hB⟩ := recsC_read g1
  obtain ⟨s3, k3, e, rfl, he, hE⟩ := notes_read g2
  exact ⟨s1, s2, s3, k1, k2, k3, ⟨a, b, e⟩, rfl, ⟨⟨ha, ha'⟩, ⟨hb, hb'⟩, he⟩, hA, hB, hE⟩


end Go.Proofs.Ytpjlljhcnlhelab
