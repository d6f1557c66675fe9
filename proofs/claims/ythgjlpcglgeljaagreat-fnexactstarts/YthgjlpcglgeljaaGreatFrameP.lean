/- How programs read as arguments of a law, in a cut that has no sources among them. No condition. -/
import Derived.Test.YthgjlpcglgeljaaGreatFrameInsS
import Derived.Test.YthgjlpcglgeljaaGreatProgCopy
namespace Go.Proofs.YthgjlpcglgeljaaGreat
set_option linter.unusedSimpArgs false
set_option linter.unusedVariables false
set_option maxRecDepth 100000
open Go.ChangeShapes Go.WideShapes Go.ChangeAt Go.RowKit Go.Deep

theorem list2 {α : Type} {cs : List α} (h : cs.length = 2) : ∃ c0 c1, cs = [c0, c1] := by
  match cs, h with
  | [c0, c1], _ => exact ⟨c0, c1, rfl⟩
theorem list3 {α : Type} {cs : List α} (h : cs.length = 3) : ∃ c0 c1 c2, cs = [c0, c1, c2] := by
  match cs, h with
  | [c0, c1, c2], _ => exact ⟨c0, c1, c2, rfl⟩
theorem cellsBo : Tryz.prog.cellsOf 4 = 1 := by kernel_rfl
theorem ownP : ownKnob Tryz.prog.godebug = none := by kernel_rfl
theorem laidOutP : laidOutB Tryz.prog = true := by kernel_rfl
theorem cellsSl : Tryz.prog.cellsOf 48 = 1 := by kernel_rfl
theorem cellsSi : Tryz.prog.cellsOf 22 = 1 := by kernel_rfl
theorem cellsSS : Tryz.prog.cellsOf 23 = 1 := by kernel_rfl
theorem cellsPr : Tryz.prog.cellsOf 25 = 2 := by kernel_rfl

theorem ints_read {H : Type} {enc : TypeId × Value → H} {w : World} {base : Nat} {held : Bool} {fuel : Nat} {v : Value} {x : DataW H × List MemPlace}
    (hf : DataW.trod enc Tryz.prog w base (fun _ => true) held fuel 22 [v] = some x) :
    ∃ (s : Option Addr) (c : Nat) (l : List Int), v = .slice s l.length c ∧ l.length ≤ maxLen ∧ IntsR w 0 w.heap.size s l := by
  rcases open_ints Tryz.underlying22 Tryz.underlying3 cellsInt hf with ⟨hcs, _⟩ | ⟨a, len, cap, zs, hcs, _, hl, hm, hz, _, hcell, _⟩
  · simp at hcs
    exact ⟨none, 0, [], hcs, Nat.zero_le _, .inl rfl⟩
  · simp at hcs hz
    by_cases h0 : len = 0
    · subst h0
      exact ⟨some a, cap, [], hcs, Nat.zero_le _, .inl rfl⟩
    · have c0 := hcell 0 (by omega)
      have c0' : w.cell? a = some (.int .i64 (zs.getD 0 0)) := by simpa [Addr.add] using c0
      have hs := World.cell?_spot c0'
      have hg := cell_lt c0'
      obtain ⟨g, off, spot⟩ := a
      simp at hs
      subst hs
      refine ⟨some ⟨g, off, none⟩, cap, zs.take len, ?_, ?_, .inr ⟨g, off, rfl, Nat.zero_le _, hg, ?_⟩⟩
      · rw [hcs]
        congr 1
        simp
        omega
      · simp
        omega
      · intro i hi
        have hi' : i < len := by simp at hi; omega
        have := hcell i (by omega)
        rw [add_plain] at this
        rw [this]
        simp [List.getD_eq_getElem?_getD, List.getElem?_take, hi']

theorem insS_read {H : Type} {enc : TypeId × Value → H} {w : World} {base : Nat} {held : Bool} {fuel : Nat} {v : Value} {x : DataW H × List MemPlace}
    (hf : DataW.trod enc Tryz.prog w base (fun _ => true) held fuel 48 [v] = some x) :
    ∃ (s : Option Addr) (c : Nat) (l : List I5), v = .slice s l.length c ∧ l.length ≤ maxLen ∧ InsR w 0 w.heap.size s l := by
  rcases open_slice Tryz.underlying48 hf with ⟨hcs, -⟩ | ⟨a, len, cap, m, n, D, Pl, hcs, -, hl, hm, hmm, -, hel⟩
  · simp at hcs
    exact ⟨none, 0, [], hcs, Nat.zero_le _, .inl rfl⟩
  · simp at hcs
    rw [cellsIns] at hel
    have hle : len ≤ m := by rw [hmm]; split <;> omega
    by_cases h0 : len = 0
    · subst h0
      exact ⟨some a, cap, [], hcs, Nat.zero_le _, .inl rfl⟩
    · obtain ⟨cs0, h1, h2⟩ := hel 0 (by omega)
      obtain ⟨hs, hg⟩ := insS_spot h1 h2
      obtain ⟨g, off, spot⟩ := a
      simp at hs
      subst hs
      obtain ⟨V, hV⟩ := @choose_lt I5 ⟨z5⟩ len (fun i y => At5 w g (off + i * 5) y) (fun i hi => by
        obtain ⟨cs', h1, h2⟩ := hel i (by omega)
        exact insS_at h1 h2)
      refine ⟨some ⟨g, off, none⟩, cap, (List.range len).map V, by simp [hcs], by simp; omega, .inr ⟨g, off, rfl, Nat.zero_le _, hg, ?_⟩⟩
      intro i hi
      simp at hi
      have e : ((List.range len).map V).getD i z5 = V i := by simp [hi]
      rw [e]
      exact hV i hi

theorem bods_read {H : Type} {enc : TypeId × Value → H} {w : World} {base : Nat} {held : Bool} {fuel : Nat} {v : Value} {x : DataW H × List MemPlace}
    (hf : DataW.trod enc Tryz.prog w base (fun _ => true) held fuel 23 [v] = some x) :
    ∃ (s : Option Addr) (c : Nat) (l : List (List I5)), v = .slice s l.length c ∧ l.length ≤ maxLen ∧ (∀ i, i < l.length → (l.getD i []).length ≤ maxLen) ∧ BodsR w 0 w.heap.size s l := by
  rcases open_slice1 Tryz.underlying23 cellsSl hf with ⟨hcs, -⟩ | ⟨a, len, cap, m, n, V, D, Pl, hcs, -, hl, hm, hmm, -, hel⟩
  · simp at hcs
    exact ⟨none, 0, [], hcs, Nat.zero_le _, fun i hi => absurd hi (Nat.not_lt_zero _), .inl rfl⟩
  · simp at hcs
    have hle : len ≤ m := by rw [hmm]; split <;> omega
    by_cases h0 : len = 0
    · subst h0
      exact ⟨some a, cap, [], hcs, Nat.zero_le _, fun i hi => absurd hi (Nat.not_lt_zero _), .inl rfl⟩
    · obtain ⟨c0, -⟩ := hel 0 (by omega)
      have c0' : w.cell? a = some (V 0) := by simpa [Addr.add] using c0
      have hs := World.cell?_spot c0'
      have hg := cell_lt c0'
      obtain ⟨g, off, spot⟩ := a
      simp at hs
      subst hs
      obtain ⟨L, hL⟩ := @choose_lt (List I5) ⟨[]⟩ len (fun i l => BodR w 0 w.heap.size g (off + i) l ∧ l.length ≤ maxLen) (fun i hi => by
        obtain ⟨h1, h2⟩ := hel i (by omega)
        obtain ⟨s, c, l, hv, hlm, hin⟩ := insS_read h2
        rw [add_plain, hv] at h1
        exact ⟨l, ⟨s, c, h1, hin⟩, hlm⟩)
      have e : ∀ i, i < len → ((List.range len).map L).getD i [] = L i := fun i hi => by simp [hi]
      refine ⟨some ⟨g, off, none⟩, cap, (List.range len).map L, by simp [hcs], by simp; omega, ?_, .inr ⟨g, off, rfl, Nat.zero_le _, hg, ?_⟩⟩
      · intro i hi
        simp at hi
        rw [e i hi]
        exact (hL i hi).2
      · intro i hi
        simp at hi
        rw [e i hi]
        exact (hL i hi).1

theorem open_prog {H : Type} {enc : TypeId × Value → H} {w : World} {base b0 : Nat} {held : Bool} {k : Reach} {v : Value} {d : DataW H} {q : List MemPlace}
    (hv : Value.okWide Tryz.prog w k b0 25 v) (h : DataW.Trod enc Tryz.prog w base (fun _ => true) held 25 v d q) :
    ∃ (s s' : Option Addr) (c c' : Nat) (p : PD), v = .agg #[.slice s p.caps.length c, .slice s' p.bods.length c'] ∧ p.caps.length ≤ maxLen ∧ p.bods.length ≤ maxLen ∧ (∀ i, i < p.bods.length → (p.bods.getD i []).length ≤ maxLen) ∧ ProgR w 0 w.heap.size s s' p := by
  obtain ⟨cs, rfl, hsz⟩ := okWide_struct Tryz.underlying25 hv
  obtain ⟨fuel, hf⟩ := h
  obtain ⟨xs, n, _, _, hl, hlen, hfs⟩ := DataW.trod_struct Tryz.underlying25 hf
  rw [cellsPr] at hl
  obtain ⟨l⟩ := cs
  have hl' : l.length = 2 := by simpa [Value.cells] using hl
  obtain ⟨c0, c1, rfl⟩ := list2 hl'
  obtain ⟨y0, y1, rfl⟩ := list2 (hlen.trans rfl)
  have g0 := hfs 0 _ rfl
  have g1 := hfs 1 _ rfl
  simp [cellsSi, cellsSS, Value.cells] at g0 g1
  obtain ⟨s, c, a, rfl, ha, hA⟩ := ints_read g0
  obtain ⟨s', c', b, rfl, hb, hb', hB⟩ := bods_read g1
  exact ⟨s, s', c, c', ⟨a, b⟩, rfl, ha, hb, hb', hA, hB⟩




end Go.Proofs.YthgjlpcglgeljaaGreat
