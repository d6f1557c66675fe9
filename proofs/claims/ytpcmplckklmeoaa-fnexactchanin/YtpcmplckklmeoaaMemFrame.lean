/- How memories read as arguments of a law. No condition. -/
import Derived.Test.YtpcmplckklmeoaaFrameN
import Derived.Test.YtpcmplckklmeoaaMemDefs
namespace Go.Proofs.Ytpcmplckklmeoaa
set_option linter.unusedSimpArgs false
set_option linter.unusedVariables false
set_option maxRecDepth 100000
open Go.ChangeShapes Go.WideShapes Go.ChangeAt Go.RowKit Go.Deep

theorem cellsWrite : Try.prog.cellsOf 74 = 2 := by kernel_rfl
theorem cellsWS : Try.prog.cellsOf 62 = 1 := by kernel_rfl
theorem cellsWSS : Try.prog.cellsOf 27 = 1 := by kernel_rfl
theorem cellsMem : Try.prog.cellsOf 29 = 1 := by kernel_rfl
theorem list1 {α : Type} {cs : List α} (h : cs.length = 1) : ∃ c0, cs = [c0] := by
  match cs, h with
  | [c0], _ => exact ⟨c0, rfl⟩
theorem write_cells {H : Type} {enc : TypeId × Value → H} {w : World} {base : Nat} {held : Bool} {fuel : Nat} {cs : List Value} {x : DataW H × List MemPlace}
    (h : DataW.trod enc Try.prog w base (fun _ => true) held fuel 74 cs = some x) :
    ∃ (t : WD) (s : Option Addr) (c : Nat), cs = [.int .i64 t.v, .slice s t.vw.length c] ∧ t.vw.length ≤ maxLen ∧ IntsR w 0 w.heap.size s t.vw := by
  obtain ⟨xs, n, _, rfl, hl, hlen, hf⟩ := DataW.trod_struct Try.underlying74 h
  rw [cellsWrite] at hl
  obtain ⟨c0, c1, rfl⟩ := list2 hl
  obtain ⟨y0, y1, rfl⟩ := list2 (hlen.trans rfl)
  have g0 := hf 0 _ rfl
  have g1 := hf 1 _ rfl
  simp [cellsInt, cellsSi] at g0 g1
  obtain ⟨pc, e0, -, -⟩ := DataW.trod_int Try.underlying3 g0
  obtain ⟨s, c, l, rfl, ha, hA⟩ := ints_read g1
  simp at e0
  subst e0
  exact ⟨⟨pc, l⟩, s, c, rfl, ha, hA⟩
theorem writes_read {H : Type} {enc : TypeId × Value → H} {w : World} {base : Nat} {held : Bool} {fuel : Nat} {v : Value} {x : DataW H × List MemPlace}
    (hf : DataW.trod enc Try.prog w base (fun _ => true) held fuel 62 [v] = some x) :
    ∃ (s : Option Addr) (c : Nat) (l : List WD), v = .slice s l.length c ∧ l.length ≤ maxLen ∧ (∀ (i : Nat) (t : WD), l[i]? = some t → t.vw.length ≤ maxLen) ∧ WsR w 0 w.heap.size s l := by
  rcases open_slice Try.underlying62 hf with ⟨hcs, -⟩ | ⟨a, len, cap, m, n, D, Pl, hcs, -, hl, hm, hmm, -, hel⟩
  · simp at hcs
    exact ⟨none, 0, [], hcs, Nat.zero_le _, fun i t ht => by simp at ht, .inl rfl⟩
  · simp at hcs
    rw [cellsWrite] at hel
    have hle : len ≤ m := by rw [hmm]; split <;> omega
    by_cases h0 : len = 0
    · subst h0
      exact ⟨some a, cap, [], hcs, Nat.zero_le _, fun i t ht => by simp at ht, .inl rfl⟩
    · obtain ⟨cs0, h1, h2⟩ := hel 0 (by omega)
      obtain ⟨t0, q0, r0, rfl, -, -⟩ := write_cells h2
      obtain ⟨-, -, hcell0⟩ := World.cells?_some h1
      have c0 : w.cell? a = some (.int .i64 t0.v) := by simpa [Addr.add] using hcell0 0 (by omega)
      have hs := World.cell?_spot c0
      have hg := cell_lt c0
      obtain ⟨g, off, spot⟩ := a
      simp at hs
      subst hs
      obtain ⟨V, hV⟩ := @choose_lt WD ⟨t0⟩ len (fun i y => WR w 0 w.heap.size g (off + i * 2) y ∧ y.vw.length ≤ maxLen) (fun i hi => by
        obtain ⟨cs', h1, h2⟩ := hel i (by omega)
        obtain ⟨t, q, r, rfl, hm1, hI⟩ := write_cells h2
        obtain ⟨-, -, hcell⟩ := World.cells?_some h1
        rw [add_plain] at hcell
        have c0 := hcell 0 (by omega)
        have c1 := hcell 1 (by omega)
        rw [add_plain] at c0 c1
        exact ⟨t, ⟨q, r, c0, c1, hI⟩, hm1⟩)
      have e : ∀ i t, ((List.range len).map V)[i]? = some t → i < len ∧ t = V i := fun i t ht => by
        rw [List.getElem?_map] at ht
        obtain ⟨y, hy, rfl⟩ := Option.map_eq_some_iff.1 ht
        have hi : i < len := by have := (List.getElem?_eq_some_iff.1 hy).1; simpa using this
        rw [List.getElem?_range hi] at hy
        injection hy with hy
        exact ⟨hi, by rw [hy]⟩
      refine ⟨some ⟨g, off, none⟩, cap, (List.range len).map V, by simp [hcs], by simp; omega, fun i t ht => ?_, .inr ⟨g, off, rfl, Nat.zero_le _, hg, fun i r hr => ?_⟩⟩
      · obtain ⟨hi, rfl⟩ := e i t ht
        exact (hV i hi).2
      · obtain ⟨hi, rfl⟩ := e i r hr
        exact (hV i hi).1
theorem mem_read {H : Type} {enc : TypeId × Value → H} {w : World} {base : Nat} {held : Bool} {fuel : Nat} {v : Value} {x : DataW H × List MemPlace}
    (hf : DataW.trod enc Try.prog w base (fun _ => true) held fuel 27 [v] = some x) :
    ∃ (s : Option Addr) (c : Nat) (m : List (List WD)), v = .slice s m.length c ∧ MLens m ∧ MemR w 0 w.heap.size s m := by
  rcases open_slice1 Try.underlying27 cellsWS hf with ⟨hcs, -⟩ | ⟨a, len, cap, m, n, V, D, Pl, hcs, -, hl, hm, hmm, -, hel⟩
  · simp at hcs
    exact ⟨none, 0, [], hcs, ⟨Nat.zero_le _, fun i l h => by simp at h, fun i l k x h => by simp at h⟩, .inl rfl⟩
  · simp at hcs
    have hle : len ≤ m := by rw [hmm]; split <;> omega
    by_cases h0 : len = 0
    · subst h0
      exact ⟨some a, cap, [], hcs, ⟨Nat.zero_le _, fun i l h => by simp at h, fun i l k x h => by simp at h⟩, .inl rfl⟩
    · obtain ⟨c0, -⟩ := hel 0 (by omega)
      have c0' : w.cell? a = some (V 0) := by simpa [Addr.add] using c0
      have hs := World.cell?_spot c0'
      have hg := cell_lt c0'
      obtain ⟨g, off, spot⟩ := a
      simp at hs
      subst hs
      obtain ⟨L, hL⟩ := @choose_lt (List WD) ⟨[]⟩ len (fun i l => RwR w 0 w.heap.size g (off + i) l ∧ l.length ≤ maxLen ∧ ∀ (k : Nat) (x : WD), l[k]? = some x → x.vw.length ≤ maxLen) (fun i hi => by
        obtain ⟨h1, h2⟩ := hel i (by omega)
        obtain ⟨s, c, l, hv, hlm, hlv, hin⟩ := writes_read h2
        rw [add_plain, hv] at h1
        exact ⟨l, ⟨s, c, h1, hin⟩, hlm, hlv⟩)
      have e : ∀ i t, ((List.range len).map L)[i]? = some t → i < len ∧ t = L i := fun i t ht => by
        rw [List.getElem?_map] at ht
        obtain ⟨y, hy, rfl⟩ := Option.map_eq_some_iff.1 ht
        have hi : i < len := by have := (List.getElem?_eq_some_iff.1 hy).1; simpa using this
        rw [List.getElem?_range hi] at hy
        injection hy with hy
        exact ⟨hi, by rw [hy]⟩
      refine ⟨some ⟨g, off, none⟩, cap, (List.range len).map L, by simp [hcs], ⟨by simp; omega, fun i l hl => ?_, fun i l k x hl hx => ?_⟩, .inr ⟨g, off, rfl, Nat.zero_le _, hg, fun i l hl => ?_⟩⟩
      · obtain ⟨hi, rfl⟩ := e i l hl
        exact (hL i hi).2.1
      · obtain ⟨hi, rfl⟩ := e i l hl
        exact (hL i hi).2.2 k x hx
      · obtain ⟨hi, rfl⟩ := e i l hl
        exact (hL i hi).1
theorem open_mem {H : Type} {enc : TypeId × Value → H} {w : World} {base b0 : Nat} {held : Bool} {k : Reach} {v : Value} {d : DataW H} {q : List MemPlace}
    (hv : Value.okWide Try.prog w k b0 29 v) (h : DataW.Trod enc Try.prog w base (fun _ => true) held 29 v d q) :
    ∃ (s : Option Addr) (c : Nat) (m : List (List WD)), v = .agg #[.slice s m.length c] ∧ MLens m ∧ MemR w 0 w.heap.size s m := by
  obtain ⟨cs, rfl, hsz⟩ := okWide_struct Try.underlying29 hv
  obtain ⟨fuel, hf⟩ := h
  obtain ⟨xs, n, _, _, hl, hlen, hfs⟩ := DataW.trod_struct Try.underlying29 hf
  rw [cellsMem] at hl
  obtain ⟨l⟩ := cs
  have hl' : l.length = 1 := by simpa [Value.cells] using hl
  obtain ⟨c0, rfl⟩ := list1 hl'
  obtain ⟨y0, rfl⟩ := list1 (hlen.trans rfl)
  have g0 := hfs 0 _ rfl
  simp [cellsWSS, Value.cells] at g0
  obtain ⟨s, c, m, rfl, hb, hB⟩ := mem_read g0
  exact ⟨s, c, m, rfl, hb, hB⟩

end Go.Proofs.Ytpcmplckklmeoaa
