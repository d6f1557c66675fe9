/- How programs and sources read as arguments of a law. No condition. How the laws hold two programs against each other, in a cut without laws.toIns. Conditions: lists of at most 1048576. -/
import Derived.Test.YtcfehbfjillnoaaGreatJG00
import Derived.Test.YtcfehbfjillnoaaGreatJG06
import Derived.Test.YtcfehbfjillnoaaGreatJG17
import Derived.Test.YtcfehbfjillnoaaGreatJG01
import Derived.Test.YtcfehbfjillnoaaGreatJG02
import Derived.Test.YtcfehbfjillnoaaGreatJG18
import Derived.Test.YtcfehbfjillnoaaGreatJG04
import Derived.Test.YtcfehbfjillnoaaGreatJG03
import Derived.Deep.RegionWith
namespace Go.Proofs.YtcfehbfjillnoaaGreat
section
set_option linter.unusedSimpArgs false
set_option linter.unusedVariables false
set_option maxRecDepth 100000
open Go.ChangeShapes Go.WideShapes Go.ChangeAt Go.RowKit Go.Deep
theorem cellsThread : Tryz.prog.cellsOf 104 = 3 := by kernel_rfl
theorem recT_cells {H : Type} {enc : TypeId × Value → H} {w : World} {base : Nat} {held : Bool} {fuel : Nat} {cs : List Value} {x : DataW H × List MemPlace}
  (h : DataW.trod enc Tryz.prog w base (fun _ => true) held fuel 104 cs = some x) :
  ∃ (t : TD) (s : Option Addr) (c : Nat), cs = [t.rec3.a, .slice s t.rec3.l.length c, t.rec3.z] ∧ t.regs.length ≤ maxLen ∧ IntsR w 0 w.heap.size s t.rec3.l := by
 obtain ⟨xs, n, _, rfl, hl, hlen, hf⟩ := DataW.trod_struct Tryz.underlying104 h
 rw [cellsThread] at hl
 obtain ⟨c0, c1, c2, rfl⟩ := list3 hl
 obtain ⟨y0, y1, y2, rfl⟩ := list3 (hlen.trans rfl)
 have g0 := hf 0 _ rfl
 have g1 := hf 1 _ rfl
 have g2 := hf 2 _ rfl
 simp [cellsInt, cellsSi, cellsInt] at g0 g1 g2
 obtain ⟨pc, e0, -, -⟩ := DataW.trod_int Tryz.underlying3 g0
 obtain ⟨s, c, l, rfl, ha, hA⟩ := ints_read g1
 obtain ⟨st, e2, -, -⟩ := DataW.trod_int Tryz.underlying3 g2
 simp at e0 e2
 subst e0 e2
 exact ⟨⟨pc, l, st⟩, s, c, rfl, ha, hA⟩
theorem recsT_read {H : Type} {enc : TypeId × Value → H} {w : World} {base : Nat} {held : Bool} {fuel : Nat} {v : Value} {x : DataW H × List MemPlace}
  (hf : DataW.trod enc Tryz.prog w base (fun _ => true) held fuel 34 [v] = some x) :
  ∃ (s : Option Addr) (c : Nat) (l : List TD), v = .slice s l.length c ∧ l.length ≤ maxLen ∧ (∀ (i : Nat) (t : TD), l[i]? = some t → t.regs.length ≤ maxLen) ∧ RecsR w 0 w.heap.size s (l.map TD.rec3) := by
 rcases open_slice Tryz.underlying34 hf with ⟨hcs, -⟩ | ⟨a, len, cap, m, n, D, Pl, hcs, -, hl, hm, hmm, -, hel⟩
 ·simp at hcs
  exact ⟨none, 0, [], hcs, Nat.zero_le _, fun i t ht => by simp at ht, .inl rfl⟩
 ·simp at hcs
  rw [cellsThread] at hel
  have hle : len ≤ m := by rw [hmm]; split <;> omega
  by_cases h0 : len = 0
  ·subst h0
   exact ⟨some a, cap, [], hcs, Nat.zero_le _, fun i t ht => by simp at ht, .inl rfl⟩
  ·obtain ⟨cs0, h1, h2⟩ := hel 0 (by omega)
   obtain ⟨t0, q0, r0, rfl, -, -⟩ := recT_cells h2
   obtain ⟨-, -, hcell0⟩ := World.cells?_some h1
   have c0 : w.cell? a = some t0.rec3.a := by simpa [Addr.add] using hcell0 0 (by omega)
   have hs := World.cell?_spot c0
   have hg := cell_lt c0
   obtain ⟨g, off, spot⟩ := a
   simp at hs
   subst hs
   obtain ⟨V, hV⟩ := @choose_lt TD ⟨t0⟩ len (fun i y => RecR w 0 w.heap.size g (off + i * 3) y.rec3 ∧ y.regs.length ≤ maxLen) (fun i hi => by
    obtain ⟨cs', h1, h2⟩ := hel i (by omega)
    obtain ⟨t, q, r, rfl, hm1, hI⟩ := recT_cells h2
    obtain ⟨-, -, hcell⟩ := World.cells?_some h1
    rw [add_plain] at hcell
    have c0 := hcell 0 (by omega)
    have c1 := hcell 1 (by omega)
    have c2 := hcell 2 (by omega)
    rw [add_plain] at c0 c1 c2
    exact ⟨t, ⟨q, r, c0, c1, c2, hI⟩, hm1⟩)
   have e : ∀ i t, ((List.range len).map V)[i]? = some t → i < len ∧ t = V i := fun i t ht => by
    rw [List.getElem?_map] at ht
    obtain ⟨y, hy, rfl⟩ := Option.map_eq_some_iff.1 ht
    have hi : i < len := by have := (List.getElem?_eq_some_iff.1 hy).1; simpa using this
    rw [List.getElem?_range hi] at hy
    injection hy with hy
    exact ⟨hi, by rw [hy]⟩
   refine ⟨some ⟨g, off, none⟩, cap, (List.range len).map V, by simp [hcs], by simp; omega, fun i t ht => ?_, .inr ⟨g, off, rfl, Nat.zero_le _, hg, fun i r hr => ?_⟩⟩
   ·obtain ⟨hi, rfl⟩ := e i t ht
    exact (hV i hi).2
   ·rw [List.getElem?_map] at hr
    obtain ⟨y, hy, rfl⟩ := Option.map_eq_some_iff.1 hr
    obtain ⟨hi, rfl⟩ := e i y hy
    exact (hV i hi).1
theorem cellsChan : Tryz.prog.cellsOf 107 = 3 := by kernel_rfl
theorem recC_cells {H : Type} {enc : TypeId × Value → H} {w : World} {base : Nat} {held : Bool} {fuel : Nat} {cs : List Value} {x : DataW H × List MemPlace}
  (h : DataW.trod enc Tryz.prog w base (fun _ => true) held fuel 107 cs = some x) :
  ∃ (t : CD) (s : Option Addr) (c : Nat), cs = [t.rec3.a, .slice s t.rec3.l.length c, t.rec3.z] ∧ t.list.length ≤ maxLen ∧ IntsR w 0 w.heap.size s t.rec3.l := by
 obtain ⟨xs, n, _, rfl, hl, hlen, hf⟩ := DataW.trod_struct Tryz.underlying107 h
 rw [cellsChan] at hl
 obtain ⟨c0, c1, c2, rfl⟩ := list3 hl
 obtain ⟨y0, y1, y2, rfl⟩ := list3 (hlen.trans rfl)
 have g0 := hf 0 _ rfl
 have g1 := hf 1 _ rfl
 have g2 := hf 2 _ rfl
 simp [cellsInt, cellsSi, cellsBo] at g0 g1 g2
 obtain ⟨pc, e0, -, -⟩ := DataW.trod_int Tryz.underlying3 g0
 obtain ⟨s, c, l, rfl, ha, hA⟩ := ints_read g1
 obtain ⟨st, e2, -⟩ := DataW.trod_bool Tryz.underlying4 g2
 simp at e0 e2
 subst e0 e2
 exact ⟨⟨pc, l, st⟩, s, c, rfl, ha, hA⟩
theorem recsC_read {H : Type} {enc : TypeId × Value → H} {w : World} {base : Nat} {held : Bool} {fuel : Nat} {v : Value} {x : DataW H × List MemPlace}
  (hf : DataW.trod enc Tryz.prog w base (fun _ => true) held fuel 35 [v] = some x) :
  ∃ (s : Option Addr) (c : Nat) (l : List CD), v = .slice s l.length c ∧ l.length ≤ maxLen ∧ (∀ (i : Nat) (t : CD), l[i]? = some t → t.list.length ≤ maxLen) ∧ RecsR w 0 w.heap.size s (l.map CD.rec3) := by
 rcases open_slice Tryz.underlying35 hf with ⟨hcs, -⟩ | ⟨a, len, cap, m, n, D, Pl, hcs, -, hl, hm, hmm, -, hel⟩
 ·simp at hcs
  exact ⟨none, 0, [], hcs, Nat.zero_le _, fun i t ht => by simp at ht, .inl rfl⟩
 ·simp at hcs
  rw [cellsChan] at hel
  have hle : len ≤ m := by rw [hmm]; split <;> omega
  by_cases h0 : len = 0
  ·subst h0
   exact ⟨some a, cap, [], hcs, Nat.zero_le _, fun i t ht => by simp at ht, .inl rfl⟩
  ·obtain ⟨cs0, h1, h2⟩ := hel 0 (by omega)
   obtain ⟨t0, q0, r0, rfl, -, -⟩ := recC_cells h2
   obtain ⟨-, -, hcell0⟩ := World.cells?_some h1
   have c0 : w.cell? a = some t0.rec3.a := by simpa [Addr.add] using hcell0 0 (by omega)
   have hs := World.cell?_spot c0
   have hg := cell_lt c0
   obtain ⟨g, off, spot⟩ := a
   simp at hs
   subst hs
   obtain ⟨V, hV⟩ := @choose_lt CD ⟨t0⟩ len (fun i y => RecR w 0 w.heap.size g (off + i * 3) y.rec3 ∧ y.list.length ≤ maxLen) (fun i hi => by
    obtain ⟨cs', h1, h2⟩ := hel i (by omega)
    obtain ⟨t, q, r, rfl, hm1, hI⟩ := recC_cells h2
    obtain ⟨-, -, hcell⟩ := World.cells?_some h1
    rw [add_plain] at hcell
    have c0 := hcell 0 (by omega)
    have c1 := hcell 1 (by omega)
    have c2 := hcell 2 (by omega)
    rw [add_plain] at c0 c1 c2
    exact ⟨t, ⟨q, r, c0, c1, c2, hI⟩, hm1⟩)
   have e : ∀ i t, ((List.range len).map V)[i]? = some t → i < len ∧ t = V i := fun i t ht => by
    rw [List.getElem?_map] at ht
    obtain ⟨y, hy, rfl⟩ := Option.map_eq_some_iff.1 ht
    have hi : i < len := by have := (List.getElem?_eq_some_iff.1 hy).1; simpa using this
    rw [List.getElem?_range hi] at hy
    injection hy with hy
    exact ⟨hi, by rw [hy]⟩
   refine ⟨some ⟨g, off, none⟩, cap, (List.range len).map V, by simp [hcs], by simp; omega, fun i t ht => ?_, .inr ⟨g, off, rfl, Nat.zero_le _, hg, fun i r hr => ?_⟩⟩
   ·obtain ⟨hi, rfl⟩ := e i t ht
    exact (hV i hi).2
   ·rw [List.getElem?_map] at hr
    obtain ⟨y, hy, rfl⟩ := Option.map_eq_some_iff.1 hr
    obtain ⟨hi, rfl⟩ := e i y hy
    exact (hV i hi).1
theorem cellsST : Tryz.prog.cellsOf 34 = 1 := by kernel_rfl
theorem cellsSC : Tryz.prog.cellsOf 35 = 1 := by kernel_rfl
theorem cellsSrc : Tryz.prog.cellsOf 37 = 3 := by kernel_rfl
theorem open_source {H : Type} {enc : TypeId × Value → H} {w : World} {base b0 : Nat} {held : Bool} {k : Reach} {v : Value} {d : DataW H} {q : List MemPlace}
  (hv : Value.okWide Tryz.prog w k b0 37 v) (h : DataW.Trod enc Tryz.prog w base (fun _ => true) held 37 v d q) :
  ∃ (s1 s2 s3 : Option Addr) (c1 c2 c3 : Nat) (p : SD), v = .agg #[.slice s1 p.ths.length c1, .slice s2 p.chs.length c2, .slice s3 p.tr.length c3] ∧ SLens p ∧ SrcR w 0 w.heap.size s1 s2 s3 p := by
 obtain ⟨cs, rfl, hsz⟩ := okWide_struct Tryz.underlying37 hv
 obtain ⟨fuel, hf⟩ := h
 obtain ⟨xs, n, _, _, hl, hlen, hfs⟩ := DataW.trod_struct Tryz.underlying37 hf
 rw [cellsSrc] at hl
 obtain ⟨l⟩ := cs
 have hl' : l.length = 3 := by simpa [Value.cells] using hl
 obtain ⟨c0, c1, c2, rfl⟩ := list3 hl'
 obtain ⟨y0, y1, y2, rfl⟩ := list3 (hlen.trans rfl)
 have g0 := hfs 0 _ rfl
 have g1 := hfs 1 _ rfl
 have g2 := hfs 2 _ rfl
 simp [cellsST, cellsSC, cellsSN, Value.cells] at g0 g1 g2
 obtain ⟨s1, k1, a, rfl, ha, ha', hA⟩ := recsT_read g0
 obtain ⟨s2, k2, b, rfl, hb, hb', hB⟩ := recsC_read g1
 obtain ⟨s3, k3, e, rfl, he, hE⟩ := notes_read g2
 exact ⟨s1, s2, s3, k1, k2, k3, ⟨a, b, e⟩, rfl, ⟨⟨ha, ha'⟩, ⟨hb, hb'⟩, he⟩, hA, hB, hE⟩
end
section
set_option linter.unusedSimpArgs false
set_option linter.unusedVariables false
set_option maxRecDepth 100000
open Go.RowKit
end
end Go.Proofs.YtcfehbfjillnoaaGreat
