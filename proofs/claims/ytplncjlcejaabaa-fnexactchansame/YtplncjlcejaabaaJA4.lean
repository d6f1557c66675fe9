/- How arguments of the laws read: a Step is five integers. No condition. How a list of steps that came in reads: each step is five integers. No condition. How rows of integers read as arguments of a law. No condition. How memories read as arguments of a law. No condition. How machines and rows of code read as arguments of a law. No condition. -/
import Derived.Test.YtplncjlcejaabaaJLists
import Derived.Test.YtplncjlcejaabaaJFrames
import Derived.Test.YtplncjlcejaabaaRows
import Derived.WalkKit
import Derived.ProofKit
import Derived.OpenShut
import Derived.ShutString
import Derived.ChangeOld
import Derived.Below
import Derived.Test.YtplncjlcejaabaaJInsLists
import Derived.Test.YtplncjlcejaabaaJA1
import Derived.Test.YtplncjlcejaabaaJA3
import Derived.Deep.Slices
import Derived.Test.YtplncjlcejaabaaJIntRows
import Derived.Test.YtplncjlcejaabaaJA2
import Derived.Test.YtplncjlcejaabaaJProgLists
namespace Go.Proofs.Ytplncjlcejaabaa
section
set_option linter.unusedSimpArgs false
set_option linter.unusedVariables false
set_option maxRecDepth 100000
open Go.ChangeShapes Go.WideShapes Go.ChangeAt Go.RowKit
theorem cellsStep : Try.prog.cellsOf 153 = 5 := by kernel_rfl
theorem step_cells {H : Type} {enc : TypeId × Value → H} {w : World} {base : Nat} {spare : TypeId → Bool} {held : Bool} {fuel : Nat} {cs : List Value} {x : DataW H × List MemPlace}
  (h : DataW.trod enc Try.prog w base spare held fuel 153 cs = some x) :
  ∃ o r a b n : Int, cs = [.int .i64 o, .int .i64 r, .int .i64 a, .int .i64 b, .int .i64 n] ∧ (Lit.int .i64 o).wf = true ∧ (Lit.int .i64 r).wf = true ∧ (Lit.int .i64 a).wf = true ∧ (Lit.int .i64 b).wf = true ∧ (Lit.int .i64 n).wf = true := by
 obtain ⟨xs, n, _, rfl, hl, hlen, hf⟩ := DataW.trod_struct Try.underlying153 h
 rw [cellsStep] at hl
 obtain ⟨c0, c1, c2, c3, c4, rfl⟩ := list5 hl
 obtain ⟨y0, y1, y2, y3, y4, rfl⟩ := list5 (hlen.trans rfl)
 have g0 := hf 0 _ rfl
 have g1 := hf 1 _ rfl
 have g2 := hf 2 _ rfl
 have g3 := hf 3 _ rfl
 have g4 := hf 4 _ rfl
 simp [cellsInt] at g0 g1 g2 g3 g4
 obtain ⟨o, e0, -, w0⟩ := DataW.trod_int Try.underlying3 g0
 obtain ⟨r, e1, -, w1⟩ := DataW.trod_int Try.underlying3 g1
 obtain ⟨a, e2, -, w2⟩ := DataW.trod_int Try.underlying3 g2
 obtain ⟨b, e3, -, w3⟩ := DataW.trod_int Try.underlying3 g3
 obtain ⟨c, e4, -, w4⟩ := DataW.trod_int Try.underlying3 g4
 simp at e0 e1 e2 e3 e4
 subst e0 e1 e2 e3 e4
 exact ⟨o, r, a, b, c, rfl, w0, w1, w2, w3, w4⟩
end
section
set_option linter.unusedSimpArgs false
set_option linter.unusedVariables false
set_option maxRecDepth 100000
open Go.ChangeShapes Go.WideShapes Go.ChangeAt Go.RowKit Go.Deep
theorem stepS_spot {H : Type} {enc : TypeId × Value → H} {w : World} {base : Nat} {spare : TypeId → Bool} {held : Bool} {n : Nat} {a : Addr} {cs : List Value} {x : DataW H × List MemPlace}
  (hc : w.cells? base (a.add (0 * 5)) 5 = some cs) (h : DataW.trod enc Try.prog w base spare held n 153 cs = some x) :
  a.spot = none ∧ a.block < w.heap.size := by
 obtain ⟨o, r, b, c, d, rfl, -⟩ := step_cells h
 obtain ⟨-, -, hcell⟩ := World.cells?_some hc
 have c0 : w.cell? a = some (.int .i64 o) := by simpa [Addr.add] using hcell 0 (by omega)
 exact ⟨World.cell?_spot c0, cell_lt c0⟩
theorem stepS_at {H : Type} {enc : TypeId × Value → H} {w : World} {base : Nat} {spare : TypeId → Bool} {held : Bool} {n g off i : Nat} {cs : List Value} {x : DataW H × List MemPlace}
  (hc : w.cells? base (Addr.add ⟨g, off, none⟩ (i * 5)) 5 = some cs) (h : DataW.trod enc Try.prog w base spare held n 153 cs = some x) :
  ∃ y : I5, At5 w g (off + i * 5) y := by
 obtain ⟨o, r, b, c, d, rfl, -⟩ := step_cells h
 obtain ⟨-, -, hcell⟩ := World.cells?_some hc
 rw [add_plain] at hcell
 have c0 := hcell 0 (by omega)
 have c1 := hcell 1 (by omega)
 have c2 := hcell 2 (by omega)
 have c3 := hcell 3 (by omega)
 have c4 := hcell 4 (by omega)
 rw [add_plain] at c0 c1 c2 c3 c4
 exact ⟨⟨o, r, b, c, d⟩, c0, c1, c2, c3, c4⟩
end
section
set_option linter.unusedSimpArgs false
set_option linter.unusedVariables false
set_option maxRecDepth 100000
open Go.ChangeShapes Go.WideShapes Go.ChangeAt Go.RowKit Go.Deep
end
section
set_option linter.unusedSimpArgs false
set_option linter.unusedVariables false
set_option maxRecDepth 100000
open Go.ChangeShapes Go.WideShapes Go.ChangeAt Go.RowKit Go.Deep
theorem cellsWrite : Try.prog.cellsOf 162 = 2 := by kernel_rfl
theorem cellsWS : Try.prog.cellsOf 142 = 1 := by kernel_rfl
theorem cellsWSS : Try.prog.cellsOf 28 = 1 := by kernel_rfl
theorem cellsMem : Try.prog.cellsOf 30 = 1 := by kernel_rfl
theorem list1 {α : Type} {cs : List α} (h : cs.length = 1) : ∃ c0, cs = [c0] := by
 match cs, h with
 | [c0], _ => exact ⟨c0, rfl⟩
theorem write_cells {H : Type} {enc : TypeId × Value → H} {w : World} {base : Nat} {held : Bool} {fuel : Nat} {cs : List Value} {x : DataW H × List MemPlace}
  (h : DataW.trod enc Try.prog w base (fun _ => true) held fuel 162 cs = some x) :
  ∃ (t : WD) (s : Option Addr) (c : Nat), cs = [.int .i64 t.v, .slice s t.vw.length c] ∧ t.vw.length ≤ maxLen ∧ IntsR w 0 w.heap.size s t.vw := by
 obtain ⟨xs, n, _, rfl, hl, hlen, hf⟩ := DataW.trod_struct Try.underlying162 h
 rw [cellsWrite] at hl
 obtain ⟨c0, c1, rfl⟩ := list2 hl
 obtain ⟨y0, y1, rfl⟩ := list2 (hlen.trans rfl)
 have g0 := hf 0 _ rfl
 have g1 := hf 1 _ rfl
 simp [cellsInt, cellsSi] at g0 g1
 obtain ⟨pc, e0, -, -⟩ := DataW.trod_int Try.underlying3 g0
 obtain ⟨s, c, l, rfl, ha, hA⟩ := ints_read g1
 simp at e0
 subst e0
 exact ⟨⟨pc, l⟩, s, c, rfl, ha, hA⟩
theorem writes_read {H : Type} {enc : TypeId × Value → H} {w : World} {base : Nat} {held : Bool} {fuel : Nat} {v : Value} {x : DataW H × List MemPlace}
  (hf : DataW.trod enc Try.prog w base (fun _ => true) held fuel 142 [v] = some x) :
  ∃ (s : Option Addr) (c : Nat) (l : List WD), v = .slice s l.length c ∧ l.length ≤ maxLen ∧ (∀ (i : Nat) (t : WD), l[i]? = some t → t.vw.length ≤ maxLen) ∧ WsR w 0 w.heap.size s l := by
 rcases open_slice Try.underlying142 hf with ⟨hcs, -⟩ | ⟨a, len, cap, m, n, D, Pl, hcs, -, hl, hm, hmm, -, hel⟩
 ·simp at hcs
  exact ⟨none, 0, [], hcs, Nat.zero_le _, fun i t ht => by simp at ht, .inl rfl⟩
 ·simp at hcs
  rw [cellsWrite] at hel
  have hle : len ≤ m := by rw [hmm]; split <;> omega
  by_cases h0 : len = 0
  ·subst h0
   exact ⟨some a, cap, [], hcs, Nat.zero_le _, fun i t ht => by simp at ht, .inl rfl⟩
  ·obtain ⟨cs0, h1, h2⟩ := hel 0 (by omega)
   obtain ⟨t0, q0, r0, rfl, -, -⟩ := write_cells h2
   obtain ⟨-, -, hcell0⟩ := World.cells?_some h1
   have c0 : w.cell? a = some (.int .i64 t0.v) := by simpa [Addr.add] using hcell0 0 (by omega)
   have hs := World.cell?_spot c0
   have hg := cell_lt c0
   obtain ⟨g, off, spot⟩ := a
   simp at hs
   subst hs
   obtain ⟨V, hV⟩ := @choose_lt WD ⟨t0⟩ len (fun i y => WR w 0 w.heap.size g (off + i * 2) y ∧ y.vw.length ≤ maxLen) (fun i hi => by
    obtain ⟨cs', h1, h2⟩ := hel i (by omega)
    obtain ⟨t, q, r, rfl, hm1, hI⟩ := write_cells h2
    obtain ⟨-, -, hcell⟩ := World.cells?_some h1
    rw [add_plain] at hcell
    have c0 := hcell 0 (by omega)
    have c1 := hcell 1 (by omega)
    rw [add_plain] at c0 c1
    exact ⟨t, ⟨q, r, c0, c1, hI⟩, hm1⟩)
   have e : ∀ i t, ((List.range len).map V)[i]? = some t → i < len ∧ t = V i := fun i t ht => by
    rw [List.getElem?_map] at ht
    obtain ⟨y, hy, rfl⟩ := Option.map_eq_some_iff.1 ht
    have hi : i < len := by have := (List.getElem?_eq_some_iff.1 hy).1; simpa using this
    rw [List.getElem?_range hi] at hy
    injection hy with hy
    exact ⟨hi, by rw [hy]⟩
   refine ⟨some ⟨g, off, none⟩, cap, (List.range len).map V, by simp [hcs], by simp; omega, fun i t ht => ?_, .inr ⟨g, off, rfl, Nat.zero_le _, hg, fun i r hr => ?_⟩⟩
   ·obtain ⟨hi, rfl⟩ := e i t ht
    exact (hV i hi).2
   ·obtain ⟨hi, rfl⟩ := e i r hr
    exact (hV i hi).1
theorem mem_read {H : Type} {enc : TypeId × Value → H} {w : World} {base : Nat} {held : Bool} {fuel : Nat} {v : Value} {x : DataW H × List MemPlace}
  (hf : DataW.trod enc Try.prog w base (fun _ => true) held fuel 28 [v] = some x) :
  ∃ (s : Option Addr) (c : Nat) (m : List (List WD)), v = .slice s m.length c ∧ MLens m ∧ MemR w 0 w.heap.size s m := by
 rcases open_slice1 Try.underlying28 cellsWS hf with ⟨hcs, -⟩ | ⟨a, len, cap, m, n, V, D, Pl, hcs, -, hl, hm, hmm, -, hel⟩
 ·simp at hcs
  exact ⟨none, 0, [], hcs, ⟨Nat.zero_le _, fun i l h => by simp at h, fun i l k x h => by simp at h⟩, .inl rfl⟩
 ·simp at hcs
  have hle : len ≤ m := by rw [hmm]; split <;> omega
  by_cases h0 : len = 0
  ·subst h0
   exact ⟨some a, cap, [], hcs, ⟨Nat.zero_le _, fun i l h => by simp at h, fun i l k x h => by simp at h⟩, .inl rfl⟩
  ·obtain ⟨c0, -⟩ := hel 0 (by omega)
   have c0' : w.cell? a = some (V 0) := by simpa [Addr.add] using c0
   have hs := World.cell?_spot c0'
   have hg := cell_lt c0'
   obtain ⟨g, off, spot⟩ := a
   simp at hs
   subst hs
   obtain ⟨L, hL⟩ := @choose_lt (List WD) ⟨[]⟩ len (fun i l => RwR w 0 w.heap.size g (off + i) l ∧ l.length ≤ maxLen ∧ ∀ (k : Nat) (x : WD), l[k]? = some x → x.vw.length ≤ maxLen) (fun i hi => by
    obtain ⟨h1, h2⟩ := hel i (by omega)
    obtain ⟨s, c, l, hv, hlm, hlv, hin⟩ := writes_read h2
    rw [add_plain, hv] at h1
    exact ⟨l, ⟨s, c, h1, hin⟩, hlm, hlv⟩)
   have e : ∀ i t, ((List.range len).map L)[i]? = some t → i < len ∧ t = L i := fun i t ht => by
    rw [List.getElem?_map] at ht
    obtain ⟨y, hy, rfl⟩ := Option.map_eq_some_iff.1 ht
    have hi : i < len := by have := (List.getElem?_eq_some_iff.1 hy).1; simpa using this
    rw [List.getElem?_range hi] at hy
    injection hy with hy
    exact ⟨hi, by rw [hy]⟩
   refine ⟨some ⟨g, off, none⟩, cap, (List.range len).map L, by simp [hcs], ⟨by simp; omega, fun i l hl => ?_, fun i l k x hl hx => ?_⟩, .inr ⟨g, off, rfl, Nat.zero_le _, hg, fun i l hl => ?_⟩⟩
   ·obtain ⟨hi, rfl⟩ := e i l hl
    exact (hL i hi).2.1
   ·obtain ⟨hi, rfl⟩ := e i l hl
    exact (hL i hi).2.2 k x hx
   ·obtain ⟨hi, rfl⟩ := e i l hl
    exact (hL i hi).1
end
section
set_option linter.unusedSimpArgs false
set_option linter.unusedVariables false
set_option maxRecDepth 100000
open Go.ChangeShapes Go.WideShapes Go.ChangeAt Go.RowKit Go.Deep
theorem cellsStepS : Try.prog.cellsOf 98 = 1 := by kernel_rfl
theorem cellsStepSS : Try.prog.cellsOf 26 = 1 := by kernel_rfl
theorem steps_read {H : Type} {enc : TypeId × Value → H} {w : World} {base : Nat} {held : Bool} {fuel : Nat} {v : Value} {x : DataW H × List MemPlace}
  (hf : DataW.trod enc Try.prog w base (fun _ => true) held fuel 98 [v] = some x) :
  ∃ (s : Option Addr) (c : Nat) (l : List I5), v = .slice s l.length c ∧ l.length ≤ maxLen ∧ InsR w 0 w.heap.size s l := by
 rcases open_slice Try.underlying98 hf with ⟨hcs, -⟩ | ⟨a, len, cap, m, n, D, Pl, hcs, -, hl, hm, hmm, -, hel⟩
 ·simp at hcs
  exact ⟨none, 0, [], hcs, Nat.zero_le _, .inl rfl⟩
 ·simp at hcs
  rw [cellsStep] at hel
  have hle : len ≤ m := by rw [hmm]; split <;> omega
  by_cases h0 : len = 0
  ·subst h0
   exact ⟨some a, cap, [], hcs, Nat.zero_le _, .inl rfl⟩
  ·obtain ⟨cs0, h1, h2⟩ := hel 0 (by omega)
   obtain ⟨hs, hg⟩ := stepS_spot h1 h2
   obtain ⟨g, off, spot⟩ := a
   simp at hs
   subst hs
   obtain ⟨V, hV⟩ := @choose_lt I5 ⟨z5⟩ len (fun i y => At5 w g (off + i * 5) y) (fun i hi => by
    obtain ⟨cs', h1, h2⟩ := hel i (by omega)
    exact stepS_at h1 h2)
   refine ⟨some ⟨g, off, none⟩, cap, (List.range len).map V, by simp [hcs], by simp; omega, .inr ⟨g, off, rfl, Nat.zero_le _, hg, ?_⟩⟩
   intro i hi
   simp at hi
   have e : ((List.range len).map V).getD i z5 = V i := by simp [hi]
   rw [e]
   exact hV i hi
theorem codes_read {H : Type} {enc : TypeId × Value → H} {w : World} {base : Nat} {held : Bool} {fuel : Nat} {v : Value} {x : DataW H × List MemPlace}
  (hf : DataW.trod enc Try.prog w base (fun _ => true) held fuel 26 [v] = some x) :
  ∃ (s : Option Addr) (c : Nat) (m : List (List I5)), v = .slice s m.length c ∧ m.length ≤ maxLen ∧ (∀ (i : Nat) (x : List I5), m[i]? = some x → x.length ≤ maxLen) ∧ CsR w 0 w.heap.size s m := by
 rcases open_slice1 Try.underlying26 cellsStepS hf with ⟨hcs, -⟩ | ⟨a, len, cap, m, n, V, D, Pl, hcs, -, hl, hm, hmm, -, hel⟩
 ·simp at hcs
  exact ⟨none, 0, [], hcs, Nat.zero_le _, fun i l h => by simp at h, .inl rfl⟩
 ·simp at hcs
  have hle : len ≤ m := by rw [hmm]; split <;> omega
  by_cases h0 : len = 0
  ·subst h0
   exact ⟨some a, cap, [], hcs, Nat.zero_le _, fun i l h => by simp at h, .inl rfl⟩
  ·obtain ⟨c0, -⟩ := hel 0 (by omega)
   have c0' : w.cell? a = some (V 0) := by simpa [Addr.add] using c0
   have hs := World.cell?_spot c0'
   have hg := cell_lt c0'
   obtain ⟨g, off, spot⟩ := a
   simp at hs
   subst hs
   obtain ⟨L, hL⟩ := @choose_lt (List I5) ⟨[]⟩ len (fun i l => CR w 0 w.heap.size g (off + i) l ∧ l.length ≤ maxLen) (fun i hi => by
    obtain ⟨h1, h2⟩ := hel i (by omega)
    obtain ⟨s, c, l, hv, hlm, hin⟩ := steps_read h2
    rw [add_plain, hv] at h1
    exact ⟨l, ⟨s, c, h1, hin⟩, hlm⟩)
   have e : ∀ i t, ((List.range len).map L)[i]? = some t → i < len ∧ t = L i := fun i t ht => by
    rw [List.getElem?_map] at ht
    obtain ⟨y, hy, rfl⟩ := Option.map_eq_some_iff.1 ht
    have hi : i < len := by have := (List.getElem?_eq_some_iff.1 hy).1; simpa using this
    rw [List.getElem?_range hi] at hy
    injection hy with hy
    exact ⟨hi, by rw [hy]⟩
   refine ⟨some ⟨g, off, none⟩, cap, (List.range len).map L, by simp [hcs], by simp; omega, fun i l hl => ?_, .inr ⟨g, off, rfl, Nat.zero_le _, hg, fun i l hl => ?_⟩⟩
   ·obtain ⟨hi, rfl⟩ := e i l hl
    exact (hL i hi).2
   ·obtain ⟨hi, rfl⟩ := e i l hl
    exact (hL i hi).1
theorem cellsCore : Try.prog.cellsOf 101 = 4 := by kernel_rfl
theorem list4 {α : Type} {cs : List α} (h : cs.length = 4) : ∃ c0 c1 c2 c3, cs = [c0, c1, c2, c3] := by
 match cs, h with
 | [c0, c1, c2, c3], _ => exact ⟨c0, c1, c2, c3, rfl⟩
theorem core_cells {H : Type} {enc : TypeId × Value → H} {w : World} {base : Nat} {held : Bool} {fuel : Nat} {cs : List Value} {x : DataW H × List MemPlace}
  (h : DataW.trod enc Try.prog w base (fun _ => true) held fuel 101 cs = some x) :
  ∃ (t : KD) (s : Option Addr) (c : Nat) (s' : Option Addr) (c' : Nat), cs = [.int .i64 t.pc, .slice s t.regs.length c, .slice s' t.vw.length c', .int .i64 t.st] ∧ (t.regs.length ≤ maxLen ∧ t.vw.length ≤ maxLen) ∧ IntsR w 0 w.heap.size s t.regs ∧ IntsR w 0 w.heap.size s' t.vw := by
 obtain ⟨xs, n, _, rfl, hl, hlen, hf⟩ := DataW.trod_struct Try.underlying101 h
 rw [cellsCore] at hl
 obtain ⟨c0, c1, c2, c3, rfl⟩ := list4 hl
 obtain ⟨y0, y1, y2, y3, rfl⟩ := list4 (hlen.trans rfl)
 have g0 := hf 0 _ rfl
 have g1 := hf 1 _ rfl
 have g2 := hf 2 _ rfl
 have g3 := hf 3 _ rfl
 simp [cellsInt, cellsSi] at g0 g1 g2 g3
 obtain ⟨pc, e0, -, -⟩ := DataW.trod_int Try.underlying3 g0
 obtain ⟨st, e3, -, -⟩ := DataW.trod_int Try.underlying3 g3
 obtain ⟨s, c, l, rfl, ha, hA⟩ := ints_read g1
 obtain ⟨s', c', l', rfl, ha', hA'⟩ := ints_read g2
 simp at e0 e3
 subst e0 e3
 exact ⟨⟨pc, l, l', st⟩, s, c, s', c', rfl, ⟨ha, ha'⟩, hA, hA'⟩
theorem cores_read {H : Type} {enc : TypeId × Value → H} {w : World} {base : Nat} {held : Bool} {fuel : Nat} {v : Value} {x : DataW H × List MemPlace}
  (hf : DataW.trod enc Try.prog w base (fun _ => true) held fuel 27 [v] = some x) :
  ∃ (s : Option Addr) (c : Nat) (l : List KD), v = .slice s l.length c ∧ l.length ≤ maxLen ∧ (∀ (i : Nat) (t : KD), l[i]? = some t → t.regs.length ≤ maxLen ∧ t.vw.length ≤ maxLen) ∧ KsR w 0 w.heap.size s l := by
 rcases open_slice Try.underlying27 hf with ⟨hcs, -⟩ | ⟨a, len, cap, m, n, D, Pl, hcs, -, hl, hm, hmm, -, hel⟩
 ·simp at hcs
  exact ⟨none, 0, [], hcs, Nat.zero_le _, fun i t ht => by simp at ht, .inl rfl⟩
 ·simp at hcs
  rw [cellsCore] at hel
  have hle : len ≤ m := by rw [hmm]; split <;> omega
  by_cases h0 : len = 0
  ·subst h0
   exact ⟨some a, cap, [], hcs, Nat.zero_le _, fun i t ht => by simp at ht, .inl rfl⟩
  ·obtain ⟨cs0, h1, h2⟩ := hel 0 (by omega)
   obtain ⟨t0, q0, r0, q1, r1, rfl, -, -, -⟩ := core_cells h2
   obtain ⟨-, -, hcell0⟩ := World.cells?_some h1
   have c0 : w.cell? a = some (.int .i64 t0.pc) := by simpa [Addr.add] using hcell0 0 (by omega)
   have hs := World.cell?_spot c0
   have hg := cell_lt c0
   obtain ⟨g, off, spot⟩ := a
   simp at hs
   subst hs
   obtain ⟨V, hV⟩ := @choose_lt KD ⟨t0⟩ len (fun i y => KR w 0 w.heap.size g (off + i * 4) y ∧ (y.regs.length ≤ maxLen ∧ y.vw.length ≤ maxLen)) (fun i hi => by
    obtain ⟨cs', h1, h2⟩ := hel i (by omega)
    obtain ⟨t, q, r, q', r', rfl, hm1, hI, hI'⟩ := core_cells h2
    obtain ⟨-, -, hcell⟩ := World.cells?_some h1
    rw [add_plain] at hcell
    have c0 := hcell 0 (by omega)
    have c1 := hcell 1 (by omega)
    have c2 := hcell 2 (by omega)
    have c3 := hcell 3 (by omega)
    rw [add_plain] at c0 c1 c2 c3
    exact ⟨t, ⟨q, r, q', r', c0, c1, c2, c3, hI, hI'⟩, hm1⟩)
   have e : ∀ i t, ((List.range len).map V)[i]? = some t → i < len ∧ t = V i := fun i t ht => by
    rw [List.getElem?_map] at ht
    obtain ⟨y, hy, rfl⟩ := Option.map_eq_some_iff.1 ht
    have hi : i < len := by have := (List.getElem?_eq_some_iff.1 hy).1; simpa using this
    rw [List.getElem?_range hi] at hy
    injection hy with hy
    exact ⟨hi, by rw [hy]⟩
   refine ⟨some ⟨g, off, none⟩, cap, (List.range len).map V, by simp [hcs], by simp; omega, fun i t ht => ?_, .inr ⟨g, off, rfl, Nat.zero_le _, hg, fun i r hr => ?_⟩⟩
   ·obtain ⟨hi, rfl⟩ := e i t ht
    exact (hV i hi).2
   ·obtain ⟨hi, rfl⟩ := e i r hr
    exact (hV i hi).1
theorem cellsNote : Try.prog.cellsOf 122 = 2 := by kernel_rfl
theorem note_cells {H : Type} {enc : TypeId × Value → H} {w : World} {base : Nat} {held : Bool} {fuel : Nat} {cs : List Value} {x : DataW H × List MemPlace}
  (h : DataW.trod enc Try.prog w base (fun _ => true) held fuel 122 cs = some x) : ∃ t : ND, cs = [.int .i64 t.who, .int .i64 t.v] := by
 obtain ⟨xs, n, _, rfl, hl, hlen, hf⟩ := DataW.trod_struct Try.underlying122 h
 rw [cellsNote] at hl
 obtain ⟨c0, c1, rfl⟩ := list2 hl
 obtain ⟨y0, y1, rfl⟩ := list2 (hlen.trans rfl)
 have g0 := hf 0 _ rfl
 have g1 := hf 1 _ rfl
 simp [cellsInt] at g0 g1
 obtain ⟨a, e0, -, -⟩ := DataW.trod_int Try.underlying3 g0
 obtain ⟨b, e1, -, -⟩ := DataW.trod_int Try.underlying3 g1
 simp at e0 e1
 subst e0 e1
 exact ⟨⟨a, b⟩, rfl⟩
theorem notes_read {H : Type} {enc : TypeId × Value → H} {w : World} {base : Nat} {held : Bool} {fuel : Nat} {v : Value} {x : DataW H × List MemPlace}
  (hf : DataW.trod enc Try.prog w base (fun _ => true) held fuel 31 [v] = some x) :
  ∃ (s : Option Addr) (c : Nat) (l : List ND), v = .slice s l.length c ∧ l.length ≤ maxLen ∧ NtsR w 0 w.heap.size s l := by
 rcases open_slice Try.underlying31 hf with ⟨hcs, -⟩ | ⟨a, len, cap, m, n, D, Pl, hcs, -, hl, hm, hmm, -, hel⟩
 ·simp at hcs
  exact ⟨none, 0, [], hcs, Nat.zero_le _, .inl rfl⟩
 ·simp at hcs
  rw [cellsNote] at hel
  have hle : len ≤ m := by rw [hmm]; split <;> omega
  by_cases h0 : len = 0
  ·subst h0
   exact ⟨some a, cap, [], hcs, Nat.zero_le _, .inl rfl⟩
  ·obtain ⟨cs0, h1, h2⟩ := hel 0 (by omega)
   obtain ⟨t0, rfl⟩ := note_cells h2
   obtain ⟨-, -, hcell0⟩ := World.cells?_some h1
   have c0 : w.cell? a = some (.int .i64 t0.who) := by simpa [Addr.add] using hcell0 0 (by omega)
   have hs := World.cell?_spot c0
   have hg := cell_lt c0
   obtain ⟨g, off, spot⟩ := a
   simp at hs
   subst hs
   obtain ⟨V, hV⟩ := @choose_lt ND ⟨t0⟩ len (fun i y => NtR w g (off + i * 2) y) (fun i hi => by
    obtain ⟨cs', h1, h2⟩ := hel i (by omega)
    obtain ⟨t, rfl⟩ := note_cells h2
    obtain ⟨-, -, hcell⟩ := World.cells?_some h1
    rw [add_plain] at hcell
    have c0 := hcell 0 (by omega)
    have c1 := hcell 1 (by omega)
    rw [add_plain] at c0 c1
    exact ⟨t, c0, c1⟩)
   refine ⟨some ⟨g, off, none⟩, cap, (List.range len).map V, by simp [hcs], by simp; omega, .inr ⟨g, off, rfl, Nat.zero_le _, hg, fun i r hr => ?_⟩⟩
   rw [List.getElem?_map] at hr
   obtain ⟨y, hy, rfl⟩ := Option.map_eq_some_iff.1 hr
   have hi : i < len := by have := (List.getElem?_eq_some_iff.1 hy).1; simpa using this
   rw [List.getElem?_range hi] at hy
   injection hy with hy
   rw [← hy]
   exact hV i hi
theorem cellsSN : Try.prog.cellsOf 31 = 1 := by kernel_rfl
theorem cellsSK : Try.prog.cellsOf 27 = 1 := by kernel_rfl
theorem cellsMach : Try.prog.cellsOf 33 = 4 := by kernel_rfl
theorem memory_read {H : Type} {enc : TypeId × Value → H} {w : World} {base : Nat} {held : Bool} {fuel : Nat} {v : Value} {x : DataW H × List MemPlace}
  (hf : DataW.trod enc Try.prog w base (fun _ => true) held fuel 30 [v] = some x) : ∃ (s : Option Addr) (c : Nat) (m : List (List WD)), v = .slice s m.length c ∧ MLens m ∧ MemR w 0 w.heap.size s m := by
 obtain ⟨xs, n, _, _, hl, hlen, hfs⟩ := DataW.trod_struct Try.underlying30 hf
 obtain ⟨y0, rfl⟩ := list1 (hlen.trans rfl)
 have g0 := hfs 0 _ rfl
 simp [cellsWSS] at g0
 exact mem_read g0
theorem open_machine {H : Type} {enc : TypeId × Value → H} {w : World} {base b0 : Nat} {held : Bool} {k : Reach} {v : Value} {d : DataW H} {q : List MemPlace}
  (hv : Value.okWide Try.prog w k b0 33 v) (h : DataW.Trod enc Try.prog w base (fun _ => true) held 33 v d q) :
  ∃ (s1 s2 s3 s4 : Option Addr) (c1 c2 c3 c4 : Nat) (p : MD), v = .agg #[.slice s1 p.codes.length c1, .slice s2 p.cores.length c2, .slice s3 p.mem.length c3, .slice s4 p.tr.length c4] ∧ MaLens p ∧ MaR w 0 w.heap.size s1 s2 s3 s4 p := by
 obtain ⟨cs, rfl, hsz⟩ := okWide_struct Try.underlying33 hv
 obtain ⟨fuel, hf⟩ := h
 obtain ⟨xs, n, _, _, hl, hlen, hfs⟩ := DataW.trod_struct Try.underlying33 hf
 rw [cellsMach] at hl
 obtain ⟨l⟩ := cs
 have hl' : l.length = 4 := by simpa [Value.cells] using hl
 obtain ⟨c0, c1, c2, c3, rfl⟩ := list4 hl'
 obtain ⟨y0, y1, y2, y3, rfl⟩ := list4 (hlen.trans rfl)
 have g0 := hfs 0 _ rfl
 have g1 := hfs 1 _ rfl
 have g2 := hfs 2 _ rfl
 have g3 := hfs 3 _ rfl
 simp [cellsStepSS, cellsSK, cellsSN, cellsMem, Value.cells] at g0 g1 g2 g3
 obtain ⟨s1, k1, a, rfl, ha, ha', hA⟩ := codes_read g0
 obtain ⟨s2, k2, b, rfl, hb, hb', hB⟩ := cores_read g1
 obtain ⟨s3, k3, m, rfl, hm, hM⟩ := memory_read g2
 obtain ⟨s4, k4, e, rfl, he, hE⟩ := notes_read g3
 exact ⟨s1, s2, s3, s4, k1, k2, k3, k4, ⟨a, b, m, e⟩, rfl, ⟨ha, ha', hb, hb', hm, he⟩, hA, hB, hM, hE⟩
end
end Go.Proofs.Ytplncjlcejaabaa
