/- How programs and sources read as arguments of a law. No condition. How the laws hold two programs against each other, in a cut without laws.toIns. Conditions: lists of at most 1048576. Running numbers read back from rows of threads and of channels. Conditions: the numbers stay below 10^15. Running numbers read back from notes and from a source. Conditions: the numbers stay below 10^15. Rows of rows of places that a call has made, with what they hold: each inner row has a block of its own. Conditions: fewer than 2^30 rows, fewer than 2^30 places in each. -/
import Derived.Test.YtfokbjkgdiploaaGreatJG00
import Derived.Test.YtfokbjkgdiploaaGreatJG03
import Derived.Test.YtfokbjkgdiploaaGreatJG01
import Derived.Test.YtfokbjkgdiploaaGreatJG02
import Derived.Test.YtfokbjkgdiploaaGreatJSrcSz
import Derived.Test.YtfokbjkgdiploaaGreatJProgOk2
import Derived.Test.YtfokbjkgdiploaaGreatJG07
import Derived.Deep.RegionWith
namespace Go.Proofs.YtfokbjkgdiploaaGreat
section
set_option linter.unusedSimpArgs false
set_option linter.unusedVariables false
set_option maxRecDepth 100000
open Go.ChangeShapes Go.WideShapes Go.ChangeAt Go.RowKit Go.Deep
theorem cellsThread : Tryz.prog.cellsOf 88 = 3 := by kernel_rfl
theorem recT_cells {H : Type} {enc : TypeId × Value → H} {w : World} {base : Nat} {held : Bool} {fuel : Nat} {cs : List Value} {x : DataW H × List MemPlace}
  (h : DataW.trod enc Tryz.prog w base (fun _ => true) held fuel 88 cs = some x) :
  ∃ (t : TD) (s : Option Addr) (c : Nat), cs = [t.rec3.a, .slice s t.rec3.l.length c, t.rec3.z] ∧ t.regs.length ≤ maxLen ∧ IntsR w 0 w.heap.size s t.rec3.l := by
 obtain ⟨xs, n, _, rfl, hl, hlen, hf⟩ := DataW.trod_struct Tryz.underlying88 h
 rw [cellsThread] at hl
 obtain ⟨c0, c1, c2, rfl⟩ := list3 hl
 obtain ⟨y0, y1, y2, rfl⟩ := list3 (hlen.trans rfl)
 have g0 := hf 0 _ rfl
 have g1 := hf 1 _ rfl
 have g2 := hf 2 _ rfl
 simp [cellsInt, cellsSi, cellsInt] at g0 g1 g2
 obtain ⟨pc, e0, -, -⟩ := DataW.trod_int Tryz.underlying3 g0
 obtain ⟨s, c, l, rfl, ha, hA⟩ := ints_read g1
 obtain ⟨st, e2, -, -⟩ := DataW.trod_int Tryz.underlying3 g2
 simp at e0 e2
 subst e0 e2
 exact ⟨⟨pc, l, st⟩, s, c, rfl, ha, hA⟩
theorem recsT_read {H : Type} {enc : TypeId × Value → H} {w : World} {base : Nat} {held : Bool} {fuel : Nat} {v : Value} {x : DataW H × List MemPlace}
  (hf : DataW.trod enc Tryz.prog w base (fun _ => true) held fuel 26 [v] = some x) :
  ∃ (s : Option Addr) (c : Nat) (l : List TD), v = .slice s l.length c ∧ l.length ≤ maxLen ∧ (∀ (i : Nat) (t : TD), l[i]? = some t → t.regs.length ≤ maxLen) ∧ RecsR w 0 w.heap.size s (l.map TD.rec3) := by
 rcases open_slice Tryz.underlying26 hf with ⟨hcs, -⟩ | ⟨a, len, cap, m, n, D, Pl, hcs, -, hl, hm, hmm, -, hel⟩
 ·simp at hcs
  exact ⟨none, 0, [], hcs, Nat.zero_le _, fun i t ht => by simp at ht, .inl rfl⟩
 ·simp at hcs
  rw [cellsThread] at hel
  have hle : len ≤ m := by rw [hmm]; split <;> omega
  by_cases h0 : len = 0
  ·subst h0
   exact ⟨some a, cap, [], hcs, Nat.zero_le _, fun i t ht => by simp at ht, .inl rfl⟩
  ·obtain ⟨cs0, h1, h2⟩ := hel 0 (by omega)
   obtain ⟨t0, q0, r0, rfl, -, -⟩ := recT_cells h2
   obtain ⟨-, -, hcell0⟩ := World.cells?_some h1
   have c0 : w.cell? a = some t0.rec3.a := by simpa [Addr.add] using hcell0 0 (by omega)
   have hs := World.cell?_spot c0
   have hg := cell_lt c0
   obtain ⟨g, off, spot⟩ := a
   simp at hs
   subst hs
   obtain ⟨V, hV⟩ := @choose_lt TD ⟨t0⟩ len (fun i y => RecR w 0 w.heap.size g (off + i * 3) y.rec3 ∧ y.regs.length ≤ maxLen) (fun i hi => by
    obtain ⟨cs', h1, h2⟩ := hel i (by omega)
    obtain ⟨t, q, r, rfl, hm1, hI⟩ := recT_cells h2
    obtain ⟨-, -, hcell⟩ := World.cells?_some h1
    rw [add_plain] at hcell
    have c0 := hcell 0 (by omega)
    have c1 := hcell 1 (by omega)
    have c2 := hcell 2 (by omega)
    rw [add_plain] at c0 c1 c2
    exact ⟨t, ⟨q, r, c0, c1, c2, hI⟩, hm1⟩)
   have e : ∀ i t, ((List.range len).map V)[i]? = some t → i < len ∧ t = V i := fun i t ht => by
    rw [List.getElem?_map] at ht
    obtain ⟨y, hy, rfl⟩ := Option.map_eq_some_iff.1 ht
    have hi : i < len := by have := (List.getElem?_eq_some_iff.1 hy).1; simpa using this
    rw [List.getElem?_range hi] at hy
    injection hy with hy
    exact ⟨hi, by rw [hy]⟩
   refine ⟨some ⟨g, off, none⟩, cap, (List.range len).map V, by simp [hcs], by simp; omega, fun i t ht => ?_, .inr ⟨g, off, rfl, Nat.zero_le _, hg, fun i r hr => ?_⟩⟩
   ·obtain ⟨hi, rfl⟩ := e i t ht
    exact (hV i hi).2
   ·rw [List.getElem?_map] at hr
    obtain ⟨y, hy, rfl⟩ := Option.map_eq_some_iff.1 hr
    obtain ⟨hi, rfl⟩ := e i y hy
    exact (hV i hi).1
theorem cellsChan : Tryz.prog.cellsOf 91 = 3 := by kernel_rfl
theorem recC_cells {H : Type} {enc : TypeId × Value → H} {w : World} {base : Nat} {held : Bool} {fuel : Nat} {cs : List Value} {x : DataW H × List MemPlace}
  (h : DataW.trod enc Tryz.prog w base (fun _ => true) held fuel 91 cs = some x) :
  ∃ (t : CD) (s : Option Addr) (c : Nat), cs = [t.rec3.a, .slice s t.rec3.l.length c, t.rec3.z] ∧ t.list.length ≤ maxLen ∧ IntsR w 0 w.heap.size s t.rec3.l := by
 obtain ⟨xs, n, _, rfl, hl, hlen, hf⟩ := DataW.trod_struct Tryz.underlying91 h
 rw [cellsChan] at hl
 obtain ⟨c0, c1, c2, rfl⟩ := list3 hl
 obtain ⟨y0, y1, y2, rfl⟩ := list3 (hlen.trans rfl)
 have g0 := hf 0 _ rfl
 have g1 := hf 1 _ rfl
 have g2 := hf 2 _ rfl
 simp [cellsInt, cellsSi, cellsBo] at g0 g1 g2
 obtain ⟨pc, e0, -, -⟩ := DataW.trod_int Tryz.underlying3 g0
 obtain ⟨s, c, l, rfl, ha, hA⟩ := ints_read g1
 obtain ⟨st, e2, -⟩ := DataW.trod_bool Tryz.underlying4 g2
 simp at e0 e2
 subst e0 e2
 exact ⟨⟨pc, l, st⟩, s, c, rfl, ha, hA⟩
theorem recsC_read {H : Type} {enc : TypeId × Value → H} {w : World} {base : Nat} {held : Bool} {fuel : Nat} {v : Value} {x : DataW H × List MemPlace}
  (hf : DataW.trod enc Tryz.prog w base (fun _ => true) held fuel 27 [v] = some x) :
  ∃ (s : Option Addr) (c : Nat) (l : List CD), v = .slice s l.length c ∧ l.length ≤ maxLen ∧ (∀ (i : Nat) (t : CD), l[i]? = some t → t.list.length ≤ maxLen) ∧ RecsR w 0 w.heap.size s (l.map CD.rec3) := by
 rcases open_slice Tryz.underlying27 hf with ⟨hcs, -⟩ | ⟨a, len, cap, m, n, D, Pl, hcs, -, hl, hm, hmm, -, hel⟩
 ·simp at hcs
  exact ⟨none, 0, [], hcs, Nat.zero_le _, fun i t ht => by simp at ht, .inl rfl⟩
 ·simp at hcs
  rw [cellsChan] at hel
  have hle : len ≤ m := by rw [hmm]; split <;> omega
  by_cases h0 : len = 0
  ·subst h0
   exact ⟨some a, cap, [], hcs, Nat.zero_le _, fun i t ht => by simp at ht, .inl rfl⟩
  ·obtain ⟨cs0, h1, h2⟩ := hel 0 (by omega)
   obtain ⟨t0, q0, r0, rfl, -, -⟩ := recC_cells h2
   obtain ⟨-, -, hcell0⟩ := World.cells?_some h1
   have c0 : w.cell? a = some t0.rec3.a := by simpa [Addr.add] using hcell0 0 (by omega)
   have hs := World.cell?_spot c0
   have hg := cell_lt c0
   obtain ⟨g, off, spot⟩ := a
   simp at hs
   subst hs
   obtain ⟨V, hV⟩ := @choose_lt CD ⟨t0⟩ len (fun i y => RecR w 0 w.heap.size g (off + i * 3) y.rec3 ∧ y.list.length ≤ maxLen) (fun i hi => by
    obtain ⟨cs', h1, h2⟩ := hel i (by omega)
    obtain ⟨t, q, r, rfl, hm1, hI⟩ := recC_cells h2
    obtain ⟨-, -, hcell⟩ := World.cells?_some h1
    rw [add_plain] at hcell
    have c0 := hcell 0 (by omega)
    have c1 := hcell 1 (by omega)
    have c2 := hcell 2 (by omega)
    rw [add_plain] at c0 c1 c2
    exact ⟨t, ⟨q, r, c0, c1, c2, hI⟩, hm1⟩)
   have e : ∀ i t, ((List.range len).map V)[i]? = some t → i < len ∧ t = V i := fun i t ht => by
    rw [List.getElem?_map] at ht
    obtain ⟨y, hy, rfl⟩ := Option.map_eq_some_iff.1 ht
    have hi : i < len := by have := (List.getElem?_eq_some_iff.1 hy).1; simpa using this
    rw [List.getElem?_range hi] at hy
    injection hy with hy
    exact ⟨hi, by rw [hy]⟩
   refine ⟨some ⟨g, off, none⟩, cap, (List.range len).map V, by simp [hcs], by simp; omega, fun i t ht => ?_, .inr ⟨g, off, rfl, Nat.zero_le _, hg, fun i r hr => ?_⟩⟩
   ·obtain ⟨hi, rfl⟩ := e i t ht
    exact (hV i hi).2
   ·rw [List.getElem?_map] at hr
    obtain ⟨y, hy, rfl⟩ := Option.map_eq_some_iff.1 hr
    obtain ⟨hi, rfl⟩ := e i y hy
    exact (hV i hi).1
theorem cellsNote : Tryz.prog.cellsOf 104 = 2 := by kernel_rfl
theorem note_cells {H : Type} {enc : TypeId × Value → H} {w : World} {base : Nat} {held : Bool} {fuel : Nat} {cs : List Value} {x : DataW H × List MemPlace}
  (h : DataW.trod enc Tryz.prog w base (fun _ => true) held fuel 104 cs = some x) : ∃ t : ND, cs = [.int .i64 t.who, .int .i64 t.v] := by
 obtain ⟨xs, n, _, rfl, hl, hlen, hf⟩ := DataW.trod_struct Tryz.underlying104 h
 rw [cellsNote] at hl
 obtain ⟨c0, c1, rfl⟩ := list2 hl
 obtain ⟨y0, y1, rfl⟩ := list2 (hlen.trans rfl)
 have g0 := hf 0 _ rfl
 have g1 := hf 1 _ rfl
 simp [cellsInt] at g0 g1
 obtain ⟨a, e0, -, -⟩ := DataW.trod_int Tryz.underlying3 g0
 obtain ⟨b, e1, -, -⟩ := DataW.trod_int Tryz.underlying3 g1
 simp at e0 e1
 subst e0 e1
 exact ⟨⟨a, b⟩, rfl⟩
theorem notes_read {H : Type} {enc : TypeId × Value → H} {w : World} {base : Nat} {held : Bool} {fuel : Nat} {v : Value} {x : DataW H × List MemPlace}
  (hf : DataW.trod enc Tryz.prog w base (fun _ => true) held fuel 28 [v] = some x) :
  ∃ (s : Option Addr) (c : Nat) (l : List ND), v = .slice s l.length c ∧ l.length ≤ maxLen ∧ NtsR w 0 w.heap.size s l := by
 rcases open_slice Tryz.underlying28 hf with ⟨hcs, -⟩ | ⟨a, len, cap, m, n, D, Pl, hcs, -, hl, hm, hmm, -, hel⟩
 ·simp at hcs
  exact ⟨none, 0, [], hcs, Nat.zero_le _, .inl rfl⟩
 ·simp at hcs
  rw [cellsNote] at hel
  have hle : len ≤ m := by rw [hmm]; split <;> omega
  by_cases h0 : len = 0
  ·subst h0
   exact ⟨some a, cap, [], hcs, Nat.zero_le _, .inl rfl⟩
  ·obtain ⟨cs0, h1, h2⟩ := hel 0 (by omega)
   obtain ⟨t0, rfl⟩ := note_cells h2
   obtain ⟨-, -, hcell0⟩ := World.cells?_some h1
   have c0 : w.cell? a = some (.int .i64 t0.who) := by simpa [Addr.add] using hcell0 0 (by omega)
   have hs := World.cell?_spot c0
   have hg := cell_lt c0
   obtain ⟨g, off, spot⟩ := a
   simp at hs
   subst hs
   obtain ⟨V, hV⟩ := @choose_lt ND ⟨t0⟩ len (fun i y => NtR w g (off + i * 2) y) (fun i hi => by
    obtain ⟨cs', h1, h2⟩ := hel i (by omega)
    obtain ⟨t, rfl⟩ := note_cells h2
    obtain ⟨-, -, hcell⟩ := World.cells?_some h1
    rw [add_plain] at hcell
    have c0 := hcell 0 (by omega)
    have c1 := hcell 1 (by omega)
    rw [add_plain] at c0 c1
    exact ⟨t, c0, c1⟩)
   refine ⟨some ⟨g, off, none⟩, cap, (List.range len).map V, by simp [hcs], by simp; omega, .inr ⟨g, off, rfl, Nat.zero_le _, hg, fun i r hr => ?_⟩⟩
   rw [List.getElem?_map] at hr
   obtain ⟨y, hy, rfl⟩ := Option.map_eq_some_iff.1 hr
   have hi : i < len := by have := (List.getElem?_eq_some_iff.1 hy).1; simpa using this
   rw [List.getElem?_range hi] at hy
   injection hy with hy
   rw [← hy]
   exact hV i hi
theorem cellsST : Tryz.prog.cellsOf 26 = 1 := by kernel_rfl
theorem cellsSC : Tryz.prog.cellsOf 27 = 1 := by kernel_rfl
theorem cellsSN : Tryz.prog.cellsOf 28 = 1 := by kernel_rfl
theorem cellsSrc : Tryz.prog.cellsOf 30 = 3 := by kernel_rfl
theorem open_source {H : Type} {enc : TypeId × Value → H} {w : World} {base b0 : Nat} {held : Bool} {k : Reach} {v : Value} {d : DataW H} {q : List MemPlace}
  (hv : Value.okWide Tryz.prog w k b0 30 v) (h : DataW.Trod enc Tryz.prog w base (fun _ => true) held 30 v d q) :
  ∃ (s1 s2 s3 : Option Addr) (c1 c2 c3 : Nat) (p : SD), v = .agg #[.slice s1 p.ths.length c1, .slice s2 p.chs.length c2, .slice s3 p.tr.length c3] ∧ SLens p ∧ SrcR w 0 w.heap.size s1 s2 s3 p := by
 obtain ⟨cs, rfl, hsz⟩ := okWide_struct Tryz.underlying30 hv
 obtain ⟨fuel, hf⟩ := h
 obtain ⟨xs, n, _, _, hl, hlen, hfs⟩ := DataW.trod_struct Tryz.underlying30 hf
 rw [cellsSrc] at hl
 obtain ⟨l⟩ := cs
 have hl' : l.length = 3 := by simpa [Value.cells] using hl
 obtain ⟨c0, c1, c2, rfl⟩ := list3 hl'
 obtain ⟨y0, y1, y2, rfl⟩ := list3 (hlen.trans rfl)
 have g0 := hfs 0 _ rfl
 have g1 := hfs 1 _ rfl
 have g2 := hfs 2 _ rfl
 simp [cellsST, cellsSC, cellsSN, Value.cells] at g0 g1 g2
 obtain ⟨s1, k1, a, rfl, ha, ha', hA⟩ := recsT_read g0
 obtain ⟨s2, k2, b, rfl, hb, hb', hB⟩ := recsC_read g1
 obtain ⟨s3, k3, e, rfl, he, hE⟩ := notes_read g2
 exact ⟨s1, s2, s3, k1, k2, k3, ⟨a, b, e⟩, rfl, ⟨⟨ha, ha'⟩, ⟨hb, hb'⟩, he⟩, hA, hB, hE⟩
end
section
set_option linter.unusedSimpArgs false
set_option linter.unusedVariables false
set_option maxRecDepth 100000
open Go.RowKit
end
section
set_option linter.unusedSimpArgs false
set_option linter.unusedVariables false
set_option maxRecDepth 100000
open Go.RowKit
theorem mksT_mid : ∀ (A : List (Rec × Value)) (x : Rec × Value) (B : List (Rec × Value)) (q : Int), (mksT q (A ++ x :: B))[A.length]? = some (mkdT (q + sumQ A) x)
 | [], x, B, q => by simp [mksT, sumQ]
 | y :: r, x, B, q => by
  have e : q + (y.1.l.length : Int) + 2 + (sumQ r : Int) = q + ((y.1.l.length + 2 + sumQ r : Nat) : Int) := by push_cast; omega
  have h := mksT_mid r x B (q + y.1.l.length + 2)
  rw [e] at h
  simpa [mksT, sumQ] using h
set_option maxHeartbeats 4000000 in
theorem heldThreadS_any (base : Nat) (v : Value) (L : List (Rec × Value)) (q : Int) (w : World) (h : OwnQ w base 82 v (mksT q L)) (hn : L.length ≤ 1048577) (hls : ∀ (i : Nat) (x : Rec × Value), L[i]? = some x → x.1.l.length ≤ 1048577) (hq : 0 ≤ q) (hq' : q + sumQ L ≤ 1000000000000000) :
  Calls Tryz.prog 51 #[v, .int .i64 q] w fun e w' => e = .returned (.int .i64 (q + sumQ L)) ∧ w' = w := by
 have hrow : w.ownsRow base 82 3 v L.length (flatR (mksT q L)) := by have h1 := h.row; rw [mksT_len] at h1; exact h1
 obtain ⟨s, c, rfl⟩ := ownSl hrow
 have HW := (show Hid _ from hrow)
 have H : Hid (OwnQ w base 82 (.slice s L.length c) (mksT q L)) := h
 have HL : Hid (∀ (i : Nat) (x : Rec × Value), L[i]? = some x → x.1.l.length ≤ 1048577) := hls
 clear h hls hrow
 go_enter Tryz.func51, Tryz.ntmps51
 go_wp2
 go_loop [1, 5] (fun a i => ∃ A B : List (Rec × Value), L = A ++ B ∧ i = .int .i64 A.length ∧ a = .int .i64 (q + sumQ A)) (fun _ i => L.length - (intOf i).toNat)
 case atStart => exact ⟨[], L, rfl, rfl, by simp [sumQ]⟩
 case round =>
  obtain ⟨A, B, hAB, rfl, rfl⟩ := hrel
  have HAB : Hid (L = A ++ B) := hAB
  have hlen : L.length = A.length + B.length := by rw [hAB]; simp
  clear hAB
  cases B with
  | cons x B =>
   simp only [List.length_cons] at hlen
   obtain ⟨k, hk⟩ : ∃ k, A.length = k := ⟨_, rfl⟩
   obtain ⟨g, hs⟩ : ∃ g, s = some ⟨g, 0, none⟩ := by
    obtain ⟨g, cap, e, -⟩ := World.ownsRow.form HW.out (by omega)
    injection e with e1 e2 e3
    exact ⟨g, e1⟩
   subst hs
   have hx : (mksT q L)[k]? = some (mkdT (q + sumQ A) x) := by rw [HAB.out, ← hk]; exact mksT_mid A x B q
   have hLx : L[k]? = some x := by rw [HAB.out, ← hk]; exact put_mid _ _ _
   have hxl := HL.out k x hLx
   have hsum : (sumQ L : Int) = sumQ A + (x.1.l.length + 2) + sumQ B := by rw [HAB.out, sumQ_app]; show ((sumQ A + (x.1.l.length + 2 + sumQ B) : Nat) : Int) = _; push_cast; omega
   obtain ⟨m0, m1, m2⟩ := flatR_at _ _ _ hx
   have f0 : w.cell? ⟨g, k * 3, none⟩ = some (mkdT (q + sumQ A) x).1.a := by rw [World.ownsRow.cellAt HW.out _ (by omega)]; exact m0
   have f1 : w.cell? ⟨g, k * 3 + 1, none⟩ = some x.2 := by rw [World.ownsRow.cellAt HW.out _ (by omega)]; exact m1
   have f2 : w.cell? ⟨g, k * 3 + 2, none⟩ = some (mkdT (q + sumQ A) x).1.z := by rw [World.ownsRow.cellAt HW.out _ (by omega)]; exact m2
   have hin : OwnN w base x.2 (relN (q + sumQ A + 1) x.1.l.length) := H.out.inn k _ hx
   obtain ⟨sx, cx, hx2⟩ := ownSl hin
   rw [relN_len] at hx2
   have hs1 : q + (sumQ A : Int) + x.1.l.length + 2 ≤ 1000000000000000 := by omega
   obtain ⟨sa, hsa⟩ : ∃ sa : Int, (sumQ A : Int) = sa := ⟨_, rfl⟩
   have hsa0 : 0 ≤ sa := by omega
   obtain ⟨xn, hxn⟩ : ∃ xn, x.1.l.length = xn := ⟨_, rfl⟩
   have HSA : Hid ((sumQ A : Int) = sa) := hsa
   have HXN : Hid (x.1.l.length = xn) := hxn
   have HK : Hid (A.length = k) := hk
   unfold mkdT at f0 f2
   simp only at f0 f2
   rw [hsa, hxn] at f2
   rw [hsa] at f0 hs1
   rw [hx2] at f1 hin
   rw [hxn] at f1 hin hxl hs1
   rw [hsa] at hin
   rw [hk, hsa]
   have HI : Hid (OwnN w base (.slice sx xn cx) (relN (q + sa + 1) xn)) := hin
   have hkl : k < L.length := by omega
   have b0 : (0 : Int) ≤ (k : Int) := by omega
   have b1 : (k : Int) < (L.length : Int) := by omega
   have b2 : ¬ (q + sa + 1 + (xn : Int) < 0) := by omega
   have hzz : ((q + sa + 1 + (xn : Int)) != (q + sa + 1 + (xn : Int))) = false := by simp
   clear hx hLx hin hx2 m0 m1 m2 hk hsum hsa hxn hlen
   go_wp2_with (go_at_call 21; refine (heldN_any base (.slice sx xn cx) xn (q + sa + 1) _ HI.out hxl (by omega) (by omega)).mono ?_; rintro e w1 ⟨rfl, rfl⟩)
   all_goals
    go_round
    case rel =>
     refine ⟨A ++ [x], B, by rw [HAB.out]; simp, ?_, ?_⟩
     ·have hkA := HK.out
      rw [List.length_append, hkA]; simp
     ·rw [sumQ_app]
      have e1 := HSA.out
      have e2 := HXN.out
      congr 1
      show _ = q + ((sumQ A + (x.1.l.length + 2 + 0) : Nat) : Int)
      rw [e2]
      push_cast
      omega
    case measure => simp [intOf]; omega
  | nil =>
   go_wp2
   go_ret
   have e : A = L := by rw [HAB.out]; simp
   subst e
   exact ⟨rfl, rfl⟩
theorem mksC_mid : ∀ (A : List (Rec × Value)) (x : Rec × Value) (B : List (Rec × Value)) (q : Int), (mksC q (A ++ x :: B))[A.length]? = some (mkdC (q + sumQ A) x)
 | [], x, B, q => by simp [mksC, sumQ]
 | y :: r, x, B, q => by
  have e : q + (y.1.l.length : Int) + 2 + (sumQ r : Int) = q + ((y.1.l.length + 2 + sumQ r : Nat) : Int) := by push_cast; omega
  have h := mksC_mid r x B (q + y.1.l.length + 2)
  rw [e] at h
  simpa [mksC, sumQ] using h
set_option maxHeartbeats 4000000 in
theorem heldChanS_any (base : Nat) (v : Value) (L : List (Rec × Value)) (q : Int) (w : World) (h : OwnQ w base 92 v (mksC q L)) (hn : L.length ≤ 1048577) (hls : ∀ (i : Nat) (x : Rec × Value), L[i]? = some x → x.1.l.length ≤ 1048577) (hq : 0 ≤ q) (hq' : q + sumQ L ≤ 1000000000000000) :
  Calls Tryz.prog 52 #[v, .int .i64 q] w fun e w' => e = .returned (.int .i64 (q + sumQ L)) ∧ w' = w := by
 have hrow : w.ownsRow base 92 3 v L.length (flatR (mksC q L)) := by have h1 := h.row; rw [mksC_len] at h1; exact h1
 obtain ⟨s, c, rfl⟩ := ownSl hrow
 have HW := (show Hid _ from hrow)
 have H : Hid (OwnQ w base 92 (.slice s L.length c) (mksC q L)) := h
 have HL : Hid (∀ (i : Nat) (x : Rec × Value), L[i]? = some x → x.1.l.length ≤ 1048577) := hls
 clear h hls hrow
 go_enter Tryz.func52, Tryz.ntmps52
 go_wp2
 go_loop [1, 5] (fun a i => ∃ A B : List (Rec × Value), L = A ++ B ∧ i = .int .i64 A.length ∧ a = .int .i64 (q + sumQ A)) (fun _ i => L.length - (intOf i).toNat)
 case atStart => exact ⟨[], L, rfl, rfl, by simp [sumQ]⟩
 case round =>
  obtain ⟨A, B, hAB, rfl, rfl⟩ := hrel
  have HAB : Hid (L = A ++ B) := hAB
  have hlen : L.length = A.length + B.length := by rw [hAB]; simp
  clear hAB
  cases B with
  | cons x B =>
   simp only [List.length_cons] at hlen
   obtain ⟨k, hk⟩ : ∃ k, A.length = k := ⟨_, rfl⟩
   obtain ⟨g, hs⟩ : ∃ g, s = some ⟨g, 0, none⟩ := by
    obtain ⟨g, cap, e, -⟩ := World.ownsRow.form HW.out (by omega)
    injection e with e1 e2 e3
    exact ⟨g, e1⟩
   subst hs
   have hx : (mksC q L)[k]? = some (mkdC (q + sumQ A) x) := by rw [HAB.out, ← hk]; exact mksC_mid A x B q
   have hLx : L[k]? = some x := by rw [HAB.out, ← hk]; exact put_mid _ _ _
   have hxl := HL.out k x hLx
   have hsum : (sumQ L : Int) = sumQ A + (x.1.l.length + 2) + sumQ B := by rw [HAB.out, sumQ_app]; show ((sumQ A + (x.1.l.length + 2 + sumQ B) : Nat) : Int) = _; push_cast; omega
   obtain ⟨m0, m1, m2⟩ := flatR_at _ _ _ hx
   have f0 : w.cell? ⟨g, k * 3, none⟩ = some (mkdC (q + sumQ A) x).1.a := by rw [World.ownsRow.cellAt HW.out _ (by omega)]; exact m0
   have f1 : w.cell? ⟨g, k * 3 + 1, none⟩ = some x.2 := by rw [World.ownsRow.cellAt HW.out _ (by omega)]; exact m1
   have f2 : w.cell? ⟨g, k * 3 + 2, none⟩ = some (mkdC (q + sumQ A) x).1.z := by rw [World.ownsRow.cellAt HW.out _ (by omega)]; exact m2
   have hin : OwnN w base x.2 (relN (q + sumQ A + 1) x.1.l.length) := H.out.inn k _ hx
   obtain ⟨sx, cx, hx2⟩ := ownSl hin
   rw [relN_len] at hx2
   have hs1 : q + (sumQ A : Int) + x.1.l.length + 2 ≤ 1000000000000000 := by omega
   obtain ⟨sa, hsa⟩ : ∃ sa : Int, (sumQ A : Int) = sa := ⟨_, rfl⟩
   have hsa0 : 0 ≤ sa := by omega
   obtain ⟨xn, hxn⟩ : ∃ xn, x.1.l.length = xn := ⟨_, rfl⟩
   have HSA : Hid ((sumQ A : Int) = sa) := hsa
   have HXN : Hid (x.1.l.length = xn) := hxn
   have HK : Hid (A.length = k) := hk
   unfold mkdC at f0 f2
   simp only at f0 f2
   rw [hsa, hxn] at f2
   rw [hsa] at f0 hs1
   rw [hx2] at f1 hin
   rw [hxn] at f1 hin hxl hs1
   rw [hsa] at hin
   rw [hk, hsa]
   have HI : Hid (OwnN w base (.slice sx xn cx) (relN (q + sa + 1) xn)) := hin
   have hkl : k < L.length := by omega
   have b0 : (0 : Int) ≤ (k : Int) := by omega
   have b1 : (k : Int) < (L.length : Int) := by omega
   have b2 : ¬ (q + sa + 1 + (xn : Int) < 0) := by omega
   have hzz : ((((q + sa + 1 + (xn : Int)) % 3) == 0) != (((q + sa + 1 + (xn : Int)) % 3) == 0)) = false := by simp
   clear hx hLx hin hx2 m0 m1 m2 hk hsum hsa hxn hlen
   go_wp2_with (go_at_call 21; refine (heldN_any base (.slice sx xn cx) xn (q + sa + 1) _ HI.out hxl (by omega) (by omega)).mono ?_; rintro e w1 ⟨rfl, rfl⟩)
   all_goals
    go_round
    case rel =>
     refine ⟨A ++ [x], B, by rw [HAB.out]; simp, ?_, ?_⟩
     ·have hkA := HK.out
      rw [List.length_append, hkA]; simp
     ·rw [sumQ_app]
      have e1 := HSA.out
      have e2 := HXN.out
      congr 1
      show _ = q + ((sumQ A + (x.1.l.length + 2 + 0) : Nat) : Int)
      rw [e2]
      push_cast
      omega
    case measure => simp [intOf]; omega
  | nil =>
   go_wp2
   go_ret
   have e : A = L := by rw [HAB.out]; simp
   subst e
   exact ⟨rfl, rfl⟩
end
section
set_option linter.unusedSimpArgs false
set_option linter.unusedVariables false
set_option maxRecDepth 100000
open Go.RowKit
set_option maxHeartbeats 2000000 in
theorem heldNoteS_any (base : Nat) (v : Value) (n : Nat) (q : Int) (w : World) (h : OwnD w base v (runD q n)) (hn : n ≤ 1048577) (hq : 0 ≤ q) (hq' : q ≤ 1000000000000000) :
  Calls Tryz.prog 53 #[v, .int .i64 q] w fun e w' => e = .returned (.int .i64 (q + 2 * n)) ∧ w' = w := by
 have h' : w.ownsRow base 99 2 v n (flatN (runD q n)) := by unfold OwnD at h; rw [runD_len] at h; exact h
 obtain ⟨s, c, rfl⟩ := ownSl h'
 have H := (show Hid _ from h')
 clear h h'
 go_enter Tryz.func53, Tryz.ntmps53
 go_wp2
 go_loop [1, 5] (fun a i => ∃ k : Nat, k ≤ n ∧ i = .int .i64 k ∧ a = .int .i64 (q + 2 * k)) (fun _ i => n - (intOf i).toNat)
 case atStart => exact ⟨0, Nat.zero_le _, rfl, by simp⟩
 case round =>
  obtain ⟨k, hk, rfl, rfl⟩ := hrel
  by_cases hlt : k < n
  ·obtain ⟨g, hs⟩ : ∃ g, s = some ⟨g, 0, none⟩ := by
    obtain ⟨g, cap, e, -⟩ := World.ownsRow.form H.out (by omega)
    injection e with e1 e2 e3
    exact ⟨g, e1⟩
   subst hs
   obtain ⟨m0, m1⟩ := flatN_at _ _ _ (runD_at q n k hlt)
   have c0 : w.cell? ⟨g, k * 2, none⟩ = some (.int .i64 (q + 2 * k)) := by rw [World.ownsRow.cellAt H.out _ (by omega)]; exact m0
   have c1 : w.cell? ⟨g, k * 2 + 1, none⟩ = some (.int .i64 (q + 2 * k + 1)) := by rw [World.ownsRow.cellAt H.out _ (by omega)]; exact m1
   clear m0 m1
   have b0 : (0 : Int) ≤ (k : Int) := by omega
   have b1 : (k : Int) < (n : Int) := by omega
   go_wp2
   go_round
   case rel =>
    refine ⟨k + 1, by omega, by go_num, ?_⟩
    congr 1
    rw [Int.natCast_add]
    omega
   case measure => simp [intOf]; omega
  ·go_wp2
   go_ret
   have e : k = n := by omega
   subst e
   exact ⟨rfl, rfl⟩
set_option maxHeartbeats 2000000 in
theorem heldSource_any (base : Nat) (v1 v2 v3 : Value) (L1 L2 : List (Rec × Value)) (n : Nat) (q : Int) (w : World) (h : MarkedS w base v1 v2 v3 L1 L2 n q) (f1 : L1.length ≤ 1048577) (f1' : ∀ (i : Nat) (x : Rec × Value), L1[i]? = some x → x.1.l.length ≤ 1048577) (f2 : L2.length ≤ 1048577) (f2' : ∀ (i : Nat) (x : Rec × Value), L2[i]? = some x → x.1.l.length ≤ 1048577) (f3 : n ≤ 1048577) (hq : 0 ≤ q) (hq' : q + sumQ L1 + sumQ L2 + 2 * n ≤ 1000000000000000) :
  Calls Tryz.prog 20 #[.agg #[v1, v2, v3], .int .i64 q] w fun e w' => e = .returned (.int .i64 (q + sumQ L1 + sumQ L2 + 2 * n)) ∧ Below w.heap.size w w' := by
 obtain ⟨A, hA⟩ : ∃ A, w.alloc (.cells #[v1, v2, v3] 37) = A := ⟨_, rfl⟩
 have oA : MarkedS A base v1 v2 v3 L1 L2 n q := h.keep (fun k _ hk => by rw [← hA]; exact Below.heap_alloc _ _ _ hk)
 have kA : Below w.heap.size w A := by rw [← hA]; exact (Below.refl _ _).alloc (Nat.le_refl _) _
 have cA1 : A.cell? ⟨w.heap.size, 1, none⟩ = some v2 := by rw [← hA]; simp [go_sem]
 have cA2 : A.cell? ⟨w.heap.size, 2, none⟩ = some v3 := by rw [← hA]; simp [go_sem]
 have hs1 : 0 ≤ (sumQ L1 : Int) := by omega
 have hs2 : 0 ≤ (sumQ L2 : Int) := by omega
 have HE := (show Hid (w.alloc (.cells #[v1, v2, v3] 37) = A) from hA)
 have HO := (show Hid (MarkedS A base v1 v2 v3 L1 L2 n q) from oA)
 have HG := (show Hid _ from And.intro f1' (And.intro f2' kA))
 clear h oA f1' f2' hA kA
 go_enter Tryz.func20, Tryz.ntmps20
 go_wp2_with fail
 rw [HE.out]
 refine (heldThreadS_any base v1 L1 q _ HO.out.t (by omega) HG.out.1 hq (by omega)).mono ?_
 rintro e w1 ⟨rfl, rfl⟩
 have i1 : ¬ q + (sumQ L1 : Int) < 0 := by omega
 have i2 : ¬ q + (sumQ L1 : Int) + sumQ L2 < 0 := by omega
 have i3 : ¬ q + (sumQ L1 : Int) + sumQ L2 + 2 * n < 0 := by omega
 go_wp2_with fail
 refine (heldChanS_any base v2 L2 (q + sumQ L1) _ HO.out.c (by omega) HG.out.2.1 (by omega) (by omega)).mono ?_
 rintro e w2 ⟨rfl, rfl⟩
 go_wp2_with fail
 refine (heldNoteS_any base v3 n (q + sumQ L1 + sumQ L2) _ HO.out.n (by omega) (by omega) (by omega)).mono ?_
 rintro e w3 ⟨rfl, rfl⟩
 go_wp2
 go_ret
 exact ⟨rfl, HG.out.2.2⟩
end
section
set_option linter.unusedSimpArgs false
set_option linter.unusedVariables false
set_option maxRecDepth 100000
open Go.RowKit
def cellsP (x : I5) : List Value := [.int .i64 x.o, .int .i64 x.r, .int .i64 x.a, .int .i64 x.b, .int .i64 x.n]
def flatP : List I5 → List Value
 | [] => []
 | x :: r => cellsP x ++ flatP r
theorem flatP_len : ∀ l : List I5, (flatP l).length = l.length * 5
 | [] => rfl
 | x :: r => by simp [flatP, cellsP, flatP_len r]; omega
theorem flatP_at : ∀ (l : List I5) (i j : Nat) (hi : i < l.length) (hj : j < 5), (flatP l)[i * 5 + j]? = (cellsP (l.getD i z5))[j]?
 | [], i, j, hi, hj => absurd hi (Nat.not_lt_zero _)
 | x :: r, 0, j, hi, hj => by
  simp only [flatP, Nat.zero_mul, Nat.zero_add]
  rw [List.getElem?_append_left (by simp [cellsP]; omega)]
  simp
 | x :: r, i + 1, j, hi, hj => by
  have h5 : (cellsP x).length = 5 := rfl
  simp only [flatP]
  rw [List.getElem?_append_right (by rw [h5]; omega), h5, show (i + 1) * 5 + j - 5 = i * 5 + j by omega, flatP_at r i j (by simp at hi; omega) hj]
  simp
def OwnP (w : World) (base : Nat) (v : Value) (b : List I5) : Prop := w.ownsRow base 111 5 v b.length (flatP b)
def OwnB (w : World) (base : Nat) (v : Value) (bs : List (List I5)) : Prop :=
 ∃ xs : List Value, w.ownsRow base 96 1 v bs.length xs ∧ (∀ i, i < bs.length → OwnP w base (xs.getD i undef) (bs.getD i [])) ∧ ∀ i j k, i < bs.length → j < bs.length → i ≠ j → (xs.getD i undef).ownBlock = some k → (xs.getD j undef).ownBlock ≠ some k
theorem ownKeep {w w' : World} {base : Nat} {e : TypeId} {size n : Nat} {v : Value} {xs : List Value} (h : w.ownsRow base e size v n xs) (hb : ∀ k, v.ownBlock = some k → w'.heap[k]? = w.heap[k]?) : w'.ownsRow base e size v n xs := by
 obtain ⟨h1, h2⟩ := h
 refine ⟨h1, ?_⟩
 rcases h2 with h2 | ⟨g, cap, cur, rfl, b0, c, d⟩
 ·exact .inl h2
 ·exact .inr ⟨g, cap, cur, rfl, b0, (hb g rfl).trans c, d⟩
theorem ownType {w : World} {base base' : Nat} {e e' : TypeId} {size size' n n' : Nat} {v v' : Value} {xs xs' : List Value} (h : w.ownsRow base e size v n xs) (h' : w.ownsRow base' e' size' v' n' xs') (hne : e ≠ e') {k : Nat} (hk : v.ownBlock = some k) : v'.ownBlock ≠ some k := by
 intro hk'
 rcases h.2 with ⟨rfl, -⟩ | ⟨g, cap, cur, rfl, -, c, -⟩
 ·cases hk
 rcases h'.2 with ⟨rfl, -⟩ | ⟨g', cap', cur', rfl, -, c', -⟩
 ·cases hk'
 ·simp only [Value.ownBlock, Option.some.injEq] at hk hk'
  subst hk
  subst hk'
  rw [c] at c'
  injection c' with c'
  injection c' with c1 c2
  exact hne c2
theorem getD_set' {α : Type} (xs : List α) (y d : α) (i j : Nat) (hi : i < xs.length) : (xs.set i y).getD j d = if j = i then y else xs.getD j d := by
 by_cases h : j = i
 ·subst h; rw [if_pos rfl]; simp [List.getD_eq_getElem?_getD, hi]
 ·rw [if_neg h]; simp [List.getD_eq_getElem?_getD, List.getElem?_set, Ne.symm h]
end
end Go.Proofs.YtfokbjkgdiploaaGreat
