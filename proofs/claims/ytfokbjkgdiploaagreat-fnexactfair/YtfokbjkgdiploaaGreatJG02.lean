/- How the laws copy a program into new memory, and count how great it is. Conditions: each list of at most 1048576 where it is copied. How programs read as arguments of a law, in a cut that has no sources among them. No condition. How great a program is counted, and that the count is no more than it was. No condition but the lists' own bounds. Rows of numbers that a call has made: how they lie, what keeps them, and append of one number, and of three noughts. Conditions: fewer than 2^40 numbers. -/
import Derived.Test.YtfokbjkgdiploaaGreatJG00
import Derived.Test.YtfokbjkgdiploaaGreatJG01
import Derived.Test.YtfokbjkgdiploaaGreatChecked
import Derived.WalkKit
import Derived.KernelRfl
import Derived.WalkSpells
import Derived.WalkLawsBesides
import Derived.Below
import Derived.Laws.OwnMore
import Derived.Deep.AppendLies
namespace Go.Proofs.YtfokbjkgdiploaaGreat
section
set_option linter.unusedSimpArgs false
set_option linter.unusedVariables false
set_option maxRecDepth 100000
open Go.RowKit
set_option maxHeartbeats 400000 in
theorem toInsSS_some (g off c lo hi : Nat) (l : List (List I5)) (w : World) (hg : g < w.heap.size) (hh : hi ≤ w.heap.size) (hl : l.length ≤ 1048576) (hls : ∀ i, i < l.length → (l.getD i []).length ≤ 1048576) (hc : ∀ i, i < l.length → BodR w lo hi g (off + i) (l.getD i [])) :
  Calls Tryz.prog 36 #[.slice (some ⟨g, off, none⟩) l.length c] w fun e w' => e = .returned (.slice (some ⟨w.heap.size, 0, none⟩) l.length l.length) ∧ Below w.heap.size w w' ∧ w.heap.size < w'.heap.size ∧ ∀ i, i < l.length → BodR w' (w.heap.size + 1) w'.heap.size w.heap.size (0 + i) (l.getD i []) := by
 have hmk := mkSS l.length hl
 have HC : Hid (∀ i, i < l.length → BodR w lo hi g (off + i) (l.getD i [])) := hc
 have HLS : Hid (∀ i, i < l.length → (l.getD i []).length ≤ 1048576) := hls
 clear hc hls
 go_enter Tryz.func36, Tryz.ntmps36
 go_wp2
 clear hmk
 go_loopw [4] (fun i wr => ∃ k : Nat, k ≤ l.length ∧ i = .int .i64 k ∧ Below w.heap.size w wr ∧ w.heap.size < wr.heap.size ∧ (∀ j, j < l.length → (wr.cell? ⟨w.heap.size, 0 + j, none⟩).isSome = true) ∧ (∀ j, j < l.length → wr.frozen? ⟨w.heap.size, 0 + j, none⟩ = false) ∧ (∀ i, i < k → BodR wr (w.heap.size + 1) wr.heap.size w.heap.size (0 + i) (l.getD i []))) (fun i _ => l.length - (intOf i).toNat)
 case atStart => exact ⟨0, Nat.zero_le _, rfl, (Below.refl _ _).alloc (Nat.le_refl _) _, by simp, fun j hj => new_cell (by rw [size_madeCells]; omega), fun j hj => new_frozen, fun i hi => absurd hi (Nat.not_lt_zero _)⟩
 case round =>
  obtain ⟨k, hk, rfl, hb, hsz, hso, hfz, hdone⟩ := hrel
  have HB : Hid (Below w.heap.size w wr) := hb
  have HSO : Hid (∀ j, j < l.length → (wr.cell? ⟨w.heap.size, 0 + j, none⟩).isSome = true) := hso
  have HFZ : Hid (∀ j, j < l.length → wr.frozen? ⟨w.heap.size, 0 + j, none⟩ = false) := hfz
  have HD : Hid (∀ i, i < k → BodR wr (w.heap.size + 1) wr.heap.size w.heap.size (0 + i) (l.getD i [])) := hdone
  clear hb hso hfz hdone
  by_cases hlt : k < l.length
  ·obtain ⟨s, cc, f0, hin⟩ := (HC.out k hlt).keep (w' := wr) (Keep.of_below HB.out hh) (HB.out.cell (p := ⟨g, off + k, none⟩) hg)
   have hlen := HLS.out k hlt
   generalize hx : l.getD k [] = x at f0 hin hlen
   have HX : Hid (l.getD k [] = x) := hx
   have HIN : Hid (InsR wr lo hi s x) := hin
   clear hx hin
   have b0 : (0 : Int) ≤ (k : Int) := by omega
   have b1 : (k : Int) < (l.length : Int) := by omega
   have hs0 := HB.out.size
   go_wp2_with fail
   refine (toInsS_new s cc lo hi x wr HIN.out (by omega) hlen).mono ?_
   rintro e w1 ⟨s1, rfl, hb1, hz1, hi1⟩
   have HB1 : Hid (Below wr.heap.size wr w1) := hb1
   have HI1 : Hid (InsR w1 wr.heap.size w1.heap.size s1 x) := hi1
   clear hb1 hi1 f0
   have hsm : (w1.cell? ⟨w.heap.size, 0 + k, none⟩).isSome = true := by rw [HB1.out.cell (p := ⟨w.heap.size, 0 + k, none⟩) hsz]; exact HSO.out k hlt
   obtain ⟨u, hu⟩ := Option.isSome_iff_exists.1 hsm
   have hz : w1.frozen? ⟨w.heap.size, 0 + k, none⟩ = false := by rw [HB1.out.frozen (p := ⟨w.heap.size, 0 + k, none⟩) hsz]; exact HFZ.out k hlt
   rw [Nat.zero_add] at hu hz
   clear hsm
   go_wp2
   go_roundw
   case rel =>
    refine ⟨k + 1, by omega, by go_num, (HB.out.trans (HB1.out.mono (by omega))).setCell (p := ⟨w.heap.size, k, none⟩) (Nat.le_refl _) _, by simp; omega, ?_, ?_, ?_⟩
    ·intro j hj
     refine setC_some ?_
     rw [HB1.out.cell (p := ⟨w.heap.size, 0 + j, none⟩) hsz]
     exact HSO.out j hj
    ·intro j hj
     rw [World.frozen?_setCell, HB1.out.frozen (p := ⟨w.heap.size, 0 + j, none⟩) hsz]
     exact HFZ.out j hj
    ·intro i hi
     rw [World.size_setCell]
     by_cases e : i = k
     ·subst e
      rw [HX.out, Nat.zero_add]
      exact ⟨s1, x.length, setC_at (by rw [hu]; rfl), (HI1.out.mono (by omega) (Nat.le_refl _)).keep (Keep.of_set (by simp <;> omega))⟩
     ·have h0 := HD.out i (by omega)
      have h1 : BodR w1 (w.heap.size + 1) w1.heap.size w.heap.size (0 + i) (l.getD i []) := (h0.keep (w' := w1) (Keep.of_below HB1.out (Nat.le_refl _)) (HB1.out.cell (p := ⟨w.heap.size, 0 + i, none⟩) hsz)).mono (Nat.le_refl _) (by omega)
      exact h1.keep (Keep.of_set (by simp <;> omega)) (setC_off (by omega))
   case measure => simp [intOf]; omega
  ·go_wp2
   go_ret
   have : k = l.length := by omega
   subst this
   exact ⟨rfl, HB.out, hsz, HD.out⟩
set_option maxHeartbeats 400000 in
theorem toInsSS_none (s : Option Addr) (c : Nat) (w : World) :
  Calls Tryz.prog 36 #[.slice s 0 c] w fun e w' => e = .returned (.slice (some ⟨w.heap.size, 0, none⟩) 0 0) ∧ Below w.heap.size w w' ∧ w.heap.size < w'.heap.size := by
 have hmk := mkSS 0 (by omega)
 simp only [Int.natCast_zero] at hmk
 go_enter Tryz.func36, Tryz.ntmps36
 go_wp2
 clear hmk
 go_loopw [4] (fun i wr => i = .int .i64 0 ∧ Below w.heap.size w wr ∧ w.heap.size < wr.heap.size) (fun _ _ => 0)
 case atStart => exact ⟨rfl, (Below.refl _ _).alloc (Nat.le_refl _) _, by simp⟩
 case round =>
  obtain ⟨rfl, hb, hsz⟩ := hrel
  go_wp2
  go_ret
  exact ⟨rfl, hb, hsz⟩
theorem toInsSS_new (s : Option Addr) (c lo hi : Nat) (l : List (List I5)) (w : World) (h : BodsR w lo hi s l) (hB : hi ≤ w.heap.size) (hl : l.length ≤ 1048576) (hls : ∀ i, i < l.length → (l.getD i []).length ≤ 1048576) :
  Calls Tryz.prog 36 #[.slice s l.length c] w fun e w' => ∃ s' : Option Addr, e = .returned (.slice s' l.length l.length) ∧ Below w.heap.size w w' ∧ w.heap.size < w'.heap.size ∧ BodsR w' w.heap.size w'.heap.size s' l := by
 rcases h with rfl | ⟨g, off, rfl, hg, hg', hc⟩
 ·refine (toInsSS_none s c w).mono ?_
  rintro e w' ⟨rfl, hb, hsz⟩
  exact ⟨_, rfl, hb, hsz, .inl rfl⟩
 ·refine (toInsSS_some g off c lo hi l w (by omega) hB hl hls hc).mono ?_
  rintro e w' ⟨rfl, hb, hsz, hc'⟩
  exact ⟨_, rfl, hb, hsz, .inr ⟨_, _, rfl, Nat.le_refl _, hsz, fun i hi => (hc' i hi).mono (by omega) (Nat.le_refl _)⟩⟩
structure PD where
 caps : List Int
 bods : List (List I5)
def ProgR (w : World) (lo hi : Nat) (s s' : Option Addr) (p : PD) : Prop := IntsR w lo hi s p.caps ∧ BodsR w lo hi s' p.bods
def Fits (p : PD) : Prop := p.caps.length ≤ 1048576 ∧ p.bods.length ≤ 1048576 ∧ ∀ i, i < p.bods.length → (p.bods.getD i []).length ≤ 1048576
set_option maxHeartbeats 1000000 in
theorem toProg_new (s s' : Option Addr) (c c' lo hi : Nat) (p : PD) (w : World) (h : ProgR w lo hi s s' p) (hB : hi ≤ w.heap.size) (hf : Fits p) :
  Calls Tryz.prog 10 #[.agg #[.slice s p.caps.length c, .slice s' p.bods.length c']] w fun e w' => ∃ t t' : Option Addr, e = .returned (.agg #[.slice t p.caps.length p.caps.length, .slice t' p.bods.length p.bods.length]) ∧ Below w.heap.size w w' ∧ w.heap.size < w'.heap.size ∧ ProgR w' w.heap.size w'.heap.size t t' p := by
 obtain ⟨h1, h2⟩ := h
 obtain ⟨q1, q2, q3⟩ := hf
 have H1 : Hid (IntsR w lo hi s p.caps) := h1
 have H2 : Hid (BodsR w lo hi s' p.bods) := h2
 clear h1 h2
 go_enter Tryz.func10, Tryz.ntmps10
 go_wp2_with fail
 have k3 : Below w.heap.size w (((w.alloc (.cells #[.slice s p.caps.length c, .slice s' p.bods.length c'] 25)).alloc (.cells #[.slice none 0 0, .slice none 0 0] 42)).alloc (.cells #[.slice none 0 0, .slice none 0 0] 42)) := (((Below.refl _ _).alloc (Nat.le_refl _) _).alloc (by simp) _).alloc (by simp; omega) _
 refine (toIntS_new s c lo hi p.caps _ (H1.out.keep (Keep.of_below k3 hB)) (by simp; omega) q1).mono ?_
 rintro e w1 ⟨t, rfl, hb1, hz1, hi1⟩
 have a1 : w1.cell? ⟨w.heap.size, 1, none⟩ = some (.slice s' p.bods.length c') := by rw [hb1.cell (by simp; omega)]; simp [go_sem]
 have d0 : w1.cell? ⟨w.heap.size + 1, 0, none⟩ = some (.slice none 0 0) := by rw [hb1.cell (by simp)]; simp [go_sem]
 have d1 : w1.cell? ⟨w.heap.size + 1, 1, none⟩ = some (.slice none 0 0) := by rw [hb1.cell (by simp)]; simp [go_sem]
 have e0 : w1.cell? ⟨w.heap.size + 1 + 1, 0, none⟩ = some (.slice none 0 0) := by rw [hb1.cell (by simp)]; simp [go_sem]
 have e1 : w1.cell? ⟨w.heap.size + 1 + 1, 1, none⟩ = some (.slice none 0 0) := by rw [hb1.cell (by simp)]; simp [go_sem]
 have y0 : ∀ j, w1.frozen? ⟨w.heap.size + 1, j, none⟩ = false := fun j => by rw [hb1.frozen (by simp)]; simp [go_sem]
 have y1 : ∀ j, w1.frozen? ⟨w.heap.size + 1 + 1, j, none⟩ = false := fun j => by rw [hb1.frozen (by simp)]; simp [go_sem]
 have hz1' : w.heap.size + 3 < w1.heap.size := by simp at hz1; omega
 have k1 : Below w.heap.size w w1 := k3.trans (hb1.mono (by simp; omega))
 have HI1 : Hid (IntsR w1 (w.heap.size + 3) w1.heap.size t p.caps) := hi1.mono (by simp) (Nat.le_refl _)
 clear hb1 hz1 hi1 k3
 go_wp2_with fail
 have kset : Below w.heap.size w (w1.setCell ⟨w.heap.size + 1 + 1, 0, none⟩ (.slice t p.caps.length p.caps.length)) := k1.setCell (p := ⟨w.heap.size + 1 + 1, 0, none⟩) (by simp; omega) _
 refine (toInsSS_new s' c' lo hi p.bods _ (H2.out.keep (Keep.of_below kset hB)) (by simp; omega) q2 q3).mono ?_
 rintro e w2 ⟨t', rfl, hb2, hz2, hi2⟩
 have d0' : w2.cell? ⟨w.heap.size + 1, 0, none⟩ = some (.slice none 0 0) := (hb2.cell (by simp; omega)).trans ((setC_blk (by omega)).trans d0)
 have d1' : w2.cell? ⟨w.heap.size + 1, 1, none⟩ = some (.slice none 0 0) := (hb2.cell (by simp; omega)).trans ((setC_blk (by omega)).trans d1)
 have e0' : w2.cell? ⟨w.heap.size + 1 + 1, 0, none⟩ = some (.slice t p.caps.length p.caps.length) := (hb2.cell (by simp; omega)).trans (setC_at (by rw [e0]; rfl))
 have e1' : w2.cell? ⟨w.heap.size + 1 + 1, 1, none⟩ = some (.slice none 0 0) := (hb2.cell (by simp; omega)).trans ((setC_off (by omega)).trans e1)
 have y0' : ∀ j, w2.frozen? ⟨w.heap.size + 1, j, none⟩ = false := fun j => by rw [hb2.frozen (by simp; omega), World.frozen?_setCell]; exact y0 j
 have y1' : ∀ j, w2.frozen? ⟨w.heap.size + 1 + 1, j, none⟩ = false := fun j => by rw [hb2.frozen (by simp; omega), World.frozen?_setCell]; exact y1 j
 have hz2' : w1.heap.size < w2.heap.size := by simpa using hz2
 have k2 : Below w.heap.size w w2 := kset.trans (hb2.mono (by simp; omega))
 have HI2 : Hid (IntsR w2 (w.heap.size + 3) w1.heap.size t p.caps) := HI1.out.keep ((Keep.of_set (by simp <;> omega)).trans (Keep.of_below hb2 (by simp)))
 have HB2 : Hid (BodsR w2 w1.heap.size w2.heap.size t' p.bods) := hi2.mono (by simp) (Nat.le_refl _)
 clear a1 d0 d1 e0 e1 y0 y1 hb2 hz2 hi2 kset
 go_wp2
 refine bodyPost_ret (v := .agg #[.slice t p.caps.length p.caps.length, .slice t' p.bods.length p.bods.length]) (by simp [results, Tryz.results10, go_sem, d0', d1']) rfl ⟨t, t', rfl, ?_, ?_, ?_, ?_⟩
 ·exact ((k2.setCell (p := ⟨w.heap.size + 1 + 1, 1, none⟩) (by simp; omega) _).setCell (p := ⟨w.heap.size + 1, 0, none⟩) (by simp) _).setCell (p := ⟨w.heap.size + 1, 1, none⟩) (by simp) _
 ·simp; omega
 ·exact (HI2.out.keep (((Keep.of_set (by simp <;> omega)).trans (Keep.of_set (by simp <;> omega))).trans (Keep.of_set (by simp <;> omega)))).mono (by omega) (by simp; omega)
 ·exact (HB2.out.keep (((Keep.of_set (by simp <;> omega)).trans (Keep.of_set (by simp <;> omega))).trans (Keep.of_set (by simp <;> omega)))).mono (by omega) (by simp)
theorem szInsS_all (s : Option Addr) (n c : Nat) (q : Int) (w : World) (hn : n ≤ maxLen) (hq : 0 ≤ q) (hq' : q ≤ 1048576) : Calls Tryz.prog 58 #[.slice s n c, .int .i64 q] w fun e w' => e = .returned (.int .i64 (if q < n then -1 else q - (n : Int))) ∧ w' = w := by
 unfold maxLen at hn
 by_cases h : q < n
 ·rw [if_pos h]
  have h1 : q - (n : Int) < 0 := by omega
  go_enter Tryz.func58, Tryz.ntmps58
  go_wp2
  go_ret
  exact ⟨rfl, rfl⟩
 ·rw [if_neg h]
  have h1 : ¬ q - (n : Int) < 0 := by omega
  go_enter Tryz.func58, Tryz.ntmps58
  go_wp2
  go_ret
  exact ⟨rfl, rfl⟩
theorem ProgR.keep' {w w' : World} {lo hi : Nat} {s s' : Option Addr} {p : PD} (h : ProgR w lo hi s s' p) (hb : Keep lo hi w w') : ProgR w' lo hi s s' p := ⟨h.1.keep hb, h.2.keep hb⟩
end
section
set_option linter.unusedSimpArgs false
set_option linter.unusedVariables false
set_option maxRecDepth 100000
open Go.ChangeShapes Go.WideShapes Go.ChangeAt Go.RowKit Go.Deep
theorem list2 {α : Type} {cs : List α} (h : cs.length = 2) : ∃ c0 c1, cs = [c0, c1] := by
 match cs, h with
 | [c0, c1], _ => exact ⟨c0, c1, rfl⟩
theorem list3 {α : Type} {cs : List α} (h : cs.length = 3) : ∃ c0 c1 c2, cs = [c0, c1, c2] := by
 match cs, h with
 | [c0, c1, c2], _ => exact ⟨c0, c1, c2, rfl⟩
theorem cellsBo : Tryz.prog.cellsOf 4 = 1 := by kernel_rfl
theorem ownP : ownKnob Tryz.prog.godebug = none := by kernel_rfl
theorem laidOutP : laidOutB Tryz.prog = true := by kernel_rfl
theorem cellsSl : Tryz.prog.cellsOf 86 = 1 := by kernel_rfl
theorem cellsSi : Tryz.prog.cellsOf 22 = 1 := by kernel_rfl
theorem cellsSS : Tryz.prog.cellsOf 23 = 1 := by kernel_rfl
theorem cellsPr : Tryz.prog.cellsOf 25 = 2 := by kernel_rfl
theorem ints_read {H : Type} {enc : TypeId × Value → H} {w : World} {base : Nat} {held : Bool} {fuel : Nat} {v : Value} {x : DataW H × List MemPlace}
  (hf : DataW.trod enc Tryz.prog w base (fun _ => true) held fuel 22 [v] = some x) :
  ∃ (s : Option Addr) (c : Nat) (l : List Int), v = .slice s l.length c ∧ l.length ≤ maxLen ∧ IntsR w 0 w.heap.size s l := by
 rcases open_ints Tryz.underlying22 Tryz.underlying3 cellsInt hf with ⟨hcs, _⟩ | ⟨a, len, cap, zs, hcs, _, hl, hm, hz, _, hcell, _⟩
 ·simp at hcs
  exact ⟨none, 0, [], hcs, Nat.zero_le _, .inl rfl⟩
 ·simp at hcs hz
  by_cases h0 : len = 0
  ·subst h0
   exact ⟨some a, cap, [], hcs, Nat.zero_le _, .inl rfl⟩
  ·have c0 := hcell 0 (by omega)
   have c0' : w.cell? a = some (.int .i64 (zs.getD 0 0)) := by simpa [Addr.add] using c0
   have hs := World.cell?_spot c0'
   have hg := cell_lt c0'
   obtain ⟨g, off, spot⟩ := a
   simp at hs
   subst hs
   refine ⟨some ⟨g, off, none⟩, cap, zs.take len, ?_, ?_, .inr ⟨g, off, rfl, Nat.zero_le _, hg, ?_⟩⟩
   ·rw [hcs]
    congr 1
    simp
    omega
   ·simp
    omega
   ·intro i hi
    have hi' : i < len := by simp at hi; omega
    have := hcell i (by omega)
    rw [add_plain] at this
    rw [this]
    simp [List.getD_eq_getElem?_getD, List.getElem?_take, hi']
theorem insS_read {H : Type} {enc : TypeId × Value → H} {w : World} {base : Nat} {held : Bool} {fuel : Nat} {v : Value} {x : DataW H × List MemPlace}
  (hf : DataW.trod enc Tryz.prog w base (fun _ => true) held fuel 86 [v] = some x) :
  ∃ (s : Option Addr) (c : Nat) (l : List I5), v = .slice s l.length c ∧ l.length ≤ maxLen ∧ InsR w 0 w.heap.size s l := by
 rcases open_slice Tryz.underlying86 hf with ⟨hcs, -⟩ | ⟨a, len, cap, m, n, D, Pl, hcs, -, hl, hm, hmm, -, hel⟩
 ·simp at hcs
  exact ⟨none, 0, [], hcs, Nat.zero_le _, .inl rfl⟩
 ·simp at hcs
  rw [cellsIns] at hel
  have hle : len ≤ m := by rw [hmm]; split <;> omega
  by_cases h0 : len = 0
  ·subst h0
   exact ⟨some a, cap, [], hcs, Nat.zero_le _, .inl rfl⟩
  ·obtain ⟨cs0, h1, h2⟩ := hel 0 (by omega)
   obtain ⟨hs, hg⟩ := insS_spot h1 h2
   obtain ⟨g, off, spot⟩ := a
   simp at hs
   subst hs
   obtain ⟨V, hV⟩ := @choose_lt I5 ⟨z5⟩ len (fun i y => At5 w g (off + i * 5) y) (fun i hi => by
    obtain ⟨cs', h1, h2⟩ := hel i (by omega)
    exact insS_at h1 h2)
   refine ⟨some ⟨g, off, none⟩, cap, (List.range len).map V, by simp [hcs], by simp; omega, .inr ⟨g, off, rfl, Nat.zero_le _, hg, ?_⟩⟩
   intro i hi
   simp at hi
   have e : ((List.range len).map V).getD i z5 = V i := by simp [hi]
   rw [e]
   exact hV i hi
theorem bods_read {H : Type} {enc : TypeId × Value → H} {w : World} {base : Nat} {held : Bool} {fuel : Nat} {v : Value} {x : DataW H × List MemPlace}
  (hf : DataW.trod enc Tryz.prog w base (fun _ => true) held fuel 23 [v] = some x) :
  ∃ (s : Option Addr) (c : Nat) (l : List (List I5)), v = .slice s l.length c ∧ l.length ≤ maxLen ∧ (∀ i, i < l.length → (l.getD i []).length ≤ maxLen) ∧ BodsR w 0 w.heap.size s l := by
 rcases open_slice1 Tryz.underlying23 cellsSl hf with ⟨hcs, -⟩ | ⟨a, len, cap, m, n, V, D, Pl, hcs, -, hl, hm, hmm, -, hel⟩
 ·simp at hcs
  exact ⟨none, 0, [], hcs, Nat.zero_le _, fun i hi => absurd hi (Nat.not_lt_zero _), .inl rfl⟩
 ·simp at hcs
  have hle : len ≤ m := by rw [hmm]; split <;> omega
  by_cases h0 : len = 0
  ·subst h0
   exact ⟨some a, cap, [], hcs, Nat.zero_le _, fun i hi => absurd hi (Nat.not_lt_zero _), .inl rfl⟩
  ·obtain ⟨c0, -⟩ := hel 0 (by omega)
   have c0' : w.cell? a = some (V 0) := by simpa [Addr.add] using c0
   have hs := World.cell?_spot c0'
   have hg := cell_lt c0'
   obtain ⟨g, off, spot⟩ := a
   simp at hs
   subst hs
   obtain ⟨L, hL⟩ := @choose_lt (List I5) ⟨[]⟩ len (fun i l => BodR w 0 w.heap.size g (off + i) l ∧ l.length ≤ maxLen) (fun i hi => by
    obtain ⟨h1, h2⟩ := hel i (by omega)
    obtain ⟨s, c, l, hv, hlm, hin⟩ := insS_read h2
    rw [add_plain, hv] at h1
    exact ⟨l, ⟨s, c, h1, hin⟩, hlm⟩)
   have e : ∀ i, i < len → ((List.range len).map L).getD i [] = L i := fun i hi => by simp [hi]
   refine ⟨some ⟨g, off, none⟩, cap, (List.range len).map L, by simp [hcs], by simp; omega, ?_, .inr ⟨g, off, rfl, Nat.zero_le _, hg, ?_⟩⟩
   ·intro i hi
    simp at hi
    rw [e i hi]
    exact (hL i hi).2
   ·intro i hi
    simp at hi
    rw [e i hi]
    exact (hL i hi).1
theorem open_prog {H : Type} {enc : TypeId × Value → H} {w : World} {base b0 : Nat} {held : Bool} {k : Reach} {v : Value} {d : DataW H} {q : List MemPlace}
  (hv : Value.okWide Tryz.prog w k b0 25 v) (h : DataW.Trod enc Tryz.prog w base (fun _ => true) held 25 v d q) :
  ∃ (s s' : Option Addr) (c c' : Nat) (p : PD), v = .agg #[.slice s p.caps.length c, .slice s' p.bods.length c'] ∧ p.caps.length ≤ maxLen ∧ p.bods.length ≤ maxLen ∧ (∀ i, i < p.bods.length → (p.bods.getD i []).length ≤ maxLen) ∧ ProgR w 0 w.heap.size s s' p := by
 obtain ⟨cs, rfl, hsz⟩ := okWide_struct Tryz.underlying25 hv
 obtain ⟨fuel, hf⟩ := h
 obtain ⟨xs, n, _, _, hl, hlen, hfs⟩ := DataW.trod_struct Tryz.underlying25 hf
 rw [cellsPr] at hl
 obtain ⟨l⟩ := cs
 have hl' : l.length = 2 := by simpa [Value.cells] using hl
 obtain ⟨c0, c1, rfl⟩ := list2 hl'
 obtain ⟨y0, y1, rfl⟩ := list2 (hlen.trans rfl)
 have g0 := hfs 0 _ rfl
 have g1 := hfs 1 _ rfl
 simp [cellsSi, cellsSS, Value.cells] at g0 g1
 obtain ⟨s, c, a, rfl, ha, hA⟩ := ints_read g0
 obtain ⟨s', c', b, rfl, hb, hb', hB⟩ := bods_read g1
 exact ⟨s, s', c, c', ⟨a, b⟩, rfl, ha, hb, hb', hA, hB⟩
end
section
set_option linter.unusedSimpArgs false
set_option linter.unusedVariables false
set_option maxRecDepth 100000
open Go.RowKit
set_option maxHeartbeats 400000 in
theorem szInsSS_le (s : Option Addr) (c lo hi : Nat) (l : List (List I5)) (q : Int) (w : World) (h : BodsR w lo hi s l) (hn : l.length ≤ maxLen) (hls : ∀ i, i < l.length → (l.getD i []).length ≤ maxLen) (hq : 0 ≤ q) (hq' : q ≤ 1048576) :
  Calls Tryz.prog 29 #[.slice s l.length c, .int .i64 q] w fun e w' => (∃ v : Int, e = .returned (.int .i64 v) ∧ (v < 0 ∨ (0 ≤ v ∧ v ≤ 1048576 ∧ l.length ≤ 1048576 ∧ ∀ i, i < l.length → (l.getD i []).length ≤ 1048576))) ∧ w' = w := by
 unfold maxLen at hn
 have HLS : Hid (∀ i, i < l.length → (l.getD i []).length ≤ maxLen) := hls
 clear hls
 by_cases hb : q < (l.length : Int)
 ·have h1 : q - (l.length : Int) < 0 := by omega
  go_enter Tryz.func29, Tryz.ntmps29
  go_wp2
  go_ret
  exact ⟨⟨-1, rfl, .inl (by omega)⟩, rfl⟩
 ·have h1 : ¬ q - (l.length : Int) < 0 := by omega
  rcases h with rfl | ⟨g, off, rfl, -, -, hc⟩
  ·have h2 : ¬ q < 0 := by omega
   simp at h1
   go_enter Tryz.func29, Tryz.ntmps29
   go_wp2
   go_loop [1, 5] (fun a i => i = .int .i64 0 ∧ a = .int .i64 q) (fun _ _ => 0)
   case atStart => exact ⟨rfl, by simp⟩
   case round =>
    obtain ⟨rfl, rfl⟩ := hrel
    go_wp2
    go_ret
    exact ⟨⟨q, rfl, by first | exact .inr ⟨hq, hq'⟩ | exact .inr ⟨hq, hq', by simp, by simp⟩⟩, rfl⟩
  ·have HC : Hid (∀ i, i < l.length → BodR w lo hi g (off + i) (l.getD i [])) := hc
   clear hc
   go_enter Tryz.func29, Tryz.ntmps29
   go_wp2
   go_loop [1, 5] (fun a i => ∃ (k : Nat) (v : Int), k ≤ l.length ∧ i = .int .i64 k ∧ a = .int .i64 v ∧ 0 ≤ v ∧ v ≤ 1048576 ∧ (∀ i, i < k → (l.getD i []).length ≤ 1048576)) (fun _ i => l.length - (intOf i).toNat)
   case atStart => exact ⟨0, _, Nat.zero_le _, rfl, rfl, by omega, by omega, fun i hi => absurd hi (Nat.not_lt_zero _)⟩
   case round =>
    obtain ⟨k, v, hk, rfl, rfl, hv, hv', hd⟩ := hrel
    have HD : Hid (∀ i, i < k → (l.getD i []).length ≤ 1048576) := hd
    clear hd
    by_cases hlt : k < l.length
    ·obtain ⟨s, cc, f0, -⟩ := HC.out k hlt
     have hm := HLS.out k hlt
     generalize hx : (l.getD k []).length = n at f0 hm
     have HX : Hid ((l.getD k []).length = n) := hx
     clear hx
     have b0 : (0 : Int) ≤ (k : Int) := by omega
     have b1 : (k : Int) < (l.length : Int) := by omega
     by_cases hvn : v < (n : Int)
     ·go_wp2_with (go_at_call 58; refine (szInsS_all _ _ _ _ _ hm hv hv').mono ?_; rintro e w' ⟨rfl, hw⟩; have hw' := hw.symm; clear hw; subst hw'; rw [if_pos hvn])
      go_ret
      exact ⟨⟨-1, rfl, .inl (by omega)⟩, rfl⟩
     ·have hnn : ¬ v - (n : Int) < 0 := by omega
      go_wp2_with (go_at_call 58; refine (szInsS_all _ _ _ _ _ hm hv hv').mono ?_; rintro e w' ⟨rfl, hw⟩; have hw' := hw.symm; clear hw; subst hw'; rw [if_neg hvn])
      go_round
      case rel =>
       refine ⟨k + 1, _, by omega, by go_num, rfl, by omega, by omega, ?_⟩
       intro i hi
       by_cases e : i = k
       ·subst e; rw [HX.out]; omega
       ·exact HD.out i (by omega)
      case measure => simp [intOf]; omega
    ·go_wp2
     go_ret
     have : k = l.length := by omega
     subst this
     exact ⟨⟨v, rfl, .inr ⟨hv, hv', by omega, HD.out⟩⟩, rfl⟩
set_option maxHeartbeats 400000 in
theorem szProg_le (s s' : Option Addr) (c c' lo hi : Nat) (p : PD) (w : World) (h : ProgR w lo hi s s' p) (hB : hi ≤ w.heap.size) (hn : p.caps.length ≤ maxLen) (hn' : p.bods.length ≤ maxLen) (hls : ∀ i, i < p.bods.length → (p.bods.getD i []).length ≤ maxLen) :
  Calls Tryz.prog 7 #[.agg #[.slice s p.caps.length c, .slice s' p.bods.length c'], .int .i64 1048576] w fun e w' => (∃ v : Int, e = .returned (.int .i64 v) ∧ (v < 0 ∨ (0 ≤ v ∧ v ≤ 1048576 ∧ Fits p))) ∧ Below w.heap.size w w' := by
 obtain ⟨-, h2⟩ := h
 by_cases hb : (1048576 : Int) < p.caps.length
 ·go_enter Tryz.func7, Tryz.ntmps7
  go_wp2_with (go_at_call 28; refine (szIntS_any _ _ _ _ _ hn (by omega) (by omega)).mono ?_; rintro e w' ⟨rfl, hw⟩; have hw' := hw.symm; clear hw; subst hw'; rw [if_pos hb])
  go_ret
  exact ⟨⟨-1, rfl, .inl (by omega)⟩, (Below.refl _ _).alloc (Nat.le_refl _) _⟩
 ·have hnn : ¬ (1048576 : Int) - (p.caps.length : Int) < 0 := by omega
  have H2 : Hid (BodsR w lo hi s' p.bods) := h2
  clear h2
  go_enter Tryz.func7, Tryz.ntmps7
  go_wp2_with (go_at_call 28; refine (szIntS_any _ _ _ _ _ hn (by omega) (by omega)).mono ?_; rintro e w' ⟨rfl, hw⟩; have hw' := hw.symm; clear hw; subst hw'; rw [if_neg hb])
  refine (szInsSS_le s' c' lo hi p.bods _ _ (H2.out.keep (Keep.of_below ((Below.refl _ _).alloc (Nat.le_refl _) _) hB)) hn' hls (by omega) (by omega)).mono ?_
  rintro e w' ⟨⟨v, rfl, hv⟩, rfl⟩
  rcases hv with hv | ⟨hv, hv2, hf1, hf2⟩
  ·go_wp2
   go_ret
   exact ⟨⟨-1, rfl, .inl (by omega)⟩, (Below.refl _ _).alloc (Nat.le_refl _) _⟩
  ·have hv1 : ¬ v < 0 := by omega
   have HF : Hid (∀ i, i < p.bods.length → (p.bods.getD i []).length ≤ 1048576) := hf2
   clear hf2
   go_wp2
   go_ret
   exact ⟨⟨v, rfl, .inr ⟨hv, hv2, by omega, hf1, HF.out⟩⟩, (Below.refl _ _).alloc (Nat.le_refl _) _⟩
end
section
set_option linter.unusedSimpArgs false
set_option linter.unusedVariables false
set_option maxRecDepth 100000
open Go.RowKit
def OwnN (w : World) (base : Nat) (v : Value) (ls : List Int) : Prop := w.ownsRow base 3 1 v ls.length (ls.map (Value.int .i64))
theorem infoInt : ∃ i, Tryz.prog.info? 3 = some i ∧ i.zero = some (.int .i64 0) ∧ i.size = 1 ∧ i.bytes = 8 := ⟨_, rfl, rfl, rfl, rfl⟩
theorem ownN_empty {w : World} {base : Nat} (hb : base ≤ w.heap.size) : OwnN (w.alloc (.cells #[] 3)) base (.slice (some ⟨w.heap.size, 0, none⟩) 0 0) [] :=
 World.ownsRow_lit w #[] 0 hb (by unfold maxLen; omega) rfl
theorem OwnN.keep {w w' : World} {base : Nat} {v : Value} {ls : List Int} (h : OwnN w base v ls) (hb : ∀ k, base ≤ k → k < w.heap.size → w'.heap[k]? = w.heap[k]?) : OwnN w' base v ls := by
 obtain ⟨h1, h2⟩ := h
 refine ⟨h1, ?_⟩
 rcases h2 with h2 | ⟨g, cap, cur, a, b, c, d⟩
 ·exact .inl h2
 ·have hlt : g < w.heap.size := (Array.getElem?_eq_some_iff.1 c).1
  exact .inr ⟨g, cap, cur, a, b, (hb g b hlt).trans c, d⟩
theorem OwnN.below {w w' : World} {base : Nat} {v : Value} {ls : List Int} (h : OwnN w base v ls) (hb : Below w.heap.size w w') : OwnN w' base v ls := h.keep fun k _ hk => hb.block k hk
theorem OwnN.alloc {w : World} {base : Nat} {v : Value} {ls : List Int} (h : OwnN w base v ls) (o : Obj) : OwnN (w.alloc o) base v ls := h.keep fun k _ hk => Below.heap_alloc _ _ _ hk
theorem OwnN.cell {w : World} {base g cap : Nat} {ls : List Int} (h : OwnN w base (.slice (some ⟨g, 0, none⟩) ls.length cap) ls) {i : Nat} (hi : i < ls.length) : w.cell? ⟨g, i, none⟩ = some (.int .i64 (ls.getD i 0)) := by
 rw [World.ownsRow.cellAt h i (by omega)]
 simp [List.getD_eq_getElem?_getD, List.getElem?_eq_getElem hi]
theorem OwnN.sl {w : World} {base : Nat} {v : Value} {ls : List Int} (h : OwnN w base v ls) : ∃ s cap, v = .slice s ls.length cap := by
 rcases h.2 with ⟨h1, h2⟩ | ⟨g, cap, cur, a, -⟩
 ·exact ⟨none, 0, by rw [h1, h2]⟩
 ·exact ⟨_, _, a⟩
theorem newN1 (w : World) (u : Value) : ∀ j v, [u][j]? = some v → (w.alloc (.cells #[u] 3)).cell? (Addr.add ⟨w.heap.size, 0, none⟩ j) = some v := by
 intro j v h
 match j, h with
 | 0, h => simpa [Addr.add, go_sem] using h
 | j + 1, h => simp at h
end
end Go.Proofs.YtfokbjkgdiploaaGreat
