/- PlaceOf of the program: the place that a step belongs to, out of the map of first steps. Conditions: programs that fit. -/
import Derived.Test.YtplncjlcejaabaaGreatJP11Map
import Derived.Test.YtplncjlcejaabaaGreatJP11Body
namespace Go.Proofs.YtplncjlcejaabaaGreat
set_option linter.unusedSimpArgs false
set_option linter.unusedVariables false
set_option maxRecDepth 100000
open Go.RowKit Go.Maps
def placeV (l : List I5) (q : Int) : Int × Bool := match (List.range l.length).find? (fun i => decide (stV l i ≤ q ∧ q < stV l (i + 1))) with
 | some i => ((i : Int), decide (stV l i = q))
 | none => (-1, false)
theorem placeV_at {l : List I5} (h : Rt l) {q : Int} {i : Nat} (hi : i < l.length) (a1 : stV l i ≤ q) (a2 : q < stV l (i + 1)) : placeV l q = ((i : Int), decide (stV l i = q)) := by
 unfold placeV
 have : (List.range l.length).find? (fun i => decide (stV l i ≤ q ∧ q < stV l (i + 1))) = some i := by
  cases hf : (List.range l.length).find? (fun i => decide (stV l i ≤ q ∧ q < stV l (i + 1))) with
  | none =>
   have := List.find?_eq_none.1 hf i (List.mem_range.2 hi)
   exact absurd (decide_eq_true ⟨a1, a2⟩) this
  | some j =>
   have h1 := List.find?_some hf
   have h2 := List.mem_range.1 (List.mem_of_find?_eq_some hf)
   simp only [decide_eq_true_eq] at h1
   rw [place_one h hi h2 a1 a2 h1.1 h1.2]
 rw [this]
theorem placeV_no {l : List I5} (h : Rt l) {q : Int} (hq : ¬ (0 ≤ q ∧ q < stV l l.length)) : placeV l q = (-1, false) := by
 unfold placeV
 have : (List.range l.length).find? (fun i => decide (stV l i ≤ q ∧ q < stV l (i + 1))) = none := by
  refine List.find?_eq_none.2 fun i hi => ?_
  have hi' := List.mem_range.1 hi
  simp only [decide_eq_true_eq]
  rintro ⟨h1, h2⟩
  have b := stV_bd h i (by omega)
  refine hq ⟨by omega, ?_⟩
  rcases Nat.lt_or_ge (i + 1) l.length with h3 | h3
  ·have := stV_lt h l.length h3 (Nat.le_refl _); omega
  ·have : i + 1 = l.length := by omega
   rw [← this]; exact h2
 rw [this]
structure PlI (l : List I5) (q : Int) (left : Lit → Bool) (own : Int) : Prop where
 at' : ∃ i, i < l.length ∧ own = stV l i ∧ own ≤ q
 top : ∀ j, j < l.length → stV l j ≤ q → left (.int .i64 (stV l j)) = false → stV l j ≤ own
theorem PlI.start {l : List I5} {q : Int} (hl : 0 < l.length) (hq : 0 ≤ q) : PlI l q (Maps.has (mpD l l.length)) 0 :=
 ⟨⟨0, hl, rfl, hq⟩, fun j hj _ h => by rw [(mpD_has _ _).2 ⟨j, hj, rfl⟩] at h; cases h⟩
theorem PlI.low {l : List I5} {q own x : Int} {left : Lit → Bool} (h : PlI l q left own) (hx : ∃ i, i < l.length ∧ stV l i = x) (hq : x ≤ q) (m : Int) (hm : m = if own < x then x else own) : PlI l q (fun z => left z && !z.sameKey (.int .i64 x)) m := by
 obtain ⟨⟨i, hi, e, ho⟩, ht⟩ := h
 obtain ⟨j, hj, ej⟩ := hx
 refine ⟨?_, fun k hk hkq hl => ?_⟩
 ·by_cases hlt : own < x
  ·rw [if_pos hlt] at hm; exact ⟨j, hj, by rw [hm, ej], by omega⟩
  ·rw [if_neg hlt] at hm; exact ⟨i, hi, by rw [hm, e], by omega⟩
 ·have hm2 : own ≤ m ∧ x ≤ m := by rw [hm]; split <;> omega
  by_cases e2 : stV l k = x
  ·omega
  ·have : left (.int .i64 (stV l k)) = false := by
    have := hl
    simp only [Lit.sameKey] at this
    simpa [e2] using this
   have := ht k hk hkq this
   omega
theorem PlI.high {l : List I5} {q own x : Int} {left : Lit → Bool} (h : PlI l q left own) (hq : ¬ x ≤ q) : PlI l q (fun z => left z && !z.sameKey (.int .i64 x)) own := by
 refine ⟨h.at', fun k hk hkq hl => h.top k hk hkq ?_⟩
 have e2 : stV l k ≠ x := by omega
 have := hl
 simp only [Lit.sameKey] at this
 simpa [e2] using this
theorem PlI.stop {l : List I5} {q own : Int} {left : Lit → Bool} (h : PlI l q left own) (hl : ∀ z, left z = false) (hr : Rt l) (hq : q < stV l l.length) : ∃ i, i < l.length ∧ own = stV l i ∧ stV l i ≤ q ∧ q < stV l (i + 1) := by
 obtain ⟨i, hi, e, ho⟩ := h.at'
 refine ⟨i, hi, e, by omega, ?_⟩
 rcases Nat.lt_or_ge (i + 1) l.length with h3 | h3
 ·rcases Int.lt_or_le q (stV l (i + 1)) with h4 | h4
  ·exact h4
  ·have := h.top (i + 1) h3 h4 (hl _)
   have := stV_lt hr (i + 1) (Nat.lt_succ_self i) (by omega)
   omega
 ·have : i + 1 = l.length := by omega
  rw [this]; exact hq
set_option maxRecDepth 100000 in
set_option maxHeartbeats 4000000 in
theorem implPlace_any (s s' : Option Addr) (c c' lo hi : Nat) (p : PD) (b q : Int) (w : World) (h : ProgR w lo hi s s' p) (hB : hi ≤ w.heap.size) (hf : Fits p) :
  Calls Tryz.prog 33 #[.agg #[.slice s p.caps.length c, .slice s' p.bods.length c'], .int .i64 b, .int .i64 q] w fun e w' => e = .returned (.tuple #[.int .i64 (placeV (bodV p b) q).1, .bool (placeV (bodV p b) q).2]) ∧ Below w.heap.size w w' := by
 have HP := hidP h
 have HF := hidP hf
 obtain ⟨l, hl⟩ : ∃ l, bodV p b = l := ⟨_, rfl⟩
 have HR := hidP (hl ▸ bodV_rt p b)
 have HL := hidP hl
 rw [hl]
 clear h hf hl
 obtain ⟨W, hW, bx, kb, zb⟩ := Bo2.new w (.slice s p.caps.length c) (.slice s' p.bods.length c') 39
 have HB2 := hidP bx
 have HK := hidP kb
 obtain ⟨x0, x1⟩ := bx
 clear kb
 go_enter Tryz.func33, Tryz.ntmps33
 go_wp2_with fail
 refine (bodyOf_any s s' c c' lo hi p b W (ProgR.keep' HP.out (Keep.of_below HK.out hB)) (by omega) HF.out).mono ?_
 rintro e w1 ⟨⟨s1, c1, rfl, hin⟩, hb1⟩
 rw [HL.out] at hin ⊢
 have K1 := hidP (HK.out.trans (hb1.mono (by omega)))
 have HI := hidP hin
 have hz1 := hb1.size
 clear hb1 hin x0 x1 HB2
 go_wp2_with fail
 refine (firstsOf_any s1 c1 lo hi l w1 HI.out (by omega) HR.out).mono ?_
 rintro e w2 ⟨rfl, ho2, hb2⟩
 have K2 := hidP (K1.out.trans (hb2.mono (by omega)))
 have HO := hidP ho2
 have hz2 : w1.heap.size < w2.heap.size := by obtain ⟨es, clock, h1, h2⟩ := ho2; exact (Array.getElem?_eq_some_iff.1 h1).1
 clear hb2 ho2 HI
 cases hq : Plain.oneB q (stV l l.length)
 ·have E := hidP (placeV_no HR.out (q := q) (fun h => by simp only [Plain.oneB, decide_eq_false_iff_not] at hq; exact hq h))
  have HQ := hidP hq
  clear hq
  go_wp2_with (go_at_call 32; refine (oneOf_is11 _ _ false _ HQ.out).mono ?_; rintro e w3 ⟨rfl, h3⟩; rw [h3]; clear h3 w3)
  refine bodyPost_ret (v := .tuple #[.int .i64 (-1), .bool false]) (by simp [results, Tryz.results33, go_sem]) rfl ?_
  exact ⟨by rw [E.out], K2.out⟩
 ·have HQ := hidP hq
  simp only [Plain.oneB, decide_eq_true_eq] at hq
  obtain ⟨q0, q1⟩ := hq
  have Q1 := hidP q1
  have hl0 : 0 < l.length := by
   rcases Nat.eq_zero_or_pos l.length with e | e
   ·rw [e] at q1; simp [stV] at q1; omega
   ·exact e
  clear q1
  go_wp2_with (first | (go_at_call 32; refine (oneOf_is11 _ _ true _ HQ.out).mono ?_; rintro e w3 ⟨rfl, h3⟩; rw [h3]; clear h3 w3) | (at_range; refine wpList_range_own _ rfl _ 118 rfl 3 3 lawI Tryz.underlying118 _ w1.heap.size l.length _ rfl HO.out ?_; intro w3 hrg0 hg0 hs0) | go_in)
  go_frame
  go_loopw [10] (fun v wr => ∃ (own : Int) (left : Lit → Bool) (cnt : Nat), v = .int .i64 own ∧ wr.ranges Tryz.prog 3 (plainElem Tryz.prog 3) w1.heap.size w2.heap.size l.length (mpD l l.length) left cnt ∧ PlI l q left own ∧ Below w.heap.size w wr)
   (fun _ wr => wr.rangeLeft w1.heap.size w2.heap.size)
  case atStart => exact ⟨0, _, _, rfl, hrg0, PlI.start hl0 q0, K2.out.grown hg0 (by omega) (fun j hj => by cases hj)⟩
  case round =>
   obtain ⟨own, left, cnt, rfl, hrg, hpl, hnx⟩ := hrel
   go_wp2_with (first
    | (at_next; refine wpList_next_ranges_ii _ rfl _ rfl 3 3 .i64 .i64 lawI Tryz.underlying3 Tryz.underlying3 w1.heap.size w2.heap.size l.length _ _ _ rfl hrg ?_ ?_)
    | go_in)
   ·intro hc0 hl1
    obtain ⟨i, hi, ei, i1, i2⟩ := hpl.stop hl1 HR.out Q1.out
    have EP := hidP (placeV_at HR.out hi i1 i2)
    have EI := hidP ei
    have HOW : Hid (OwnF wr w1.heap.size l.length (mpD l l.length)) := hrg.owns
    have KB := hidP hnx
    clear hpl hrg hnx ei hc0 hl1
    go_wp2_with (first | (at_lookup; refine wpList_lookup_own_int _ rfl _ _ 118 rfl 3 3 .i64 lawI Tryz.underlying118 Tryz.underlying3 (zeroI _) w1.heap.size l.length _ rfl HOW.out _ (.int .i64 (stV l i)) rfl (keyOf_int_mk' EI.out.symm (stV_wf HR.out (by omega))) ?_; intro ci hci hwc) | go_in)
    have e1 : ci = i := by rw [mpD_at HR.out _ l.length hi (Nat.le_refl _)] at hci; simpa using hci.symm
    refine bodyPost_ret (v := .tuple #[.int .i64 ci, .bool (own == q)]) (by simp [results, Tryz.results33, go_sem]) rfl ?_
    refine ⟨?_, KB.out⟩
    rw [EP.out, e1, EI.out]
    rfl
   ·intro x cx w4 cnt4 hwx hwc hlx hat hrg4 hlt4 hg4 hs4 hen
    have hx : ∃ i, i < l.length ∧ stV l i = x := (mpD_has x _).1 (has_true_of_atKey hat)
    have KB := hidP (hnx.grown hg4 hnx.size (fun j hj => by cases hj; omega))
    by_cases hxq : x ≤ q
    ·go_wp2
     exact ⟨⟨_, _, cnt4, rfl, hrg4, hpl.low hx hxq _ rfl, KB.out⟩, by rw [hrg4.left_eq, hrg.left_eq]; exact hlt4⟩
    ·go_wp2
     go_roundw
     case rel => exact ⟨own, _, cnt4, rfl, hrg4, hpl.high hxq, KB.out⟩
     case measure => rw [hrg4.left_eq, hrg.left_eq]; exact hlt4
end Go.Proofs.YtplncjlcejaabaaGreat
