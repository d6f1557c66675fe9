/- Base of the program and of the specification: where a channel begins. Conditions: lists of at most 2^20 + 100. The last number of a cell, and the places of a channel's cells. Conditions: the memory is right. Locked of the program and of the specification. Conditions: what comes in is counted. -/
import Derived.Test.YtcfehbfjillnoaaGreatJG00
import Derived.Test.YtcfehbfjillnoaaGreatJG06
import Derived.Test.YtcfehbfjillnoaaGreatJMemOk
import Derived.Deep.QuietTactic
import Derived.BigQuiet
import Derived.Test.YtcfehbfjillnoaaGreatJG05
import Derived.Test.YtcfehbfjillnoaaGreatJG04
import Derived.Deep.RegionHeld3
namespace Go.Proofs.YtcfehbfjillnoaaGreat
section
set_option linter.unusedSimpArgs false
set_option linter.unusedVariables false
set_option maxRecDepth 100000
open Go.RowKit
def capsR (l : List Int) : Bool := l.all (fun c => decide (1 ≤ c ∧ c ≤ 4))
def sumC : List Int → Int
 | [] => 0
 | c :: r => c + 4 + sumC r
def baseV (l : List Int) (n : Int) : Int := if capsR l = true ∧ sumC l ≤ 24 ∧ 0 ≤ n ∧ n < l.length then sumC (l.take n.toNat) else -1
theorem sumC_take : ∀ (l : List Int) (k : Nat), k < l.length → sumC (l.take (k + 1)) = sumC (l.take k) + (l.getD k 0 + 4)
 | [], k, h => by simp at h
 | c :: r, 0, h => by simp [sumC]
 | c :: r, k + 1, h => by
  have := sumC_take r k (by simpa using h)
  simp only [List.take_succ_cons, sumC, this, List.getD_cons_succ]
  omega
theorem capsR_cons (c : Int) (r : List Int) : capsR (c :: r) = true ↔ (1 ≤ c ∧ c ≤ 4) ∧ capsR r = true := by simp [capsR]
theorem sumC_len : ∀ (l : List Int), capsR l = true → 5 * (l.length : Int) ≤ sumC l
 | [], _ => by simp [sumC]
 | c :: r, h => by
  rw [capsR_cons] at h
  have := sumC_len r h.2
  simp [sumC]
  omega
theorem sumC_up : ∀ (l : List Int), capsR l = true → sumC l ≤ 8 * (l.length : Int)
 | [], _ => by simp [sumC]
 | c :: r, h => by
  rw [capsR_cons] at h
  have := sumC_up r h.2
  simp [sumC]
  omega
theorem sumC_le : ∀ (l : List Int) (k : Nat), capsR l = true → sumC (l.take k) ≤ sumC l
 | [], k, _ => by simp
 | c :: r, 0, h => by have := sumC_len _ h; simp [sumC] at this ⊢; omega
 | c :: r, k + 1, h => by
  rw [capsR_cons] at h
  have := sumC_le r k h.2
  simp [sumC]
  omega
theorem capsR_take {l : List Int} (k : Nat) (h : capsR l = true) : capsR (l.take k) = true := by
 unfold capsR at h ⊢
 rw [List.all_eq_true] at h ⊢
 exact fun x hx => h x (List.mem_of_mem_take hx)
theorem capsR_step {l : List Int} {k : Nat} (hk : k < l.length) (h : capsR (l.take k) = true) (hx : 1 ≤ l.getD k 0 ∧ l.getD k 0 ≤ 4) : capsR (l.take (k + 1)) = true := by
 unfold capsR at h ⊢
 have e : l[k]? = some (l.getD k 0) := by rw [List.getD_eq_getElem?_getD, List.getElem?_eq_getElem hk]; rfl
 rw [all_take e, h]
 simpa using hx
theorem capsR_no {l : List Int} {k : Nat} (hk : k < l.length) (hx : ¬ (1 ≤ l.getD k 0 ∧ l.getD k 0 ≤ 4)) : capsR l = false := by
 have e : l[k]? = some (l.getD k 0) := by rw [List.getD_eq_getElem?_getD, List.getElem?_eq_getElem hk]; rfl
 exact all_no e (by simpa using hx)
theorem capsR_at {l : List Int} (h : capsR l = true) {k : Nat} (hk : k < l.length) : 1 ≤ l.getD k 0 ∧ l.getD k 0 ≤ 4 := by
 by_cases hx : 1 ≤ l.getD k 0 ∧ l.getD k 0 ≤ 4
 ·exact hx
 ·rw [capsR_no hk hx] at h; cases h
theorem sumC_next {l : List Int} (h : capsR l = true) {k : Nat} (hk : k < l.length) : sumC (l.take k) + (l.getD k 0 + 4) ≤ sumC l := by
 rw [← sumC_take l k hk]
 exact sumC_le l (k + 1) h
theorem capOkD_any (c : Int) (w : World) : Calls Tryz.prog 132 #[.int .i64 c] w fun e w' => e = .returned (.bool (decide (1 ≤ c ∧ c ≤ 4))) ∧ w' = w := by
 by_cases h1 : 1 ≤ c
 ·by_cases h2 : c ≤ 4
  ·rw [decide_eq_true ⟨h1, h2⟩]
   go_enter Tryz.func132, Tryz.ntmps132
   go_wp2
   go_ret
   exact ⟨by simp, rfl⟩
  ·rw [decide_eq_false (fun e => h2 e.2)]
   go_enter Tryz.func132, Tryz.ntmps132
   go_wp2
   go_ret
   exact ⟨by simp, rfl⟩
 ·rw [decide_eq_false (fun e => h1 e.1)]
  go_enter Tryz.func132, Tryz.ntmps132
  go_wp2
  go_ret
  exact ⟨by simp, rfl⟩
theorem capOkD_is (c : Int) (b : Bool) (w : World) (h : decide (1 ≤ c ∧ c ≤ 4) = b) : Calls Tryz.prog 132 #[.int .i64 c] w fun e w' => e = .returned (.bool b) ∧ w' = w := by
 rw [← h]
 exact capOkD_any c w
theorem taken_any (c : Int) (w : World) (h1 : 1 ≤ c) (h4 : c ≤ 4) : Calls Tryz.prog 140 #[.int .i64 c] w fun e w' => e = .returned (.int .i64 (c + 4)) ∧ w' = w := by
 go_enter Tryz.func140, Tryz.ntmps140
 go_wp2
 go_ret
 exact ⟨by go_num, rfl⟩
def baseK (l : List Int) (n : Int) (k : Nat) : Int := if 0 ≤ n ∧ n < (k : Int) then sumC (l.take n.toNat) else -1
set_option maxHeartbeats 4000000 in
theorem implBase_any (s : Option Addr) (c lo hi : Nat) (l : List Int) (n : Int) (w : World) (h : IntsR w lo hi s l) (hB : hi ≤ w.heap.size) (hl : l.length ≤ 2000000) :
  Calls Tryz.prog 116 #[.slice s l.length c, .int .i64 n] w fun e w' => e = .returned (.int .i64 (baseV l n)) ∧ Below w.heap.size w w' := by
 have H : Hid (IntsR w lo hi s l) := h
 clear h
 go_enter Tryz.func116, Tryz.ntmps116
 go_wp2
 go_loopw [5, 6, 11] (fun b x i wr => ∃ k : Nat, k ≤ l.length ∧ i = .int .i64 k ∧ x = .int .i64 (sumC (l.take k)) ∧ b = .int .i64 (baseK l n k) ∧ capsR (l.take k) = true ∧ sumC (l.take k) ≤ 24 ∧ Below w.heap.size w wr) (fun _ _ i _ => l.length - (intOf i).toNat)
 case atStart => exact ⟨0, Nat.zero_le _, rfl, by simp [sumC], by simp [baseK]; omega, by simp [capsR], by simp [sumC], Below.refl _ _⟩
 case round =>
  obtain ⟨k, hk, rfl, rfl, rfl, hc, h24, hb⟩ := hrel
  have HB : Hid (Below w.heap.size w wr) := hb
  have HC : Hid (capsR (l.take k) = true) := hc
  have h00 : 0 ≤ sumC (l.take k) := by have := sumC_len _ hc; omega
  clear hb hc
  by_cases hlt : k < l.length
  ·obtain ⟨g, o, rfl, a1, a2, a3⟩ := H.out.pos (by omega)
   have f1 := (HB.out.cell (p := ⟨g, o + k, none⟩) (by show g < _; omega)).trans (a3 k hlt)
   clear a3
   generalize hx : l.getD k 0 = x at f1
   have HX : Hid (l.getD k 0 = x) := hx
   clear hx
   have b0 : (0 : Int) ≤ (k : Int) := by omega
   have b1 : (k : Int) < (l.length : Int) := by omega
   have HS : Hid (sumC (l.take (k + 1)) = sumC (l.take k) + (x + 4)) := by show _ = _; rw [sumC_take l k hlt, HX.out]
   generalize hy : sumC (l.take k) = y at h24 h00 HS
   by_cases hr : 1 ≤ x ∧ x ≤ 4
   ·have x1 := hr.1
    have x4 := hr.2
    have HC1 : Hid (capsR (l.take (k + 1)) = true) := capsR_step hlt HC.out (by rw [HX.out]; exact hr)
    have hd : decide (1 ≤ x ∧ x ≤ 4) = true := decide_eq_true hr
    clear hr
    by_cases hm : y + (x + 4) ≤ 24
    ·have hm' : ¬ y + (x + 4) > 24 := by omega
     by_cases hn : (k : Int) = n
     ·subst hn
      have hkk : ((k : Int) == (k : Int)) = true := by simp
      go_wp2_with (first | (go_at_call 132; refine (capOkD_is x true _ hd).mono ?_; rintro e w9 ⟨rfl, hw9⟩; subst w9) | (go_at_call 140; refine (taken_any x _ x1 x4).mono ?_; rintro e w9 ⟨rfl, hw9⟩; subst w9))
      refine ⟨⟨k + 1, by omega, by go_num, by rw [HS.out], by unfold baseK; rw [if_pos (by omega), Int.toNat_natCast, hy], HC1.out, by rw [HS.out]; exact hm, HB.out⟩, by simp [intOf]; omega⟩
     ·have hkk : ((k : Int) == n) = false := by simpa using hn
      go_wp2_with (first | (go_at_call 132; refine (capOkD_is x true _ hd).mono ?_; rintro e w9 ⟨rfl, hw9⟩; subst w9) | (go_at_call 140; refine (taken_any x _ x1 x4).mono ?_; rintro e w9 ⟨rfl, hw9⟩; subst w9))
      refine ⟨⟨k + 1, by omega, by go_num, by rw [HS.out], ?_, HC1.out, by rw [HS.out]; exact hm, HB.out⟩, by simp [intOf]; omega⟩
      unfold baseK
      by_cases hq : 0 ≤ n ∧ n < (k : Int)
      ·rw [if_pos hq, if_pos (by omega)]
      ·rw [if_neg hq, if_neg (by omega)]
    ·have hm' : y + (x + 4) > 24 := by omega
     go_wp2_with (first | (go_at_call 132; refine (capOkD_is x true _ hd).mono ?_; rintro e w9 ⟨rfl, hw9⟩; subst w9) | (go_at_call 140; refine (taken_any x _ x1 x4).mono ?_; rintro e w9 ⟨rfl, hw9⟩; subst w9))
     go_ret
     refine ⟨?_, HB.out⟩
     have e : baseV l n = -1 := by
      unfold baseV
      rw [if_neg]
      rintro ⟨q1, q2, -⟩
      have := sumC_le l (k + 1) q1
      rw [HS.out] at this
      omega
     rw [e]
     rfl
   ·have hd : decide (1 ≤ x ∧ x ≤ 4) = false := decide_eq_false hr
    have HN : Hid (capsR l = false) := capsR_no hlt (by rw [HX.out]; exact hr)
    clear hr
    go_wp2_with (go_at_call 132; refine (capOkD_is x false _ hd).mono ?_; rintro e w9 ⟨rfl, hw9⟩; subst w9)
    go_ret
    refine ⟨?_, HB.out⟩
    have e : baseV l n = -1 := by
     unfold baseV
     rw [if_neg (by rw [HN.out]; simp)]
    rw [e]
    rfl
  ·have e : baseK l n k = baseV l n := by
    have ek : k = l.length := by omega
    subst ek
    have h1 := HC.out
    rw [List.take_length] at h1 h24
    unfold baseK baseV
    by_cases hq : 0 ≤ n ∧ n < (l.length : Int)
    ·rw [if_pos hq, if_pos ⟨h1, h24, hq⟩]
    ·rw [if_neg hq, if_neg (fun e => hq e.2.2)]
   rw [e]
   clear e
   go_wp2
   go_ret
   exact ⟨rfl, HB.out⟩
theorem l9Base_any (s : Option Addr) (c lo hi : Nat) (l : List Int) (n : Nat) (w : World) (h : IntsR w lo hi s l) (hB : hi ≤ w.heap.size) (hl : l.length ≤ 24) (hn : n ≤ l.length) (hc : capsR l = true) :
  Calls Tryz.prog 102 #[.slice s l.length c, .int .i64 n] w fun e w' => e = .returned (.int .i64 (sumC (l.take n))) ∧ Below w.heap.size w w' := by
 have H : Hid (IntsR w lo hi s l) := h
 have HC : Hid (capsR l = true) := hc
 clear h hc
 go_enter Tryz.func102, Tryz.ntmps102
 go_wp2
 go_loopw [5, 6] (fun x i wr => ∃ k : Nat, k ≤ n ∧ i = .int .i64 k ∧ x = .int .i64 (sumC (l.take k)) ∧ Below w.heap.size w wr) (fun _ i _ => n - (intOf i).toNat)
 case atStart => exact ⟨0, Nat.zero_le _, rfl, by simp [sumC], Below.refl _ _⟩
 case round =>
  obtain ⟨k, hk, rfl, rfl, hb⟩ := hrel
  have HB : Hid (Below w.heap.size w wr) := hb
  clear hb
  by_cases hlt : k < n
  ·obtain ⟨g, o, rfl, a1, a2, a3⟩ := H.out.pos (by omega)
   have f1 := (HB.out.cell (p := ⟨g, o + k, none⟩) (by show g < _; omega)).trans (a3 k (by omega))
   clear a3
   have HX := capsR_at HC.out (k := k) (by omega)
   have y0 := sumC_len _ (capsR_take k HC.out)
   have y1 := sumC_up _ (capsR_take k HC.out)
   have HS : Hid (sumC (l.take (k + 1)) = sumC (l.take k) + (l.getD k 0 + 4)) := sumC_take l k (by omega)
   rw [List.length_take] at y0 y1
   generalize l.getD k 0 = x at f1 HX HS
   generalize sumC (l.take k) = y at y0 y1 HS
   have x1 := HX.1
   have x4 := HX.2
   have y2 : y ≤ 400 := by omega
   have y3 : 0 ≤ y := by omega
   clear HX y0 y1
   have b0 : (0 : Int) ≤ (k : Int) := by omega
   have b1 : (k : Int) < (l.length : Int) := by omega
   have b2 : (k : Int) < (n : Int) := by omega
   go_wp2
   refine ⟨⟨k + 1, by omega, by go_num, by rw [HS.out]; go_num, HB.out⟩, by simp [intOf]; omega⟩
  ·have e : k = n := by omega
   subst e
   go_wp2
   go_ret
   exact ⟨rfl, HB.out⟩
def rightC (l : List Int) : Bool := capsR l && decide (sumC l ≤ 24)
set_option maxHeartbeats 4000000 in
theorem l9Right_any (s : Option Addr) (c lo hi : Nat) (l : List Int) (w : World) (h : IntsR w lo hi s l) (hB : hi ≤ w.heap.size) (hl : l.length ≤ 2000000) :
  Calls Tryz.prog 101 #[.slice s l.length c] w fun e w' => e = .returned (.bool (rightC l)) ∧ Below w.heap.size w w' := by
 have H : Hid (IntsR w lo hi s l) := h
 clear h
 go_enter Tryz.func101, Tryz.ntmps101
 go_wp2
 go_loopw [3] (fun i wr => ∃ k : Nat, k ≤ l.length ∧ i = .int .i64 k ∧ capsR (l.take k) = true ∧ Below w.heap.size w wr) (fun i _ => l.length - (intOf i).toNat)
 case atStart => exact ⟨0, Nat.zero_le _, rfl, by simp [capsR], Below.refl _ _⟩
 case round =>
  obtain ⟨k, hk, rfl, hc, hb⟩ := hrel
  have HB : Hid (Below w.heap.size w wr) := hb
  have HC : Hid (capsR (l.take k) = true) := hc
  clear hb hc
  by_cases hlt : k < l.length
  ·obtain ⟨g, o, rfl, a1, a2, a3⟩ := H.out.pos (by omega)
   have f1 := (HB.out.cell (p := ⟨g, o + k, none⟩) (by show g < _; omega)).trans (a3 k hlt)
   clear a3
   generalize hx : l.getD k 0 = x at f1
   have HX : Hid (l.getD k 0 = x) := hx
   clear hx
   have b0 : (0 : Int) ≤ (k : Int) := by omega
   have b1 : (k : Int) < (l.length : Int) := by omega
   by_cases hr : 1 ≤ x ∧ x ≤ 4
   ·have HC1 : Hid (capsR (l.take (k + 1)) = true) := capsR_step hlt HC.out (by rw [HX.out]; exact hr)
    have hd : decide (1 ≤ x ∧ x ≤ 4) = true := decide_eq_true hr
    clear hr
    go_wp2_with (go_at_call 56; refine (l1InD_is x 1 4 true _ hd).mono ?_; rintro e w9 ⟨rfl, hw9⟩; subst w9)
    exact ⟨⟨k + 1, by omega, by go_num, HC1.out, HB.out⟩, by simp [intOf]; omega⟩
   ·have hd : decide (1 ≤ x ∧ x ≤ 4) = false := decide_eq_false hr
    have HN : Hid (capsR l = false) := capsR_no hlt (by rw [HX.out]; exact hr)
    clear hr
    go_wp2_with (go_at_call 56; refine (l1InD_is x 1 4 false _ hd).mono ?_; rintro e w9 ⟨rfl, hw9⟩; subst w9)
    go_ret
    refine ⟨?_, HB.out⟩
    have e : rightC l = false := by unfold rightC; rw [HN.out]; rfl
    rw [e]
    rfl
  ·have HC1 : Hid (capsR l = true) := by have := HC.out; rw [List.take_of_length_le (by omega)] at this; exact this
   by_cases h24 : l.length ≤ 24
   ·have h24' : (l.length : Int) ≤ 24 := by omega
    have HW : Hid (IntsR wr lo hi s l) := H.out.keep (Keep.of_below HB.out hB)
    have zz := HB.out.size
    have e0 : l.take l.length = l := List.take_length
    have lb := l9Base_any s c lo hi l l.length wr HW.out (by omega) h24 (Nat.le_refl _) HC1.out
    rw [e0] at lb
    clear e0
    by_cases hs : sumC l ≤ 24
    ·have HR : Hid (rightC l = true) := by show _ = _; unfold rightC; rw [HC1.out]; simpa using hs
     generalize sumC l = z at lb hs
     go_wp2_with (go_at_call 102; refine lb.mono ?_; rintro e w9 ⟨rfl, hb9⟩)
     go_ret
     exact ⟨by rw [HR.out]; simp [Array.getD]; try omega, HB.out.trans (hb9.mono zz)⟩
    ·have HR : Hid (rightC l = false) := by show _ = _; unfold rightC; rw [HC1.out]; simpa using hs
     generalize sumC l = z at lb hs
     go_wp2_with (go_at_call 102; refine lb.mono ?_; rintro e w9 ⟨rfl, hb9⟩)
     go_ret
     exact ⟨by rw [HR.out]; simp [Array.getD]; try omega, HB.out.trans (hb9.mono zz)⟩
   ·have h24' : ¬ (l.length : Int) ≤ 24 := by omega
    have HR : Hid (rightC l = false) := by
     show _ = _
     unfold rightC
     have := sumC_len _ HC1.out
     rw [HC1.out]
     simp
     omega
    clear h24
    go_wp2
    go_ret
    exact ⟨by rw [HR.out]; rfl, HB.out⟩
theorem baseV_no {l : List Int} {n : Int} (h : ¬ (rightC l = true ∧ 0 ≤ n ∧ n ≤ (l.length : Int) - 1)) : baseV l n = -1 := by
 unfold baseV
 rw [if_neg]
 rintro ⟨a, b, c, d⟩
 exact h ⟨by unfold rightC; rw [a]; simpa using b, c, by omega⟩
theorem baseV_yes {l : List Int} {n : Int} (h : rightC l = true) (h0 : 0 ≤ n) (h1 : n ≤ (l.length : Int) - 1) : baseV l n = sumC (l.take n.toNat) := by
 unfold rightC at h
 rw [Bool.and_eq_true, decide_eq_true_eq] at h
 unfold baseV
 rw [if_pos ⟨h.1, h.2, h0, by omega⟩]
set_option maxHeartbeats 4000000 in
theorem specBase_any (s : Option Addr) (c lo hi : Nat) (l : List Int) (n : Int) (w : World) (h : IntsR w lo hi s l) (hB : hi ≤ w.heap.size) (hl : l.length ≤ 2000000) :
  Calls Tryz.prog 64 #[.slice s l.length c, .int .i64 n] w fun e w' => e = .returned (.int .i64 (baseV l n)) ∧ Below w.heap.size w w' := by
 have H : Hid (IntsR w lo hi s l) := h
 clear h
 have r9 := l9Right_any s c lo hi l w H.out hB hl
 by_cases hr : rightC l = true
 ·rw [hr] at r9
  by_cases hn : 0 ≤ n ∧ n ≤ (l.length : Int) - 1
  ·have hd : decide (0 ≤ n ∧ n ≤ (l.length : Int) - 1) = true := decide_eq_true hn
   have HE : Hid (baseV l n = sumC (l.take n.toNat)) := baseV_yes hr hn.1 hn.2
   have hrr := hr
   unfold rightC at hrr
   rw [Bool.and_eq_true, decide_eq_true_eq] at hrr
   have hlen := sumC_len _ hrr.1
   have HC : Hid (capsR l = true) := hrr.1
   have h24 : l.length ≤ 24 := by omega
   have n0 := hn.1
   have n1 := hn.2
   have HT : Hid (IntsR w lo hi s l) := H.out
   obtain ⟨m, rfl⟩ : ∃ m : Nat, n = (m : Int) := ⟨n.toNat, by omega⟩
   rw [Int.toNat_natCast] at HE
   clear hn hr hrr hlen
   go_enter Tryz.func64, Tryz.ntmps64
   go_wp2_with (first | (go_at_call 101; refine r9.mono ?_; rintro e w8 ⟨rfl, hb8⟩; have z8 := hb8.size) | (go_at_call 56; refine (l1InD_is _ _ _ true _ hd).mono ?_; rintro e w9 ⟨rfl, hw9⟩; subst w9) | (go_at_call 102; refine (l9Base_any s c lo hi l m w8 (H.out.keep (Keep.of_below hb8 hB)) (by omega) h24 (by omega) HC.out).mono ?_; rintro e w9 ⟨rfl, hb9⟩))
   go_ret
   exact ⟨by rw [HE.out]; rfl, hb8.trans (hb9.mono z8)⟩
  ·have hd : decide (0 ≤ n ∧ n ≤ (l.length : Int) - 1) = false := decide_eq_false hn
   have HE : Hid (baseV l n = -1) := baseV_no (fun e => hn e.2)
   clear hn hr
   go_enter Tryz.func64, Tryz.ntmps64
   go_wp2_with (first | (go_at_call 101; refine r9.mono ?_; rintro e w8 ⟨rfl, hb8⟩; have z8 := hb8.size) | (go_at_call 56; refine (l1InD_is _ _ _ false _ hd).mono ?_; rintro e w9 ⟨rfl, hw9⟩; subst w9))
   go_ret
   exact ⟨by rw [HE.out]; rfl, hb8⟩
 ·have HE : Hid (baseV l n = -1) := baseV_no (fun e => hr e.1)
  have hr' : rightC l = false := by simpa using hr
  rw [hr'] at r9
  clear hr hr'
  go_enter Tryz.func64, Tryz.ntmps64
  go_wp2_with (go_at_call 101; refine r9.mono ?_; rintro e w8 ⟨rfl, hb8⟩; have z8 := hb8.size)
  go_ret
  exact ⟨by rw [HE.out]; rfl, hb8⟩
end
section
set_option linter.unusedSimpArgs false
set_option linter.unusedVariables false
set_option maxRecDepth 100000
open Go.RowKit
def lastV (m : List (List WD)) (k : Nat) : Int := ((m.getD k []).getLast?.map WD.v).getD 0
theorem memB_row {m : List (List WD)} (h : memB m = true) {k : Nat} (hk : k < 24) : ∃ r x, m[k]? = some r ∧ 0 < r.length ∧ r.length ≤ 4000 ∧ r[r.length - 1]? = some x ∧ lastV m k = x.v := by
 unfold memB at h
 rw [Bool.and_eq_true, decide_eq_true_eq, List.all_eq_true] at h
 obtain ⟨r, hr⟩ : ∃ r, m[k]? = some r := ⟨_, List.getElem?_eq_getElem (by omega)⟩
 have q := h.2 r (List.mem_of_getElem? hr)
 unfold rowB at q
 rw [Bool.and_eq_true, decide_eq_true_eq] at q
 obtain ⟨x, hx⟩ : ∃ x, r[r.length - 1]? = some x := ⟨_, List.getElem?_eq_getElem (by omega)⟩
 refine ⟨r, x, hr, by omega, q.1.2, hx, ?_⟩
 unfold lastV
 rw [List.getD_eq_getElem?_getD, hr, Option.getD_some, List.getLast?_eq_getElem?, hx]
 rfl
theorem memB_len {m : List (List WD)} (h : memB m = true) : m.length = 24 := by
 unfold memB at h
 rw [Bool.and_eq_true, decide_eq_true_eq] at h
 exact h.1
theorem lastOf_is (s : Option Addr) (c lo hi : Nat) (m : List (List WD)) (k : Nat) (z : Int) (w : World) (h : MemR w lo hi s m) (hB : hi ≤ w.heap.size) (hm : memB m = true) (hk : k < 24) (hz : z = (k : Int)) :
  Calls Tryz.prog 119 #[.agg #[.slice s m.length c], .int .i64 z] w fun e w' => e = .returned (.int .i64 (lastV m k)) ∧ w' = w.alloc (.cells #[.slice s m.length c] 50) := by
 subst hz
 obtain ⟨r, x, hr, h0, h4, hx, hv⟩ := memB_row hm hk
 obtain ⟨g, o, s1, c1, e2, q1, q2, q3, q4⟩ := h.row hr
 obtain ⟨g', o', s2, c2, e3, t1, t2, t3, -⟩ := q4.at hx
 have hl := memB_len hm
 subst e2 e3
 rw [hv]
 generalize x.v = v at t3
 have n0 : ((r.length - 1 : Nat) : Int) = (r.length : Int) - 1 := by omega
 have n1 : ((r.length : Int) - 1).toNat = r.length - 1 := by omega
 have g1 : g < w.heap.size := by omega
 have g2 : g' < w.heap.size := by omega
 rw [hl]
 clear hr h hx hv hm hl
 generalize r.length = rn at h0 h4 q3 n0 n1 t3
 go_enter Tryz.func119, Tryz.ntmps119
 go_wp2
 go_ret
 exact ⟨rfl, rfl⟩
theorem l9Last_is (s : Option Addr) (c lo hi : Nat) (m : List (List WD)) (k : Nat) (z : Int) (w : World) (h : MemR w lo hi s m) (hB : hi ≤ w.heap.size) (hm : memB m = true) (hk : k < 24) (hz : z = (k : Int)) :
  Calls Tryz.prog 103 #[.agg #[.slice s m.length c], .int .i64 z] w fun e w' => e = .returned (.int .i64 (lastV m k)) ∧ w' = w.alloc (.cells #[.slice s m.length c] 50) := by
 subst hz
 obtain ⟨r, x, hr, h0, h4, hx, hv⟩ := memB_row hm hk
 obtain ⟨g, o, s1, c1, e2, q1, q2, q3, q4⟩ := h.row hr
 obtain ⟨g', o', s2, c2, e3, t1, t2, t3, -⟩ := q4.at hx
 have hl := memB_len hm
 subst e2 e3
 rw [hv]
 generalize x.v = v at t3
 have n0 : ((r.length - 1 : Nat) : Int) = (r.length : Int) - 1 := by omega
 have n1 : ((r.length : Int) - 1).toNat = r.length - 1 := by omega
 have g1 : g < w.heap.size := by omega
 have g2 : g' < w.heap.size := by omega
 rw [hl]
 clear hr h hx hv hm hl
 generalize r.length = rn at h0 h4 q3 n0 n1 t3
 go_enter Tryz.func103, Tryz.ntmps103
 go_wp2
 go_ret
 exact ⟨rfl, rfl⟩
theorem cell_is (b : Nat) (base part : Int) (w : World) (h : w.cell? ⟨b, 0, none⟩ = some (.int .i64 base)) (h0 : 0 ≤ base) (h1 : base ≤ 24) (p0 : 0 ≤ part) (p1 : part ≤ 8) :
  Calls Tryz.prog 141 #[.int .i64 part, .pointer (some ⟨b, 0, none⟩)] w fun e w' => e = .returned (.int .i64 (base + part)) ∧ w' = w := by
 go_enter Tryz.func141, Tryz.ntmps141
 go_wp2
 go_ret
 exact ⟨rfl, rfl⟩
theorem cellsFrom_is (base : Int) (w : World) :
  Calls Tryz.prog 117 #[.int .i64 base] w fun e w' => e = .returned (.func (.func 141) #[] #[.pointer (some ⟨w.heap.size, 0, none⟩)]) ∧ w' = w.alloc (.cells #[.int .i64 base] 3) := by
 go_enter Tryz.func117, Tryz.ntmps117
 go_wp2
 go_ret
 exact ⟨rfl, rfl⟩
theorem isFlag_is (v : Int) (w : World) : Calls Tryz.prog 121 #[.int .i64 v] w fun e w' => e = .returned (.bool (decide (0 ≤ v ∧ v ≤ 1))) ∧ w' = w := by
 by_cases h0 : v = 0
 ·subst h0
  go_enter Tryz.func121, Tryz.ntmps121
  go_wp2
  go_ret
  exact ⟨rfl, rfl⟩
 ·have e0 : (v == 0) = false := by simpa using h0
  by_cases h1 : v = 1
  ·subst h1
   go_enter Tryz.func121, Tryz.ntmps121
   go_wp2
   go_ret
   exact ⟨rfl, rfl⟩
  ·have e1 : (v == 1) = false := by simpa using h1
   rw [decide_eq_false (by omega)]
   go_enter Tryz.func121, Tryz.ntmps121
   go_wp2
   go_ret
   exact ⟨by simp [Array.getD, e1], rfl⟩
end
section
set_option linter.unusedSimpArgs false
set_option linter.unusedVariables false
set_option maxRecDepth 100000
open Go.RowKit
theorem baseV_cases (l : List Int) (n : Int) : baseV l n = -1 ∨ ∃ b r k : Nat, n = (k : Int) ∧ k < l.length ∧ baseV l n = (b : Int) ∧ l.getD k 0 = (r : Int) ∧ 1 ≤ r ∧ r ≤ 4 ∧ b + r + 4 ≤ 24 := by
 by_cases h : capsR l = true ∧ sumC l ≤ 24 ∧ 0 ≤ n ∧ n < l.length
 ·right
  have e : baseV l n = sumC (l.take n.toNat) := by unfold baseV; rw [if_pos h]
  obtain ⟨h1, h2, h3, h4⟩ := h
  obtain ⟨k, rfl⟩ : ∃ k : Nat, n = (k : Int) := ⟨n.toNat, by omega⟩
  rw [Int.toNat_natCast] at e
  have hk : k < l.length := by omega
  have a1 := capsR_at h1 hk
  have a2 := sumC_next h1 hk
  have a3 := sumC_len _ (capsR_take k h1)
  refine ⟨(sumC (l.take k)).toNat, (l.getD k 0).toNat, k, rfl, hk, ?_, ?_, ?_, ?_, ?_⟩ <;> omega
 ·left
  unfold baseV
  rw [if_neg h]
theorem ne_dec (x : Int) : (x != 0) = decide (x ≠ 0) := by by_cases h : x = 0 <;> simp [h]
def lockB (m : List (List WD)) (l : List Int) (n : Int) : Bool := decide (0 ≤ baseV l n) && memB m && decide (lastV m (baseV l n).toNat ≠ 0)
set_option maxHeartbeats 4000000 in
theorem implLocked_any (s s1 : Option Addr) (c c1 lo hi lo1 hi1 : Nat) (m : List (List WD)) (l : List Int) (n : Int) (w : World) (h : MemR w lo hi s m) (h1 : IntsR w lo1 hi1 s1 l) (hB : hi ≤ w.heap.size) (hB1 : hi1 ≤ w.heap.size) (hl : l.length ≤ 2000000) (hm : m.length + szR m ≤ 2000000) :
  Calls Tryz.prog 88 #[.agg #[.slice s m.length c], .slice s1 l.length c1, .int .i64 n] w fun e w' => e = .returned (.bool (lockB m l n)) ∧ Below w.heap.size w w' := by
 have H : Hid (MemR w lo hi s m) := h
 have H1 : Hid (IntsR w lo1 hi1 s1 l) := h1
 clear h h1
 go_enter Tryz.func88, Tryz.ntmps88
 go_wp2_with fail
 obtain ⟨W, hW, bx, kb, zb⟩ := Bo1.new w (.slice s m.length c) 50
 rw [hW]
 clear hW
 have KW : Hid (Below w.heap.size w W) := kb
 have RM : Hid (∀ X, Below W.heap.size W X → MemR X lo hi s m) := fun X hX => (H.out.keep (Keep.of_below KW.out hB)).keep (Keep.of_below hX (by omega))
 have RB : Hid (∀ X, Below W.heap.size W X → X.cell? ⟨w.heap.size, 0, none⟩ = some (.slice s m.length c)) := fun X hX => (hX.cell (p := ⟨w.heap.size, 0, none⟩) (by show w.heap.size < _; omega)).trans bx.c0
 have R1 : Hid (IntsR W lo1 hi1 s1 l) := H1.out.keep (Keep.of_below KW.out hB1)
 clear bx kb
 refine (implBase_any s1 c1 lo1 hi1 l n W R1.out (by omega) hl).mono ?_
 rintro e w1 ⟨rfl, hb1⟩
 have z1 := hb1.size
 have p1 := RB.out _ hb1
 have K1 : Hid (Below W.heap.size W w1) := hb1
 clear hb1
 rcases baseV_cases l n with hb | ⟨b, r, k, hn, hk, hb, hr, r1, r4, fit⟩
 ·have HE : Hid (lockB m l n = false) := by show _ = _; unfold lockB; rw [hb]; rfl
  rw [hb]
  clear hb
  go_wp2
  go_ret
  exact ⟨by rw [HE.out]; rfl, KW.out.trans (K1.out.mono (by omega))⟩
 ·have HE : Hid (lockB m l n = (memB m && decide (lastV m b ≠ 0))) := by show _ = _; unfold lockB; rw [hb, decide_eq_true (Int.natCast_nonneg b), Int.toNat_natCast, Bool.true_and]
  rw [hb]
  have hbe : ((b : Int) == -1) = false := by rw [beq_eq_false_iff_ne]; omega
  clear hb
  have mk := implMemoryOk_any s c lo hi m w1 (RM.out _ K1.out) (by omega) hm
  by_cases hmb : memB m = true
  ·rw [hmb] at mk HE
   have HMB : Hid (memB m = true) := hmb
   clear hmb
   go_wp2_with (first | (go_at_call 81; refine mk.mono ?_; rintro e w2 ⟨rfl, hb2⟩; have k2 : Below W.heap.size W w2 := K1.out.trans (hb2.mono z1); have p2 := RB.out _ k2) | (go_at_call 117; refine (cellsFrom_is _ _).mono ?_; rintro e w3 ⟨rfl, hw3⟩))
   obtain ⟨V, hV, bx, kb, zv⟩ := Bo1.new w2 (.int .i64 b) 3
   rw [hV]
   clear hV hw3
   have z2 := hb2.size
   have KV : Hid (Below W.heap.size W V) := k2.trans (kb.mono (by omega))
   have q0 := bx.c0
   have q1 := RB.out _ KV.out
   have MV : Hid (MemR V.drew lo hi s m) := RM.out _ KV.out.drew
   have hdr : V.drew.heap.size = V.heap.size := rfl
   clear p1 p2 k2 hb2 kb bx
   generalize hlv : lastV m b = lv at HE
   have HLV : Hid (lastV m b = lv) := hlv
   clear hlv
   go_region_held3 (fun w' => w'.cell? ⟨w.heap.size, 0, none⟩ = some (.slice s m.length c) ∧ w'.cell? ⟨w2.heap.size, 0, none⟩ = some (.int .i64 b)) (go_keep) (first | (go_at_call 141; refine (cell_is w2.heap.size b 0 _ (by assumption) (by omega) (by omega) (by omega) (by omega)).mono ?_; rintro e w5 ⟨rfl, hw5⟩; subst w5) | (go_at_call 119; refine (lastOf_is s c lo hi m b _ _ MV.out (by omega) HMB.out (by omega) (by omega)).mono ?_; rintro e w6 ⟨rfl, hw6⟩; subst w6; rw [HLV.out]))
   go_wp2
   go_ret
   exact ⟨by rw [HE.out, Bool.true_and, ← ne_dec]; rfl, KW.out.trans ((KV.out.trans ((((Below.refl V.heap.size V).alloc (Nat.le_refl _) _).drew).mono (by have := KV.out.size; omega))).mono (by omega))⟩
  ·have hmb' : memB m = false := by simpa using hmb
   rw [hmb'] at mk HE
   clear hmb hmb'
   go_wp2_with (go_at_call 81; refine mk.mono ?_; rintro e w2 ⟨rfl, hb2⟩; have k2 : Below W.heap.size W w2 := K1.out.trans (hb2.mono z1))
   go_ret
   exact ⟨by rw [HE.out]; rfl, KW.out.trans (k2.mono (by omega))⟩
set_option maxHeartbeats 4000000 in
theorem specLocked_any (s s1 : Option Addr) (c c1 lo hi lo1 hi1 : Nat) (m : List (List WD)) (l : List Int) (n : Int) (w : World) (h : MemR w lo hi s m) (h1 : IntsR w lo1 hi1 s1 l) (hB : hi ≤ w.heap.size) (hB1 : hi1 ≤ w.heap.size) (hl : l.length ≤ 2000000) (hm : m.length + szR m ≤ 2000000) :
  Calls Tryz.prog 65 #[.agg #[.slice s m.length c], .slice s1 l.length c1, .int .i64 n] w fun e w' => e = .returned (.bool (lockB m l n)) ∧ Below w.heap.size w w' := by
 have H : Hid (MemR w lo hi s m) := h
 have H1 : Hid (IntsR w lo1 hi1 s1 l) := h1
 clear h h1
 go_enter Tryz.func65, Tryz.ntmps65
 go_wp2_with fail
 obtain ⟨W, hW, bx, kb, zb⟩ := Bo1.new w (.slice s m.length c) 50
 rw [hW]
 clear hW
 have KW : Hid (Below w.heap.size w W) := kb
 have RM : Hid (∀ X, Below W.heap.size W X → MemR X lo hi s m) := fun X hX => (H.out.keep (Keep.of_below KW.out hB)).keep (Keep.of_below hX (by omega))
 have RB : Hid (∀ X, Below W.heap.size W X → X.cell? ⟨w.heap.size, 0, none⟩ = some (.slice s m.length c)) := fun X hX => (hX.cell (p := ⟨w.heap.size, 0, none⟩) (by show w.heap.size < _; omega)).trans bx.c0
 have R1 : Hid (IntsR W lo1 hi1 s1 l) := H1.out.keep (Keep.of_below KW.out hB1)
 clear bx kb
 refine (specBase_any s1 c1 lo1 hi1 l n W R1.out (by omega) hl).mono ?_
 rintro e w1 ⟨rfl, hb1⟩
 have z1 := hb1.size
 have p1 := RB.out _ hb1
 have K1 : Hid (Below W.heap.size W w1) := hb1
 clear hb1
 rcases baseV_cases l n with hb | ⟨b, r, k, hn, hk, hb, hr, r1, r4, fit⟩
 ·have HE : Hid (lockB m l n = false) := by show _ = _; unfold lockB; rw [hb]; rfl
  rw [hb]
  clear hb
  go_wp2
  go_ret
  exact ⟨by rw [HE.out]; rfl, KW.out.trans (K1.out.mono (by omega))⟩
 ·have HE : Hid (lockB m l n = (memB m && decide (lastV m b ≠ 0))) := by show _ = _; unfold lockB; rw [hb, decide_eq_true (Int.natCast_nonneg b), Int.toNat_natCast, Bool.true_and]
  rw [hb]
  clear hb
  have mk := specMemoryOk_any s c lo hi m w1 (RM.out _ K1.out) (by omega) hm
  by_cases hmb : memB m = true
  ·rw [hmb] at mk HE
   have HMB : Hid (memB m = true) := hmb
   clear hmb
   generalize hlv : lastV m b = lv at HE
   have HLV : Hid (lastV m b = lv) := hlv
   clear hlv
   go_wp2_with (first | (go_at_call 58; refine mk.mono ?_; rintro e w2 ⟨rfl, hb2⟩; have k2 : Below W.heap.size W w2 := K1.out.trans (hb2.mono z1); have p2 := RB.out _ k2) | (go_at_call 103; refine (l9Last_is s c lo hi m b _ _ (RM.out _ k2) (by have := k2.size; omega) HMB.out (by omega) rfl).mono ?_; rintro e w6 ⟨rfl, hw6⟩; subst w6; rw [HLV.out]))
   go_ret
   exact ⟨by rw [HE.out, Bool.true_and, ← ne_dec]; rfl, KW.out.trans ((k2.trans (((Below.refl w2.heap.size w2).alloc (Nat.le_refl _) _).mono k2.size)).mono (by omega))⟩
  ·have hmb' : memB m = false := by simpa using hmb
   rw [hmb'] at mk HE
   clear hmb hmb'
   go_wp2_with (go_at_call 58; refine mk.mono ?_; rintro e w2 ⟨rfl, hb2⟩; have k2 : Below W.heap.size W w2 := K1.out.trans (hb2.mono z1))
   go_ret
   exact ⟨by rw [HE.out]; rfl, KW.out.trans (k2.mono (by omega))⟩
end
end Go.Proofs.YtcfehbfjillnoaaGreat
