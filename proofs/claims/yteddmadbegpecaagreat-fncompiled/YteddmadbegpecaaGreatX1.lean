/- Base of the program and of the specification: where a channel begins. Conditions: lists of at most 2^20 + 100. Rows of steps that a call has made: how they lie, what keeps them, append of one behind another. Conditions: at most a thousand steps. Single steps as the small functions of both sides make them. No condition. Steps of a site: what loads and stores a cell of its channel. Conditions: the channel lies in memory. What a site locks, lets go, asks. Conditions: the channel lies in memory. A row behind what lets a lock go; what faults. Conditions: the channel lies in memory, and the row is of at most a hundred steps. Where parts begin that stand one behind the other. Conditions: at most a hundred of them. Parts put together: their jumps go where the parts begin. Conditions: at most a hundred parts, of at most nine hundred steps. Parts put together behind the lock. Conditions: the channel lies in memory; at most ninety parts. Rows that lie somewhere, and a row of them. Conditions: at most a thousand steps. What both that send are made of. Conditions: the channel lies in memory. -/
import Derived.Test.YteddmadbegpecaaGreatE9In
import Derived.Deep.QuietTactic
import Derived.BigQuiet
import Derived.Test.YteddmadbegpecaaGreatProgDefs
import Derived.Test.YteddmadbegpecaaGreatIntOwn
import Derived.Laws.AppendOwnNone
import Derived.Deep.AppendLies
import Derived.OwnWalk
import Derived.Deep.RegionHeld3
namespace Go.Proofs.YteddmadbegpecaaGreat
section
set_option linter.unusedSimpArgs false
set_option linter.unusedVariables false
set_option maxRecDepth 100000
open Go.RowKit


def capsR (l : List Int) : Bool := l.all (fun c => decide (1 ≤ c ∧ c ≤ 4))
def sumC : List Int → Int
  | [] => 0
  | c :: r => c + 4 + sumC r
def baseV (l : List Int) (n : Int) : Int := if capsR l = true ∧ sumC l ≤ 24 ∧ 0 ≤ n ∧ n < l.length then sumC (l.take n.toNat) else -1
theorem sumC_take : ∀ (l : List Int) (k : Nat), k < l.length → sumC (l.take (k + 1)) = sumC (l.take k) + (l.getD k 0 + 4)
  | [], k, h => by simp at h
  | c :: r, 0, h => by simp [sumC]
  | c :: r, k + 1, h => by
    have := sumC_take r k (by simpa using h)
    simp only [List.take_succ_cons, sumC, this, List.getD_cons_succ]
    omega
theorem capsR_cons (c : Int) (r : List Int) : capsR (c :: r) = true ↔ (1 ≤ c ∧ c ≤ 4) ∧ capsR r = true := by simp [capsR]
theorem sumC_len : ∀ (l : List Int), capsR l = true → 5 * (l.length : Int) ≤ sumC l
  | [], _ => by simp [sumC]
  | c :: r, h => by
    rw [capsR_cons] at h
    have := sumC_len r h.2
    simp [sumC]
    omega
theorem sumC_up : ∀ (l : List Int), capsR l = true → sumC l ≤ 8 * (l.length : Int)
  | [], _ => by simp [sumC]
  | c :: r, h => by
    rw [capsR_cons] at h
    have := sumC_up r h.2
    simp [sumC]
    omega
theorem sumC_le : ∀ (l : List Int) (k : Nat), capsR l = true → sumC (l.take k) ≤ sumC l
  | [], k, _ => by simp
  | c :: r, 0, h => by have := sumC_len _ h; simp [sumC] at this ⊢; omega
  | c :: r, k + 1, h => by
    rw [capsR_cons] at h
    have := sumC_le r k h.2
    simp [sumC]
    omega
theorem sumC_app : ∀ (a b : List Int), sumC (a ++ b) = sumC a + sumC b
  | [], b => by simp [sumC]
  | c :: r, b => by simp [sumC, sumC_app r b]; omega
theorem capsR_take {l : List Int} (k : Nat) (h : capsR l = true) : capsR (l.take k) = true := by
  unfold capsR at h ⊢
  rw [List.all_eq_true] at h ⊢
  exact fun x hx => h x (List.mem_of_mem_take hx)
theorem capsR_step {l : List Int} {k : Nat} (hk : k < l.length) (h : capsR (l.take k) = true) (hx : 1 ≤ l.getD k 0 ∧ l.getD k 0 ≤ 4) : capsR (l.take (k + 1)) = true := by
  unfold capsR at h ⊢
  have e : l[k]? = some (l.getD k 0) := by rw [List.getD_eq_getElem?_getD, List.getElem?_eq_getElem hk]; rfl
  rw [all_take e, h]
  simpa using hx
theorem capsR_no {l : List Int} {k : Nat} (hk : k < l.length) (hx : ¬ (1 ≤ l.getD k 0 ∧ l.getD k 0 ≤ 4)) : capsR l = false := by
  have e : l[k]? = some (l.getD k 0) := by rw [List.getD_eq_getElem?_getD, List.getElem?_eq_getElem hk]; rfl
  exact all_no e (by simpa using hx)
theorem capsR_at {l : List Int} (h : capsR l = true) {k : Nat} (hk : k < l.length) : 1 ≤ l.getD k 0 ∧ l.getD k 0 ≤ 4 := by
  by_cases hx : 1 ≤ l.getD k 0 ∧ l.getD k 0 ≤ 4
  · exact hx
  · rw [capsR_no hk hx] at h; cases h
theorem sumC_next {l : List Int} (h : capsR l = true) {k : Nat} (hk : k < l.length) : sumC (l.take k) + (l.getD k 0 + 4) ≤ sumC l := by
  rw [← sumC_take l k hk]
  exact sumC_le l (k + 1) h

theorem capOkD_any (c : Int) (w : World) : Calls Tryz.prog 66 #[.int .i64 c] w fun e w' => e = .returned (.bool (decide (1 ≤ c ∧ c ≤ 4))) ∧ w' = w := by
  by_cases h1 : 1 ≤ c
  · by_cases h2 : c ≤ 4
    · rw [decide_eq_true ⟨h1, h2⟩]
      go_enter Tryz.func66, Tryz.ntmps66
      go_wp2
      go_ret
      exact ⟨by simp, rfl⟩
    · rw [decide_eq_false (fun e => h2 e.2)]
      go_enter Tryz.func66, Tryz.ntmps66
      go_wp2
      go_ret
      exact ⟨by simp, rfl⟩
  · rw [decide_eq_false (fun e => h1 e.1)]
    go_enter Tryz.func66, Tryz.ntmps66
    go_wp2
    go_ret
    exact ⟨by simp, rfl⟩
theorem capOkD_is (c : Int) (b : Bool) (w : World) (h : decide (1 ≤ c ∧ c ≤ 4) = b) : Calls Tryz.prog 66 #[.int .i64 c] w fun e w' => e = .returned (.bool b) ∧ w' = w := by
  rw [← h]
  exact capOkD_any c w
theorem taken_any (c : Int) (w : World) (h1 : 1 ≤ c) (h4 : c ≤ 4) : Calls Tryz.prog 69 #[.int .i64 c] w fun e w' => e = .returned (.int .i64 (c + 4)) ∧ w' = w := by
  go_enter Tryz.func69, Tryz.ntmps69
  go_wp2
  go_ret
  exact ⟨by go_num, rfl⟩

def baseK (l : List Int) (n : Int) (k : Nat) : Int := if 0 ≤ n ∧ n < (k : Int) then sumC (l.take n.toNat) else -1

set_option maxHeartbeats 4000000 in
theorem implBase_any (s : Option Addr) (c lo hi : Nat) (l : List Int) (n : Int) (w : World) (h : IntsR w lo hi s l) (hB : hi ≤ w.heap.size) (hl : l.length ≤ 2000000) :
    Calls Tryz.prog 43 #[.slice s l.length c, .int .i64 n] w fun e w' => e = .returned (.int .i64 (baseV l n)) ∧ Below w.heap.size w w' := by
  have H : Hid (IntsR w lo hi s l) := h
  clear h
  go_enter Tryz.func43, Tryz.ntmps43
  go_wp2
  go_loopw [5, 6, 11] (fun b x i wr => ∃ k : Nat, k ≤ l.length ∧ i = .int .i64 k ∧ x = .int .i64 (sumC (l.take k)) ∧ b = .int .i64 (baseK l n k) ∧ capsR (l.take k) = true ∧ sumC (l.take k) ≤ 24 ∧ Below w.heap.size w wr) (fun _ _ i _ => l.length - (intOf i).toNat)
  case atStart => exact ⟨0, Nat.zero_le _, rfl, by simp [sumC], by simp [baseK]; omega, by simp [capsR], by simp [sumC], Below.refl _ _⟩
  case round =>
    obtain ⟨k, hk, rfl, rfl, rfl, hc, h24, hb⟩ := hrel
    have HB : Hid (Below w.heap.size w wr) := hb
    have HC : Hid (capsR (l.take k) = true) := hc
    have h00 : 0 ≤ sumC (l.take k) := by have := sumC_len _ hc; omega
    clear hb hc
    by_cases hlt : k < l.length
    · obtain ⟨g, o, rfl, a1, a2, a3⟩ := H.out.pos (by omega)
      have f1 := (HB.out.cell (p := ⟨g, o + k, none⟩) (by show g < _; omega)).trans (a3 k hlt)
      clear a3
      generalize hx : l.getD k 0 = x at f1
      have HX : Hid (l.getD k 0 = x) := hx
      clear hx
      have b0 : (0 : Int) ≤ (k : Int) := by omega
      have b1 : (k : Int) < (l.length : Int) := by omega
      have HS : Hid (sumC (l.take (k + 1)) = sumC (l.take k) + (x + 4)) := by show _ = _; rw [sumC_take l k hlt, HX.out]
      generalize hy : sumC (l.take k) = y at h24 h00 HS
      by_cases hr : 1 ≤ x ∧ x ≤ 4
      · have x1 := hr.1
        have x4 := hr.2
        have HC1 : Hid (capsR (l.take (k + 1)) = true) := capsR_step hlt HC.out (by rw [HX.out]; exact hr)
        have hd : decide (1 ≤ x ∧ x ≤ 4) = true := decide_eq_true hr
        clear hr
        by_cases hm : y + (x + 4) ≤ 24
        · have hm' : ¬ y + (x + 4) > 24 := by omega
          by_cases hn : (k : Int) = n
          · subst hn
            have hkk : ((k : Int) == (k : Int)) = true := by simp
            go_wp2_with (first | (go_at_call 66; refine (capOkD_is x true _ hd).mono ?_; rintro e w9 ⟨rfl, hw9⟩; subst w9) | (go_at_call 69; refine (taken_any x _ x1 x4).mono ?_; rintro e w9 ⟨rfl, hw9⟩; subst w9))
            refine ⟨⟨k + 1, by omega, by go_num, by rw [HS.out], by unfold baseK; rw [if_pos (by omega), Int.toNat_natCast, hy], HC1.out, by rw [HS.out]; exact hm, HB.out⟩, by simp [intOf]; omega⟩
          · have hkk : ((k : Int) == n) = false := by simpa using hn
            go_wp2_with (first | (go_at_call 66; refine (capOkD_is x true _ hd).mono ?_; rintro e w9 ⟨rfl, hw9⟩; subst w9) | (go_at_call 69; refine (taken_any x _ x1 x4).mono ?_; rintro e w9 ⟨rfl, hw9⟩; subst w9))
            refine ⟨⟨k + 1, by omega, by go_num, by rw [HS.out], ?_, HC1.out, by rw [HS.out]; exact hm, HB.out⟩, by simp [intOf]; omega⟩
            unfold baseK
            by_cases hq : 0 ≤ n ∧ n < (k : Int)
            · rw [if_pos hq, if_pos (by omega)]
            · rw [if_neg hq, if_neg (by omega)]
        · have hm' : y + (x + 4) > 24 := by omega
          go_wp2_with (first | (go_at_call 66; refine (capOkD_is x true _ hd).mono ?_; rintro e w9 ⟨rfl, hw9⟩; subst w9) | (go_at_call 69; refine (taken_any x _ x1 x4).mono ?_; rintro e w9 ⟨rfl, hw9⟩; subst w9))
          go_ret
          refine ⟨?_, HB.out⟩
          have e : baseV l n = -1 := by
            unfold baseV
            rw [if_neg]
            rintro ⟨q1, q2, -⟩
            have := sumC_le l (k + 1) q1
            rw [HS.out] at this
            omega
          rw [e]
          rfl
      · have hd : decide (1 ≤ x ∧ x ≤ 4) = false := decide_eq_false hr
        have HN : Hid (capsR l = false) := capsR_no hlt (by rw [HX.out]; exact hr)
        clear hr
        go_wp2_with (go_at_call 66; refine (capOkD_is x false _ hd).mono ?_; rintro e w9 ⟨rfl, hw9⟩; subst w9)
        go_ret
        refine ⟨?_, HB.out⟩
        have e : baseV l n = -1 := by
          unfold baseV
          rw [if_neg (by rw [HN.out]; simp)]
        rw [e]
        rfl
    · have e : baseK l n k = baseV l n := by
        have ek : k = l.length := by omega
        subst ek
        have h1 := HC.out
        rw [List.take_length] at h1 h24
        unfold baseK baseV
        by_cases hq : 0 ≤ n ∧ n < (l.length : Int)
        · rw [if_pos hq, if_pos ⟨h1, h24, hq⟩]
        · rw [if_neg hq, if_neg (fun e => hq e.2.2)]
      rw [e]
      clear e
      go_wp2
      go_ret
      exact ⟨rfl, HB.out⟩

theorem l9Base_any (s : Option Addr) (c lo hi : Nat) (l : List Int) (n : Nat) (w : World) (h : IntsR w lo hi s l) (hB : hi ≤ w.heap.size) (hl : l.length ≤ 24) (hn : n ≤ l.length) (hc : capsR l = true) :
    Calls Tryz.prog 46 #[.slice s l.length c, .int .i64 n] w fun e w' => e = .returned (.int .i64 (sumC (l.take n))) ∧ Below w.heap.size w w' := by
  have H : Hid (IntsR w lo hi s l) := h
  have HC : Hid (capsR l = true) := hc
  clear h hc
  go_enter Tryz.func46, Tryz.ntmps46
  go_wp2
  go_loopw [5, 6] (fun x i wr => ∃ k : Nat, k ≤ n ∧ i = .int .i64 k ∧ x = .int .i64 (sumC (l.take k)) ∧ Below w.heap.size w wr) (fun _ i _ => n - (intOf i).toNat)
  case atStart => exact ⟨0, Nat.zero_le _, rfl, by simp [sumC], Below.refl _ _⟩
  case round =>
    obtain ⟨k, hk, rfl, rfl, hb⟩ := hrel
    have HB : Hid (Below w.heap.size w wr) := hb
    clear hb
    by_cases hlt : k < n
    · obtain ⟨g, o, rfl, a1, a2, a3⟩ := H.out.pos (by omega)
      have f1 := (HB.out.cell (p := ⟨g, o + k, none⟩) (by show g < _; omega)).trans (a3 k (by omega))
      clear a3
      have HX := capsR_at HC.out (k := k) (by omega)
      have y0 := sumC_len _ (capsR_take k HC.out)
      have y1 := sumC_up _ (capsR_take k HC.out)
      have HS : Hid (sumC (l.take (k + 1)) = sumC (l.take k) + (l.getD k 0 + 4)) := sumC_take l k (by omega)
      rw [List.length_take] at y0 y1
      generalize l.getD k 0 = x at f1 HX HS
      generalize sumC (l.take k) = y at y0 y1 HS
      have x1 := HX.1
      have x4 := HX.2
      have y2 : y ≤ 400 := by omega
      have y3 : 0 ≤ y := by omega
      clear HX y0 y1
      have b0 : (0 : Int) ≤ (k : Int) := by omega
      have b1 : (k : Int) < (l.length : Int) := by omega
      have b2 : (k : Int) < (n : Int) := by omega
      go_wp2
      refine ⟨⟨k + 1, by omega, by go_num, by rw [HS.out]; go_num, HB.out⟩, by simp [intOf]; omega⟩
    · have e : k = n := by omega
      subst e
      go_wp2
      go_ret
      exact ⟨rfl, HB.out⟩

def rightC (l : List Int) : Bool := capsR l && decide (sumC l ≤ 24)
set_option maxHeartbeats 4000000 in
theorem l9Right_any (s : Option Addr) (c lo hi : Nat) (l : List Int) (w : World) (h : IntsR w lo hi s l) (hB : hi ≤ w.heap.size) (hl : l.length ≤ 2000000) :
    Calls Tryz.prog 25 #[.slice s l.length c] w fun e w' => e = .returned (.bool (rightC l)) ∧ Below w.heap.size w w' := by
  have H : Hid (IntsR w lo hi s l) := h
  clear h
  go_enter Tryz.func25, Tryz.ntmps25
  go_wp2
  go_loopw [3] (fun i wr => ∃ k : Nat, k ≤ l.length ∧ i = .int .i64 k ∧ capsR (l.take k) = true ∧ Below w.heap.size w wr) (fun i _ => l.length - (intOf i).toNat)
  case atStart => exact ⟨0, Nat.zero_le _, rfl, by simp [capsR], Below.refl _ _⟩
  case round =>
    obtain ⟨k, hk, rfl, hc, hb⟩ := hrel
    have HB : Hid (Below w.heap.size w wr) := hb
    have HC : Hid (capsR (l.take k) = true) := hc
    clear hb hc
    by_cases hlt : k < l.length
    · obtain ⟨g, o, rfl, a1, a2, a3⟩ := H.out.pos (by omega)
      have f1 := (HB.out.cell (p := ⟨g, o + k, none⟩) (by show g < _; omega)).trans (a3 k hlt)
      clear a3
      generalize hx : l.getD k 0 = x at f1
      have HX : Hid (l.getD k 0 = x) := hx
      clear hx
      have b0 : (0 : Int) ≤ (k : Int) := by omega
      have b1 : (k : Int) < (l.length : Int) := by omega
      by_cases hr : 1 ≤ x ∧ x ≤ 4
      · have HC1 : Hid (capsR (l.take (k + 1)) = true) := capsR_step hlt HC.out (by rw [HX.out]; exact hr)
        have hd : decide (1 ≤ x ∧ x ≤ 4) = true := decide_eq_true hr
        clear hr
        go_wp2_with (go_at_call 35; refine (l1InD_is x 1 4 true _ hd).mono ?_; rintro e w9 ⟨rfl, hw9⟩; subst w9)
        exact ⟨⟨k + 1, by omega, by go_num, HC1.out, HB.out⟩, by simp [intOf]; omega⟩
      · have hd : decide (1 ≤ x ∧ x ≤ 4) = false := decide_eq_false hr
        have HN : Hid (capsR l = false) := capsR_no hlt (by rw [HX.out]; exact hr)
        clear hr
        go_wp2_with (go_at_call 35; refine (l1InD_is x 1 4 false _ hd).mono ?_; rintro e w9 ⟨rfl, hw9⟩; subst w9)
        go_ret
        refine ⟨?_, HB.out⟩
        have e : rightC l = false := by unfold rightC; rw [HN.out]; rfl
        rw [e]
        rfl
    · have HC1 : Hid (capsR l = true) := by have := HC.out; rw [List.take_of_length_le (by omega)] at this; exact this
      by_cases h24 : l.length ≤ 24
      · have h24' : (l.length : Int) ≤ 24 := by omega
        have HW : Hid (IntsR wr lo hi s l) := H.out.keep (Keep.of_below HB.out hB)
        have zz := HB.out.size
        have e0 : l.take l.length = l := List.take_length
        have lb := l9Base_any s c lo hi l l.length wr HW.out (by omega) h24 (Nat.le_refl _) HC1.out
        rw [e0] at lb
        clear e0
        by_cases hs : sumC l ≤ 24
        · have HR : Hid (rightC l = true) := by show _ = _; unfold rightC; rw [HC1.out]; simpa using hs
          generalize sumC l = z at lb hs
          go_wp2_with (go_at_call 46; refine lb.mono ?_; rintro e w9 ⟨rfl, hb9⟩)
          go_ret
          exact ⟨by rw [HR.out]; simp [Array.getD]; try omega, HB.out.trans (hb9.mono zz)⟩
        · have HR : Hid (rightC l = false) := by show _ = _; unfold rightC; rw [HC1.out]; simpa using hs
          generalize sumC l = z at lb hs
          go_wp2_with (go_at_call 46; refine lb.mono ?_; rintro e w9 ⟨rfl, hb9⟩)
          go_ret
          exact ⟨by rw [HR.out]; simp [Array.getD]; try omega, HB.out.trans (hb9.mono zz)⟩
      · have h24' : ¬ (l.length : Int) ≤ 24 := by omega
        have HR : Hid (rightC l = false) := by
          show _ = _
          unfold rightC
          have := sumC_len _ HC1.out
          rw [HC1.out]
          simp
          omega
        clear h24
        go_wp2
        go_ret
        exact ⟨by rw [HR.out]; rfl, HB.out⟩

theorem baseV_no {l : List Int} {n : Int} (h : ¬ (rightC l = true ∧ 0 ≤ n ∧ n ≤ (l.length : Int) - 1)) : baseV l n = -1 := by
  unfold baseV
  rw [if_neg]
  rintro ⟨a, b, c, d⟩
  exact h ⟨by unfold rightC; rw [a]; simpa using b, c, by omega⟩
theorem baseV_yes {l : List Int} {n : Int} (h : rightC l = true) (h0 : 0 ≤ n) (h1 : n ≤ (l.length : Int) - 1) : baseV l n = sumC (l.take n.toNat) := by
  unfold rightC at h
  rw [Bool.and_eq_true, decide_eq_true_eq] at h
  unfold baseV
  rw [if_pos ⟨h.1, h.2, h0, by omega⟩]
set_option maxHeartbeats 4000000 in
theorem specBase_any (s : Option Addr) (c lo hi : Nat) (l : List Int) (n : Int) (w : World) (h : IntsR w lo hi s l) (hB : hi ≤ w.heap.size) (hl : l.length ≤ 2000000) :
    Calls Tryz.prog 52 #[.slice s l.length c, .int .i64 n] w fun e w' => e = .returned (.int .i64 (baseV l n)) ∧ Below w.heap.size w w' := by
  have H : Hid (IntsR w lo hi s l) := h
  clear h
  have r9 := l9Right_any s c lo hi l w H.out hB hl
  by_cases hr : rightC l = true
  · rw [hr] at r9
    by_cases hn : 0 ≤ n ∧ n ≤ (l.length : Int) - 1
    · have hd : decide (0 ≤ n ∧ n ≤ (l.length : Int) - 1) = true := decide_eq_true hn
      have HE : Hid (baseV l n = sumC (l.take n.toNat)) := baseV_yes hr hn.1 hn.2
      have hrr := hr
      unfold rightC at hrr
      rw [Bool.and_eq_true, decide_eq_true_eq] at hrr
      have hlen := sumC_len _ hrr.1
      have HC : Hid (capsR l = true) := hrr.1
      have h24 : l.length ≤ 24 := by omega
      have n0 := hn.1
      have n1 := hn.2
      have HT : Hid (IntsR w lo hi s l) := H.out
      obtain ⟨m, rfl⟩ : ∃ m : Nat, n = (m : Int) := ⟨n.toNat, by omega⟩
      rw [Int.toNat_natCast] at HE
      clear hn hr hrr hlen
      go_enter Tryz.func52, Tryz.ntmps52
      go_wp2_with (first | (go_at_call 25; refine r9.mono ?_; rintro e w8 ⟨rfl, hb8⟩; have z8 := hb8.size) | (go_at_call 35; refine (l1InD_is _ _ _ true _ hd).mono ?_; rintro e w9 ⟨rfl, hw9⟩; subst w9) | (go_at_call 46; refine (l9Base_any s c lo hi l m w8 (H.out.keep (Keep.of_below hb8 hB)) (by omega) h24 (by omega) HC.out).mono ?_; rintro e w9 ⟨rfl, hb9⟩))
      go_ret
      exact ⟨by rw [HE.out]; rfl, hb8.trans (hb9.mono z8)⟩
    · have hd : decide (0 ≤ n ∧ n ≤ (l.length : Int) - 1) = false := decide_eq_false hn
      have HE : Hid (baseV l n = -1) := baseV_no (fun e => hn e.2)
      clear hn hr
      go_enter Tryz.func52, Tryz.ntmps52
      go_wp2_with (first | (go_at_call 25; refine r9.mono ?_; rintro e w8 ⟨rfl, hb8⟩; have z8 := hb8.size) | (go_at_call 35; refine (l1InD_is _ _ _ false _ hd).mono ?_; rintro e w9 ⟨rfl, hw9⟩; subst w9))
      go_ret
      exact ⟨by rw [HE.out]; rfl, hb8⟩
  · have HE : Hid (baseV l n = -1) := baseV_no (fun e => hr e.1)
    have hr' : rightC l = false := by simpa using hr
    rw [hr'] at r9
    clear hr hr'
    go_enter Tryz.func52, Tryz.ntmps52
    go_wp2_with (go_at_call 25; refine r9.mono ?_; rintro e w8 ⟨rfl, hb8⟩; have z8 := hb8.size)
    go_ret
    exact ⟨by rw [HE.out]; rfl, hb8⟩
end

section
set_option linter.unusedSimpArgs false
set_option linter.unusedVariables false
set_option maxRecDepth 100000
open Go.RowKit
def fl5 : List I5 → List Int
  | [] => []
  | x :: r => [x.o, x.r, x.a, x.b, x.n] ++ fl5 r
theorem fl5_len : ∀ l : List I5, (fl5 l).length = l.length * 5
  | [] => rfl
  | x :: r => by simp [fl5, fl5_len r]; omega
theorem fl5_at : ∀ (l : List I5) (i : Nat) (x : I5), l[i]? = some x → (fl5 l)[i * 5]? = some x.o ∧ (fl5 l)[i * 5 + 1]? = some x.r ∧ (fl5 l)[i * 5 + 2]? = some x.a ∧ (fl5 l)[i * 5 + 3]? = some x.b ∧ (fl5 l)[i * 5 + 4]? = some x.n
  | [], i, x, h => by simp at h
  | y :: r, 0, x, h => by
    simp at h
    subst h
    exact ⟨rfl, rfl, rfl, rfl, rfl⟩
  | y :: r, i + 1, x, h => by
    have h' : r[i]? = some x := by simpa using h
    have e := fl5_at r i x h'
    have e0 : (i + 1) * 5 = i * 5 + 5 := by omega
    rw [e0]
    exact e
def OwnT5 (w : World) (base : Nat) (v : Value) (l : List I5) : Prop := w.ownsRow base 56 5 v l.length ((fl5 l).map (Value.int .i64))
theorem fl5_app : ∀ (a b : List I5), fl5 (a ++ b) = fl5 a ++ fl5 b
  | [], b => rfl
  | x :: r, b => by simp [fl5, fl5_app r b]
theorem steps_cell {w : World} {g off : Nat} {l : List I5} (hc : ∀ i, i < l.length → At5 w g (off + i * 5) (l.getD i z5)) (i : Nat) (hi : i < l.length * 5) : w.cell? ⟨g, off + i, none⟩ = some (.int .i64 ((fl5 l).getD i 0)) := by
  have hk : i / 5 < l.length := by omega
  have hx : l[i / 5]? = some (l.getD (i / 5) z5) := by rw [List.getD_eq_getElem?_getD, List.getElem?_eq_getElem hk]; rfl
  obtain ⟨c0, c1, c2, c3, c4⟩ := hc (i / 5) hk
  obtain ⟨e0, e1, e2, e3, e4⟩ := fl5_at l (i / 5) _ hx
  rw [List.getD_eq_getElem?_getD]
  rcases (show i % 5 = 0 ∨ i % 5 = 1 ∨ i % 5 = 2 ∨ i % 5 = 3 ∨ i % 5 = 4 by omega) with h | h | h | h | h
  · have e : i = i / 5 * 5 := by omega
    rw [e]; rw [e0]; exact c0
  · have e : i = i / 5 * 5 + 1 := by omega
    rw [e, ← Nat.add_assoc]; rw [e1]; exact c1
  · have e : i = i / 5 * 5 + 2 := by omega
    rw [e, ← Nat.add_assoc]; rw [e2]; exact c2
  · have e : i = i / 5 * 5 + 3 := by omega
    rw [e, ← Nat.add_assoc]; rw [e3]; exact c3
  · have e : i = i / 5 * 5 + 4 := by omega
    rw [e, ← Nat.add_assoc]; rw [e4]; exact c4
theorem infoSt : ∃ i, Tryz.prog.info? 56 = some i ∧ i.zero = some (.agg #[.int .i64 0, .int .i64 0, .int .i64 0, .int .i64 0, .int .i64 0]) ∧ i.size = 5 ∧ i.bytes = 40 := ⟨_, rfl, rfl, rfl, rfl⟩
theorem own5_new {w : World} {base : Nat} (L : List I5) (C : Array Value) (hC : C.toList = (fl5 L).map (Value.int .i64)) (hb : base ≤ w.heap.size) (hn : L.length ≤ 1000) : OwnT5 (w.alloc (.cells C 56)) base (.slice (some ⟨w.heap.size, 0, none⟩) L.length L.length) L := by
  have hs : C.size = L.length * 5 := by rw [← Array.length_toList, hC, List.length_map, fl5_len]
  have h := World.ownsRow_lit (base := base) (e := 56) (size := 5) w C L.length hb (by unfold maxLen; omega) hs
  rw [hC] at h
  exact h
theorem OwnT5.keep {w w' : World} {base : Nat} {v : Value} {L : List I5} (h : OwnT5 w base v L) (hb : Below w.heap.size w w') : OwnT5 w' base v L := ownKeep' h (fun k hk => hb.block k (World.ownsRow.lt h _ hk).2)
theorem OwnT5.low {w : World} {b b' : Nat} {v : Value} {L : List I5} (h : OwnT5 w b v L) (hb : b' ≤ b) : OwnT5 w b' v L := ownLow' h hb
theorem OwnT5.below {w w' : World} {base B g n c : Nat} {L : List I5} (h : OwnT5 w base (.slice (some ⟨g, 0, none⟩) n c) L) (hg : g < B) (hb : Below B w w') : OwnT5 w' base (.slice (some ⟨g, 0, none⟩) n c) L :=
  ownKeep' h (fun k hk => hb.block k (by injection hk with hk; have : g = k := hk; omega))
theorem OwnT5.lt {w : World} {base g n c : Nat} {L : List I5} (h : OwnT5 w base (.slice (some ⟨g, 0, none⟩) n c) L) : base ≤ g ∧ g < w.heap.size := World.ownsRow.lt h g rfl
theorem OwnT5.len {w : World} {base g n c : Nat} {L : List I5} (h : OwnT5 w base (.slice (some ⟨g, 0, none⟩) n c) L) : n = L.length := by
  rcases h.2 with ⟨h1, h2⟩ | ⟨g', cap, cur, e, -⟩
  · cases h1
  · injection e
theorem OwnT5.cellAt {w : World} {base g n c : Nat} {L : List I5} (h : OwnT5 w base (.slice (some ⟨g, 0, none⟩) n c) L) {j : Nat} {z : Int} (hz : (fl5 L)[j]? = some z) : w.cell? ⟨g, j, none⟩ = some (.int .i64 z) := by
  have hj := (List.getElem?_eq_some_iff.1 hz).1
  rw [fl5_len] at hj
  have e := h.len
  subst e
  rw [World.ownsRow.cellAt h j (by omega), List.getElem?_map, hz]
  rfl
theorem OwnT5.insR {w : World} {base g n c : Nat} {L : List I5} (h : OwnT5 w base (.slice (some ⟨g, 0, none⟩) n c) L) : InsR w base w.heap.size (some ⟨g, 0, none⟩) L := by
  refine .inr ⟨g, 0, rfl, h.lt.1, h.lt.2, fun i hi => ?_⟩
  have hx : L[i]? = some (L.getD i z5) := by rw [List.getD_eq_getElem?_getD, List.getElem?_eq_getElem hi]; rfl
  obtain ⟨e0, e1, e2, e3, e4⟩ := fl5_at L i _ hx
  rw [Nat.zero_add]
  exact ⟨h.cellAt e0, h.cellAt e1, h.cellAt e2, h.cellAt e3, h.cellAt e4⟩
theorem wp5 {o : Oper} {a : Act} {K : Act → World → Prop} {Q : Exit → Act → World → Prop} (s x : Operand) (ho : o.op = .call { callee := .builtin .append, args := #[s, x], argTypes := #[34, 34] })
    (w : World) (base : Nat) (v : Value) (L1 : List I5) (hs : a.eval s = v) (hown : OwnT5 w base v L1) (base2 g2 n2 c2 : Nat) (L2 : List I5) (hx : a.eval x = .slice (some ⟨g2, 0, none⟩) n2 c2) (h2 : OwnT5 w base2 (.slice (some ⟨g2, 0, none⟩) n2 c2) L2) (hl2 : L2.length = n2)
    (hl : 0 < n2) (hn : L1.length + n2 ≤ 1000) (N : Nat) (hN : L1.length + n2 = N) (hbase : base ≤ w.heap.size)
    (h : ∀ g c w', OwnT5 w' base (.slice (some ⟨g, 0, none⟩) N c) (L1 ++ L2) → Below base w w' → K (a.put o.dst (.slice (some ⟨g, 0, none⟩) N c)) w') : Oper.wp Tryz.prog o a w K Q := by
  obtain ⟨i0, hi0, hz0, hz1, hz2⟩ := infoSt
  subst hN hl2
  refine wp_append_lies w s x 34 ho base 56 i0 _ 5 40 Tryz.underlying34 hi0 hz0 hz1 hz2 rfl (by decide) v L1.length _ hs hown ⟨g2, 0, none⟩ L2.length c2 ((fl5 L2).map (Value.int .i64)) hx (by rw [List.length_map, fl5_len]) (fun j u hj => ?_) (fun u hu => by obtain ⟨z, -, rfl⟩ := List.mem_map.1 hu; rfl) hl (by unfold maxLen; omega) (by omega) hbase _ rfl ?_
  · rw [List.getElem?_map] at hj
    obtain ⟨z, hz, rfl⟩ := Option.map_eq_some_iff.1 hj
    have ea : Addr.add ⟨g2, 0, none⟩ j = ⟨g2, j, none⟩ := by
      by_cases h : j = 0
      · subst h; rfl
      · simp [Addr.add, h]
    rw [ea]
    exact h2.cellAt hz
  intro g cap w' q1 q2 q3 q4
  refine h g cap w' ?_ (Below.grown (Below.refl _ _) q2 hbase (fun j hj => (World.ownsRow.lt hown _ hj).1))
  show w'.ownsRow base 56 5 _ (L1 ++ L2).length ((fl5 (L1 ++ L2)).map (Value.int .i64))
  rw [fl5_app, List.map_append, List.length_append]
  exact q1
theorem app5 {ops : Array Oper} {rest : List Oper} {o : Oper} {a : Act} {Q : Exit → Act → World → Prop} (hgd : o.guard = none) (s x : Operand) (ho : o.op = .call { callee := .builtin .append, args := #[s, x], argTypes := #[34, 34] })
    (w : World) (base : Nat) (v : Value) (L1 : List I5) (hs : a.eval s = v) (hown : OwnT5 w base v L1) (base2 g2 n2 c2 : Nat) (L2 : List I5) (hx : a.eval x = .slice (some ⟨g2, 0, none⟩) n2 c2) (h2 : OwnT5 w base2 (.slice (some ⟨g2, 0, none⟩) n2 c2) L2) (hl2 : L2.length = n2)
    (hl : 0 < n2) (hn : L1.length + n2 ≤ 1000) (N : Nat) (hN : L1.length + n2 = N) (hbase : base ≤ w.heap.size)
    (h : ∀ g c w', OwnT5 w' base (.slice (some ⟨g, 0, none⟩) N c) (L1 ++ L2) → Below base w w' → wpList Tryz.prog ops Q rest (a.put o.dst (.slice (some ⟨g, 0, none⟩) N c)) w') : wpList Tryz.prog ops Q (o :: rest) a w :=
  wpList_plain hgd fun _ hK => wp5 s x ho w base v L1 hs hown base2 g2 n2 c2 L2 hx h2 hl2 hl hn N hN hbase fun g c w' h1 h2 => hK _ _ (h g c w' h1 h2)
theorem step5 {ops : Array Oper} {o : Oper} {a : Act} {K : Act → World → Prop} {Q : Exit → Act → World → Prop} {E : Prop} (hgd : o.guard = none) (s x : Operand) (ho : o.op = .call { callee := .builtin .append, args := #[s, x], argTypes := #[34, 34] })
    (w : World) (base : Nat) (v : Value) (L1 : List I5) (hs : a.eval s = v) (hown : OwnT5 w base v L1) (base2 g2 n2 c2 : Nat) (L2 : List I5) (hx : a.eval x = .slice (some ⟨g2, 0, none⟩) n2 c2) (h2 : OwnT5 w base2 (.slice (some ⟨g2, 0, none⟩) n2 c2) L2) (hl2 : L2.length = n2)
    (hl : 0 < n2) (hn : L1.length + n2 ≤ 1000) (N : Nat) (hN : L1.length + n2 = N) (hbase : base ≤ w.heap.size)
    (h : ∀ g c w', OwnT5 w' base (.slice (some ⟨g, 0, none⟩) N c) (L1 ++ L2) → Below base w w' → K (a.put o.dst (.slice (some ⟨g, 0, none⟩) N c)) w') : if Region.wanted o (yielded ops a.tmps) = true then Oper.wp Tryz.prog o a w K Q else E := by
  have hw : Region.wanted o (yielded ops a.tmps) = true := by simp [Region.wanted, hgd]
  rw [if_pos hw]
  exact wp5 s x ho w base v L1 hs hown base2 g2 n2 c2 L2 hx h2 hl2 hl hn N hN hbase h
def ad (f k : Int) : Int := wrap64 (f + k)
end

section
set_option linter.unusedSimpArgs false
set_option linter.unusedVariables false
set_option maxRecDepth 100000
open Go.RowKit

theorem sLoad (r c : Int) (w : World) : Calls Tryz.prog 74 #[.int .i64 r, .int .i64 c] w fun e w' => e = .returned (.agg #[.int .i64 5, .int .i64 r, .int .i64 (-1), .int .i64 0, .int .i64 c]) ∧ Below w.heap.size w w' := by
  go_enter Tryz.func74, Tryz.ntmps74
  go_wp2
  exact bodyPost_ret (v := .agg #[.int .i64 5, .int .i64 r, .int .i64 (-1), .int .i64 0, .int .i64 c]) (by simp [results, Tryz.results74, go_sem]) rfl ⟨rfl, (Below.refl _ _).alloc (Nat.le_refl _) _⟩
theorem sStore (c b : Int) (w : World) : Calls Tryz.prog 75 #[.int .i64 c, .int .i64 b] w fun e w' => e = .returned (.agg #[.int .i64 6, .int .i64 0, .int .i64 (-1), .int .i64 b, .int .i64 c]) ∧ Below w.heap.size w w' := by
  go_enter Tryz.func75, Tryz.ntmps75
  go_wp2
  exact bodyPost_ret (v := .agg #[.int .i64 6, .int .i64 0, .int .i64 (-1), .int .i64 b, .int .i64 c]) (by simp [results, Tryz.results75, go_sem]) rfl ⟨rfl, (Below.refl _ _).alloc (Nat.le_refl _) _⟩
theorem sSet (r n : Int) (w : World) : Calls Tryz.prog 48 #[.int .i64 r, .int .i64 n] w fun e w' => e = .returned (.agg #[.int .i64 1, .int .i64 r, .int .i64 0, .int .i64 0, .int .i64 n]) ∧ Below w.heap.size w w' := by
  go_enter Tryz.func48, Tryz.ntmps48
  go_wp2
  exact bodyPost_ret (v := .agg #[.int .i64 1, .int .i64 r, .int .i64 0, .int .i64 0, .int .i64 n]) (by simp [results, Tryz.results48, go_sem]) rfl ⟨rfl, (Below.refl _ _).alloc (Nat.le_refl _) _⟩
theorem sZero (a t : Int) (w : World) : Calls Tryz.prog 51 #[.int .i64 a, .int .i64 t] w fun e w' => e = .returned (.agg #[.int .i64 11, .int .i64 0, .int .i64 a, .int .i64 0, .int .i64 t]) ∧ Below w.heap.size w w' := by
  go_enter Tryz.func51, Tryz.ntmps51
  go_wp2
  exact bodyPost_ret (v := .agg #[.int .i64 11, .int .i64 0, .int .i64 a, .int .i64 0, .int .i64 t]) (by simp [results, Tryz.results51, go_sem]) rfl ⟨rfl, (Below.refl _ _).alloc (Nat.le_refl _) _⟩
theorem sJump (t : Int) (w : World) : Calls Tryz.prog 50 #[.int .i64 t] w fun e w' => e = .returned (.agg #[.int .i64 10, .int .i64 0, .int .i64 0, .int .i64 0, .int .i64 t]) ∧ Below w.heap.size w w' := by
  go_enter Tryz.func50, Tryz.ntmps50
  go_wp2
  exact bodyPost_ret (v := .agg #[.int .i64 10, .int .i64 0, .int .i64 0, .int .i64 0, .int .i64 t]) (by simp [results, Tryz.results50, go_sem]) rfl ⟨rfl, (Below.refl _ _).alloc (Nat.le_refl _) _⟩
theorem sThree (o r a b : Int) (w : World) : Calls Tryz.prog 49 #[.int .i64 o, .int .i64 r, .int .i64 a, .int .i64 b] w fun e w' => e = .returned (.agg #[.int .i64 o, .int .i64 r, .int .i64 a, .int .i64 b, .int .i64 0]) ∧ Below w.heap.size w w' := by
  go_enter Tryz.func49, Tryz.ntmps49
  go_wp2
  exact bodyPost_ret (v := .agg #[.int .i64 o, .int .i64 r, .int .i64 a, .int .i64 b, .int .i64 0]) (by simp [results, Tryz.results49, go_sem]) rfl ⟨rfl, (Below.refl _ _).alloc (Nat.le_refl _) _⟩
theorem iSet (r n : Int) (w : World) : Calls Tryz.prog 111 #[.int .i64 r, .int .i64 n] w fun e w' => e = .returned (.agg #[.int .i64 1, .int .i64 r, .int .i64 0, .int .i64 0, .int .i64 n]) ∧ Below w.heap.size w w' := by
  go_enter Tryz.func111, Tryz.ntmps111
  go_wp2
  exact bodyPost_ret (v := .agg #[.int .i64 1, .int .i64 r, .int .i64 0, .int .i64 0, .int .i64 n]) (by simp [results, Tryz.results111, go_sem]) rfl ⟨rfl, (Below.refl _ _).alloc (Nat.le_refl _) _⟩
theorem iAdd (r y : Int) (w : World) : Calls Tryz.prog 136 #[.int .i64 r, .int .i64 y] w fun e w' => e = .returned (.agg #[.int .i64 2, .int .i64 r, .int .i64 r, .int .i64 y, .int .i64 0]) ∧ Below w.heap.size w w' := by
  go_enter Tryz.func136, Tryz.ntmps136
  go_wp2
  exact bodyPost_ret (v := .agg #[.int .i64 2, .int .i64 r, .int .i64 r, .int .i64 y, .int .i64 0]) (by simp [results, Tryz.results136, go_sem]) rfl ⟨rfl, (Below.refl _ _).alloc (Nat.le_refl _) _⟩
theorem iSub (r y : Int) (w : World) : Calls Tryz.prog 137 #[.int .i64 r, .int .i64 y] w fun e w' => e = .returned (.agg #[.int .i64 3, .int .i64 r, .int .i64 r, .int .i64 y, .int .i64 0]) ∧ Below w.heap.size w w' := by
  go_enter Tryz.func137, Tryz.ntmps137
  go_wp2
  exact bodyPost_ret (v := .agg #[.int .i64 3, .int .i64 r, .int .i64 r, .int .i64 y, .int .i64 0]) (by simp [results, Tryz.results137, go_sem]) rfl ⟨rfl, (Below.refl _ _).alloc (Nat.le_refl _) _⟩
theorem iLess (r a b : Int) (w : World) : Calls Tryz.prog 112 #[.int .i64 r, .int .i64 a, .int .i64 b] w fun e w' => e = .returned (.agg #[.int .i64 4, .int .i64 r, .int .i64 a, .int .i64 b, .int .i64 0]) ∧ Below w.heap.size w w' := by
  go_enter Tryz.func112, Tryz.ntmps112
  go_wp2
  exact bodyPost_ret (v := .agg #[.int .i64 4, .int .i64 r, .int .i64 a, .int .i64 b, .int .i64 0]) (by simp [results, Tryz.results112, go_sem]) rfl ⟨rfl, (Below.refl _ _).alloc (Nat.le_refl _) _⟩
theorem iJump (t : Int) (w : World) : Calls Tryz.prog 114 #[.int .i64 t] w fun e w' => e = .returned (.agg #[.int .i64 10, .int .i64 0, .int .i64 0, .int .i64 0, .int .i64 t]) ∧ Below w.heap.size w w' := by
  go_enter Tryz.func114, Tryz.ntmps114
  go_wp2
  exact bodyPost_ret (v := .agg #[.int .i64 10, .int .i64 0, .int .i64 0, .int .i64 0, .int .i64 t]) (by simp [results, Tryz.results114, go_sem]) rfl ⟨rfl, (Below.refl _ _).alloc (Nat.le_refl _) _⟩
theorem iZero (a t : Int) (w : World) : Calls Tryz.prog 123 #[.int .i64 a, .int .i64 t] w fun e w' => e = .returned (.agg #[.int .i64 11, .int .i64 0, .int .i64 a, .int .i64 0, .int .i64 t]) ∧ Below w.heap.size w w' := by
  go_enter Tryz.func123, Tryz.ntmps123
  go_wp2
  exact bodyPost_ret (v := .agg #[.int .i64 11, .int .i64 0, .int .i64 a, .int .i64 0, .int .i64 t]) (by simp [results, Tryz.results123, go_sem]) rfl ⟨rfl, (Below.refl _ _).alloc (Nat.le_refl _) _⟩
end

section
set_option linter.unusedSimpArgs false
set_option linter.unusedVariables false
set_option maxRecDepth 100000
open Go.RowKit

theorem cell_is (b : Nat) (base part : Int) (w : World) (h : w.cell? ⟨b, 0, none⟩ = some (.int .i64 base)) (h0 : 0 ≤ base) (h1 : base ≤ 24) (p0 : 0 ≤ part) (p1 : part ≤ 8) :
    Calls Tryz.prog 99 #[.int .i64 part, .pointer (some ⟨b, 0, none⟩)] w fun e w' => e = .returned (.int .i64 (base + part)) ∧ w' = w := by
  go_enter Tryz.func99, Tryz.ntmps99
  go_wp2
  go_ret
  exact ⟨rfl, rfl⟩
theorem cellsFrom_is (base : Int) (w : World) :
    Calls Tryz.prog 70 #[.int .i64 base] w fun e w' => e = .returned (.func (.func 99) #[] #[.pointer (some ⟨w.heap.size, 0, none⟩)]) ∧ w' = w.alloc (.cells #[.int .i64 base] 3) := by
  go_enter Tryz.func70, Tryz.ntmps70
  go_wp2
  go_ret
  exact ⟨rfl, rfl⟩
theorem hid_of {p : Prop} (h : p) : Hid p := h
/- a channel's cells: the box of the closure holds where they begin -/
structure CBx (w : World) (pb : Nat) (b : Int) : Prop where
  c : w.cell? ⟨pb, 0, none⟩ = some (.int .i64 b)
  lt : pb < w.heap.size
  lo : 0 ≤ b
  hi : b ≤ 20
theorem CBx.keep {w w' : World} {pb : Nat} {b : Int} (h : CBx w pb b) (hb : Below w.heap.size w w') : CBx w' pb b := ⟨(hb.cell (p := ⟨pb, 0, none⟩) h.lt).trans h.c, by have := hb.size; have := h.lt; omega, h.lo, h.hi⟩
/- a site in a box -/
structure SX (w : World) (G : Nat) (v0 v1 v2 v3 v4 v5 v6 v7 v8 : Value) : Prop where
  c0 : w.cell? ⟨G, 0, none⟩ = some v0
  c1 : w.cell? ⟨G, 1, none⟩ = some v1
  c2 : w.cell? ⟨G, 2, none⟩ = some v2
  c3 : w.cell? ⟨G, 3, none⟩ = some v3
  c4 : w.cell? ⟨G, 4, none⟩ = some v4
  c5 : w.cell? ⟨G, 5, none⟩ = some v5
  c6 : w.cell? ⟨G, 6, none⟩ = some v6
  c7 : w.cell? ⟨G, 7, none⟩ = some v7
  c8 : w.cell? ⟨G, 8, none⟩ = some v8
  lt : G < w.heap.size
theorem SX.keep {w w' : World} {G : Nat} {v0 v1 v2 v3 v4 v5 v6 v7 v8 : Value} (h : SX w G v0 v1 v2 v3 v4 v5 v6 v7 v8) (hb : Below w.heap.size w w') : SX w' G v0 v1 v2 v3 v4 v5 v6 v7 v8 :=
  ⟨(hb.cell (p := ⟨G, 0, none⟩) h.lt).trans h.c0, (hb.cell (p := ⟨G, 1, none⟩) h.lt).trans h.c1, (hb.cell (p := ⟨G, 2, none⟩) h.lt).trans h.c2, (hb.cell (p := ⟨G, 3, none⟩) h.lt).trans h.c3, (hb.cell (p := ⟨G, 4, none⟩) h.lt).trans h.c4, (hb.cell (p := ⟨G, 5, none⟩) h.lt).trans h.c5, (hb.cell (p := ⟨G, 6, none⟩) h.lt).trans h.c6, (hb.cell (p := ⟨G, 7, none⟩) h.lt).trans h.c7, (hb.cell (p := ⟨G, 8, none⟩) h.lt).trans h.c8, by have := hb.size; have := h.lt; omega⟩
theorem SX.new (w : World) (v0 v1 v2 v3 v4 v5 v6 v7 v8 : Value) (T : TypeId) : ∃ W, w.alloc (.cells #[v0, v1, v2, v3, v4, v5, v6, v7, v8] T) = W ∧ SX W w.heap.size v0 v1 v2 v3 v4 v5 v6 v7 v8 ∧ Below w.heap.size w W ∧ w.heap.size < W.heap.size :=
  ⟨_, rfl, ⟨by simp [go_sem], by simp [go_sem], by simp [go_sem], by simp [go_sem], by simp [go_sem], by simp [go_sem], by simp [go_sem], by simp [go_sem], by simp [go_sem], by simp⟩, (Below.refl _ _).alloc (Nat.le_refl _) _, by simp⟩
theorem iLoad (o r a x n fr : Int) (ss : Option Addr) (sl sc pb : Nat) (rm b : Int) (y : Int) (p : Int) (hp : 0 ≤ p ∧ p ≤ 8) (w : World) (h : CBx w pb b) : Calls Tryz.prog 135 #[.agg #[.int .i64 o, .int .i64 r, .int .i64 a, .int .i64 x, .int .i64 n, .int .i64 fr, .slice ss sl sc, .func (.func 99) #[] #[.pointer (some ⟨pb, 0, none⟩)], .int .i64 rm], .int .i64 y, .int .i64 p] w fun e w' => e = .returned (.agg #[.int .i64 5, .int .i64 y, .int .i64 (-1), .int .i64 0, .int .i64 (b + p)]) ∧ Below w.heap.size w w' := by
  obtain ⟨W, hW, hx, hb, hz⟩ := SX.new w (.int .i64 o) (.int .i64 r) (.int .i64 a) (.int .i64 x) (.int .i64 n) (.int .i64 fr) (.slice ss sl sc) (.func (.func 99) #[] #[.pointer (some ⟨pb, 0, none⟩)]) (.int .i64 rm) 91
  have HC : Hid (CBx W pb b) := h.keep hb
  have t7 := hx.c7
  clear hx
  go_enter Tryz.func135, Tryz.ntmps135
  go_wp2_with (go_at_call 99; refine (cell_is pb b p _ (HC.out.keep ((Below.refl _ _).alloc (Nat.le_refl _) _)).c HC.out.lo (by have := HC.out.hi; omega) (by omega) (by omega)).mono ?_; rintro e w9 ⟨rfl, hw⟩; subst w9)
  exact bodyPost_ret (v := .agg #[.int .i64 5, .int .i64 y, .int .i64 (-1), .int .i64 0, .int .i64 (b + p)]) (by simp [results, Tryz.results135, go_sem]) rfl ⟨rfl, hb.trans ((Below.refl _ _).alloc (by omega) _)⟩
theorem iStore (o r a x n fr : Int) (ss : Option Addr) (sl sc pb : Nat) (rm b : Int) (p : Int) (y : Int) (hp : 0 ≤ p ∧ p ≤ 8) (w : World) (h : CBx w pb b) : Calls Tryz.prog 118 #[.agg #[.int .i64 o, .int .i64 r, .int .i64 a, .int .i64 x, .int .i64 n, .int .i64 fr, .slice ss sl sc, .func (.func 99) #[] #[.pointer (some ⟨pb, 0, none⟩)], .int .i64 rm], .int .i64 p, .int .i64 y] w fun e w' => e = .returned (.agg #[.int .i64 6, .int .i64 0, .int .i64 (-1), .int .i64 y, .int .i64 (b + p)]) ∧ Below w.heap.size w w' := by
  obtain ⟨W, hW, hx, hb, hz⟩ := SX.new w (.int .i64 o) (.int .i64 r) (.int .i64 a) (.int .i64 x) (.int .i64 n) (.int .i64 fr) (.slice ss sl sc) (.func (.func 99) #[] #[.pointer (some ⟨pb, 0, none⟩)]) (.int .i64 rm) 91
  have HC : Hid (CBx W pb b) := h.keep hb
  have t7 := hx.c7
  clear hx
  go_enter Tryz.func118, Tryz.ntmps118
  go_wp2_with (go_at_call 99; refine (cell_is pb b p _ (HC.out.keep ((Below.refl _ _).alloc (Nat.le_refl _) _)).c HC.out.lo (by have := HC.out.hi; omega) (by omega) (by omega)).mono ?_; rintro e w9 ⟨rfl, hw⟩; subst w9)
  exact bodyPost_ret (v := .agg #[.int .i64 6, .int .i64 0, .int .i64 (-1), .int .i64 y, .int .i64 (b + p)]) (by simp [results, Tryz.results118, go_sem]) rfl ⟨rfl, hb.trans ((Below.refl _ _).alloc (by omega) _)⟩
theorem iLoadN (o r a x n fr : Int) (ss : Option Addr) (sl sc pb : Nat) (rm b : Int) (y : Int) (w : World) (h : CBx w pb b) : Calls Tryz.prog 140 #[.agg #[.int .i64 o, .int .i64 r, .int .i64 a, .int .i64 x, .int .i64 n, .int .i64 fr, .slice ss sl sc, .func (.func 99) #[] #[.pointer (some ⟨pb, 0, none⟩)], .int .i64 rm], .int .i64 y] w fun e w' => e = .returned (.agg #[.int .i64 5, .int .i64 y, .int .i64 4, .int .i64 0, .int .i64 (b + 4)]) ∧ Below w.heap.size w w' := by
  obtain ⟨W, hW, hx, hb, hz⟩ := SX.new w (.int .i64 o) (.int .i64 r) (.int .i64 a) (.int .i64 x) (.int .i64 n) (.int .i64 fr) (.slice ss sl sc) (.func (.func 99) #[] #[.pointer (some ⟨pb, 0, none⟩)]) (.int .i64 rm) 91
  have HC : Hid (CBx W pb b) := h.keep hb
  have t7 := hx.c7
  clear hx
  go_enter Tryz.func140, Tryz.ntmps140
  go_wp2_with (go_at_call 99; refine (cell_is pb b 4 _ (HC.out.keep ((Below.refl _ _).alloc (Nat.le_refl _) _)).c HC.out.lo (by have := HC.out.hi; omega) (by omega) (by omega)).mono ?_; rintro e w9 ⟨rfl, hw⟩; subst w9)
  exact bodyPost_ret (v := .agg #[.int .i64 5, .int .i64 y, .int .i64 4, .int .i64 0, .int .i64 (b + 4)]) (by simp [results, Tryz.results140, go_sem]) rfl ⟨rfl, hb.trans ((Below.refl _ _).alloc (by omega) _)⟩
theorem iStoreN (o r a x n fr : Int) (ss : Option Addr) (sl sc pb : Nat) (rm b : Int) (y : Int) (w : World) (h : CBx w pb b) : Calls Tryz.prog 138 #[.agg #[.int .i64 o, .int .i64 r, .int .i64 a, .int .i64 x, .int .i64 n, .int .i64 fr, .slice ss sl sc, .func (.func 99) #[] #[.pointer (some ⟨pb, 0, none⟩)], .int .i64 rm], .int .i64 y] w fun e w' => e = .returned (.agg #[.int .i64 6, .int .i64 0, .int .i64 4, .int .i64 y, .int .i64 (b + 4)]) ∧ Below w.heap.size w w' := by
  obtain ⟨W, hW, hx, hb, hz⟩ := SX.new w (.int .i64 o) (.int .i64 r) (.int .i64 a) (.int .i64 x) (.int .i64 n) (.int .i64 fr) (.slice ss sl sc) (.func (.func 99) #[] #[.pointer (some ⟨pb, 0, none⟩)]) (.int .i64 rm) 91
  have HC : Hid (CBx W pb b) := h.keep hb
  have t7 := hx.c7
  clear hx
  go_enter Tryz.func138, Tryz.ntmps138
  go_wp2_with (go_at_call 99; refine (cell_is pb b 4 _ (HC.out.keep ((Below.refl _ _).alloc (Nat.le_refl _) _)).c HC.out.lo (by have := HC.out.hi; omega) (by omega) (by omega)).mono ?_; rintro e w9 ⟨rfl, hw⟩; subst w9)
  exact bodyPost_ret (v := .agg #[.int .i64 6, .int .i64 0, .int .i64 4, .int .i64 y, .int .i64 (b + 4)]) (by simp [results, Tryz.results138, go_sem]) rfl ⟨rfl, hb.trans ((Below.refl _ _).alloc (by omega) _)⟩
end

section
set_option linter.unusedSimpArgs false
set_option linter.unusedVariables false
set_option maxRecDepth 100000
open Go.RowKit

def lockR (b : Int) : List I5 := [⟨1, 7, 0, 0, 1⟩, ⟨8, 6, 0, 7, b⟩, ⟨11, 0, 6, 0, 1⟩, ⟨10, 0, 0, 0, 0⟩]
def letR (b : Int) : List I5 := [⟨1, 7, 0, 0, 0⟩, ⟨7, 0, -1, 7, b⟩]
def askR (b p : Int) : List I5 := [⟨5, 4, -1, 0, b + 3⟩, ⟨11, 0, 4, 0, p⟩]
def faultR (b : Int) : List I5 := letR b ++ [⟨13, 0, 0, 0, 0⟩]
def triedR (r h : Int) : List I5 := [⟨1, r, 0, 0, h⟩, ⟨10, 0, 0, 0, -1⟩]
def cameR (r x v h : Int) : List I5 := [⟨1, r, 0, 0, v⟩, ⟨1, x, 0, 0, h⟩, ⟨10, 0, 0, 0, -1⟩]
set_option maxHeartbeats 2000000 in
theorem iLock (o r a x n fr : Int) (ss : Option Addr) (sl sc pb : Nat) (rm b : Int) (w : World) (h : CBx w pb b) : Calls Tryz.prog 142 #[.agg #[.int .i64 o, .int .i64 r, .int .i64 a, .int .i64 x, .int .i64 n, .int .i64 fr, .slice ss sl sc, .func (.func 99) #[] #[.pointer (some ⟨pb, 0, none⟩)], .int .i64 rm]] w fun e w' => ∃ g c, e = .returned (.slice (some ⟨g, 0, none⟩) 4 c) ∧ OwnT5 w' w.heap.size (.slice (some ⟨g, 0, none⟩) 4 c) (lockR b) ∧ Below w.heap.size w w' := by
  obtain ⟨W, hW, hx, hb, hz⟩ := SX.new w (.int .i64 o) (.int .i64 r) (.int .i64 a) (.int .i64 x) (.int .i64 n) (.int .i64 fr) (.slice ss sl sc) (.func (.func 99) #[] #[.pointer (some ⟨pb, 0, none⟩)]) (.int .i64 rm) 91
  have HC : Hid (CBx W pb b) := h.keep hb
  have HX := hid_of hx
  have HW : Hid (Below w.heap.size w W) := hb
  have HK : Hid (Below W.heap.size W W) := Below.refl _ _
  clear h hx hb
  obtain ⟨t0, t1, t2, t3, t4, t5, t6, t7, t8, tl⟩ := HX.out
  go_enter Tryz.func142, Tryz.ntmps142
  go_wp2
  go_region_held3 (fun w' => w'.cell? ⟨w.heap.size, 7, none⟩ = some (.func (.func 99) #[] #[.pointer (some ⟨pb, 0, none⟩)])) (go_keep) (first | (go_at_call 111; refine (iSet _ _ _).mono ?_; rintro e w1 ⟨rfl, hb1⟩; have JK : Hid (Below W.heap.size W w1) := (by first | exact HK.out.trans (hb1.mono HK.out.size) | exact HK.out.drew.trans (hb1.mono HK.out.drew.size)); clear HK; have HK := JK; clear JK hb1; obtain ⟨t0, t1, t2, t3, t4, t5, t6, t7, t8, tl⟩ := HX.out.keep HK.out) | (go_at_call 123; refine (iZero _ _ _).mono ?_; rintro e w1 ⟨rfl, hb1⟩; have JK : Hid (Below W.heap.size W w1) := (by first | exact HK.out.trans (hb1.mono HK.out.size) | exact HK.out.drew.trans (hb1.mono HK.out.drew.size)); clear HK; have HK := JK; clear JK hb1; obtain ⟨t0, t1, t2, t3, t4, t5, t6, t7, t8, tl⟩ := HX.out.keep HK.out) | (go_at_call 114; refine (iJump _ _).mono ?_; rintro e w1 ⟨rfl, hb1⟩; have JK : Hid (Below W.heap.size W w1) := (by first | exact HK.out.trans (hb1.mono HK.out.size) | exact HK.out.drew.trans (hb1.mono HK.out.drew.size)); clear HK; have HK := JK; clear JK hb1; obtain ⟨t0, t1, t2, t3, t4, t5, t6, t7, t8, tl⟩ := HX.out.keep HK.out) | (go_at_call 99; refine (cell_is pb b 0 _ ((by first | exact HC.out.keep HK.out | exact HC.out.keep HK.out.drew) : CBx _ pb b).c HC.out.lo (by have := HC.out.hi; omega) (by omega) (by omega)).mono ?_; rintro e w9 ⟨rfl, hw⟩; subst w9))
  go_wp2
  have hwz := HW.out.size
  have hkz := HK.out.size
  go_ret
  exact ⟨_, _, rfl, own5_new (lockR b) _ rfl (by omega) (Nat.le_of_ble_eq_true rfl), (HW.out.trans (HK.out.mono (by omega))).alloc (by omega) _⟩
set_option maxHeartbeats 2000000 in
theorem iLetGo (o r a x n fr : Int) (ss : Option Addr) (sl sc pb : Nat) (rm b : Int) (w : World) (h : CBx w pb b) : Calls Tryz.prog 122 #[.agg #[.int .i64 o, .int .i64 r, .int .i64 a, .int .i64 x, .int .i64 n, .int .i64 fr, .slice ss sl sc, .func (.func 99) #[] #[.pointer (some ⟨pb, 0, none⟩)], .int .i64 rm]] w fun e w' => ∃ g c, e = .returned (.slice (some ⟨g, 0, none⟩) 2 c) ∧ OwnT5 w' w.heap.size (.slice (some ⟨g, 0, none⟩) 2 c) (letR b) ∧ Below w.heap.size w w' := by
  obtain ⟨W, hW, hx, hb, hz⟩ := SX.new w (.int .i64 o) (.int .i64 r) (.int .i64 a) (.int .i64 x) (.int .i64 n) (.int .i64 fr) (.slice ss sl sc) (.func (.func 99) #[] #[.pointer (some ⟨pb, 0, none⟩)]) (.int .i64 rm) 91
  have HC : Hid (CBx W pb b) := h.keep hb
  have HX := hid_of hx
  have HW : Hid (Below w.heap.size w W) := hb
  have HK : Hid (Below W.heap.size W W) := Below.refl _ _
  clear h hx hb
  obtain ⟨t0, t1, t2, t3, t4, t5, t6, t7, t8, tl⟩ := HX.out
  go_enter Tryz.func122, Tryz.ntmps122
  go_wp2
  go_region_held3 (fun w' => w'.cell? ⟨w.heap.size, 7, none⟩ = some (.func (.func 99) #[] #[.pointer (some ⟨pb, 0, none⟩)])) (go_keep) (first | (go_at_call 111; refine (iSet _ _ _).mono ?_; rintro e w1 ⟨rfl, hb1⟩; have JK : Hid (Below W.heap.size W w1) := (by first | exact HK.out.trans (hb1.mono HK.out.size) | exact HK.out.drew.trans (hb1.mono HK.out.drew.size)); clear HK; have HK := JK; clear JK hb1; obtain ⟨t0, t1, t2, t3, t4, t5, t6, t7, t8, tl⟩ := HX.out.keep HK.out) | (go_at_call 123; refine (iZero _ _ _).mono ?_; rintro e w1 ⟨rfl, hb1⟩; have JK : Hid (Below W.heap.size W w1) := (by first | exact HK.out.trans (hb1.mono HK.out.size) | exact HK.out.drew.trans (hb1.mono HK.out.drew.size)); clear HK; have HK := JK; clear JK hb1; obtain ⟨t0, t1, t2, t3, t4, t5, t6, t7, t8, tl⟩ := HX.out.keep HK.out) | (go_at_call 114; refine (iJump _ _).mono ?_; rintro e w1 ⟨rfl, hb1⟩; have JK : Hid (Below W.heap.size W w1) := (by first | exact HK.out.trans (hb1.mono HK.out.size) | exact HK.out.drew.trans (hb1.mono HK.out.drew.size)); clear HK; have HK := JK; clear JK hb1; obtain ⟨t0, t1, t2, t3, t4, t5, t6, t7, t8, tl⟩ := HX.out.keep HK.out) | (go_at_call 99; refine (cell_is pb b 0 _ ((by first | exact HC.out.keep HK.out | exact HC.out.keep HK.out.drew) : CBx _ pb b).c HC.out.lo (by have := HC.out.hi; omega) (by omega) (by omega)).mono ?_; rintro e w9 ⟨rfl, hw⟩; subst w9))
  go_wp2
  have hwz := HW.out.size
  have hkz := HK.out.size
  go_ret
  exact ⟨_, _, rfl, own5_new (letR b) _ rfl (by omega) (Nat.le_of_ble_eq_true rfl), (HW.out.trans (HK.out.mono (by omega))).alloc (by omega) _⟩
set_option maxHeartbeats 2000000 in
theorem iAsk (o r a x n fr : Int) (ss : Option Addr) (sl sc pb : Nat) (rm b : Int) (y : Int) (w : World) (h : CBx w pb b) : Calls Tryz.prog 120 #[.agg #[.int .i64 o, .int .i64 r, .int .i64 a, .int .i64 x, .int .i64 n, .int .i64 fr, .slice ss sl sc, .func (.func 99) #[] #[.pointer (some ⟨pb, 0, none⟩)], .int .i64 rm], .int .i64 y] w fun e w' => ∃ g c, e = .returned (.slice (some ⟨g, 0, none⟩) 2 c) ∧ OwnT5 w' w.heap.size (.slice (some ⟨g, 0, none⟩) 2 c) (askR b y) ∧ Below w.heap.size w w' := by
  obtain ⟨W, hW, hx, hb, hz⟩ := SX.new w (.int .i64 o) (.int .i64 r) (.int .i64 a) (.int .i64 x) (.int .i64 n) (.int .i64 fr) (.slice ss sl sc) (.func (.func 99) #[] #[.pointer (some ⟨pb, 0, none⟩)]) (.int .i64 rm) 91
  have HC : Hid (CBx W pb b) := h.keep hb
  have HX := hid_of hx
  have HW : Hid (Below w.heap.size w W) := hb
  have HK : Hid (Below W.heap.size W W) := Below.refl _ _
  clear h hx hb
  obtain ⟨t0, t1, t2, t3, t4, t5, t6, t7, t8, tl⟩ := HX.out
  go_enter Tryz.func120, Tryz.ntmps120
  go_wp2_with (first | (go_at_call 111; refine (iSet _ _ _).mono ?_; rintro e w1 ⟨rfl, hb1⟩; have JK : Hid (Below W.heap.size W w1) := (by first | exact HK.out.trans (hb1.mono HK.out.size) | exact HK.out.drew.trans (hb1.mono HK.out.drew.size)); clear HK; have HK := JK; clear JK hb1; obtain ⟨t0, t1, t2, t3, t4, t5, t6, t7, t8, tl⟩ := HX.out.keep HK.out) | (go_at_call 123; refine (iZero _ _ _).mono ?_; rintro e w1 ⟨rfl, hb1⟩; have JK : Hid (Below W.heap.size W w1) := (by first | exact HK.out.trans (hb1.mono HK.out.size) | exact HK.out.drew.trans (hb1.mono HK.out.drew.size)); clear HK; have HK := JK; clear JK hb1; obtain ⟨t0, t1, t2, t3, t4, t5, t6, t7, t8, tl⟩ := HX.out.keep HK.out) | (go_at_call 114; refine (iJump _ _).mono ?_; rintro e w1 ⟨rfl, hb1⟩; have JK : Hid (Below W.heap.size W w1) := (by first | exact HK.out.trans (hb1.mono HK.out.size) | exact HK.out.drew.trans (hb1.mono HK.out.drew.size)); clear HK; have HK := JK; clear JK hb1; obtain ⟨t0, t1, t2, t3, t4, t5, t6, t7, t8, tl⟩ := HX.out.keep HK.out) | (go_at_call 135; refine (iLoad o r a x n fr ss sl sc pb rm b _ _ (by omega) _ (by first | exact HC.out.keep HK.out | exact HC.out.keep HK.out.drew)).mono ?_; rintro e w1 ⟨rfl, hb1⟩; have JK : Hid (Below W.heap.size W w1) := (by first | exact HK.out.trans (hb1.mono HK.out.size) | exact HK.out.drew.trans (hb1.mono HK.out.drew.size)); clear HK; have HK := JK; clear JK hb1; obtain ⟨t0, t1, t2, t3, t4, t5, t6, t7, t8, tl⟩ := HX.out.keep HK.out))
  have hwz := HW.out.size
  have hkz := HK.out.size
  go_ret
  exact ⟨_, _, rfl, own5_new (askR b y) _ rfl (by omega) (Nat.le_of_ble_eq_true rfl), (HW.out.trans (HK.out.mono (by omega))).alloc (by omega) _⟩
set_option maxHeartbeats 2000000 in
theorem iTried (o r a x n fr : Int) (ss : Option Addr) (sl sc pb : Nat) (rm b : Int) (y : Int) (w : World) (h : CBx w pb b) : Calls Tryz.prog 116 #[.agg #[.int .i64 o, .int .i64 r, .int .i64 a, .int .i64 x, .int .i64 n, .int .i64 fr, .slice ss sl sc, .func (.func 99) #[] #[.pointer (some ⟨pb, 0, none⟩)], .int .i64 rm], .int .i64 y] w fun e w' => ∃ g c, e = .returned (.slice (some ⟨g, 0, none⟩) 2 c) ∧ OwnT5 w' w.heap.size (.slice (some ⟨g, 0, none⟩) 2 c) (triedR r y) ∧ Below w.heap.size w w' := by
  obtain ⟨W, hW, hx, hb, hz⟩ := SX.new w (.int .i64 o) (.int .i64 r) (.int .i64 a) (.int .i64 x) (.int .i64 n) (.int .i64 fr) (.slice ss sl sc) (.func (.func 99) #[] #[.pointer (some ⟨pb, 0, none⟩)]) (.int .i64 rm) 91
  have HC : Hid (CBx W pb b) := h.keep hb
  have HX := hid_of hx
  have HW : Hid (Below w.heap.size w W) := hb
  have HK : Hid (Below W.heap.size W W) := Below.refl _ _
  clear h hx hb
  obtain ⟨t0, t1, t2, t3, t4, t5, t6, t7, t8, tl⟩ := HX.out
  go_enter Tryz.func116, Tryz.ntmps116
  go_wp2_with (first | (go_at_call 111; refine (iSet _ _ _).mono ?_; rintro e w1 ⟨rfl, hb1⟩; have JK : Hid (Below W.heap.size W w1) := (by first | exact HK.out.trans (hb1.mono HK.out.size) | exact HK.out.drew.trans (hb1.mono HK.out.drew.size)); clear HK; have HK := JK; clear JK hb1; obtain ⟨t0, t1, t2, t3, t4, t5, t6, t7, t8, tl⟩ := HX.out.keep HK.out) | (go_at_call 123; refine (iZero _ _ _).mono ?_; rintro e w1 ⟨rfl, hb1⟩; have JK : Hid (Below W.heap.size W w1) := (by first | exact HK.out.trans (hb1.mono HK.out.size) | exact HK.out.drew.trans (hb1.mono HK.out.drew.size)); clear HK; have HK := JK; clear JK hb1; obtain ⟨t0, t1, t2, t3, t4, t5, t6, t7, t8, tl⟩ := HX.out.keep HK.out) | (go_at_call 114; refine (iJump _ _).mono ?_; rintro e w1 ⟨rfl, hb1⟩; have JK : Hid (Below W.heap.size W w1) := (by first | exact HK.out.trans (hb1.mono HK.out.size) | exact HK.out.drew.trans (hb1.mono HK.out.drew.size)); clear HK; have HK := JK; clear JK hb1; obtain ⟨t0, t1, t2, t3, t4, t5, t6, t7, t8, tl⟩ := HX.out.keep HK.out))
  have hwz := HW.out.size
  have hkz := HK.out.size
  go_ret
  exact ⟨_, _, rfl, own5_new (triedR r y) _ rfl (by omega) (Nat.le_of_ble_eq_true rfl), (HW.out.trans (HK.out.mono (by omega))).alloc (by omega) _⟩
set_option maxHeartbeats 2000000 in
theorem iCame (o r a x n fr : Int) (ss : Option Addr) (sl sc pb : Nat) (rm b : Int) (y z : Int) (w : World) (h : CBx w pb b) : Calls Tryz.prog 117 #[.agg #[.int .i64 o, .int .i64 r, .int .i64 a, .int .i64 x, .int .i64 n, .int .i64 fr, .slice ss sl sc, .func (.func 99) #[] #[.pointer (some ⟨pb, 0, none⟩)], .int .i64 rm], .int .i64 y, .int .i64 z] w fun e w' => ∃ g c, e = .returned (.slice (some ⟨g, 0, none⟩) 3 c) ∧ OwnT5 w' w.heap.size (.slice (some ⟨g, 0, none⟩) 3 c) (cameR r x y z) ∧ Below w.heap.size w w' := by
  obtain ⟨W, hW, hx, hb, hz⟩ := SX.new w (.int .i64 o) (.int .i64 r) (.int .i64 a) (.int .i64 x) (.int .i64 n) (.int .i64 fr) (.slice ss sl sc) (.func (.func 99) #[] #[.pointer (some ⟨pb, 0, none⟩)]) (.int .i64 rm) 91
  have HC : Hid (CBx W pb b) := h.keep hb
  have HX := hid_of hx
  have HW : Hid (Below w.heap.size w W) := hb
  have HK : Hid (Below W.heap.size W W) := Below.refl _ _
  clear h hx hb
  obtain ⟨t0, t1, t2, t3, t4, t5, t6, t7, t8, tl⟩ := HX.out
  go_enter Tryz.func117, Tryz.ntmps117
  go_wp2
  go_region_held3 (fun w' => w'.cell? ⟨w.heap.size, 1, none⟩ = some (.int .i64 r) ∧ w'.cell? ⟨w.heap.size, 3, none⟩ = some (.int .i64 x)) (go_keep) (first | (go_at_call 111; refine (iSet _ _ _).mono ?_; rintro e w1 ⟨rfl, hb1⟩; have JK : Hid (Below W.heap.size W w1) := (by first | exact HK.out.trans (hb1.mono HK.out.size) | exact HK.out.drew.trans (hb1.mono HK.out.drew.size)); clear HK; have HK := JK; clear JK hb1; obtain ⟨t0, t1, t2, t3, t4, t5, t6, t7, t8, tl⟩ := HX.out.keep HK.out) | (go_at_call 123; refine (iZero _ _ _).mono ?_; rintro e w1 ⟨rfl, hb1⟩; have JK : Hid (Below W.heap.size W w1) := (by first | exact HK.out.trans (hb1.mono HK.out.size) | exact HK.out.drew.trans (hb1.mono HK.out.drew.size)); clear HK; have HK := JK; clear JK hb1; obtain ⟨t0, t1, t2, t3, t4, t5, t6, t7, t8, tl⟩ := HX.out.keep HK.out) | (go_at_call 114; refine (iJump _ _).mono ?_; rintro e w1 ⟨rfl, hb1⟩; have JK : Hid (Below W.heap.size W w1) := (by first | exact HK.out.trans (hb1.mono HK.out.size) | exact HK.out.drew.trans (hb1.mono HK.out.drew.size)); clear HK; have HK := JK; clear JK hb1; obtain ⟨t0, t1, t2, t3, t4, t5, t6, t7, t8, tl⟩ := HX.out.keep HK.out))
  go_wp2
  have hwz := HW.out.size
  have hkz := HK.out.size
  go_ret
  exact ⟨_, _, rfl, own5_new (cameR r x y z) _ rfl (by omega) (Nat.le_of_ble_eq_true rfl), (HW.out.trans (HK.out.mono (by omega))).alloc (by omega) _⟩
end

section
set_option linter.unusedSimpArgs false
set_option linter.unusedVariables false
set_option maxRecDepth 100000
open Go.RowKit

set_option maxHeartbeats 2000000 in
theorem iLetThen (o r a x n fr : Int) (ss : Option Addr) (sl sc pb : Nat) (rm b : Int) (gt nt ct bt : Nat) (L : List I5) (w : World) (h : CBx w pb b) (hL : OwnT5 w bt (.slice (some ⟨gt, 0, none⟩) nt ct) L) (hn0 : 0 < nt) (hn : nt ≤ 100) (N : Nat) (hN : nt + 2 = N) : Calls Tryz.prog 139 #[.agg #[.int .i64 o, .int .i64 r, .int .i64 a, .int .i64 x, .int .i64 n, .int .i64 fr, .slice ss sl sc, .func (.func 99) #[] #[.pointer (some ⟨pb, 0, none⟩)], .int .i64 rm], .slice (some ⟨gt, 0, none⟩) nt ct] w fun e w' => ∃ g c, e = .returned (.slice (some ⟨g, 0, none⟩) N c) ∧ OwnT5 w' w.heap.size (.slice (some ⟨g, 0, none⟩) N c) (letR b ++ L) ∧ Below w.heap.size w w' := by
  have hlen : L.length = nt := hL.len.symm
  have HL0 : Hid (OwnT5 w bt (.slice (some ⟨gt, 0, none⟩) nt ct) L) := hL
  have HLN : Hid (L.length = nt) := hlen
  clear hL hlen
  obtain ⟨W, hW, hx, hb, hz⟩ := SX.new w (.int .i64 o) (.int .i64 r) (.int .i64 a) (.int .i64 x) (.int .i64 n) (.int .i64 fr) (.slice ss sl sc) (.func (.func 99) #[] #[.pointer (some ⟨pb, 0, none⟩)]) (.int .i64 rm) 91
  have HC : Hid (CBx W pb b) := h.keep hb
  have HX := hid_of hx
  have HW : Hid (Below w.heap.size w W) := hb
  have HK : Hid (Below W.heap.size W W) := Below.refl _ _
  clear h hx hb
  obtain ⟨t0, t1, t2, t3, t4, t5, t6, t7, t8, tl⟩ := HX.out
  have HL : Hid (OwnT5 W bt (.slice (some ⟨gt, 0, none⟩) nt ct) L) := HL0.out.keep HW.out
  clear HL0
  go_enter Tryz.func139, Tryz.ntmps139
  have hwz := HW.out.size
  go_wp2_with (first | (go_at_call 122; refine (iLetGo o r a x n fr ss sl sc pb rm b _ (by first | exact HC.out.keep HK.out | exact HC.out.keep HK.out.drew)).mono ?_; rintro e w1 ⟨g1, c1, rfl, ho1, hb1⟩; have HO1 := hid_of ho1; have HL1 := hid_of (HL.out.keep hb1); have hz1 := hb1.size; have HB1 := hid_of hb1; clear ho1 hb1) | (at_builtin; refine app5 rfl _ _ rfl w1 W.heap.size (.slice (some ⟨g1, 0, none⟩) 2 c1) (letR b) rfl HO1.out bt gt nt ct L rfl HL1.out HLN.out hn0 (by show 2 + nt ≤ 1000; omega) N (by show 2 + nt = N; omega) (by omega) ?_; intro g2 c2 w2 ho2 hb2; have HO2 := hid_of ho2; have HB2 := hid_of hb2; clear ho2 hb2))
  go_ret
  exact ⟨_, _, rfl, HO2.out.low (by omega), (HW.out.trans (HB1.out.mono (by omega))).trans (HB2.out.mono (by omega))⟩
theorem calls_new {f : Nat} {args : Array Value} {w : World} {C : Array Value} {post : Ending → World → Prop} (L : List I5) (base n : Nat) (hC : C.toList = (fl5 L).map (Value.int .i64)) (hn : L.length = n) (hn' : n ≤ 1000) (hb : base ≤ w.heap.size)
    (h : ∀ W, OwnT5 W base (.slice (some ⟨w.heap.size, 0, none⟩) n n) L → Below w.heap.size w W → W.heap.size = w.heap.size + 1 → Calls Tryz.prog f args W post) : Calls Tryz.prog f args (w.alloc (.cells C 56)) post := by
  subst hn
  exact h _ (own5_new L C hC hb hn') ((Below.refl _ _).alloc (Nat.le_refl _) _) (by simp)
set_option maxHeartbeats 2000000 in
theorem iFault (o r a x n fr : Int) (ss : Option Addr) (sl sc pb : Nat) (rm b : Int) (w : World) (h : CBx w pb b) : Calls Tryz.prog 121 #[.agg #[.int .i64 o, .int .i64 r, .int .i64 a, .int .i64 x, .int .i64 n, .int .i64 fr, .slice ss sl sc, .func (.func 99) #[] #[.pointer (some ⟨pb, 0, none⟩)], .int .i64 rm]] w fun e w' => ∃ g c, e = .returned (.slice (some ⟨g, 0, none⟩) 3 c) ∧ OwnT5 w' w.heap.size (.slice (some ⟨g, 0, none⟩) 3 c) (faultR b) ∧ Below w.heap.size w w' := by
  obtain ⟨W, hW, hx, hb, hz⟩ := SX.new w (.int .i64 o) (.int .i64 r) (.int .i64 a) (.int .i64 x) (.int .i64 n) (.int .i64 fr) (.slice ss sl sc) (.func (.func 99) #[] #[.pointer (some ⟨pb, 0, none⟩)]) (.int .i64 rm) 91
  have HC : Hid (CBx W pb b) := h.keep hb
  have HX := hid_of hx
  have HW : Hid (Below w.heap.size w W) := hb
  have HK : Hid (Below W.heap.size W W) := Below.refl _ _
  clear h hx hb
  obtain ⟨t0, t1, t2, t3, t4, t5, t6, t7, t8, tl⟩ := HX.out
  go_enter Tryz.func121, Tryz.ntmps121
  have hwz := HW.out.size
  go_wp2_with (go_at_call 139; refine calls_new [⟨13, 0, 0, 0, 0⟩] W.heap.size 1 rfl rfl (by omega) (Nat.le_refl _) ?_; intro W2 ho2 hb2 hz2; refine (iLetThen o r a x n fr ss sl sc pb rm b _ 1 _ W.heap.size [⟨13, 0, 0, 0, 0⟩] _ (HC.out.keep hb2) ho2 (by omega) (by omega) 3 rfl).mono ?_; rintro e w1 ⟨g1, c1, rfl, ho1, hb1⟩; have HO1 := hid_of ho1; have HB2 := hid_of hb2; have HB1 := hid_of hb1; have HZ2 := hid_of hz2; clear ho1 hb1 ho2 hb2 hz2)
  go_ret
  have hz2 := HZ2.out
  exact ⟨_, _, rfl, HO1.out.low (by omega), (HW.out.trans (HB2.out.mono (by omega))).trans (HB1.out.mono (by omega))⟩
end

section
set_option linter.unusedSimpArgs false
set_option linter.unusedVariables false
set_option maxRecDepth 100000
open Go.RowKit

def isJ (o : Int) : Bool := decide (o = 10 ∨ o = 11)
theorem isJump_is (o r a b n : Int) (q : Bool) (w : World) (h : isJ o = q) : Calls Tryz.prog 144 #[.agg #[.int .i64 o, .int .i64 r, .int .i64 a, .int .i64 b, .int .i64 n]] w fun e w' => e = .returned (.bool q) ∧ Below w.heap.size w w' := by
  subst h
  by_cases h0 : o = 10
  · subst h0
    go_enter Tryz.func144, Tryz.ntmps144
    go_wp2
    go_ret
    exact ⟨rfl, (Below.refl _ _).alloc (Nat.le_refl _) _⟩
  · have e0 : (o == 10) = false := by simpa using h0
    by_cases h1 : o = 11
    · subst h1
      go_enter Tryz.func144, Tryz.ntmps144
      go_wp2
      go_ret
      exact ⟨rfl, (Below.refl _ _).alloc (Nat.le_refl _) _⟩
    · have e1 : (o == 11) = false := by simpa using h1
      have e : isJ o = false := decide_eq_false (fun e => by omega)
      rw [e]
      clear e h0 h1
      go_enter Tryz.func144, Tryz.ntmps144
      go_wp2
      go_ret
      exact ⟨by simp [Array.getD, e1], (Below.refl _ _).alloc (Nat.le_refl _) _⟩
/- parts: rows of steps, each somewhere, and the row that holds them -/
structure RD where
  g : Nat
  c : Nat
  l : List I5
structure PartR (w : World) (B G : Nat) (i : Nat) (x : RD) : Prop where
  c : w.cell? ⟨G, i, none⟩ = some (.slice (some ⟨x.g, 0, none⟩) x.l.length x.c)
  lt : x.g < B
  at' : ∀ j, j < x.l.length → At5 w x.g (j * 5) (x.l.getD j z5)
structure PartsR (w : World) (B G : Nat) (D : List RD) : Prop where
  lt : G < B
  r : ∀ (i : Nat) (x : RD), D[i]? = some x → PartR w B G i x
theorem PartR.keep {w w' : World} {B G i : Nat} {x : RD} (h : PartR w B G i x) (hg : G < B) (hb : Below B w w') : PartR w' B G i x :=
  ⟨(hb.cell (p := ⟨G, i, none⟩) hg).trans h.c, h.lt, fun j hj => by
    obtain ⟨h0, h1, h2, h3, h4⟩ := h.at' j hj
    have g0 := h.lt
    exact ⟨(hb.cell (p := ⟨x.g, j * 5, none⟩) g0).trans h0, (hb.cell (p := ⟨x.g, j * 5 + 1, none⟩) g0).trans h1, (hb.cell (p := ⟨x.g, j * 5 + 2, none⟩) g0).trans h2, (hb.cell (p := ⟨x.g, j * 5 + 3, none⟩) g0).trans h3, (hb.cell (p := ⟨x.g, j * 5 + 4, none⟩) g0).trans h4⟩⟩
theorem PartsR.keep {w w' : World} {B G : Nat} {D : List RD} (h : PartsR w B G D) (hb : Below B w w') : PartsR w' B G D := ⟨h.lt, fun i x hx => (h.r i x hx).keep h.lt hb⟩
def firstV (f : Int) : List (List I5) → Int
  | [] => f
  | l :: r => firstV (ad f l.length) r
theorem firstV_app (b : List (List I5)) : ∀ (a : List (List I5)) (f : Int), firstV f (a ++ b) = firstV (firstV f a) b
  | [], f => rfl
  | x :: r, f => firstV_app b r (ad f x.length)
theorem firstV_take {D : List RD} {f : Int} {i : Nat} {x : RD} (h : D[i]? = some x) : firstV f ((D.map RD.l).take (i + 1)) = ad (firstV f ((D.map RD.l).take i)) x.l.length := by
  have e : (D.map RD.l)[i]? = some x.l := by rw [List.getElem?_map, h]; rfl
  rw [List.take_add_one, e, Option.toList_some, firstV_app]
  rfl
def toN (t : Int) (n : Nat) : Nat := if t = -1 then n else t.toNat
theorem firstOf_is (fr t : Int) (G C : Nat) (D : List RD) (w : World) (B : Nat) (h : PartsR w B G D) (hC : D.length ≤ C) (hn : D.length ≤ 100) (t0 : -1 ≤ t) (t1 : t ≤ D.length) :
    Calls Tryz.prog 145 #[.int .i64 fr, .slice (some ⟨G, 0, none⟩) D.length C, .int .i64 t] w fun e w' => e = .returned (.int .i64 (firstV fr ((D.map RD.l).take (toN t D.length)))) ∧ w' = w := by
  have H := hid_of h
  clear h
  obtain ⟨k, hk, hk1⟩ : ∃ k : Nat, toN t D.length = k ∧ k ≤ D.length := by
    refine ⟨_, rfl, ?_⟩
    unfold toN
    split <;> omega
  have HKN := hid_of hk
  rw [hk]
  clear hk
  by_cases hm : t = -1
  · subst hm
    have ek : k = D.length := by rw [← HKN.out]; rfl
    subst ek
    go_enter Tryz.func145, Tryz.ntmps145
    go_wp2
    go_loop [0, 17] (fun a i => ∃ (j : Nat) (z : Int), j ≤ D.length ∧ i = .int .i64 j ∧ a = .int .i64 z ∧ Hid (z = firstV fr ((D.map RD.l).take j))) (fun _ i => D.length - (intOf i).toNat)
    case atStart => exact ⟨0, fr, Nat.zero_le _, rfl, rfl, show _ = _ by rfl⟩
    case round =>
      obtain ⟨j, z, hj, rfl, rfl, HZ⟩ := hrel
      by_cases hlt : j < D.length
      · obtain ⟨x, hx⟩ : ∃ x, D[j]? = some x := ⟨_, List.getElem?_eq_getElem hlt⟩
        have p := (H.out.r j x hx).c
        have HS := hid_of (firstV_take (f := fr) hx)
        have b0 : (0 : Int) ≤ (j : Int) := by omega
        have b1 : (j : Int) < (D.length : Int) := by omega
        go_wp2
        go_round
        case rel => exact ⟨j + 1, _, by omega, by go_num, rfl, by show _ = _; rw [HS.out, ← HZ.out]; rfl⟩
        case measure => simp [intOf]; omega
      · go_wp2
        go_ret
        have e : j = D.length := by omega
        subst e
        exact ⟨by rw [HZ.out]; rfl, rfl⟩
  · have em : (t == -1) = false := by simpa using hm
    have ek : t = (k : Int) := by
      have := HKN.out
      unfold toN at this
      rw [if_neg hm] at this
      omega
    subst ek
    have b2 : (0 : Int) ≤ (k : Int) := by omega
    have b3 : (k : Int) ≤ (C : Int) := by omega
    clear hm t0
    go_enter Tryz.func145, Tryz.ntmps145
    go_wp2
    go_loop [0, 17] (fun a i => ∃ (j : Nat) (z : Int), j ≤ k ∧ i = .int .i64 j ∧ a = .int .i64 z ∧ Hid (z = firstV fr ((D.map RD.l).take j))) (fun _ i => k - (intOf i).toNat)
    case atStart => exact ⟨0, fr, Nat.zero_le _, rfl, rfl, show _ = _ by rfl⟩
    case round =>
      obtain ⟨j, z, hj, rfl, rfl, HZ⟩ := hrel
      by_cases hlt : j < k
      · obtain ⟨x, hx⟩ : ∃ x, D[j]? = some x := ⟨_, List.getElem?_eq_getElem (by omega)⟩
        have p := (H.out.r j x hx).c
        have HS := hid_of (firstV_take (f := fr) hx)
        have b0 : (0 : Int) ≤ (j : Int) := by omega
        have b1 : (j : Int) < (k : Int) := by omega
        go_wp2
        go_round
        case rel => exact ⟨j + 1, _, by omega, by go_num, rfl, by show _ = _; rw [HS.out, ← HZ.out]; rfl⟩
        case measure => simp [intOf]; omega
      · go_wp2
        go_ret
        have e : j = k := by omega
        subst e
        exact ⟨by rw [HZ.out]; rfl, rfl⟩
end

section
set_option linter.unusedSimpArgs false
set_option linter.unusedVariables false
set_option maxRecDepth 100000
open Go.RowKit

theorem ad_ad (f a b : Int) : ad (ad f a) b = ad f (a + b) := by unfold ad wrap64; omega
theorem app5n {ops : Array Oper} {rest : List Oper} {o : Oper} {a : Act} {Q : Exit → Act → World → Prop} (hgd : o.guard = none) (s x : Operand) (ho : o.op = .call { callee := .builtin .append, args := #[s, x], argTypes := #[34, 34] })
    (w : World) (C : Array Value) (base : Nat) (v : Value) (L1 : List I5) (hs : a.eval s = v) (hown : OwnT5 w base v L1) (n2 : Nat) (L2 : List I5) (hx : a.eval x = .slice (some ⟨w.heap.size, 0, none⟩) n2 n2) (hC : C.toList = (fl5 L2).map (Value.int .i64)) (hl2 : L2.length = n2)
    (hl : 0 < n2) (hn : L1.length + n2 ≤ 1000) (N : Nat) (hN : L1.length + n2 = N) (hbase : base ≤ w.heap.size)
    (h : ∀ g c w', OwnT5 w' base (.slice (some ⟨g, 0, none⟩) N c) (L1 ++ L2) → Below base w w' → wpList Tryz.prog ops Q rest (a.put o.dst (.slice (some ⟨g, 0, none⟩) N c)) w') : wpList Tryz.prog ops Q (o :: rest) a (w.alloc (.cells C 56)) := by
  have kk : Below w.heap.size w (w.alloc (.cells C 56)) := (Below.refl _ _).alloc (Nat.le_refl _) _
  have hn5 := own5_new (w := w) (base := w.heap.size) L2 C hC (Nat.le_refl _) (by omega)
  rw [hl2] at hn5
  refine app5 hgd s x ho (w.alloc (.cells C 56)) base v L1 hs (hown.keep kk) w.heap.size w.heap.size n2 n2 L2 hx hn5 hl2 hl hn N hN (by simp; omega) ?_
  intro g c w' h1 h2
  exact h g c w' h1 ((kk.mono hbase).trans h2)
theorem step5n {ops : Array Oper} {o : Oper} {a : Act} {K : Act → World → Prop} {Q : Exit → Act → World → Prop} {E : Prop} (hgd : o.guard = none) (s x : Operand) (ho : o.op = .call { callee := .builtin .append, args := #[s, x], argTypes := #[34, 34] })
    (w : World) (C : Array Value) (base : Nat) (v : Value) (L1 : List I5) (hs : a.eval s = v) (hown : OwnT5 w base v L1) (n2 : Nat) (L2 : List I5) (hx : a.eval x = .slice (some ⟨w.heap.size, 0, none⟩) n2 n2) (hC : C.toList = (fl5 L2).map (Value.int .i64)) (hl2 : L2.length = n2)
    (hl : 0 < n2) (hn : L1.length + n2 ≤ 1000) (N : Nat) (hN : L1.length + n2 = N) (hbase : base ≤ w.heap.size)
    (h : ∀ g c w', OwnT5 w' base (.slice (some ⟨g, 0, none⟩) N c) (L1 ++ L2) → Below base w w' → K (a.put o.dst (.slice (some ⟨g, 0, none⟩) N c)) w') : if Region.wanted o (yielded ops a.tmps) = true then Oper.wp Tryz.prog o a (w.alloc (.cells C 56)) K Q else E := by
  have kk : Below w.heap.size w (w.alloc (.cells C 56)) := (Below.refl _ _).alloc (Nat.le_refl _) _
  have hn5 := own5_new (w := w) (base := w.heap.size) L2 C hC (Nat.le_refl _) (by omega)
  rw [hl2] at hn5
  refine step5 hgd s x ho (w.alloc (.cells C 56)) base v L1 hs (hown.keep kk) w.heap.size w.heap.size n2 n2 L2 hx hn5 hl2 hl hn N hN (by simp; omega) ?_
  intro g c w' h1 h2
  exact h g c w' h1 ((kk.mono hbase).trans h2)
theorem OwnT5.far {w : World} {base : Nat} {v : Value} {L : List I5} (h : OwnT5 w base v L) {p : Addr} (hp : ∀ k, v.ownBlock = some k → p.block ≠ k) (u : Value) : OwnT5 (w.setCell p u) base v L :=
  ownKeep' h (fun k hk => Below.heap_setCell _ _ _ k (fun e => hp k hk e.symm))
def fixJ (f : Int) (Ls : List (List I5)) (s : I5) : I5 := if isJ s.o = true then ⟨s.o, s.r, s.a, s.b, firstV f (Ls.take (toN s.n Ls.length))⟩ else s
def togL (f : Int) (Ls : List (List I5)) : List (List I5) → List I5
  | [] => []
  | l :: r => l.map (fixJ f Ls) ++ togL f Ls r
theorem togL_app (f : Int) (Ls : List (List I5)) (b : List (List I5)) : ∀ a, togL f Ls (a ++ b) = togL f Ls a ++ togL f Ls b
  | [] => rfl
  | x :: r => by simp [togL, togL_app f Ls b r]
theorem togL_take {D : List RD} {f : Int} {Ls : List (List I5)} {i : Nat} {x : RD} (h : D[i]? = some x) : togL f Ls ((D.map RD.l).take (i + 1)) = togL f Ls ((D.map RD.l).take i) ++ x.l.map (fixJ f Ls) := by
  have e : (D.map RD.l)[i]? = some x.l := by rw [List.getElem?_map, h]; rfl
  rw [List.take_add_one, e, Option.toList_some, togL_app]
  simp [togL]
def lens (Ls : List (List I5)) : Nat := (Ls.map List.length).sum
theorem togL_len (f : Int) (Ls : List (List I5)) : ∀ a : List (List I5), (togL f Ls a).length = lens a
  | [] => rfl
  | x :: r => by
    have := togL_len f Ls r
    simp only [togL, List.length_append, List.length_map, this]
    simp [lens]
theorem lens_app (a b : List (List I5)) : lens (a ++ b) = lens a + lens b := by simp [lens]
theorem lens_le : ∀ (a : List (List I5)) (i : Nat), lens (a.take i) ≤ lens a
  | [], i => by simp
  | x :: r, 0 => by simp [lens]
  | x :: r, i + 1 => by
    have := lens_le r i
    simp [lens] at this ⊢
    omega
theorem lens_at {D : List RD} {i : Nat} {x : RD} (h : D[i]? = some x) : lens ((D.map RD.l).take i) + x.l.length ≤ lens (D.map RD.l) := by
  have e : (D.map RD.l)[i]? = some x.l := by rw [List.getElem?_map, h]; rfl
  have h1 := lens_le (D.map RD.l) (i + 1)
  rw [List.take_add_one, e, Option.toList_some, lens_app] at h1
  simpa [lens] using h1
structure B5 (w : World) (g : Nat) (x : I5) : Prop where
  c0 : w.cell? ⟨g, 0, none⟩ = some (.int .i64 x.o)
  c1 : w.cell? ⟨g, 1, none⟩ = some (.int .i64 x.r)
  c2 : w.cell? ⟨g, 2, none⟩ = some (.int .i64 x.a)
  c3 : w.cell? ⟨g, 3, none⟩ = some (.int .i64 x.b)
  c4 : w.cell? ⟨g, 4, none⟩ = some (.int .i64 x.n)
  fz : ∀ j, w.frozen? ⟨g, j, none⟩ = false
theorem B5.new (w : World) (x : I5) (T : TypeId) {w1 : World} (hb : Below (w.heap.size + 1) (w.alloc (.cells #[.int .i64 x.o, .int .i64 x.r, .int .i64 x.a, .int .i64 x.b, .int .i64 x.n] T)) w1) : B5 w1 w.heap.size x :=
  ⟨(hb.cell (p := ⟨w.heap.size, 0, none⟩) (Nat.lt_succ_self _)).trans (by simp [go_sem]), (hb.cell (p := ⟨w.heap.size, 1, none⟩) (Nat.lt_succ_self _)).trans (by simp [go_sem]), (hb.cell (p := ⟨w.heap.size, 2, none⟩) (Nat.lt_succ_self _)).trans (by simp [go_sem]), (hb.cell (p := ⟨w.heap.size, 3, none⟩) (Nat.lt_succ_self _)).trans (by simp [go_sem]), (hb.cell (p := ⟨w.heap.size, 4, none⟩) (Nat.lt_succ_self _)).trans (by simp [go_sem]), fun j => (hb.frozen (p := ⟨w.heap.size, j, none⟩) (Nat.lt_succ_self _)).trans (by simp [go_sem])⟩
set_option maxHeartbeats 8000000 in
theorem together_is (fr : Int) (G C : Nat) (D : List RD) (w : World) (h : PartsR w w.heap.size G D) (hC : D.length ≤ C) (hn : D.length ≤ 100) (ht : lens (D.map RD.l) ≤ 900) (h1 : 0 < lens (D.map RD.l)) (hj : ∀ (i : Nat) (x : RD), D[i]? = some x → ∀ (j : Nat) (s : I5), x.l[j]? = some s → isJ s.o = true → -1 ≤ s.n ∧ s.n ≤ D.length) (N : Nat) (hN : lens (D.map RD.l) = N) :
    Calls Tryz.prog 141 #[.int .i64 fr, .slice (some ⟨G, 0, none⟩) D.length C] w fun e w' => ∃ g c, e = .returned (.slice (some ⟨g, 0, none⟩) N c) ∧ OwnT5 w' w.heap.size (.slice (some ⟨g, 0, none⟩) N c) (togL fr (D.map RD.l) (D.map RD.l)) ∧ Below w.heap.size w w' := by
  have H := hid_of h
  have HJ := hid_of hj
  clear h hj
  have HN := hid_of hN
  have HT := hid_of ht
  have H1 := hid_of h1
  clear hN ht h1
  go_enter Tryz.func141, Tryz.ntmps141
  go_wp2
  go_loopw [5, 12] (fun v i wr => ∃ (k : Nat), k ≤ D.length ∧ i = .int .i64 k ∧ OwnT5 wr w.heap.size v (togL fr (D.map RD.l) ((D.map RD.l).take k)) ∧ Below w.heap.size w wr) (fun _ i _ => D.length - (intOf i).toNat)
  case atStart => exact ⟨0, Nat.zero_le _, rfl, World.ownsRow_nil _ _ _ _, Below.refl _ _⟩
  case round =>
    obtain ⟨k, hk, rfl, ho, hb⟩ := hrel
    have HO := hid_of ho
    have HB := hid_of hb
    clear ho hb
    by_cases hlt : k < D.length
    · obtain ⟨x, hx⟩ : ∃ x, D[k]? = some x := ⟨_, List.getElem?_eq_getElem hlt⟩
      have HX := hid_of hx
      have PX := hid_of (H.out.r k x hx)
      have p := ((PX.out.keep H.out.lt HB.out)).c
      clear hx
      have b0 : (0 : Int) ≤ (k : Int) := by omega
      have b1 : (k : Int) < (D.length : Int) := by omega
      have hxl : x.l.length ≤ 900 := by have := lens_at HX.out; have := HT.out; omega
      go_wp2
      rename World => w2
      go_loopw [5, 18] (fun v i wr => ∃ (m : Nat), m ≤ x.l.length ∧ i = .int .i64 m ∧ OwnT5 wr w.heap.size v (togL fr (D.map RD.l) ((D.map RD.l).take k) ++ (x.l.take m).map (fixJ fr (D.map RD.l))) ∧ Below w.heap.size w wr) (fun _ i _ => x.l.length - (intOf i).toNat)
      case atStart => exact ⟨0, Nat.zero_le _, rfl, by simpa using HO.out, HB.out⟩
      case round =>
        obtain ⟨m, hm, rfl, ho, hb⟩ := hrel
        have HO2 := hid_of ho
        have HB2 := hid_of hb
        clear ho hb HO HB p
        by_cases hlm : m < x.l.length
        · obtain ⟨f0, f1, f2, f3, f4⟩ := (PX.out.keep H.out.lt HB2.out).at' m hlm
          have hxg : x.g < wr.heap.size := by have := PX.out.lt; have := HB2.out.size; omega
          have hms : x.l[m]? = some (x.l.getD m z5) := by rw [List.getD_eq_getElem?_getD, List.getElem?_eq_getElem hlm]; rfl
          have HJS := hid_of (HJ.out k x HX.out m _ hms)
          have HTK := hid_of (show (x.l.take (m + 1)).map (fixJ fr (D.map RD.l)) = (x.l.take m).map (fixJ fr (D.map RD.l)) ++ [fixJ fr (D.map RD.l) (x.l.getD m z5)] by rw [List.take_add_one, hms, Option.toList_some, List.map_append]; rfl)
          clear hms
          generalize x.l.getD m z5 = s at f0 f1 f2 f3 f4 HJS HTK
          obtain ⟨so, sr, sa, sb, sn⟩ := s
          simp only at f0 f1 f2 f3 f4
          have c0 : (0 : Int) ≤ (m : Int) := by omega
          have c1 : (m : Int) < (x.l.length : Int) := by omega
          have HLN : Hid ((togL fr (D.map RD.l) ((D.map RD.l).take k) ++ (x.l.take m).map (fixJ fr (D.map RD.l))).length + 1 ≤ 1000) := by
            show _ + 1 ≤ 1000
            have := lens_at HX.out
            have := HT.out
            rw [List.length_append, togL_len, List.length_map, List.length_take]
            omega
          have hwr := HB2.out.size
          obtain ⟨q, hqq⟩ : ∃ q, (togL fr (D.map RD.l) ((D.map RD.l).take k) ++ (x.l.take m).map (fixJ fr (D.map RD.l))).length + 1 = q := ⟨_, rfl⟩
          have HQN := hid_of hqq
          clear hqq
          cases hq : isJ so
          · have HF : Hid (fixJ fr (D.map RD.l) ⟨so, sr, sa, sb, sn⟩ = ⟨so, sr, sa, sb, sn⟩) := by show _ = _; unfold fixJ; rw [if_neg (by rw [hq]; simp)]
            have HQ := hid_of hq
            clear hq HJS
            go_wp2_with (first | (go_at_call 144; refine (isJump_is so sr sa sb sn false _ HQ.out).mono ?_; rintro e w3 ⟨rfl, hb3⟩; have hb3' : Below (wr.heap.size + 1) _ w3 := (by simpa using hb3); obtain ⟨d0, d1, d2, d3, d4, dz⟩ := B5.new wr ⟨so, sr, sa, sb, sn⟩ _ hb3'; simp only at d0 d1 d2 d3 d4; have k3 : Below wr.heap.size wr w3 := ((Below.refl _ _).alloc (Nat.le_refl _) _).trans (hb3'.mono (Nat.le_succ _)); have HO3 := hid_of (HO2.out.keep k3); have K3 := hid_of k3; have z3 : wr.heap.size < w3.heap.size := (by have := hb3.size; simp at this; omega); clear hb3 hb3' k3) | (at_builtin; refine app5n rfl _ _ rfl w3 _ w.heap.size u5 _ rfl HO3.out 1 [⟨so, sr, sa, sb, sn⟩] rfl rfl rfl (by omega) HLN.out q HQN.out (by omega) ?_; intro g4 c4 w4 ho4 hb4; have HO4 := hid_of ho4; have HB4 := hid_of hb4; clear ho4 hb4))
            go_roundw
            case rel => exact ⟨m + 1, by omega, by go_num, by rw [HTK.out, HF.out, ← List.append_assoc]; exact HO4.out, (HB2.out.trans (K3.out.mono hwr)).trans HB4.out⟩
            case measure => simp [intOf]; omega
          · obtain ⟨j0, j1⟩ := HJS.out hq
            have HF : Hid (fixJ fr (D.map RD.l) ⟨so, sr, sa, sb, sn⟩ = ⟨so, sr, sa, sb, firstV fr ((D.map RD.l).take (toN sn D.length))⟩) := by show _ = _; unfold fixJ; rw [if_pos hq, List.length_map]
            have HQ := hid_of hq
            clear hq HJS
            generalize hz : firstV fr ((D.map RD.l).take (toN sn D.length)) = zz at HF
            have HZ := hid_of hz
            clear hz
            go_wp2_with (first | (go_at_call 144; refine (isJump_is so sr sa sb sn true _ HQ.out).mono ?_; rintro e w3 ⟨rfl, hb3⟩; have hb3' : Below (wr.heap.size + 1) _ w3 := (by simpa using hb3); obtain ⟨d0, d1, d2, d3, d4, dz⟩ := B5.new wr ⟨so, sr, sa, sb, sn⟩ _ hb3'; simp only at d0 d1 d2 d3 d4; have k3 : Below wr.heap.size wr w3 := ((Below.refl _ _).alloc (Nat.le_refl _) _).trans (hb3'.mono (Nat.le_succ _)); have HO3 := hid_of (OwnT5.far (HO2.out.keep k3) (p := ⟨wr.heap.size, 4, none⟩) (fun k hk e => by have := (World.ownsRow.lt HO2.out _ hk).2; have e' : wr.heap.size = k := e; omega) (.int .i64 zz)); have K3 := hid_of k3; have z3 : wr.heap.size < w3.heap.size := (by have := hb3.size; simp at this; omega); clear hb3 hb3' k3) | (go_at_call 145; refine (firstOf_is fr sn G C D w3 w.heap.size (H.out.keep (HB2.out.trans (K3.out.mono hwr))) hC hn j0 j1).mono ?_; rintro e w9 ⟨rfl, hw9⟩; subst w9; rw [HZ.out]) | (at_builtin; refine app5n rfl _ _ rfl (w3.setCell ⟨wr.heap.size, 4, none⟩ (.int .i64 zz)) _ w.heap.size u5 _ rfl HO3.out 1 [⟨so, sr, sa, sb, zz⟩] (by show Value.slice (some ⟨w3.heap.size, 0, none⟩) 1 1 = _; simp) rfl rfl (by omega) HLN.out q HQN.out (by simp; omega) ?_; intro g4 c4 w4 ho4 hb4; have HO4 := hid_of ho4; have HB4 := hid_of hb4; clear ho4 hb4))
            go_roundw
            case rel => exact ⟨m + 1, by omega, by go_num, by rw [HTK.out, HF.out, ← List.append_assoc]; exact HO4.out, ((HB2.out.trans (K3.out.mono hwr)).setCell (p := ⟨wr.heap.size, 4, none⟩) hwr _).trans HB4.out⟩
            case measure => simp [intOf]; omega
        · have e : m = x.l.length := by omega
          subst e
          have ho := HO2.out
          rw [List.take_length, ← togL_take HX.out] at ho
          have HO3 := hid_of ho
          clear ho
          go_wp2
          go_roundw
          case rel => exact ⟨k + 1, by omega, by go_num, HO3.out, HB2.out⟩
          case measure => simp [intOf]; omega
    · have e : k = D.length := by omega
      subst e
      have ho := HO.out
      rw [show D.length = (D.map RD.l).length by simp, List.take_length] at ho
      have hlen : (togL fr (D.map RD.l) (D.map RD.l)).length = N := by rw [togL_len]; exact HN.out
      have hpos : 0 < N := by rw [← HN.out]; exact H1.out
      obtain ⟨g, cap, e, -, -⟩ := World.ownsRow.form ho (by rw [hlen]; exact hpos)
      rw [hlen] at e
      subst e
      have HO3 := hid_of ho
      clear ho HO
      go_wp2
      go_ret
      exact ⟨_, _, rfl, HO3.out, HB.out⟩
end

section
set_option linter.unusedSimpArgs false
set_option linter.unusedVariables false
set_option maxRecDepth 100000
open Go.RowKit

theorem infoCd : ∃ i, Tryz.prog.info? 34 = some i ∧ i.zero = some (.slice none 0 0) ∧ i.size = 1 ∧ i.bytes = 24 := ⟨_, rfl, rfl, rfl, rfl⟩
def vals (D : List RD) : List Value := D.map fun x => .slice (some ⟨x.g, 0, none⟩) x.l.length x.c
theorem vals_at {D : List RD} {i : Nat} {u : Value} (h : (vals D)[i]? = some u) : ∃ x, D[i]? = some x ∧ u = .slice (some ⟨x.g, 0, none⟩) x.l.length x.c := by
  unfold vals at h
  rw [List.getElem?_map] at h
  obtain ⟨x, h1, h2⟩ := Option.map_eq_some_iff.1 h
  exact ⟨x, h1, h2.symm⟩
theorem stepP {ops : Array Oper} {o : Oper} {a : Act} {K : Act → World → Prop} {Q : Exit → Act → World → Prop} {E : Prop} (hgd : o.guard = none) (s x : Operand) (ho : o.op = .call { callee := .builtin .append, args := #[s, x], argTypes := #[29, 29] })
    (w : World) (base g1 n1 c1 : Nat) (L1 : List I5) (h1 : OwnT5 w base (.slice (some ⟨g1, 0, none⟩) n1 c1) L1) (hs : a.eval s = .slice (some ⟨w.heap.size, 0, none⟩) 1 1) (G C : Nat) (D : List RD) (hx : a.eval x = .slice (some ⟨G, 0, none⟩) D.length C) (hP : PartsR w w.heap.size G D) (hD : 0 < D.length) (hD' : D.length ≤ 90)
    (h : ∀ g cap w', PartsR w' w'.heap.size g (⟨g1, c1, L1⟩ :: D) → D.length + 1 ≤ cap → Below w.heap.size w w' → K (a.put o.dst (.slice (some ⟨g, 0, none⟩) (D.length + 1) cap)) w') : if Region.wanted o (yielded ops a.tmps) = true then Oper.wp Tryz.prog o a (w.alloc (.cells #[.slice (some ⟨g1, 0, none⟩) n1 c1] 34)) K Q else E := by
  have hwt : Region.wanted o (yielded ops a.tmps) = true := by simp [Region.wanted, hgd]
  rw [if_pos hwt]
  obtain ⟨i0, hi0, hz0, hz1, hz2⟩ := infoCd
  have kk : Below w.heap.size w (w.alloc (.cells #[.slice (some ⟨g1, 0, none⟩) n1 c1] 34)) := (Below.refl _ _).alloc (Nat.le_refl _) _
  have hown := World.ownsRow_lit (base := w.heap.size) (e := 34) (size := 1) w #[.slice (some ⟨g1, 0, none⟩) n1 c1] 1 (Nat.le_refl _) (by unfold maxLen; omega) rfl
  refine wp_append_lies _ s x 29 ho w.heap.size 34 i0 _ 1 24 Tryz.underlying29 hi0 hz0 hz1 hz2 rfl (by decide) _ 1 _ hs hown ⟨G, 0, none⟩ D.length C (vals D) hx (by simp [vals]) (fun j u hj => ?_) (fun u hu => by obtain ⟨z, -, rfl⟩ := List.mem_map.1 hu; rfl) hD (by unfold maxLen; omega) (by omega) (by simp) _ rfl ?_
  · obtain ⟨y, hy, rfl⟩ := vals_at hj
    have ea : Addr.add ⟨G, 0, none⟩ j = ⟨G, j, none⟩ := by
      by_cases h : j = 0
      · subst h; rfl
      · simp [Addr.add, h]
    rw [ea]
    exact ((hP.r j y hy).keep hP.lt kk).c
  intro g cap w' q1 q2 q3 q4
  have hb : Below w.heap.size w w' := kk.trans (Below.grown (Below.refl _ _) q2 (by simp) (fun j hj => (World.ownsRow.lt hown _ hj).1))
  have hsz := hb.size
  have hcap : 1 + D.length ≤ cap := by
    rcases q1.2 with ⟨e, -⟩ | ⟨g', cap', cur, e, _, _, hnc, _⟩
    · cases e
    · injection e with e1 e2 e3
      omega
  have hg := World.ownsRow.lt q1 g rfl
  rw [Nat.add_comm 1 D.length]
  refine h g cap w' ⟨hg.2, fun i y hy => ?_⟩ (by omega) hb
  have hcell : ∀ u, ([Value.slice (some ⟨g1, 0, none⟩) n1 c1] ++ vals D)[i]? = some u → w'.cell? ⟨g, i, none⟩ = some u := fun u hu => by
    have hi' := (List.getElem?_eq_some_iff.1 hu).1
    simp [vals] at hi'
    rw [World.ownsRow.cellAt q1 i (by omega)]
    exact hu
  rcases Nat.eq_zero_or_pos i with rfl | hp
  · simp at hy
    subst hy
    have e := h1.len
    subst e
    refine ⟨hcell _ rfl, by have := h1.lt; show g1 < _; omega, fun j hj => ?_⟩
    have hr := (h1.keep hb).insR
    rcases hr with e | ⟨g', o', e, -, -, hc⟩
    · rw [e] at hj; simp at hj
    · injection e with e
      injection e with e1 e2
      subst e1 e2
      have := hc j hj
      rw [Nat.zero_add] at this
      exact this
  · obtain ⟨k, rfl⟩ : ∃ k, i = k + 1 := ⟨i - 1, by omega⟩
    have hy' : D[k]? = some y := by simpa using hy
    have r := (hP.r k y hy').keep hP.lt hb
    refine ⟨hcell _ ?_, by have := r.lt; omega, r.at'⟩
    have : (vals D)[k]? = some (.slice (some ⟨y.g, 0, none⟩) y.l.length y.c) := by unfold vals; rw [List.getElem?_map, hy']; rfl
    simpa using this
set_option maxHeartbeats 4000000 in
theorem iUnder (o r a x n fr : Int) (ss : Option Addr) (sl sc pb : Nat) (rm b : Int) (G C : Nat) (D : List RD) (w : World) (h : CBx w pb b) (hP : PartsR w w.heap.size G D) (hD : 0 < D.length) (hD' : D.length ≤ 90) (ht : lens (lockR b :: D.map RD.l) ≤ 900) (hj : ∀ (i : Nat) (x : RD), D[i]? = some x → ∀ (j : Nat) (s : I5), x.l[j]? = some s → isJ s.o = true → -1 ≤ s.n ∧ s.n ≤ D.length + 1) (N : Nat) (hN : lens (lockR b :: D.map RD.l) = N) : Calls Tryz.prog 119 #[.agg #[.int .i64 o, .int .i64 r, .int .i64 a, .int .i64 x, .int .i64 n, .int .i64 fr, .slice ss sl sc, .func (.func 99) #[] #[.pointer (some ⟨pb, 0, none⟩)], .int .i64 rm], .slice (some ⟨G, 0, none⟩) D.length C] w fun e w' => ∃ g c, e = .returned (.slice (some ⟨g, 0, none⟩) N c) ∧ OwnT5 w' w.heap.size (.slice (some ⟨g, 0, none⟩) N c) (togL fr (lockR b :: D.map RD.l) (lockR b :: D.map RD.l)) ∧ Below w.heap.size w w' := by
  have HP0 := hid_of hP
  have HT := hid_of ht
  have HJ := hid_of hj
  have HN := hid_of hN
  clear hP ht hj hN
  obtain ⟨W, hW, hx, hb, hz⟩ := SX.new w (.int .i64 o) (.int .i64 r) (.int .i64 a) (.int .i64 x) (.int .i64 n) (.int .i64 fr) (.slice ss sl sc) (.func (.func 99) #[] #[.pointer (some ⟨pb, 0, none⟩)]) (.int .i64 rm) 91
  have HC : Hid (CBx W pb b) := h.keep hb
  have HX := hid_of hx
  have HW : Hid (Below w.heap.size w W) := hb
  have HK : Hid (Below W.heap.size W W) := Below.refl _ _
  clear h hx hb
  obtain ⟨t0, t1, t2, t3, t4, t5, t6, t7, t8, tl⟩ := HX.out
  have HP : Hid (PartsR W W.heap.size G D) := ⟨by have := HP0.out.lt; have := HW.out.size; omega, fun i x hx => by have q := (HP0.out.keep HW.out).r i x hx; exact ⟨q.c, by have := q.lt; have := HW.out.size; omega, q.at'⟩⟩
  clear HP0
  have hwz := HW.out.size
  have HL1 : Hid (0 < lens (lockR b :: D.map RD.l)) := by show 0 < _; simp [lens, lockR]; omega
  have HJ2 : Hid (∀ (g c i : Nat) (x : RD), ((⟨g, c, lockR b⟩ : RD) :: D)[i]? = some x → ∀ (j : Nat) (s : I5), x.l[j]? = some s → isJ s.o = true → -1 ≤ s.n ∧ s.n ≤ (((⟨g, c, lockR b⟩ : RD) :: D).length : Int)) := by
    intro g c i x hx j s hs hq
    have e : ((((⟨g, c, lockR b⟩ : RD) :: D).length : Nat) : Int) = (D.length : Int) + 1 := by simp
    rw [e]
    rcases Nat.eq_zero_or_pos i with rfl | hp
    · simp at hx
      subst hx
      have hm := List.mem_of_getElem? hs
      simp [lockR] at hm
      rcases hm with rfl | rfl | rfl | rfl
      · simp [isJ] at hq
      · simp [isJ] at hq
      · simp; omega
      · simp; omega
    · obtain ⟨k, rfl⟩ : ∃ k, i = k + 1 := ⟨i - 1, by omega⟩
      exact HJ.out k x (by simpa using hx) j s hs hq
  go_enter Tryz.func119, Tryz.ntmps119
  go_wp2
  go_region_held3 (fun w' => w'.cell? ⟨w.heap.size, 0, none⟩ = some (.int .i64 o) ∧ w'.cell? ⟨w.heap.size, 1, none⟩ = some (.int .i64 r) ∧ w'.cell? ⟨w.heap.size, 2, none⟩ = some (.int .i64 a) ∧ w'.cell? ⟨w.heap.size, 3, none⟩ = some (.int .i64 x) ∧ w'.cell? ⟨w.heap.size, 4, none⟩ = some (.int .i64 n) ∧ w'.cell? ⟨w.heap.size, 5, none⟩ = some (.int .i64 fr) ∧ w'.cell? ⟨w.heap.size, 6, none⟩ = some (.slice ss sl sc) ∧ w'.cell? ⟨w.heap.size, 7, none⟩ = some (.func (.func 99) #[] #[.pointer (some ⟨pb, 0, none⟩)]) ∧ w'.cell? ⟨w.heap.size, 8, none⟩ = some (.int .i64 rm)) (go_keep) (first | (go_at_call 142; refine (iLock o r a x n fr ss sl sc pb rm b _ (by first | exact HC.out.keep HK.out | exact HC.out.keep HK.out.drew)).mono ?_; rintro e w1 ⟨g1, c1, rfl, ho1, hb1⟩; have hbk : Below W.heap.size W w1 := (by first | exact HK.out.trans (hb1.mono HK.out.size) | exact HK.out.drew.trans (hb1.mono HK.out.drew.size)); have HB1 := hid_of hbk; have HO1 := hid_of ho1; obtain ⟨t0, t1, t2, t3, t4, t5, t6, t7, t8, tl⟩ := HX.out.keep hbk; have hz1 := hbk.size; have HP1 : Hid (PartsR w1 w1.heap.size G D) := ⟨(by have := HP.out.lt; omega), fun i x hx => (by have q := (HP.out.keep hbk).r i x hx; exact ⟨q.c, (by have := q.lt; omega), q.at'⟩)⟩; clear ho1 hb1 hbk) | (refine stepP rfl _ _ rfl w1 _ g1 4 c1 (lockR b) HO1.out rfl G C D rfl HP1.out hD hD' ?_; intro g2 c2 w2 hp2 hc2 hb2; have HP2 := hid_of hp2; have HB2 := hid_of hb2; obtain ⟨t0, t1, t2, t3, t4, t5, t6, t7, t8, tl⟩ := HX.out.keep (HB1.out.trans (hb2.mono hz1)); clear hp2 hb2) | (go_at_call 141; refine (together_is fr g2 c2 (⟨g1, c1, lockR b⟩ :: D) w2 HP2.out hc2 (by show D.length + 1 ≤ 100; omega) HT.out HL1.out (HJ2.out g1 c1) N HN.out).mono ?_; rintro e w3 ⟨g3, c3, rfl, ho3, hb3⟩; have HO3 := hid_of ho3; have HB3 := hid_of hb3; obtain ⟨t0, t1, t2, t3, t4, t5, t6, t7, t8, tl⟩ := (HX.out.keep (HB1.out.trans (HB2.out.mono hz1))).keep hb3; clear ho3 hb3))
  go_wp2
  go_ret
  have hz2 := HB2.out.size
  exact ⟨_, _, rfl, HO3.out.low (by omega), ((HW.out.trans (HB1.out.mono (by omega))).trans (HB2.out.mono (by omega))).trans (HB3.out.mono (by omega))⟩
end

section
set_option linter.unusedSimpArgs false
set_option linter.unusedVariables false
set_option maxRecDepth 100000
open Go.RowKit

theorem name5 {P : World → Prop} {w : World} {C : Array Value} (L : List I5) (base n : Nat) (hC : C.toList = (fl5 L).map (Value.int .i64)) (hn : L.length = n) (hn' : n ≤ 1000) (hb : base ≤ w.heap.size)
    (h : ∀ W, OwnT5 W base (.slice (some ⟨w.heap.size, 0, none⟩) n n) L → Below w.heap.size w W → w.heap.size < W.heap.size → P W) : P (w.alloc (.cells C 56)) := by
  subst hn
  exact h _ (own5_new L C hC hb hn') ((Below.refl _ _).alloc (Nat.le_refl _) _) (by simp)
/- rows that lie somewhere, and a row of them -/
structure Row5 (w : World) (x : RD) : Prop where
  o : ∃ base, OwnT5 w base (.slice (some ⟨x.g, 0, none⟩) x.l.length x.c) x.l
theorem Row5.keep {w w' : World} {x : RD} (h : Row5 w x) (hb : Below w.heap.size w w') : Row5 w' x := by
  obtain ⟨base, h⟩ := h.o
  exact ⟨base, h.keep hb⟩
theorem Row5.of {w : World} {base g n c : Nat} {L : List I5} (h : OwnT5 w base (.slice (some ⟨g, 0, none⟩) n c) L) : Row5 w ⟨g, c, L⟩ := by
  have e := h.len
  subst e
  exact ⟨base, h⟩
theorem parts_new (w : World) (D : List RD) (C : Array Value) (hC : C.toList = vals D) (h : ∀ x ∈ D, Row5 w x) : PartsR (w.alloc (.cells C 34)) (w.alloc (.cells C 34)).heap.size w.heap.size D := by
  have hsz : (w.alloc (.cells C 34)).heap.size = w.heap.size + 1 := by simp
  refine ⟨by omega, fun i x hx => ?_⟩
  obtain ⟨base, ho⟩ := (h x (List.mem_of_getElem? hx)).o
  have hb : Below w.heap.size w (w.alloc (.cells C 34)) := (Below.refl _ _).alloc (Nat.le_refl _) _
  refine ⟨?_, by have := ho.lt; omega, fun j hj => ?_⟩
  · have e : C[i]? = some (.slice (some ⟨x.g, 0, none⟩) x.l.length x.c) := by
      rw [← Array.getElem?_toList, hC]
      unfold vals
      rw [List.getElem?_map, hx]
      rfl
    simpa [go_sem] using e
  · rcases (ho.keep hb).insR with e | ⟨g', o', e, -, -, hc⟩
    · rw [e] at hj; simp at hj
    · injection e with e
      injection e with e1 e2
      subst e1 e2
      have := hc j hj
      rw [Nat.zero_add] at this
      exact this
def jOk (k : Int) (s : I5) : Bool := !isJ s.o || decide (-1 ≤ s.n ∧ s.n ≤ k)
theorem jOk_of {D : List RD} {k : Int} (h : ∀ x ∈ D, x.l.all (jOk k) = true) : ∀ (i : Nat) (x : RD), D[i]? = some x → ∀ (j : Nat) (s : I5), x.l[j]? = some s → isJ s.o = true → -1 ≤ s.n ∧ s.n ≤ k := by
  intro i x hx j s hs hq
  have h1 := h x (List.mem_of_getElem? hx)
  rw [List.all_eq_true] at h1
  have h2 := h1 s (List.mem_of_getElem? hs)
  unfold jOk at h2
  rw [hq] at h2
  simpa using h2
end

section
set_option linter.unusedSimpArgs false
set_option linter.unusedVariables false
set_option maxRecDepth 100000
open Go.RowKit

def openR (b rm : Int) : List I5 := [⟨5, 5, -1, 0, b + 2⟩, ⟨1, 7, 0, 0, rm⟩, ⟨4, 6, 5, 7, 0⟩, ⟨11, 0, 6, 0, 6⟩, ⟨5, 4, -1, 0, b + 1⟩, ⟨2, 4, 4, 5, 0⟩, ⟨4, 6, 4, 7, 0⟩, ⟨11, 0, 6, 0, 4⟩, ⟨10, 0, 0, 0, 5⟩]
def roundR : List I5 := [⟨3, 4, 4, 7, 0⟩]
def putR (b a : Int) : List I5 := [⟨6, 0, 4, a, b + 4⟩, ⟨1, 7, 0, 0, 1⟩, ⟨2, 5, 5, 7, 0⟩, ⟨6, 0, -1, 5, b + 2⟩]
set_option maxHeartbeats 8000000 in
theorem iPut1 (o r a x n fr : Int) (ss : Option Addr) (sl sc pb : Nat) (rm b : Int) (gs cs bs gf cf bf : Nat) (w : World) (h : CBx w pb b) (hs : OwnT5 w bs (.slice (some ⟨gs, 0, none⟩) 1 cs) ([⟨10, 0, 0, 0, -1⟩])) (hf : OwnT5 w bf (.slice (some ⟨gf, 0, none⟩) 1 cf) ([⟨10, 0, 0, 0, 0⟩])) : Calls Tryz.prog 113 #[.agg #[.int .i64 o, .int .i64 r, .int .i64 a, .int .i64 x, .int .i64 n, .int .i64 fr, .slice ss sl sc, .func (.func 99) #[] #[.pointer (some ⟨pb, 0, none⟩)], .int .i64 rm], .slice (some ⟨gs, 0, none⟩) 1 cs, .slice (some ⟨gf, 0, none⟩) 1 cf] w fun e w' => ∃ g c, e = .returned (.slice (some ⟨g, 0, none⟩) 29 c) ∧ OwnT5 w' w.heap.size (.slice (some ⟨g, 0, none⟩) 29 c) (togL fr [lockR b, askR b 3, faultR b, openR b rm, roundR, putR b a ++ (letR b ++ [⟨10, 0, 0, 0, -1⟩]), letR b ++ [⟨10, 0, 0, 0, 0⟩]] [lockR b, askR b 3, faultR b, openR b rm, roundR, putR b a ++ (letR b ++ [⟨10, 0, 0, 0, -1⟩]), letR b ++ [⟨10, 0, 0, 0, 0⟩]]) ∧ Below w.heap.size w w' := by
  have H0S := hid_of hs
  have H0F := hid_of hf
  clear hs hf
  obtain ⟨W, hW, hx, hb, hz⟩ := SX.new w (.int .i64 o) (.int .i64 r) (.int .i64 a) (.int .i64 x) (.int .i64 n) (.int .i64 fr) (.slice ss sl sc) (.func (.func 99) #[] #[.pointer (some ⟨pb, 0, none⟩)]) (.int .i64 rm) 91
  have HC : Hid (CBx W pb b) := h.keep hb
  have HX := hid_of hx
  have HW : Hid (Below w.heap.size w W) := hb
  have HK : Hid (Below W.heap.size W W) := Below.refl _ _
  clear h hx hb
  obtain ⟨t0, t1, t2, t3, t4, t5, t6, t7, t8, tl⟩ := HX.out
  have HSS := hid_of (Row5.of (H0S.out.keep HW.out))
  have HFF := hid_of (Row5.of (H0F.out.keep HW.out))
  clear H0S H0F
  go_enter Tryz.func113, Tryz.ntmps113
  go_wp2
  go_region_held3 (fun w' => w'.cell? ⟨w.heap.size, 0, none⟩ = some (.int .i64 o) ∧ w'.cell? ⟨w.heap.size, 1, none⟩ = some (.int .i64 r) ∧ w'.cell? ⟨w.heap.size, 2, none⟩ = some (.int .i64 a) ∧ w'.cell? ⟨w.heap.size, 3, none⟩ = some (.int .i64 x) ∧ w'.cell? ⟨w.heap.size, 4, none⟩ = some (.int .i64 n) ∧ w'.cell? ⟨w.heap.size, 5, none⟩ = some (.int .i64 fr) ∧ w'.cell? ⟨w.heap.size, 6, none⟩ = some (.slice ss sl sc) ∧ w'.cell? ⟨w.heap.size, 7, none⟩ = some (.func (.func 99) #[] #[.pointer (some ⟨pb, 0, none⟩)]) ∧ w'.cell? ⟨w.heap.size, 8, none⟩ = some (.int .i64 rm)) (go_keep) (first | (go_at_call 111; refine (iSet _ _ _).mono ?_; rintro e w1 ⟨rfl, hb1⟩; have JK : Hid (Below W.heap.size W w1) := (by first | exact HK.out.trans (hb1.mono HK.out.size) | exact HK.out.drew.trans (hb1.mono HK.out.drew.size)); clear HK; have HK := JK; clear JK hb1; obtain ⟨t0, t1, t2, t3, t4, t5, t6, t7, t8, tl⟩ := HX.out.keep HK.out) | (go_at_call 123; refine (iZero _ _ _).mono ?_; rintro e w1 ⟨rfl, hb1⟩; have JK : Hid (Below W.heap.size W w1) := (by first | exact HK.out.trans (hb1.mono HK.out.size) | exact HK.out.drew.trans (hb1.mono HK.out.drew.size)); clear HK; have HK := JK; clear JK hb1; obtain ⟨t0, t1, t2, t3, t4, t5, t6, t7, t8, tl⟩ := HX.out.keep HK.out) | (go_at_call 114; refine (iJump _ _).mono ?_; rintro e w1 ⟨rfl, hb1⟩; have JK : Hid (Below W.heap.size W w1) := (by first | exact HK.out.trans (hb1.mono HK.out.size) | exact HK.out.drew.trans (hb1.mono HK.out.drew.size)); clear HK; have HK := JK; clear JK hb1; obtain ⟨t0, t1, t2, t3, t4, t5, t6, t7, t8, tl⟩ := HX.out.keep HK.out) | (go_at_call 136; refine (iAdd _ _ _).mono ?_; rintro e w1 ⟨rfl, hb1⟩; have JK : Hid (Below W.heap.size W w1) := (by first | exact HK.out.trans (hb1.mono HK.out.size) | exact HK.out.drew.trans (hb1.mono HK.out.drew.size)); clear HK; have HK := JK; clear JK hb1; obtain ⟨t0, t1, t2, t3, t4, t5, t6, t7, t8, tl⟩ := HX.out.keep HK.out) | (go_at_call 137; refine (iSub _ _ _).mono ?_; rintro e w1 ⟨rfl, hb1⟩; have JK : Hid (Below W.heap.size W w1) := (by first | exact HK.out.trans (hb1.mono HK.out.size) | exact HK.out.drew.trans (hb1.mono HK.out.drew.size)); clear HK; have HK := JK; clear JK hb1; obtain ⟨t0, t1, t2, t3, t4, t5, t6, t7, t8, tl⟩ := HX.out.keep HK.out) | (go_at_call 112; refine (iLess _ _ _ _).mono ?_; rintro e w1 ⟨rfl, hb1⟩; have JK : Hid (Below W.heap.size W w1) := (by first | exact HK.out.trans (hb1.mono HK.out.size) | exact HK.out.drew.trans (hb1.mono HK.out.drew.size)); clear HK; have HK := JK; clear JK hb1; obtain ⟨t0, t1, t2, t3, t4, t5, t6, t7, t8, tl⟩ := HX.out.keep HK.out) | (go_at_call 135; refine (iLoad o r a x n fr ss sl sc pb rm b _ _ (by omega) _ (by first | exact HC.out.keep HK.out | exact HC.out.keep HK.out.drew)).mono ?_; rintro e w1 ⟨rfl, hb1⟩; have JK : Hid (Below W.heap.size W w1) := (by first | exact HK.out.trans (hb1.mono HK.out.size) | exact HK.out.drew.trans (hb1.mono HK.out.drew.size)); clear HK; have HK := JK; clear JK hb1; obtain ⟨t0, t1, t2, t3, t4, t5, t6, t7, t8, tl⟩ := HX.out.keep HK.out) | (go_at_call 118; refine (iStore o r a x n fr ss sl sc pb rm b _ _ (by omega) _ (by first | exact HC.out.keep HK.out | exact HC.out.keep HK.out.drew)).mono ?_; rintro e w1 ⟨rfl, hb1⟩; have JK : Hid (Below W.heap.size W w1) := (by first | exact HK.out.trans (hb1.mono HK.out.size) | exact HK.out.drew.trans (hb1.mono HK.out.drew.size)); clear HK; have HK := JK; clear JK hb1; obtain ⟨t0, t1, t2, t3, t4, t5, t6, t7, t8, tl⟩ := HX.out.keep HK.out) | (go_at_call 140; refine (iLoadN o r a x n fr ss sl sc pb rm b _  _ (by first | exact HC.out.keep HK.out | exact HC.out.keep HK.out.drew)).mono ?_; rintro e w1 ⟨rfl, hb1⟩; have JK : Hid (Below W.heap.size W w1) := (by first | exact HK.out.trans (hb1.mono HK.out.size) | exact HK.out.drew.trans (hb1.mono HK.out.drew.size)); clear HK; have HK := JK; clear JK hb1; obtain ⟨t0, t1, t2, t3, t4, t5, t6, t7, t8, tl⟩ := HX.out.keep HK.out) | (go_at_call 138; refine (iStoreN o r a x n fr ss sl sc pb rm b _  _ (by first | exact HC.out.keep HK.out | exact HC.out.keep HK.out.drew)).mono ?_; rintro e w1 ⟨rfl, hb1⟩; have JK : Hid (Below W.heap.size W w1) := (by first | exact HK.out.trans (hb1.mono HK.out.size) | exact HK.out.drew.trans (hb1.mono HK.out.drew.size)); clear HK; have HK := JK; clear JK hb1; obtain ⟨t0, t1, t2, t3, t4, t5, t6, t7, t8, tl⟩ := HX.out.keep HK.out))
  first | refine name5 (P := Exit.then _ _ _ _) (openR b rm) W.heap.size 9 rfl rfl (by omega) HK.out.size ?_ | refine name5 (P := Code.wp _ _ _ _) (openR b rm) W.heap.size 9 rfl rfl (by omega) HK.out.size ?_
  intro W1 ho hb hz
  obtain ⟨gHOO, hg⟩ : ∃ g, w1.heap.size = g := ⟨_, rfl⟩
  rw [hg] at ho ⊢
  clear hg hz
  have hbn : Below W.heap.size W W1 := (HK.out.trans (hb.mono HK.out.size))
  have JX := hid_of (HX.out.keep hbn)
  have JC := hid_of (HC.out.keep hbn)
  have JW : Hid (Below w.heap.size w W1) := HW.out.trans (hbn.mono HW.out.size)
  have JHSS := hid_of (HSS.out.keep hbn)
  have JHFF := hid_of (HFF.out.keep hbn)
  have HOO := hid_of (Row5.of ho)
  clear HX HC HW HK HSS HFF
  clear t0 t1 t2 t3 t4 t5 t6 t7 t8
  have HX := JX
  clear JX
  have HC := JC
  clear JC
  have HW := JW
  clear JW
  have HSS := JHSS
  clear JHSS
  have HFF := JHFF
  clear JHFF
  have HK : Hid (Below W1.heap.size W1 W1) := Below.refl _ _
  obtain ⟨t0, t1, t2, t3, t4, t5, t6, t7, t8, tl⟩ := HX.out
  clear hbn
  clear ho hb
  go_wp2_with fail
  go_wp2_with (first | (go_at_call 111; refine (iSet _ _ _).mono ?_; rintro e w1 ⟨rfl, hb1⟩; have JK : Hid (Below W1.heap.size W1 w1) := (by first | exact HK.out.trans (hb1.mono HK.out.size) | exact HK.out.drew.trans (hb1.mono HK.out.drew.size)); clear HK; have HK := JK; clear JK hb1; obtain ⟨t0, t1, t2, t3, t4, t5, t6, t7, t8, tl⟩ := HX.out.keep HK.out) | (go_at_call 123; refine (iZero _ _ _).mono ?_; rintro e w1 ⟨rfl, hb1⟩; have JK : Hid (Below W1.heap.size W1 w1) := (by first | exact HK.out.trans (hb1.mono HK.out.size) | exact HK.out.drew.trans (hb1.mono HK.out.drew.size)); clear HK; have HK := JK; clear JK hb1; obtain ⟨t0, t1, t2, t3, t4, t5, t6, t7, t8, tl⟩ := HX.out.keep HK.out) | (go_at_call 114; refine (iJump _ _).mono ?_; rintro e w1 ⟨rfl, hb1⟩; have JK : Hid (Below W1.heap.size W1 w1) := (by first | exact HK.out.trans (hb1.mono HK.out.size) | exact HK.out.drew.trans (hb1.mono HK.out.drew.size)); clear HK; have HK := JK; clear JK hb1; obtain ⟨t0, t1, t2, t3, t4, t5, t6, t7, t8, tl⟩ := HX.out.keep HK.out) | (go_at_call 136; refine (iAdd _ _ _).mono ?_; rintro e w1 ⟨rfl, hb1⟩; have JK : Hid (Below W1.heap.size W1 w1) := (by first | exact HK.out.trans (hb1.mono HK.out.size) | exact HK.out.drew.trans (hb1.mono HK.out.drew.size)); clear HK; have HK := JK; clear JK hb1; obtain ⟨t0, t1, t2, t3, t4, t5, t6, t7, t8, tl⟩ := HX.out.keep HK.out) | (go_at_call 137; refine (iSub _ _ _).mono ?_; rintro e w1 ⟨rfl, hb1⟩; have JK : Hid (Below W1.heap.size W1 w1) := (by first | exact HK.out.trans (hb1.mono HK.out.size) | exact HK.out.drew.trans (hb1.mono HK.out.drew.size)); clear HK; have HK := JK; clear JK hb1; obtain ⟨t0, t1, t2, t3, t4, t5, t6, t7, t8, tl⟩ := HX.out.keep HK.out) | (go_at_call 112; refine (iLess _ _ _ _).mono ?_; rintro e w1 ⟨rfl, hb1⟩; have JK : Hid (Below W1.heap.size W1 w1) := (by first | exact HK.out.trans (hb1.mono HK.out.size) | exact HK.out.drew.trans (hb1.mono HK.out.drew.size)); clear HK; have HK := JK; clear JK hb1; obtain ⟨t0, t1, t2, t3, t4, t5, t6, t7, t8, tl⟩ := HX.out.keep HK.out) | (go_at_call 135; refine (iLoad o r a x n fr ss sl sc pb rm b _ _ (by omega) _ (by first | exact HC.out.keep HK.out | exact HC.out.keep HK.out.drew)).mono ?_; rintro e w1 ⟨rfl, hb1⟩; have JK : Hid (Below W1.heap.size W1 w1) := (by first | exact HK.out.trans (hb1.mono HK.out.size) | exact HK.out.drew.trans (hb1.mono HK.out.drew.size)); clear HK; have HK := JK; clear JK hb1; obtain ⟨t0, t1, t2, t3, t4, t5, t6, t7, t8, tl⟩ := HX.out.keep HK.out) | (go_at_call 118; refine (iStore o r a x n fr ss sl sc pb rm b _ _ (by omega) _ (by first | exact HC.out.keep HK.out | exact HC.out.keep HK.out.drew)).mono ?_; rintro e w1 ⟨rfl, hb1⟩; have JK : Hid (Below W1.heap.size W1 w1) := (by first | exact HK.out.trans (hb1.mono HK.out.size) | exact HK.out.drew.trans (hb1.mono HK.out.drew.size)); clear HK; have HK := JK; clear JK hb1; obtain ⟨t0, t1, t2, t3, t4, t5, t6, t7, t8, tl⟩ := HX.out.keep HK.out) | (go_at_call 140; refine (iLoadN o r a x n fr ss sl sc pb rm b _  _ (by first | exact HC.out.keep HK.out | exact HC.out.keep HK.out.drew)).mono ?_; rintro e w1 ⟨rfl, hb1⟩; have JK : Hid (Below W1.heap.size W1 w1) := (by first | exact HK.out.trans (hb1.mono HK.out.size) | exact HK.out.drew.trans (hb1.mono HK.out.drew.size)); clear HK; have HK := JK; clear JK hb1; obtain ⟨t0, t1, t2, t3, t4, t5, t6, t7, t8, tl⟩ := HX.out.keep HK.out) | (go_at_call 138; refine (iStoreN o r a x n fr ss sl sc pb rm b _  _ (by first | exact HC.out.keep HK.out | exact HC.out.keep HK.out.drew)).mono ?_; rintro e w1 ⟨rfl, hb1⟩; have JK : Hid (Below W1.heap.size W1 w1) := (by first | exact HK.out.trans (hb1.mono HK.out.size) | exact HK.out.drew.trans (hb1.mono HK.out.drew.size)); clear HK; have HK := JK; clear JK hb1; obtain ⟨t0, t1, t2, t3, t4, t5, t6, t7, t8, tl⟩ := HX.out.keep HK.out))
  first | refine name5 (P := Exit.then _ _ _ _) (roundR) W1.heap.size 1 rfl rfl (by omega) HK.out.size ?_ | refine name5 (P := Code.wp _ _ _ _) (roundR) W1.heap.size 1 rfl rfl (by omega) HK.out.size ?_
  intro W2 ho hb hz
  obtain ⟨gHRR, hg⟩ : ∃ g, w1.heap.size = g := ⟨_, rfl⟩
  rw [hg] at ho ⊢
  clear hg hz
  have hbn : Below W1.heap.size W1 W2 := (HK.out.trans (hb.mono HK.out.size))
  have JX := hid_of (HX.out.keep hbn)
  have JC := hid_of (HC.out.keep hbn)
  have JW : Hid (Below w.heap.size w W2) := HW.out.trans (hbn.mono HW.out.size)
  have JHSS := hid_of (HSS.out.keep hbn)
  have JHFF := hid_of (HFF.out.keep hbn)
  have JHOO := hid_of (HOO.out.keep hbn)
  have HRR := hid_of (Row5.of ho)
  clear HX HC HW HK HSS HFF HOO
  clear t0 t1 t2 t3 t4 t5 t6 t7 t8
  have HX := JX
  clear JX
  have HC := JC
  clear JC
  have HW := JW
  clear JW
  have HSS := JHSS
  clear JHSS
  have HFF := JHFF
  clear JHFF
  have HOO := JHOO
  clear JHOO
  have HK : Hid (Below W2.heap.size W2 W2) := Below.refl _ _
  obtain ⟨t0, t1, t2, t3, t4, t5, t6, t7, t8, tl⟩ := HX.out
  clear hbn
  clear ho hb
  go_region_held3 (fun w' => w'.cell? ⟨w.heap.size, 0, none⟩ = some (.int .i64 o) ∧ w'.cell? ⟨w.heap.size, 1, none⟩ = some (.int .i64 r) ∧ w'.cell? ⟨w.heap.size, 2, none⟩ = some (.int .i64 a) ∧ w'.cell? ⟨w.heap.size, 3, none⟩ = some (.int .i64 x) ∧ w'.cell? ⟨w.heap.size, 4, none⟩ = some (.int .i64 n) ∧ w'.cell? ⟨w.heap.size, 5, none⟩ = some (.int .i64 fr) ∧ w'.cell? ⟨w.heap.size, 6, none⟩ = some (.slice ss sl sc) ∧ w'.cell? ⟨w.heap.size, 7, none⟩ = some (.func (.func 99) #[] #[.pointer (some ⟨pb, 0, none⟩)]) ∧ w'.cell? ⟨w.heap.size, 8, none⟩ = some (.int .i64 rm)) (go_keep) (first | (go_at_call 111; refine (iSet _ _ _).mono ?_; rintro e w1 ⟨rfl, hb1⟩; have JK : Hid (Below W2.heap.size W2 w1) := (by first | exact HK.out.trans (hb1.mono HK.out.size) | exact HK.out.drew.trans (hb1.mono HK.out.drew.size)); clear HK; have HK := JK; clear JK hb1; obtain ⟨t0, t1, t2, t3, t4, t5, t6, t7, t8, tl⟩ := HX.out.keep HK.out) | (go_at_call 123; refine (iZero _ _ _).mono ?_; rintro e w1 ⟨rfl, hb1⟩; have JK : Hid (Below W2.heap.size W2 w1) := (by first | exact HK.out.trans (hb1.mono HK.out.size) | exact HK.out.drew.trans (hb1.mono HK.out.drew.size)); clear HK; have HK := JK; clear JK hb1; obtain ⟨t0, t1, t2, t3, t4, t5, t6, t7, t8, tl⟩ := HX.out.keep HK.out) | (go_at_call 114; refine (iJump _ _).mono ?_; rintro e w1 ⟨rfl, hb1⟩; have JK : Hid (Below W2.heap.size W2 w1) := (by first | exact HK.out.trans (hb1.mono HK.out.size) | exact HK.out.drew.trans (hb1.mono HK.out.drew.size)); clear HK; have HK := JK; clear JK hb1; obtain ⟨t0, t1, t2, t3, t4, t5, t6, t7, t8, tl⟩ := HX.out.keep HK.out) | (go_at_call 136; refine (iAdd _ _ _).mono ?_; rintro e w1 ⟨rfl, hb1⟩; have JK : Hid (Below W2.heap.size W2 w1) := (by first | exact HK.out.trans (hb1.mono HK.out.size) | exact HK.out.drew.trans (hb1.mono HK.out.drew.size)); clear HK; have HK := JK; clear JK hb1; obtain ⟨t0, t1, t2, t3, t4, t5, t6, t7, t8, tl⟩ := HX.out.keep HK.out) | (go_at_call 137; refine (iSub _ _ _).mono ?_; rintro e w1 ⟨rfl, hb1⟩; have JK : Hid (Below W2.heap.size W2 w1) := (by first | exact HK.out.trans (hb1.mono HK.out.size) | exact HK.out.drew.trans (hb1.mono HK.out.drew.size)); clear HK; have HK := JK; clear JK hb1; obtain ⟨t0, t1, t2, t3, t4, t5, t6, t7, t8, tl⟩ := HX.out.keep HK.out) | (go_at_call 112; refine (iLess _ _ _ _).mono ?_; rintro e w1 ⟨rfl, hb1⟩; have JK : Hid (Below W2.heap.size W2 w1) := (by first | exact HK.out.trans (hb1.mono HK.out.size) | exact HK.out.drew.trans (hb1.mono HK.out.drew.size)); clear HK; have HK := JK; clear JK hb1; obtain ⟨t0, t1, t2, t3, t4, t5, t6, t7, t8, tl⟩ := HX.out.keep HK.out) | (go_at_call 135; refine (iLoad o r a x n fr ss sl sc pb rm b _ _ (by omega) _ (by first | exact HC.out.keep HK.out | exact HC.out.keep HK.out.drew)).mono ?_; rintro e w1 ⟨rfl, hb1⟩; have JK : Hid (Below W2.heap.size W2 w1) := (by first | exact HK.out.trans (hb1.mono HK.out.size) | exact HK.out.drew.trans (hb1.mono HK.out.drew.size)); clear HK; have HK := JK; clear JK hb1; obtain ⟨t0, t1, t2, t3, t4, t5, t6, t7, t8, tl⟩ := HX.out.keep HK.out) | (go_at_call 118; refine (iStore o r a x n fr ss sl sc pb rm b _ _ (by omega) _ (by first | exact HC.out.keep HK.out | exact HC.out.keep HK.out.drew)).mono ?_; rintro e w1 ⟨rfl, hb1⟩; have JK : Hid (Below W2.heap.size W2 w1) := (by first | exact HK.out.trans (hb1.mono HK.out.size) | exact HK.out.drew.trans (hb1.mono HK.out.drew.size)); clear HK; have HK := JK; clear JK hb1; obtain ⟨t0, t1, t2, t3, t4, t5, t6, t7, t8, tl⟩ := HX.out.keep HK.out) | (go_at_call 140; refine (iLoadN o r a x n fr ss sl sc pb rm b _  _ (by first | exact HC.out.keep HK.out | exact HC.out.keep HK.out.drew)).mono ?_; rintro e w1 ⟨rfl, hb1⟩; have JK : Hid (Below W2.heap.size W2 w1) := (by first | exact HK.out.trans (hb1.mono HK.out.size) | exact HK.out.drew.trans (hb1.mono HK.out.drew.size)); clear HK; have HK := JK; clear JK hb1; obtain ⟨t0, t1, t2, t3, t4, t5, t6, t7, t8, tl⟩ := HX.out.keep HK.out) | (go_at_call 138; refine (iStoreN o r a x n fr ss sl sc pb rm b _  _ (by first | exact HC.out.keep HK.out | exact HC.out.keep HK.out.drew)).mono ?_; rintro e w1 ⟨rfl, hb1⟩; have JK : Hid (Below W2.heap.size W2 w1) := (by first | exact HK.out.trans (hb1.mono HK.out.size) | exact HK.out.drew.trans (hb1.mono HK.out.drew.size)); clear HK; have HK := JK; clear JK hb1; obtain ⟨t0, t1, t2, t3, t4, t5, t6, t7, t8, tl⟩ := HX.out.keep HK.out))
  refine name5 (P := Exit.then _ _ _ _) (putR b a) W2.heap.size 4 rfl rfl (by omega) HK.out.size ?_
  intro W3 ho hb hz
  obtain ⟨gHPO, hg⟩ : ∃ g, w1.heap.size = g := ⟨_, rfl⟩
  rw [hg] at ho ⊢
  clear hg hz
  have HPO := hid_of ho
  have JK : Hid (Below W2.heap.size W2 W3) := HK.out.trans (hb.mono HK.out.size)
  clear HK ho hb
  have HK := JK
  clear JK
  obtain ⟨t0, t1, t2, t3, t4, t5, t6, t7, t8, tl⟩ := HX.out.keep HK.out
  go_wp2_with (first | (go_at_call 139; refine (iLetThen o r a x n fr ss sl sc pb rm b gs 1 cs _ ([⟨10, 0, 0, 0, -1⟩]) _ (by first | exact HC.out.keep HK.out | exact HC.out.keep HK.out.drew) (by first | exact (HSS.out.keep HK.out).o.choose_spec | exact (HSS.out.keep HK.out.drew).o.choose_spec) (by omega) (by omega) 3 rfl).mono ?_; rintro e w1 ⟨g1, c1, rfl, ho1, hb1⟩; have J0 := hid_of (HPO.out.keep hb1); clear HPO; have HPO := J0; clear J0; have HG := hid_of ho1; clear ho1; have JK : Hid (Below W2.heap.size W2 w1) := (by first | exact HK.out.trans (hb1.mono HK.out.size) | exact HK.out.drew.trans (hb1.mono HK.out.drew.size)); clear HK; have HK := JK; clear JK hb1; obtain ⟨t0, t1, t2, t3, t4, t5, t6, t7, t8, tl⟩ := HX.out.keep HK.out) | (at_builtin; refine app5 rfl _ _ rfl w1 W2.heap.size (.slice (some ⟨gHPO, 0, none⟩) 4 4) (putR b a) rfl HPO.out _ g1 3 c1 (letR b ++ [⟨10, 0, 0, 0, -1⟩]) rfl HG.out rfl (by omega) (by first | exact Nat.le_of_ble_eq_true rfl | decide) 7 rfl HK.out.size ?_; intro gQ cQ w2 ho2 hb2; have JK : Hid (Below W2.heap.size W2 w2) := HK.out.trans hb2; clear HK; have HK := JK; clear JK; have HQ := hid_of (Row5.of ho2); clear ho2 hb2; obtain ⟨t0, t1, t2, t3, t4, t5, t6, t7, t8, tl⟩ := HX.out.keep HK.out))
  have hbn : Below W2.heap.size W2 w2 := HK.out
  have JX := hid_of (HX.out.keep hbn)
  have JC := hid_of (HC.out.keep hbn)
  have JW : Hid (Below w.heap.size w w2) := HW.out.trans (hbn.mono HW.out.size)
  have JHSS := hid_of (HSS.out.keep hbn)
  have JHFF := hid_of (HFF.out.keep hbn)
  have JHOO := hid_of (HOO.out.keep hbn)
  have JHRR := hid_of (HRR.out.keep hbn)
  clear HX HC HW HK HSS HFF HOO HRR
  clear t0 t1 t2 t3 t4 t5 t6 t7 t8
  have HX := JX
  clear JX
  have HC := JC
  clear JC
  have HW := JW
  clear JW
  have HSS := JHSS
  clear JHSS
  have HFF := JHFF
  clear JHFF
  have HOO := JHOO
  clear JHOO
  have HRR := JHRR
  clear JHRR
  have HK : Hid (Below w2.heap.size w2 w2) := Below.refl _ _
  obtain ⟨t0, t1, t2, t3, t4, t5, t6, t7, t8, tl⟩ := HX.out
  clear hbn
  go_region_held3 (fun w' => w'.cell? ⟨w.heap.size, 0, none⟩ = some (.int .i64 o) ∧ w'.cell? ⟨w.heap.size, 1, none⟩ = some (.int .i64 r) ∧ w'.cell? ⟨w.heap.size, 2, none⟩ = some (.int .i64 a) ∧ w'.cell? ⟨w.heap.size, 3, none⟩ = some (.int .i64 x) ∧ w'.cell? ⟨w.heap.size, 4, none⟩ = some (.int .i64 n) ∧ w'.cell? ⟨w.heap.size, 5, none⟩ = some (.int .i64 fr) ∧ w'.cell? ⟨w.heap.size, 6, none⟩ = some (.slice ss sl sc) ∧ w'.cell? ⟨w.heap.size, 7, none⟩ = some (.func (.func 99) #[] #[.pointer (some ⟨pb, 0, none⟩)]) ∧ w'.cell? ⟨w.heap.size, 8, none⟩ = some (.int .i64 rm)) (go_keep) (first | (go_at_call 120; refine (iAsk o r a x n fr ss sl sc pb rm b 3 _ (by first | exact HC.out.keep HK.out | exact HC.out.keep HK.out.drew)).mono ?_; rintro e w1 ⟨gA, cA, rfl, hoA, hb1⟩; have HA := hid_of (Row5.of hoA); clear hoA; have JK : Hid (Below w2.heap.size w2 w1) := (by first | exact HK.out.trans (hb1.mono HK.out.size) | exact HK.out.drew.trans (hb1.mono HK.out.drew.size)); clear HK; have HK := JK; clear JK hb1; obtain ⟨t0, t1, t2, t3, t4, t5, t6, t7, t8, tl⟩ := HX.out.keep HK.out) | (go_at_call 121; refine (iFault o r a x n fr ss sl sc pb rm b _ (by first | exact HC.out.keep HK.out | exact HC.out.keep HK.out.drew)).mono ?_; rintro e w1 ⟨gE, cE, rfl, hoE, hb1⟩; have HE := hid_of (Row5.of hoE); have J0 := hid_of (HA.out.keep hb1); clear HA; have HA := J0; clear J0 hoE; have JK : Hid (Below w2.heap.size w2 w1) := (by first | exact HK.out.trans (hb1.mono HK.out.size) | exact HK.out.drew.trans (hb1.mono HK.out.drew.size)); clear HK; have HK := JK; clear JK hb1; obtain ⟨t0, t1, t2, t3, t4, t5, t6, t7, t8, tl⟩ := HX.out.keep HK.out) | (go_at_call 139; refine (iLetThen o r a x n fr ss sl sc pb rm b gf 1 cf _ ([⟨10, 0, 0, 0, 0⟩]) _ (by first | exact HC.out.keep HK.out | exact HC.out.keep HK.out.drew) (by first | exact (HFF.out.keep HK.out).o.choose_spec | exact (HFF.out.keep HK.out.drew).o.choose_spec) (by omega) (by omega) 3 rfl).mono ?_; rintro e w1 ⟨gU, cU, rfl, hoU, hb1⟩; have HU := hid_of (Row5.of hoU); have J0 := hid_of (HA.out.keep hb1); clear HA; have HA := J0; clear J0; have J0 := hid_of (HE.out.keep hb1); clear HE; have HE := J0; clear J0 hoU; have JK : Hid (Below w2.heap.size w2 w1) := (by first | exact HK.out.trans (hb1.mono HK.out.size) | exact HK.out.drew.trans (hb1.mono HK.out.drew.size)); clear HK; have HK := JK; clear JK hb1; obtain ⟨t0, t1, t2, t3, t4, t5, t6, t7, t8, tl⟩ := HX.out.keep HK.out) | (go_at_call 119; refine (iUnder o r a x n fr ss sl sc pb rm b w1.heap.size 6 [⟨gA, cA, askR b 3⟩, ⟨gE, cE, faultR b⟩, ⟨gHOO, 9, openR b rm⟩, ⟨gHRR, 1, roundR⟩, ⟨gQ, cQ, putR b a ++ (letR b ++ [⟨10, 0, 0, 0, -1⟩])⟩, ⟨gU, cU, letR b ++ [⟨10, 0, 0, 0, 0⟩]⟩] _ ((HC.out.keep HK.out).keep ((Below.refl _ _).alloc (Nat.le_refl _) _)) (parts_new w1 _ _ rfl (fun y hy => by simp only [List.mem_cons, List.not_mem_nil, or_false] at hy; rcases hy with rfl | rfl | rfl | rfl | rfl | rfl; (exact HA.out); (exact HE.out); (exact (HOO.out.keep HK.out)); (exact (HRR.out.keep HK.out)); (exact (HQ.out.keep HK.out)); (exact HU.out))) (by first | exact Nat.le_of_ble_eq_true rfl | decide) (by first | exact Nat.le_of_ble_eq_true rfl | decide) (by first | exact Nat.le_of_ble_eq_true rfl | decide) (jOk_of (fun y hy => by simp only [List.mem_cons, List.not_mem_nil, or_false] at hy; rcases hy with rfl | rfl | rfl | rfl | rfl | rfl <;> simp [jOk, isJ, askR, faultR, letR, openR, roundR, putR, triedR])) 29 rfl).mono ?_; rintro e w5 ⟨g5, c5, rfl, ho5, hb5⟩; have hb6 : Below w1.heap.size w1 w5 := ((Below.refl _ _).alloc (Nat.le_refl _) _).trans (hb5.mono (by simp)); have HO5 := hid_of ho5; have HB5 := hid_of hb6; have JK : Hid (Below w2.heap.size w2 w5) := HK.out.trans (hb6.mono HK.out.size); obtain ⟨t0, t1, t2, t3, t4, t5, t6, t7, t8, tl⟩ := HX.out.keep JK.out; clear ho5 hb5 hb6))
  go_wp2
  go_ret
  have hz1 := HW.out.size
  have hz2 := HK.out.size
  exact ⟨_, _, rfl, HO5.out.low (by simp; omega), HW.out.trans (JK.out.mono hz1)⟩
set_option maxHeartbeats 8000000 in
theorem iPut2 (o r a x n fr : Int) (ss : Option Addr) (sl sc pb : Nat) (rm b : Int) (gs cs bs gf cf bf : Nat) (w : World) (h : CBx w pb b) (hs : OwnT5 w bs (.slice (some ⟨gs, 0, none⟩) 2 cs) (triedR r 1)) (hf : OwnT5 w bf (.slice (some ⟨gf, 0, none⟩) 2 cf) (triedR r 0)) : Calls Tryz.prog 113 #[.agg #[.int .i64 o, .int .i64 r, .int .i64 a, .int .i64 x, .int .i64 n, .int .i64 fr, .slice ss sl sc, .func (.func 99) #[] #[.pointer (some ⟨pb, 0, none⟩)], .int .i64 rm], .slice (some ⟨gs, 0, none⟩) 2 cs, .slice (some ⟨gf, 0, none⟩) 2 cf] w fun e w' => ∃ g c, e = .returned (.slice (some ⟨g, 0, none⟩) 31 c) ∧ OwnT5 w' w.heap.size (.slice (some ⟨g, 0, none⟩) 31 c) (togL fr [lockR b, askR b 3, faultR b, openR b rm, roundR, putR b a ++ (letR b ++ triedR r 1), letR b ++ triedR r 0] [lockR b, askR b 3, faultR b, openR b rm, roundR, putR b a ++ (letR b ++ triedR r 1), letR b ++ triedR r 0]) ∧ Below w.heap.size w w' := by
  have H0S := hid_of hs
  have H0F := hid_of hf
  clear hs hf
  obtain ⟨W, hW, hx, hb, hz⟩ := SX.new w (.int .i64 o) (.int .i64 r) (.int .i64 a) (.int .i64 x) (.int .i64 n) (.int .i64 fr) (.slice ss sl sc) (.func (.func 99) #[] #[.pointer (some ⟨pb, 0, none⟩)]) (.int .i64 rm) 91
  have HC : Hid (CBx W pb b) := h.keep hb
  have HX := hid_of hx
  have HW : Hid (Below w.heap.size w W) := hb
  have HK : Hid (Below W.heap.size W W) := Below.refl _ _
  clear h hx hb
  obtain ⟨t0, t1, t2, t3, t4, t5, t6, t7, t8, tl⟩ := HX.out
  have HSS := hid_of (Row5.of (H0S.out.keep HW.out))
  have HFF := hid_of (Row5.of (H0F.out.keep HW.out))
  clear H0S H0F
  go_enter Tryz.func113, Tryz.ntmps113
  go_wp2
  go_region_held3 (fun w' => w'.cell? ⟨w.heap.size, 0, none⟩ = some (.int .i64 o) ∧ w'.cell? ⟨w.heap.size, 1, none⟩ = some (.int .i64 r) ∧ w'.cell? ⟨w.heap.size, 2, none⟩ = some (.int .i64 a) ∧ w'.cell? ⟨w.heap.size, 3, none⟩ = some (.int .i64 x) ∧ w'.cell? ⟨w.heap.size, 4, none⟩ = some (.int .i64 n) ∧ w'.cell? ⟨w.heap.size, 5, none⟩ = some (.int .i64 fr) ∧ w'.cell? ⟨w.heap.size, 6, none⟩ = some (.slice ss sl sc) ∧ w'.cell? ⟨w.heap.size, 7, none⟩ = some (.func (.func 99) #[] #[.pointer (some ⟨pb, 0, none⟩)]) ∧ w'.cell? ⟨w.heap.size, 8, none⟩ = some (.int .i64 rm)) (go_keep) (first | (go_at_call 111; refine (iSet _ _ _).mono ?_; rintro e w1 ⟨rfl, hb1⟩; have JK : Hid (Below W.heap.size W w1) := (by first | exact HK.out.trans (hb1.mono HK.out.size) | exact HK.out.drew.trans (hb1.mono HK.out.drew.size)); clear HK; have HK := JK; clear JK hb1; obtain ⟨t0, t1, t2, t3, t4, t5, t6, t7, t8, tl⟩ := HX.out.keep HK.out) | (go_at_call 123; refine (iZero _ _ _).mono ?_; rintro e w1 ⟨rfl, hb1⟩; have JK : Hid (Below W.heap.size W w1) := (by first | exact HK.out.trans (hb1.mono HK.out.size) | exact HK.out.drew.trans (hb1.mono HK.out.drew.size)); clear HK; have HK := JK; clear JK hb1; obtain ⟨t0, t1, t2, t3, t4, t5, t6, t7, t8, tl⟩ := HX.out.keep HK.out) | (go_at_call 114; refine (iJump _ _).mono ?_; rintro e w1 ⟨rfl, hb1⟩; have JK : Hid (Below W.heap.size W w1) := (by first | exact HK.out.trans (hb1.mono HK.out.size) | exact HK.out.drew.trans (hb1.mono HK.out.drew.size)); clear HK; have HK := JK; clear JK hb1; obtain ⟨t0, t1, t2, t3, t4, t5, t6, t7, t8, tl⟩ := HX.out.keep HK.out) | (go_at_call 136; refine (iAdd _ _ _).mono ?_; rintro e w1 ⟨rfl, hb1⟩; have JK : Hid (Below W.heap.size W w1) := (by first | exact HK.out.trans (hb1.mono HK.out.size) | exact HK.out.drew.trans (hb1.mono HK.out.drew.size)); clear HK; have HK := JK; clear JK hb1; obtain ⟨t0, t1, t2, t3, t4, t5, t6, t7, t8, tl⟩ := HX.out.keep HK.out) | (go_at_call 137; refine (iSub _ _ _).mono ?_; rintro e w1 ⟨rfl, hb1⟩; have JK : Hid (Below W.heap.size W w1) := (by first | exact HK.out.trans (hb1.mono HK.out.size) | exact HK.out.drew.trans (hb1.mono HK.out.drew.size)); clear HK; have HK := JK; clear JK hb1; obtain ⟨t0, t1, t2, t3, t4, t5, t6, t7, t8, tl⟩ := HX.out.keep HK.out) | (go_at_call 112; refine (iLess _ _ _ _).mono ?_; rintro e w1 ⟨rfl, hb1⟩; have JK : Hid (Below W.heap.size W w1) := (by first | exact HK.out.trans (hb1.mono HK.out.size) | exact HK.out.drew.trans (hb1.mono HK.out.drew.size)); clear HK; have HK := JK; clear JK hb1; obtain ⟨t0, t1, t2, t3, t4, t5, t6, t7, t8, tl⟩ := HX.out.keep HK.out) | (go_at_call 135; refine (iLoad o r a x n fr ss sl sc pb rm b _ _ (by omega) _ (by first | exact HC.out.keep HK.out | exact HC.out.keep HK.out.drew)).mono ?_; rintro e w1 ⟨rfl, hb1⟩; have JK : Hid (Below W.heap.size W w1) := (by first | exact HK.out.trans (hb1.mono HK.out.size) | exact HK.out.drew.trans (hb1.mono HK.out.drew.size)); clear HK; have HK := JK; clear JK hb1; obtain ⟨t0, t1, t2, t3, t4, t5, t6, t7, t8, tl⟩ := HX.out.keep HK.out) | (go_at_call 118; refine (iStore o r a x n fr ss sl sc pb rm b _ _ (by omega) _ (by first | exact HC.out.keep HK.out | exact HC.out.keep HK.out.drew)).mono ?_; rintro e w1 ⟨rfl, hb1⟩; have JK : Hid (Below W.heap.size W w1) := (by first | exact HK.out.trans (hb1.mono HK.out.size) | exact HK.out.drew.trans (hb1.mono HK.out.drew.size)); clear HK; have HK := JK; clear JK hb1; obtain ⟨t0, t1, t2, t3, t4, t5, t6, t7, t8, tl⟩ := HX.out.keep HK.out) | (go_at_call 140; refine (iLoadN o r a x n fr ss sl sc pb rm b _  _ (by first | exact HC.out.keep HK.out | exact HC.out.keep HK.out.drew)).mono ?_; rintro e w1 ⟨rfl, hb1⟩; have JK : Hid (Below W.heap.size W w1) := (by first | exact HK.out.trans (hb1.mono HK.out.size) | exact HK.out.drew.trans (hb1.mono HK.out.drew.size)); clear HK; have HK := JK; clear JK hb1; obtain ⟨t0, t1, t2, t3, t4, t5, t6, t7, t8, tl⟩ := HX.out.keep HK.out) | (go_at_call 138; refine (iStoreN o r a x n fr ss sl sc pb rm b _  _ (by first | exact HC.out.keep HK.out | exact HC.out.keep HK.out.drew)).mono ?_; rintro e w1 ⟨rfl, hb1⟩; have JK : Hid (Below W.heap.size W w1) := (by first | exact HK.out.trans (hb1.mono HK.out.size) | exact HK.out.drew.trans (hb1.mono HK.out.drew.size)); clear HK; have HK := JK; clear JK hb1; obtain ⟨t0, t1, t2, t3, t4, t5, t6, t7, t8, tl⟩ := HX.out.keep HK.out))
  first | refine name5 (P := Exit.then _ _ _ _) (openR b rm) W.heap.size 9 rfl rfl (by omega) HK.out.size ?_ | refine name5 (P := Code.wp _ _ _ _) (openR b rm) W.heap.size 9 rfl rfl (by omega) HK.out.size ?_
  intro W1 ho hb hz
  obtain ⟨gHOO, hg⟩ : ∃ g, w1.heap.size = g := ⟨_, rfl⟩
  rw [hg] at ho ⊢
  clear hg hz
  have hbn : Below W.heap.size W W1 := (HK.out.trans (hb.mono HK.out.size))
  have JX := hid_of (HX.out.keep hbn)
  have JC := hid_of (HC.out.keep hbn)
  have JW : Hid (Below w.heap.size w W1) := HW.out.trans (hbn.mono HW.out.size)
  have JHSS := hid_of (HSS.out.keep hbn)
  have JHFF := hid_of (HFF.out.keep hbn)
  have HOO := hid_of (Row5.of ho)
  clear HX HC HW HK HSS HFF
  clear t0 t1 t2 t3 t4 t5 t6 t7 t8
  have HX := JX
  clear JX
  have HC := JC
  clear JC
  have HW := JW
  clear JW
  have HSS := JHSS
  clear JHSS
  have HFF := JHFF
  clear JHFF
  have HK : Hid (Below W1.heap.size W1 W1) := Below.refl _ _
  obtain ⟨t0, t1, t2, t3, t4, t5, t6, t7, t8, tl⟩ := HX.out
  clear hbn
  clear ho hb
  go_wp2_with fail
  go_wp2_with (first | (go_at_call 111; refine (iSet _ _ _).mono ?_; rintro e w1 ⟨rfl, hb1⟩; have JK : Hid (Below W1.heap.size W1 w1) := (by first | exact HK.out.trans (hb1.mono HK.out.size) | exact HK.out.drew.trans (hb1.mono HK.out.drew.size)); clear HK; have HK := JK; clear JK hb1; obtain ⟨t0, t1, t2, t3, t4, t5, t6, t7, t8, tl⟩ := HX.out.keep HK.out) | (go_at_call 123; refine (iZero _ _ _).mono ?_; rintro e w1 ⟨rfl, hb1⟩; have JK : Hid (Below W1.heap.size W1 w1) := (by first | exact HK.out.trans (hb1.mono HK.out.size) | exact HK.out.drew.trans (hb1.mono HK.out.drew.size)); clear HK; have HK := JK; clear JK hb1; obtain ⟨t0, t1, t2, t3, t4, t5, t6, t7, t8, tl⟩ := HX.out.keep HK.out) | (go_at_call 114; refine (iJump _ _).mono ?_; rintro e w1 ⟨rfl, hb1⟩; have JK : Hid (Below W1.heap.size W1 w1) := (by first | exact HK.out.trans (hb1.mono HK.out.size) | exact HK.out.drew.trans (hb1.mono HK.out.drew.size)); clear HK; have HK := JK; clear JK hb1; obtain ⟨t0, t1, t2, t3, t4, t5, t6, t7, t8, tl⟩ := HX.out.keep HK.out) | (go_at_call 136; refine (iAdd _ _ _).mono ?_; rintro e w1 ⟨rfl, hb1⟩; have JK : Hid (Below W1.heap.size W1 w1) := (by first | exact HK.out.trans (hb1.mono HK.out.size) | exact HK.out.drew.trans (hb1.mono HK.out.drew.size)); clear HK; have HK := JK; clear JK hb1; obtain ⟨t0, t1, t2, t3, t4, t5, t6, t7, t8, tl⟩ := HX.out.keep HK.out) | (go_at_call 137; refine (iSub _ _ _).mono ?_; rintro e w1 ⟨rfl, hb1⟩; have JK : Hid (Below W1.heap.size W1 w1) := (by first | exact HK.out.trans (hb1.mono HK.out.size) | exact HK.out.drew.trans (hb1.mono HK.out.drew.size)); clear HK; have HK := JK; clear JK hb1; obtain ⟨t0, t1, t2, t3, t4, t5, t6, t7, t8, tl⟩ := HX.out.keep HK.out) | (go_at_call 112; refine (iLess _ _ _ _).mono ?_; rintro e w1 ⟨rfl, hb1⟩; have JK : Hid (Below W1.heap.size W1 w1) := (by first | exact HK.out.trans (hb1.mono HK.out.size) | exact HK.out.drew.trans (hb1.mono HK.out.drew.size)); clear HK; have HK := JK; clear JK hb1; obtain ⟨t0, t1, t2, t3, t4, t5, t6, t7, t8, tl⟩ := HX.out.keep HK.out) | (go_at_call 135; refine (iLoad o r a x n fr ss sl sc pb rm b _ _ (by omega) _ (by first | exact HC.out.keep HK.out | exact HC.out.keep HK.out.drew)).mono ?_; rintro e w1 ⟨rfl, hb1⟩; have JK : Hid (Below W1.heap.size W1 w1) := (by first | exact HK.out.trans (hb1.mono HK.out.size) | exact HK.out.drew.trans (hb1.mono HK.out.drew.size)); clear HK; have HK := JK; clear JK hb1; obtain ⟨t0, t1, t2, t3, t4, t5, t6, t7, t8, tl⟩ := HX.out.keep HK.out) | (go_at_call 118; refine (iStore o r a x n fr ss sl sc pb rm b _ _ (by omega) _ (by first | exact HC.out.keep HK.out | exact HC.out.keep HK.out.drew)).mono ?_; rintro e w1 ⟨rfl, hb1⟩; have JK : Hid (Below W1.heap.size W1 w1) := (by first | exact HK.out.trans (hb1.mono HK.out.size) | exact HK.out.drew.trans (hb1.mono HK.out.drew.size)); clear HK; have HK := JK; clear JK hb1; obtain ⟨t0, t1, t2, t3, t4, t5, t6, t7, t8, tl⟩ := HX.out.keep HK.out) | (go_at_call 140; refine (iLoadN o r a x n fr ss sl sc pb rm b _  _ (by first | exact HC.out.keep HK.out | exact HC.out.keep HK.out.drew)).mono ?_; rintro e w1 ⟨rfl, hb1⟩; have JK : Hid (Below W1.heap.size W1 w1) := (by first | exact HK.out.trans (hb1.mono HK.out.size) | exact HK.out.drew.trans (hb1.mono HK.out.drew.size)); clear HK; have HK := JK; clear JK hb1; obtain ⟨t0, t1, t2, t3, t4, t5, t6, t7, t8, tl⟩ := HX.out.keep HK.out) | (go_at_call 138; refine (iStoreN o r a x n fr ss sl sc pb rm b _  _ (by first | exact HC.out.keep HK.out | exact HC.out.keep HK.out.drew)).mono ?_; rintro e w1 ⟨rfl, hb1⟩; have JK : Hid (Below W1.heap.size W1 w1) := (by first | exact HK.out.trans (hb1.mono HK.out.size) | exact HK.out.drew.trans (hb1.mono HK.out.drew.size)); clear HK; have HK := JK; clear JK hb1; obtain ⟨t0, t1, t2, t3, t4, t5, t6, t7, t8, tl⟩ := HX.out.keep HK.out))
  first | refine name5 (P := Exit.then _ _ _ _) (roundR) W1.heap.size 1 rfl rfl (by omega) HK.out.size ?_ | refine name5 (P := Code.wp _ _ _ _) (roundR) W1.heap.size 1 rfl rfl (by omega) HK.out.size ?_
  intro W2 ho hb hz
  obtain ⟨gHRR, hg⟩ : ∃ g, w1.heap.size = g := ⟨_, rfl⟩
  rw [hg] at ho ⊢
  clear hg hz
  have hbn : Below W1.heap.size W1 W2 := (HK.out.trans (hb.mono HK.out.size))
  have JX := hid_of (HX.out.keep hbn)
  have JC := hid_of (HC.out.keep hbn)
  have JW : Hid (Below w.heap.size w W2) := HW.out.trans (hbn.mono HW.out.size)
  have JHSS := hid_of (HSS.out.keep hbn)
  have JHFF := hid_of (HFF.out.keep hbn)
  have JHOO := hid_of (HOO.out.keep hbn)
  have HRR := hid_of (Row5.of ho)
  clear HX HC HW HK HSS HFF HOO
  clear t0 t1 t2 t3 t4 t5 t6 t7 t8
  have HX := JX
  clear JX
  have HC := JC
  clear JC
  have HW := JW
  clear JW
  have HSS := JHSS
  clear JHSS
  have HFF := JHFF
  clear JHFF
  have HOO := JHOO
  clear JHOO
  have HK : Hid (Below W2.heap.size W2 W2) := Below.refl _ _
  obtain ⟨t0, t1, t2, t3, t4, t5, t6, t7, t8, tl⟩ := HX.out
  clear hbn
  clear ho hb
  go_region_held3 (fun w' => w'.cell? ⟨w.heap.size, 0, none⟩ = some (.int .i64 o) ∧ w'.cell? ⟨w.heap.size, 1, none⟩ = some (.int .i64 r) ∧ w'.cell? ⟨w.heap.size, 2, none⟩ = some (.int .i64 a) ∧ w'.cell? ⟨w.heap.size, 3, none⟩ = some (.int .i64 x) ∧ w'.cell? ⟨w.heap.size, 4, none⟩ = some (.int .i64 n) ∧ w'.cell? ⟨w.heap.size, 5, none⟩ = some (.int .i64 fr) ∧ w'.cell? ⟨w.heap.size, 6, none⟩ = some (.slice ss sl sc) ∧ w'.cell? ⟨w.heap.size, 7, none⟩ = some (.func (.func 99) #[] #[.pointer (some ⟨pb, 0, none⟩)]) ∧ w'.cell? ⟨w.heap.size, 8, none⟩ = some (.int .i64 rm)) (go_keep) (first | (go_at_call 111; refine (iSet _ _ _).mono ?_; rintro e w1 ⟨rfl, hb1⟩; have JK : Hid (Below W2.heap.size W2 w1) := (by first | exact HK.out.trans (hb1.mono HK.out.size) | exact HK.out.drew.trans (hb1.mono HK.out.drew.size)); clear HK; have HK := JK; clear JK hb1; obtain ⟨t0, t1, t2, t3, t4, t5, t6, t7, t8, tl⟩ := HX.out.keep HK.out) | (go_at_call 123; refine (iZero _ _ _).mono ?_; rintro e w1 ⟨rfl, hb1⟩; have JK : Hid (Below W2.heap.size W2 w1) := (by first | exact HK.out.trans (hb1.mono HK.out.size) | exact HK.out.drew.trans (hb1.mono HK.out.drew.size)); clear HK; have HK := JK; clear JK hb1; obtain ⟨t0, t1, t2, t3, t4, t5, t6, t7, t8, tl⟩ := HX.out.keep HK.out) | (go_at_call 114; refine (iJump _ _).mono ?_; rintro e w1 ⟨rfl, hb1⟩; have JK : Hid (Below W2.heap.size W2 w1) := (by first | exact HK.out.trans (hb1.mono HK.out.size) | exact HK.out.drew.trans (hb1.mono HK.out.drew.size)); clear HK; have HK := JK; clear JK hb1; obtain ⟨t0, t1, t2, t3, t4, t5, t6, t7, t8, tl⟩ := HX.out.keep HK.out) | (go_at_call 136; refine (iAdd _ _ _).mono ?_; rintro e w1 ⟨rfl, hb1⟩; have JK : Hid (Below W2.heap.size W2 w1) := (by first | exact HK.out.trans (hb1.mono HK.out.size) | exact HK.out.drew.trans (hb1.mono HK.out.drew.size)); clear HK; have HK := JK; clear JK hb1; obtain ⟨t0, t1, t2, t3, t4, t5, t6, t7, t8, tl⟩ := HX.out.keep HK.out) | (go_at_call 137; refine (iSub _ _ _).mono ?_; rintro e w1 ⟨rfl, hb1⟩; have JK : Hid (Below W2.heap.size W2 w1) := (by first | exact HK.out.trans (hb1.mono HK.out.size) | exact HK.out.drew.trans (hb1.mono HK.out.drew.size)); clear HK; have HK := JK; clear JK hb1; obtain ⟨t0, t1, t2, t3, t4, t5, t6, t7, t8, tl⟩ := HX.out.keep HK.out) | (go_at_call 112; refine (iLess _ _ _ _).mono ?_; rintro e w1 ⟨rfl, hb1⟩; have JK : Hid (Below W2.heap.size W2 w1) := (by first | exact HK.out.trans (hb1.mono HK.out.size) | exact HK.out.drew.trans (hb1.mono HK.out.drew.size)); clear HK; have HK := JK; clear JK hb1; obtain ⟨t0, t1, t2, t3, t4, t5, t6, t7, t8, tl⟩ := HX.out.keep HK.out) | (go_at_call 135; refine (iLoad o r a x n fr ss sl sc pb rm b _ _ (by omega) _ (by first | exact HC.out.keep HK.out | exact HC.out.keep HK.out.drew)).mono ?_; rintro e w1 ⟨rfl, hb1⟩; have JK : Hid (Below W2.heap.size W2 w1) := (by first | exact HK.out.trans (hb1.mono HK.out.size) | exact HK.out.drew.trans (hb1.mono HK.out.drew.size)); clear HK; have HK := JK; clear JK hb1; obtain ⟨t0, t1, t2, t3, t4, t5, t6, t7, t8, tl⟩ := HX.out.keep HK.out) | (go_at_call 118; refine (iStore o r a x n fr ss sl sc pb rm b _ _ (by omega) _ (by first | exact HC.out.keep HK.out | exact HC.out.keep HK.out.drew)).mono ?_; rintro e w1 ⟨rfl, hb1⟩; have JK : Hid (Below W2.heap.size W2 w1) := (by first | exact HK.out.trans (hb1.mono HK.out.size) | exact HK.out.drew.trans (hb1.mono HK.out.drew.size)); clear HK; have HK := JK; clear JK hb1; obtain ⟨t0, t1, t2, t3, t4, t5, t6, t7, t8, tl⟩ := HX.out.keep HK.out) | (go_at_call 140; refine (iLoadN o r a x n fr ss sl sc pb rm b _  _ (by first | exact HC.out.keep HK.out | exact HC.out.keep HK.out.drew)).mono ?_; rintro e w1 ⟨rfl, hb1⟩; have JK : Hid (Below W2.heap.size W2 w1) := (by first | exact HK.out.trans (hb1.mono HK.out.size) | exact HK.out.drew.trans (hb1.mono HK.out.drew.size)); clear HK; have HK := JK; clear JK hb1; obtain ⟨t0, t1, t2, t3, t4, t5, t6, t7, t8, tl⟩ := HX.out.keep HK.out) | (go_at_call 138; refine (iStoreN o r a x n fr ss sl sc pb rm b _  _ (by first | exact HC.out.keep HK.out | exact HC.out.keep HK.out.drew)).mono ?_; rintro e w1 ⟨rfl, hb1⟩; have JK : Hid (Below W2.heap.size W2 w1) := (by first | exact HK.out.trans (hb1.mono HK.out.size) | exact HK.out.drew.trans (hb1.mono HK.out.drew.size)); clear HK; have HK := JK; clear JK hb1; obtain ⟨t0, t1, t2, t3, t4, t5, t6, t7, t8, tl⟩ := HX.out.keep HK.out))
  refine name5 (P := Exit.then _ _ _ _) (putR b a) W2.heap.size 4 rfl rfl (by omega) HK.out.size ?_
  intro W3 ho hb hz
  obtain ⟨gHPO, hg⟩ : ∃ g, w1.heap.size = g := ⟨_, rfl⟩
  rw [hg] at ho ⊢
  clear hg hz
  have HPO := hid_of ho
  have JK : Hid (Below W2.heap.size W2 W3) := HK.out.trans (hb.mono HK.out.size)
  clear HK ho hb
  have HK := JK
  clear JK
  obtain ⟨t0, t1, t2, t3, t4, t5, t6, t7, t8, tl⟩ := HX.out.keep HK.out
  go_wp2_with (first | (go_at_call 139; refine (iLetThen o r a x n fr ss sl sc pb rm b gs 2 cs _ (triedR r 1) _ (by first | exact HC.out.keep HK.out | exact HC.out.keep HK.out.drew) (by first | exact (HSS.out.keep HK.out).o.choose_spec | exact (HSS.out.keep HK.out.drew).o.choose_spec) (by omega) (by omega) 4 rfl).mono ?_; rintro e w1 ⟨g1, c1, rfl, ho1, hb1⟩; have J0 := hid_of (HPO.out.keep hb1); clear HPO; have HPO := J0; clear J0; have HG := hid_of ho1; clear ho1; have JK : Hid (Below W2.heap.size W2 w1) := (by first | exact HK.out.trans (hb1.mono HK.out.size) | exact HK.out.drew.trans (hb1.mono HK.out.drew.size)); clear HK; have HK := JK; clear JK hb1; obtain ⟨t0, t1, t2, t3, t4, t5, t6, t7, t8, tl⟩ := HX.out.keep HK.out) | (at_builtin; refine app5 rfl _ _ rfl w1 W2.heap.size (.slice (some ⟨gHPO, 0, none⟩) 4 4) (putR b a) rfl HPO.out _ g1 4 c1 (letR b ++ triedR r 1) rfl HG.out rfl (by omega) (by first | exact Nat.le_of_ble_eq_true rfl | decide) 8 rfl HK.out.size ?_; intro gQ cQ w2 ho2 hb2; have JK : Hid (Below W2.heap.size W2 w2) := HK.out.trans hb2; clear HK; have HK := JK; clear JK; have HQ := hid_of (Row5.of ho2); clear ho2 hb2; obtain ⟨t0, t1, t2, t3, t4, t5, t6, t7, t8, tl⟩ := HX.out.keep HK.out))
  have hbn : Below W2.heap.size W2 w2 := HK.out
  have JX := hid_of (HX.out.keep hbn)
  have JC := hid_of (HC.out.keep hbn)
  have JW : Hid (Below w.heap.size w w2) := HW.out.trans (hbn.mono HW.out.size)
  have JHSS := hid_of (HSS.out.keep hbn)
  have JHFF := hid_of (HFF.out.keep hbn)
  have JHOO := hid_of (HOO.out.keep hbn)
  have JHRR := hid_of (HRR.out.keep hbn)
  clear HX HC HW HK HSS HFF HOO HRR
  clear t0 t1 t2 t3 t4 t5 t6 t7 t8
  have HX := JX
  clear JX
  have HC := JC
  clear JC
  have HW := JW
  clear JW
  have HSS := JHSS
  clear JHSS
  have HFF := JHFF
  clear JHFF
  have HOO := JHOO
  clear JHOO
  have HRR := JHRR
  clear JHRR
  have HK : Hid (Below w2.heap.size w2 w2) := Below.refl _ _
  obtain ⟨t0, t1, t2, t3, t4, t5, t6, t7, t8, tl⟩ := HX.out
  clear hbn
  go_region_held3 (fun w' => w'.cell? ⟨w.heap.size, 0, none⟩ = some (.int .i64 o) ∧ w'.cell? ⟨w.heap.size, 1, none⟩ = some (.int .i64 r) ∧ w'.cell? ⟨w.heap.size, 2, none⟩ = some (.int .i64 a) ∧ w'.cell? ⟨w.heap.size, 3, none⟩ = some (.int .i64 x) ∧ w'.cell? ⟨w.heap.size, 4, none⟩ = some (.int .i64 n) ∧ w'.cell? ⟨w.heap.size, 5, none⟩ = some (.int .i64 fr) ∧ w'.cell? ⟨w.heap.size, 6, none⟩ = some (.slice ss sl sc) ∧ w'.cell? ⟨w.heap.size, 7, none⟩ = some (.func (.func 99) #[] #[.pointer (some ⟨pb, 0, none⟩)]) ∧ w'.cell? ⟨w.heap.size, 8, none⟩ = some (.int .i64 rm)) (go_keep) (first | (go_at_call 120; refine (iAsk o r a x n fr ss sl sc pb rm b 3 _ (by first | exact HC.out.keep HK.out | exact HC.out.keep HK.out.drew)).mono ?_; rintro e w1 ⟨gA, cA, rfl, hoA, hb1⟩; have HA := hid_of (Row5.of hoA); clear hoA; have JK : Hid (Below w2.heap.size w2 w1) := (by first | exact HK.out.trans (hb1.mono HK.out.size) | exact HK.out.drew.trans (hb1.mono HK.out.drew.size)); clear HK; have HK := JK; clear JK hb1; obtain ⟨t0, t1, t2, t3, t4, t5, t6, t7, t8, tl⟩ := HX.out.keep HK.out) | (go_at_call 121; refine (iFault o r a x n fr ss sl sc pb rm b _ (by first | exact HC.out.keep HK.out | exact HC.out.keep HK.out.drew)).mono ?_; rintro e w1 ⟨gE, cE, rfl, hoE, hb1⟩; have HE := hid_of (Row5.of hoE); have J0 := hid_of (HA.out.keep hb1); clear HA; have HA := J0; clear J0 hoE; have JK : Hid (Below w2.heap.size w2 w1) := (by first | exact HK.out.trans (hb1.mono HK.out.size) | exact HK.out.drew.trans (hb1.mono HK.out.drew.size)); clear HK; have HK := JK; clear JK hb1; obtain ⟨t0, t1, t2, t3, t4, t5, t6, t7, t8, tl⟩ := HX.out.keep HK.out) | (go_at_call 139; refine (iLetThen o r a x n fr ss sl sc pb rm b gf 2 cf _ (triedR r 0) _ (by first | exact HC.out.keep HK.out | exact HC.out.keep HK.out.drew) (by first | exact (HFF.out.keep HK.out).o.choose_spec | exact (HFF.out.keep HK.out.drew).o.choose_spec) (by omega) (by omega) 4 rfl).mono ?_; rintro e w1 ⟨gU, cU, rfl, hoU, hb1⟩; have HU := hid_of (Row5.of hoU); have J0 := hid_of (HA.out.keep hb1); clear HA; have HA := J0; clear J0; have J0 := hid_of (HE.out.keep hb1); clear HE; have HE := J0; clear J0 hoU; have JK : Hid (Below w2.heap.size w2 w1) := (by first | exact HK.out.trans (hb1.mono HK.out.size) | exact HK.out.drew.trans (hb1.mono HK.out.drew.size)); clear HK; have HK := JK; clear JK hb1; obtain ⟨t0, t1, t2, t3, t4, t5, t6, t7, t8, tl⟩ := HX.out.keep HK.out) | (go_at_call 119; refine (iUnder o r a x n fr ss sl sc pb rm b w1.heap.size 6 [⟨gA, cA, askR b 3⟩, ⟨gE, cE, faultR b⟩, ⟨gHOO, 9, openR b rm⟩, ⟨gHRR, 1, roundR⟩, ⟨gQ, cQ, putR b a ++ (letR b ++ triedR r 1)⟩, ⟨gU, cU, letR b ++ triedR r 0⟩] _ ((HC.out.keep HK.out).keep ((Below.refl _ _).alloc (Nat.le_refl _) _)) (parts_new w1 _ _ rfl (fun y hy => by simp only [List.mem_cons, List.not_mem_nil, or_false] at hy; rcases hy with rfl | rfl | rfl | rfl | rfl | rfl; (exact HA.out); (exact HE.out); (exact (HOO.out.keep HK.out)); (exact (HRR.out.keep HK.out)); (exact (HQ.out.keep HK.out)); (exact HU.out))) (by first | exact Nat.le_of_ble_eq_true rfl | decide) (by first | exact Nat.le_of_ble_eq_true rfl | decide) (by first | exact Nat.le_of_ble_eq_true rfl | decide) (jOk_of (fun y hy => by simp only [List.mem_cons, List.not_mem_nil, or_false] at hy; rcases hy with rfl | rfl | rfl | rfl | rfl | rfl <;> simp [jOk, isJ, askR, faultR, letR, openR, roundR, putR, triedR])) 31 rfl).mono ?_; rintro e w5 ⟨g5, c5, rfl, ho5, hb5⟩; have hb6 : Below w1.heap.size w1 w5 := ((Below.refl _ _).alloc (Nat.le_refl _) _).trans (hb5.mono (by simp)); have HO5 := hid_of ho5; have HB5 := hid_of hb6; have JK : Hid (Below w2.heap.size w2 w5) := HK.out.trans (hb6.mono HK.out.size); obtain ⟨t0, t1, t2, t3, t4, t5, t6, t7, t8, tl⟩ := HX.out.keep JK.out; clear ho5 hb5 hb6))
  go_wp2
  go_ret
  have hz1 := HW.out.size
  have hz2 := HK.out.size
  exact ⟨_, _, rfl, HO5.out.low (by simp; omega), HW.out.trans (JK.out.mono hz1)⟩
end

end Go.Proofs.YteddmadbegpecaaGreat
