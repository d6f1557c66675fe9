/- StepOk of the specification (package spec), at every step and every count of places, in every world: it returns what the plain law says; it makes memory, and turns none. No condition. Lists of steps: when code is right; the laws' counting and comparing of lists. Conditions: lists of at most 1048576 steps where they are compared. A row of integers that is not empty lies somewhere. No condition. Whether a number is within, answered with a draw. Base of the program and of the specification: where a channel begins. Conditions: lists of at most 2^20 + 100. -/
import Derived.Test.YtehjbpjjegajjaaGreatJG00
import Derived.Test.YtehjbpjjegajjaaGreatJC7SpA
import Derived.Test.YtehjbpjjegajjaaGreatJG06
import Derived.Test.YtehjbpjjegajjaaGreatJC7SpB
import Derived.Test.YtehjbpjjegajjaaGreatJC7SpC
import Derived.Test.YtehjbpjjegajjaaGreatJC7SpD
import Derived.Test.YtehjbpjjegajjaaGreatJC7SpE
import Derived.Test.YtehjbpjjegajjaaGreatJG01
import Derived.Test.YtehjbpjjegajjaaGreatJG10
import Derived.Test.YtehjbpjjegajjaaGreatJG07
import Derived.Deep.RegionHeld3
import Derived.Test.YtehjbpjjegajjaaGreatJG02
import Derived.Deep.QuietTactic
import Derived.BigQuiet
namespace Go.Proofs.YtehjbpjjegajjaaGreat
section
set_option linter.unusedSimpArgs false
set_option linter.unusedVariables false
set_option maxRecDepth 100000
open Go.RowKit
theorem specStepOk_any (op r a b n pl : Int) (w : World) : Calls Tryz.prog 78 #[.agg #[.int .i64 op, .int .i64 r, .int .i64 a, .int .i64 b, .int .i64 n], .int .i64 pl] w fun e w' => e = .returned (.bool (Plain.stepB op r a b n pl)) ∧ Below w.heap.size w w' := by
 have no : ∀ {e : Ending} {w' : World}, Plain.stepB op r a b n pl = false → e = .returned (.bool false) ∧ Below w.heap.size w w' → e = .returned (.bool (Plain.stepB op r a b n pl)) ∧ Below w.heap.size w w' := fun h h' => by rw [h]; exact h'
 by_cases e5 : op = 5
 ·subst e5
  cases h1 : Plain.inB r 0 7
  ·exact (specBadR_5 r a b n pl w h1).mono fun e w' h => no (by simp [Plain.inB] at h1; simp [Plain.stepB]; omega) h
  cases h2 : Plain.inB b 0 7
  ·exact (specBadB_5 r a b n pl w h1 h2).mono fun e w' h => no (by simp [Plain.inB] at h2; simp [Plain.stepB]; omega) h
  cases h3 : Plain.inB a 0 7
  ·by_cases h4 : a = -1
   ·subst h4
    exact specGood_5m r b n pl w h1 h2
   ·exact (specBadA_5 r a b n pl w h1 h2 h3 (by simpa using h4)).mono fun e w' h => no (by simp [Plain.inB] at h3; simp [Plain.stepB]; omega) h
  ·exact specGood_5x40 r a b n pl w h1 h2 h3
 by_cases e6 : op = 6
 ·subst e6
  cases h1 : Plain.inB r 0 7
  ·exact (specBadR_6 r a b n pl w h1).mono fun e w' h => no (by simp [Plain.inB] at h1; simp [Plain.stepB]; omega) h
  cases h2 : Plain.inB b 0 7
  ·exact (specBadB_6 r a b n pl w h1 h2).mono fun e w' h => no (by simp [Plain.inB] at h2; simp [Plain.stepB]; omega) h
  cases h3 : Plain.inB a 0 7
  ·by_cases h4 : a = -1
   ·subst h4
    exact specGood_6m r b n pl w h1 h2
   ·exact (specBadA_6 r a b n pl w h1 h2 h3 (by simpa using h4)).mono fun e w' h => no (by simp [Plain.inB] at h3; simp [Plain.stepB]; omega) h
  ·exact specGood_6x40 r a b n pl w h1 h2 h3
 by_cases e7 : op = 7
 ·subst e7
  cases h1 : Plain.inB r 0 7
  ·exact (specBadR_7 r a b n pl w h1).mono fun e w' h => no (by simp [Plain.inB] at h1; simp [Plain.stepB]; omega) h
  cases h2 : Plain.inB b 0 7
  ·exact (specBadB_7 r a b n pl w h1 h2).mono fun e w' h => no (by simp [Plain.inB] at h2; simp [Plain.stepB]; omega) h
  cases h3 : Plain.inB a 0 7
  ·by_cases h4 : a = -1
   ·subst h4
    exact specGood_7m r b n pl w h1 h2
   ·exact (specBadA_7 r a b n pl w h1 h2 h3 (by simpa using h4)).mono fun e w' h => no (by simp [Plain.inB] at h3; simp [Plain.stepB]; omega) h
  ·exact specGood_7x41 r a b n pl w h1 h2 h3
 have o5 : (op == 5) = false := by simpa using e5
 have o6 : (op == 6) = false := by simpa using e6
 have o7 : (op == 7) = false := by simpa using e7
 cases h1 : Plain.inB r 0 7
 ·exact (specBadR_x op r a b n pl w o5 o6 o7 h1).mono fun e w' h => no (by simp [Plain.inB] at h1; simp [Plain.stepB]; omega) h
 cases h2 : Plain.inB b 0 7
 ·exact (specBadB_x op r a b n pl w o5 o6 o7 h1 h2).mono fun e w' h => no (by simp [Plain.inB] at h2; simp [Plain.stepB]; omega) h
 cases h3 : Plain.inB a 0 7
 ·exact (specBadA_x op r a b n pl w o5 o6 o7 h1 h2 h3).mono fun e w' h => no (by simp [Plain.inB] at h3; simp [Plain.stepB]; omega) h
 by_cases e1 : op = 1
 ·subst e1; exact specGood_1x39 r a b n pl w h1 h2 h3
 by_cases e2 : op = 2
 ·subst e2; exact specGood_2x39 r a b n pl w h1 h2 h3
 by_cases e3 : op = 3
 ·subst e3; exact specGood_3x39 r a b n pl w h1 h2 h3
 by_cases e4 : op = 4
 ·subst e4; exact specGood_4x39 r a b n pl w h1 h2 h3
 by_cases e8 : op = 8
 ·subst e8; exact specGood_8x41 r a b n pl w h1 h2 h3
 by_cases e9 : op = 9
 ·subst e9; exact specGood_9x41 r a b n pl w h1 h2 h3
 by_cases e10 : op = 10
 ·subst e10; exact specGood_10x42 r a b n pl w h1 h2 h3
 by_cases e11 : op = 11
 ·subst e11; exact specGood_11x42 r a b n pl w h1 h2 h3
 by_cases e12 : op = 12
 ·subst e12; exact specGood_12x42 r a b n pl w h1 h2 h3
 by_cases e13 : op = 13
 ·subst e13; exact specGood_13x42 r a b n pl w h1 h2 h3
 exact specGood_0x42 op r a b n pl w (by simpa using e1) (by simpa using e2) (by simpa using e3) (by simpa using e4) (by simpa using e5) (by simpa using e6) (by simpa using e7) (by simpa using e8) (by simpa using e9) (by simpa using e10) (by simpa using e11) (by simpa using e12) (by simpa using e13) h1 h2 h3
end
section
set_option linter.unusedSimpArgs false
set_option linter.unusedVariables false
set_option maxRecDepth 100000
open Go.RowKit
def stX (x : I5) (pl : Int) : Bool := Plain.stepB x.o x.r x.a x.b x.n pl
def lastBx47 (l : List I5) : Bool := Plain.endB (l.getD (l.length - 1) z5).o
def codeB (l : List I5) : Bool := decide (∀ i, i < l.length → stX (l.getD i z5) l.length = true) && (decide (1 ≤ l.length ∧ l.length ≤ 800) && lastBx47 l)
theorem code_no {l : List I5} {k : Nat} (hk : k < l.length) (h : stX (l.getD k z5) l.length = false) : codeB l = false := by
 have : decide (∀ i, i < l.length → stX (l.getD i z5) l.length = true) = false := by
  rw [decide_eq_false_iff_not]
  intro H
  rw [H k hk] at h
  cases h
 unfold codeB
 rw [this]
 rfl
theorem code_all {l : List I5} (h : ∀ i, i < l.length → stX (l.getD i z5) l.length = true) : codeB l = (decide (1 ≤ l.length ∧ l.length ≤ 800) && lastBx47 l) := by
 unfold codeB
 rw [decide_eq_true h]
 simp
theorem code_short {l : List I5} (h : Plain.inB (l.length : Int) 1 800 = false) : codeB l = false := by
 have : decide (1 ≤ l.length ∧ l.length ≤ 800) = false := by
  rw [decide_eq_false_iff_not]
  simp [Plain.inB] at h
  omega
 unfold codeB
 rw [this]
 simp
set_option maxHeartbeats 1000000 in
theorem eqStepS_same (s s' : Option Addr) (c c' B : Nat) (l : List I5) (w : World) (h : InsB w B s l) (h' : InsB w B s' l) (hB : B ≤ w.heap.size) (hl : l.length ≤ 1048576) :
  Calls Tryz.prog 54 #[.slice s l.length c, .slice s' l.length c'] w fun e w' => e = .returned (.bool true) ∧ Below w.heap.size w w' := by
 rcases h with rfl | ⟨g, off, rfl, hg, hc⟩
 ·go_enter Tryz.func54, Tryz.ntmps54
  go_wp2
  go_loop [5] (fun i => i = .int .i64 0) (fun _ => 0)
  case atStart => rfl
  case round =>
   subst hrel
   go_wp2
   go_ret
   exact ⟨rfl, Below.refl _ _⟩
 ·rcases h' with rfl | ⟨g', off', rfl, hg', hc'⟩
  ·go_enter Tryz.func54, Tryz.ntmps54
   go_wp2
   go_loop [5] (fun i => i = .int .i64 0) (fun _ => 0)
   case atStart => rfl
   case round =>
    subst hrel
    go_wp2
    go_ret
    exact ⟨rfl, Below.refl _ _⟩
  ·have hne : ((l.length : Int) != (l.length : Int)) = false := by simp
   have HC : Hid (∀ i, i < l.length → At5 w g (off + i * 5) (l.getD i z5)) := hc
   have HC' : Hid (∀ i, i < l.length → At5 w g' (off' + i * 5) (l.getD i z5)) := hc'
   clear hc hc'
   go_enter Tryz.func54, Tryz.ntmps54
   go_wp2
   go_loopw [5] (fun i wr => ∃ k : Nat, k ≤ l.length ∧ i = .int .i64 k ∧ Below w.heap.size w wr) (fun i _ => l.length - (intOf i).toNat)
   case atStart => exact ⟨0, Nat.zero_le _, rfl, Below.refl _ _⟩
   case round =>
    obtain ⟨k, hk, rfl, hb⟩ := hrel
    have HB : Hid (Below w.heap.size w wr) := hb
    clear hb
    by_cases hlt : k < l.length
    ·obtain ⟨f0, f1, f2, f3, f4⟩ := (HC.out k hlt).keep HB.out (by omega)
     obtain ⟨f0', f1', f2', f3', f4'⟩ := (HC'.out k hlt).keep HB.out (by omega)
     generalize l.getD k z5 = x at f0 f1 f2 f3 f4 f0' f1' f2' f3' f4'
     obtain ⟨xo, xr, xa, xb, xn⟩ := x
     have b0 : (0 : Int) ≤ (k : Int) := by omega
     have b1 : (k : Int) < (l.length : Int) := by omega
     go_wp2_with fail
     first | go_region_with (go_at_call 89; refine (eqStep_same _ _ _ _ _ _).mono ?_; rintro e w1 ⟨rfl, hb1⟩) | fail
     all_goals
      have HB1 : Hid (Below wr.heap.size wr w1) := ⟨hb1.os, hb1.tape, hb1.output, hb1.size, hb1.block⟩
      have hs1 := HB.out.size
      clear hb1
      go_wp2
      go_roundw
      case rel => exact ⟨k + 1, by omega, by go_num, HB.out.trans (HB1.out.mono hs1)⟩
      case measure => simp [intOf]; omega
    ·go_wp2
     go_ret
     exact ⟨rfl, HB.out⟩
end
section
set_option linter.unusedSimpArgs false
set_option linter.unusedVariables false
set_option maxRecDepth 100000
open Go.RowKit
theorem IntsR.pos {w : World} {lo hi : Nat} {s : Option Addr} {l : List Int} (h : IntsR w lo hi s l) (hl : 0 < l.length) : ∃ g off, s = some ⟨g, off, none⟩ ∧ lo ≤ g ∧ g < hi ∧ ∀ i, i < l.length → w.cell? ⟨g, off + i, none⟩ = some (.int .i64 (l.getD i 0)) := by
 rcases h with rfl | h
 ·simp at hl
 ·exact h
end
section
set_option linter.unusedSimpArgs false
set_option linter.unusedVariables false
set_option maxRecDepth 100000
open Go.RowKit
theorem all_take {α : Type} {p : α → Bool} {l : List α} {k : Nat} {x : α} (h : l[k]? = some x) : (l.take (k + 1)).all p = ((l.take k).all p && p x) := by
 rw [List.take_add_one, h, Option.toList_some, List.all_append]
 simp
theorem all_no {α : Type} {p : α → Bool} {l : List α} {k : Nat} {x : α} (h : l[k]? = some x) (hx : p x = false) : l.all p = false := by
 rw [List.all_eq_false]
 exact ⟨x, List.mem_of_getElem? h, by simp [hx]⟩
theorem l1InD_any (x a b : Int) (w : World) : Calls Tryz.prog 65 #[.int .i64 x, .int .i64 a, .int .i64 b] w fun e w' => e = .returned (.bool (decide (a ≤ x ∧ x ≤ b))) ∧ w' = w := by
 by_cases h : x ≥ a
 ·by_cases h2 : x ≤ b
  ·rw [decide_eq_true ⟨h, h2⟩]
   go_enter Tryz.func65, Tryz.ntmps65
   go_wp2
   go_ret
   exact ⟨by simp, rfl⟩
  ·rw [decide_eq_false (fun e => h2 e.2)]
   go_enter Tryz.func65, Tryz.ntmps65
   go_wp2
   go_ret
   exact ⟨by simp, rfl⟩
 ·rw [decide_eq_false (fun e => h e.1)]
  go_enter Tryz.func65, Tryz.ntmps65
  go_wp2
  go_ret
  exact ⟨by simp, rfl⟩
theorem l1InD_is (x lo hi : Int) (b : Bool) (w : World) (h : decide (lo ≤ x ∧ x ≤ hi) = b) : Calls Tryz.prog 65 #[.int .i64 x, .int .i64 lo, .int .i64 hi] w fun e w' => e = .returned (.bool b) ∧ w' = w := by
 rw [← h]
 exact l1InD_any x lo hi w
end
section
set_option linter.unusedSimpArgs false
set_option linter.unusedVariables false
set_option maxRecDepth 100000
open Go.RowKit
def capsR (l : List Int) : Bool := l.all (fun c => decide (1 ≤ c ∧ c ≤ 4))
def sumC : List Int → Int
 | [] => 0
 | c :: r => c + 4 + sumC r
def baseV (l : List Int) (n : Int) : Int := if capsR l = true ∧ sumC l ≤ 24 ∧ 0 ≤ n ∧ n < l.length then sumC (l.take n.toNat) else -1
theorem sumC_take : ∀ (l : List Int) (k : Nat), k < l.length → sumC (l.take (k + 1)) = sumC (l.take k) + (l.getD k 0 + 4)
 | [], k, h => by simp at h
 | c :: r, 0, h => by simp [sumC]
 | c :: r, k + 1, h => by
  have := sumC_take r k (by simpa using h)
  simp only [List.take_succ_cons, sumC, this, List.getD_cons_succ]
  omega
theorem capsR_cons (c : Int) (r : List Int) : capsR (c :: r) = true ↔ (1 ≤ c ∧ c ≤ 4) ∧ capsR r = true := by simp [capsR]
theorem sumC_len : ∀ (l : List Int), capsR l = true → 5 * (l.length : Int) ≤ sumC l
 | [], _ => by simp [sumC]
 | c :: r, h => by
  rw [capsR_cons] at h
  have := sumC_len r h.2
  simp [sumC]
  omega
theorem sumC_up : ∀ (l : List Int), capsR l = true → sumC l ≤ 8 * (l.length : Int)
 | [], _ => by simp [sumC]
 | c :: r, h => by
  rw [capsR_cons] at h
  have := sumC_up r h.2
  simp [sumC]
  omega
theorem sumC_le : ∀ (l : List Int) (k : Nat), capsR l = true → sumC (l.take k) ≤ sumC l
 | [], k, _ => by simp
 | c :: r, 0, h => by have := sumC_len _ h; simp [sumC] at this ⊢; omega
 | c :: r, k + 1, h => by
  rw [capsR_cons] at h
  have := sumC_le r k h.2
  simp [sumC]
  omega
theorem capsR_take {l : List Int} (k : Nat) (h : capsR l = true) : capsR (l.take k) = true := by
 unfold capsR at h ⊢
 rw [List.all_eq_true] at h ⊢
 exact fun x hx => h x (List.mem_of_mem_take hx)
theorem capsR_step {l : List Int} {k : Nat} (hk : k < l.length) (h : capsR (l.take k) = true) (hx : 1 ≤ l.getD k 0 ∧ l.getD k 0 ≤ 4) : capsR (l.take (k + 1)) = true := by
 unfold capsR at h ⊢
 have e : l[k]? = some (l.getD k 0) := by rw [List.getD_eq_getElem?_getD, List.getElem?_eq_getElem hk]; rfl
 rw [all_take e, h]
 simpa using hx
theorem capsR_no {l : List Int} {k : Nat} (hk : k < l.length) (hx : ¬ (1 ≤ l.getD k 0 ∧ l.getD k 0 ≤ 4)) : capsR l = false := by
 have e : l[k]? = some (l.getD k 0) := by rw [List.getD_eq_getElem?_getD, List.getElem?_eq_getElem hk]; rfl
 exact all_no e (by simpa using hx)
theorem capsR_at {l : List Int} (h : capsR l = true) {k : Nat} (hk : k < l.length) : 1 ≤ l.getD k 0 ∧ l.getD k 0 ≤ 4 := by
 by_cases hx : 1 ≤ l.getD k 0 ∧ l.getD k 0 ≤ 4
 ·exact hx
 ·rw [capsR_no hk hx] at h; cases h
theorem sumC_next {l : List Int} (h : capsR l = true) {k : Nat} (hk : k < l.length) : sumC (l.take k) + (l.getD k 0 + 4) ≤ sumC l := by
 rw [← sumC_take l k hk]
 exact sumC_le l (k + 1) h
theorem capOkD_any (c : Int) (w : World) : Calls Tryz.prog 103 #[.int .i64 c] w fun e w' => e = .returned (.bool (decide (1 ≤ c ∧ c ≤ 4))) ∧ w' = w := by
 by_cases h1 : 1 ≤ c
 ·by_cases h2 : c ≤ 4
  ·rw [decide_eq_true ⟨h1, h2⟩]
   go_enter Tryz.func103, Tryz.ntmps103
   go_wp2
   go_ret
   exact ⟨by simp, rfl⟩
  ·rw [decide_eq_false (fun e => h2 e.2)]
   go_enter Tryz.func103, Tryz.ntmps103
   go_wp2
   go_ret
   exact ⟨by simp, rfl⟩
 ·rw [decide_eq_false (fun e => h1 e.1)]
  go_enter Tryz.func103, Tryz.ntmps103
  go_wp2
  go_ret
  exact ⟨by simp, rfl⟩
theorem capOkD_is (c : Int) (b : Bool) (w : World) (h : decide (1 ≤ c ∧ c ≤ 4) = b) : Calls Tryz.prog 103 #[.int .i64 c] w fun e w' => e = .returned (.bool b) ∧ w' = w := by
 rw [← h]
 exact capOkD_any c w
theorem taken_any (c : Int) (w : World) (h1 : 1 ≤ c) (h4 : c ≤ 4) : Calls Tryz.prog 106 #[.int .i64 c] w fun e w' => e = .returned (.int .i64 (c + 4)) ∧ w' = w := by
 go_enter Tryz.func106, Tryz.ntmps106
 go_wp2
 go_ret
 exact ⟨by go_num, rfl⟩
def baseK (l : List Int) (n : Int) (k : Nat) : Int := if 0 ≤ n ∧ n < (k : Int) then sumC (l.take n.toNat) else -1
set_option maxHeartbeats 4000000 in
theorem implBase_any (s : Option Addr) (c lo hi : Nat) (l : List Int) (n : Int) (w : World) (h : IntsR w lo hi s l) (hB : hi ≤ w.heap.size) (hl : l.length ≤ 2000000) :
  Calls Tryz.prog 84 #[.slice s l.length c, .int .i64 n] w fun e w' => e = .returned (.int .i64 (baseV l n)) ∧ Below w.heap.size w w' := by
 have H : Hid (IntsR w lo hi s l) := h
 clear h
 go_enter Tryz.func84, Tryz.ntmps84
 go_wp2
 go_loopw [5, 6, 11] (fun b x i wr => ∃ k : Nat, k ≤ l.length ∧ i = .int .i64 k ∧ x = .int .i64 (sumC (l.take k)) ∧ b = .int .i64 (baseK l n k) ∧ capsR (l.take k) = true ∧ sumC (l.take k) ≤ 24 ∧ Below w.heap.size w wr) (fun _ _ i _ => l.length - (intOf i).toNat)
 case atStart => exact ⟨0, Nat.zero_le _, rfl, by simp [sumC], by simp [baseK]; omega, by simp [capsR], by simp [sumC], Below.refl _ _⟩
 case round =>
  obtain ⟨k, hk, rfl, rfl, rfl, hc, h24, hb⟩ := hrel
  have HB : Hid (Below w.heap.size w wr) := hb
  have HC : Hid (capsR (l.take k) = true) := hc
  have h00 : 0 ≤ sumC (l.take k) := by have := sumC_len _ hc; omega
  clear hb hc
  by_cases hlt : k < l.length
  ·obtain ⟨g, o, rfl, a1, a2, a3⟩ := H.out.pos (by omega)
   have f1 := (HB.out.cell (p := ⟨g, o + k, none⟩) (by show g < _; omega)).trans (a3 k hlt)
   clear a3
   generalize hx : l.getD k 0 = x at f1
   have HX : Hid (l.getD k 0 = x) := hx
   clear hx
   have b0 : (0 : Int) ≤ (k : Int) := by omega
   have b1 : (k : Int) < (l.length : Int) := by omega
   have HS : Hid (sumC (l.take (k + 1)) = sumC (l.take k) + (x + 4)) := by show _ = _; rw [sumC_take l k hlt, HX.out]
   generalize hy : sumC (l.take k) = y at h24 h00 HS
   by_cases hr : 1 ≤ x ∧ x ≤ 4
   ·have x1 := hr.1
    have x4 := hr.2
    have HC1 : Hid (capsR (l.take (k + 1)) = true) := capsR_step hlt HC.out (by rw [HX.out]; exact hr)
    have hd : decide (1 ≤ x ∧ x ≤ 4) = true := decide_eq_true hr
    clear hr
    by_cases hm : y + (x + 4) ≤ 24
    ·have hm' : ¬ y + (x + 4) > 24 := by omega
     by_cases hn : (k : Int) = n
     ·subst hn
      have hkk : ((k : Int) == (k : Int)) = true := by simp
      go_wp2_with (first | (go_at_call 103; refine (capOkD_is x true _ hd).mono ?_; rintro e w9 ⟨rfl, hw9⟩; subst w9) | (go_at_call 106; refine (taken_any x _ x1 x4).mono ?_; rintro e w9 ⟨rfl, hw9⟩; subst w9))
      refine ⟨⟨k + 1, by omega, by go_num, by rw [HS.out], by unfold baseK; rw [if_pos (by omega), Int.toNat_natCast, hy], HC1.out, by rw [HS.out]; exact hm, HB.out⟩, by simp [intOf]; omega⟩
     ·have hkk : ((k : Int) == n) = false := by simpa using hn
      go_wp2_with (first | (go_at_call 103; refine (capOkD_is x true _ hd).mono ?_; rintro e w9 ⟨rfl, hw9⟩; subst w9) | (go_at_call 106; refine (taken_any x _ x1 x4).mono ?_; rintro e w9 ⟨rfl, hw9⟩; subst w9))
      refine ⟨⟨k + 1, by omega, by go_num, by rw [HS.out], ?_, HC1.out, by rw [HS.out]; exact hm, HB.out⟩, by simp [intOf]; omega⟩
      unfold baseK
      by_cases hq : 0 ≤ n ∧ n < (k : Int)
      ·rw [if_pos hq, if_pos (by omega)]
      ·rw [if_neg hq, if_neg (by omega)]
    ·have hm' : y + (x + 4) > 24 := by omega
     go_wp2_with (first | (go_at_call 103; refine (capOkD_is x true _ hd).mono ?_; rintro e w9 ⟨rfl, hw9⟩; subst w9) | (go_at_call 106; refine (taken_any x _ x1 x4).mono ?_; rintro e w9 ⟨rfl, hw9⟩; subst w9))
     go_ret
     refine ⟨?_, HB.out⟩
     have e : baseV l n = -1 := by
      unfold baseV
      rw [if_neg]
      rintro ⟨q1, q2, -⟩
      have := sumC_le l (k + 1) q1
      rw [HS.out] at this
      omega
     rw [e]
     rfl
   ·have hd : decide (1 ≤ x ∧ x ≤ 4) = false := decide_eq_false hr
    have HN : Hid (capsR l = false) := capsR_no hlt (by rw [HX.out]; exact hr)
    clear hr
    go_wp2_with (go_at_call 103; refine (capOkD_is x false _ hd).mono ?_; rintro e w9 ⟨rfl, hw9⟩; subst w9)
    go_ret
    refine ⟨?_, HB.out⟩
    have e : baseV l n = -1 := by
     unfold baseV
     rw [if_neg (by rw [HN.out]; simp)]
    rw [e]
    rfl
  ·have e : baseK l n k = baseV l n := by
    have ek : k = l.length := by omega
    subst ek
    have h1 := HC.out
    rw [List.take_length] at h1 h24
    unfold baseK baseV
    by_cases hq : 0 ≤ n ∧ n < (l.length : Int)
    ·rw [if_pos hq, if_pos ⟨h1, h24, hq⟩]
    ·rw [if_neg hq, if_neg (fun e => hq e.2.2)]
   rw [e]
   clear e
   go_wp2
   go_ret
   exact ⟨rfl, HB.out⟩
theorem l9Base_any (s : Option Addr) (c lo hi : Nat) (l : List Int) (n : Nat) (w : World) (h : IntsR w lo hi s l) (hB : hi ≤ w.heap.size) (hl : l.length ≤ 24) (hn : n ≤ l.length) (hc : capsR l = true) :
  Calls Tryz.prog 67 #[.slice s l.length c, .int .i64 n] w fun e w' => e = .returned (.int .i64 (sumC (l.take n))) ∧ Below w.heap.size w w' := by
 have H : Hid (IntsR w lo hi s l) := h
 have HC : Hid (capsR l = true) := hc
 clear h hc
 go_enter Tryz.func67, Tryz.ntmps67
 go_wp2
 go_loopw [5, 6] (fun x i wr => ∃ k : Nat, k ≤ n ∧ i = .int .i64 k ∧ x = .int .i64 (sumC (l.take k)) ∧ Below w.heap.size w wr) (fun _ i _ => n - (intOf i).toNat)
 case atStart => exact ⟨0, Nat.zero_le _, rfl, by simp [sumC], Below.refl _ _⟩
 case round =>
  obtain ⟨k, hk, rfl, rfl, hb⟩ := hrel
  have HB : Hid (Below w.heap.size w wr) := hb
  clear hb
  by_cases hlt : k < n
  ·obtain ⟨g, o, rfl, a1, a2, a3⟩ := H.out.pos (by omega)
   have f1 := (HB.out.cell (p := ⟨g, o + k, none⟩) (by show g < _; omega)).trans (a3 k (by omega))
   clear a3
   have HX := capsR_at HC.out (k := k) (by omega)
   have y0 := sumC_len _ (capsR_take k HC.out)
   have y1 := sumC_up _ (capsR_take k HC.out)
   have HS : Hid (sumC (l.take (k + 1)) = sumC (l.take k) + (l.getD k 0 + 4)) := sumC_take l k (by omega)
   rw [List.length_take] at y0 y1
   generalize l.getD k 0 = x at f1 HX HS
   generalize sumC (l.take k) = y at y0 y1 HS
   have x1 := HX.1
   have x4 := HX.2
   have y2 : y ≤ 400 := by omega
   have y3 : 0 ≤ y := by omega
   clear HX y0 y1
   have b0 : (0 : Int) ≤ (k : Int) := by omega
   have b1 : (k : Int) < (l.length : Int) := by omega
   have b2 : (k : Int) < (n : Int) := by omega
   go_wp2
   refine ⟨⟨k + 1, by omega, by go_num, by rw [HS.out]; go_num, HB.out⟩, by simp [intOf]; omega⟩
  ·have e : k = n := by omega
   subst e
   go_wp2
   go_ret
   exact ⟨rfl, HB.out⟩
def rightC (l : List Int) : Bool := capsR l && decide (sumC l ≤ 24)
set_option maxHeartbeats 4000000 in
theorem l9Right_any (s : Option Addr) (c lo hi : Nat) (l : List Int) (w : World) (h : IntsR w lo hi s l) (hB : hi ≤ w.heap.size) (hl : l.length ≤ 2000000) :
  Calls Tryz.prog 39 #[.slice s l.length c] w fun e w' => e = .returned (.bool (rightC l)) ∧ Below w.heap.size w w' := by
 have H : Hid (IntsR w lo hi s l) := h
 clear h
 go_enter Tryz.func39, Tryz.ntmps39
 go_wp2
 go_loopw [3] (fun i wr => ∃ k : Nat, k ≤ l.length ∧ i = .int .i64 k ∧ capsR (l.take k) = true ∧ Below w.heap.size w wr) (fun i _ => l.length - (intOf i).toNat)
 case atStart => exact ⟨0, Nat.zero_le _, rfl, by simp [capsR], Below.refl _ _⟩
 case round =>
  obtain ⟨k, hk, rfl, hc, hb⟩ := hrel
  have HB : Hid (Below w.heap.size w wr) := hb
  have HC : Hid (capsR (l.take k) = true) := hc
  clear hb hc
  by_cases hlt : k < l.length
  ·obtain ⟨g, o, rfl, a1, a2, a3⟩ := H.out.pos (by omega)
   have f1 := (HB.out.cell (p := ⟨g, o + k, none⟩) (by show g < _; omega)).trans (a3 k hlt)
   clear a3
   generalize hx : l.getD k 0 = x at f1
   have HX : Hid (l.getD k 0 = x) := hx
   clear hx
   have b0 : (0 : Int) ≤ (k : Int) := by omega
   have b1 : (k : Int) < (l.length : Int) := by omega
   by_cases hr : 1 ≤ x ∧ x ≤ 4
   ·have HC1 : Hid (capsR (l.take (k + 1)) = true) := capsR_step hlt HC.out (by rw [HX.out]; exact hr)
    have hd : decide (1 ≤ x ∧ x ≤ 4) = true := decide_eq_true hr
    clear hr
    go_wp2_with (go_at_call 65; refine (l1InD_is x 1 4 true _ hd).mono ?_; rintro e w9 ⟨rfl, hw9⟩; subst w9)
    exact ⟨⟨k + 1, by omega, by go_num, HC1.out, HB.out⟩, by simp [intOf]; omega⟩
   ·have hd : decide (1 ≤ x ∧ x ≤ 4) = false := decide_eq_false hr
    have HN : Hid (capsR l = false) := capsR_no hlt (by rw [HX.out]; exact hr)
    clear hr
    go_wp2_with (go_at_call 65; refine (l1InD_is x 1 4 false _ hd).mono ?_; rintro e w9 ⟨rfl, hw9⟩; subst w9)
    go_ret
    refine ⟨?_, HB.out⟩
    have e : rightC l = false := by unfold rightC; rw [HN.out]; rfl
    rw [e]
    rfl
  ·have HC1 : Hid (capsR l = true) := by have := HC.out; rw [List.take_of_length_le (by omega)] at this; exact this
   by_cases h24 : l.length ≤ 24
   ·have h24' : (l.length : Int) ≤ 24 := by omega
    have HW : Hid (IntsR wr lo hi s l) := H.out.keep (Keep.of_below HB.out hB)
    have zz := HB.out.size
    have e0 : l.take l.length = l := List.take_length
    have lb := l9Base_any s c lo hi l l.length wr HW.out (by omega) h24 (Nat.le_refl _) HC1.out
    rw [e0] at lb
    clear e0
    by_cases hs : sumC l ≤ 24
    ·have HR : Hid (rightC l = true) := by show _ = _; unfold rightC; rw [HC1.out]; simpa using hs
     generalize sumC l = z at lb hs
     go_wp2_with (go_at_call 67; refine lb.mono ?_; rintro e w9 ⟨rfl, hb9⟩)
     go_ret
     exact ⟨by rw [HR.out]; simp [Array.getD]; try omega, HB.out.trans (hb9.mono zz)⟩
    ·have HR : Hid (rightC l = false) := by show _ = _; unfold rightC; rw [HC1.out]; simpa using hs
     generalize sumC l = z at lb hs
     go_wp2_with (go_at_call 67; refine lb.mono ?_; rintro e w9 ⟨rfl, hb9⟩)
     go_ret
     exact ⟨by rw [HR.out]; simp [Array.getD]; try omega, HB.out.trans (hb9.mono zz)⟩
   ·have h24' : ¬ (l.length : Int) ≤ 24 := by omega
    have HR : Hid (rightC l = false) := by
     show _ = _
     unfold rightC
     have := sumC_len _ HC1.out
     rw [HC1.out]
     simp
     omega
    clear h24
    go_wp2
    go_ret
    exact ⟨by rw [HR.out]; rfl, HB.out⟩
theorem baseV_no {l : List Int} {n : Int} (h : ¬ (rightC l = true ∧ 0 ≤ n ∧ n ≤ (l.length : Int) - 1)) : baseV l n = -1 := by
 unfold baseV
 rw [if_neg]
 rintro ⟨a, b, c, d⟩
 exact h ⟨by unfold rightC; rw [a]; simpa using b, c, by omega⟩
theorem baseV_yes {l : List Int} {n : Int} (h : rightC l = true) (h0 : 0 ≤ n) (h1 : n ≤ (l.length : Int) - 1) : baseV l n = sumC (l.take n.toNat) := by
 unfold rightC at h
 rw [Bool.and_eq_true, decide_eq_true_eq] at h
 unfold baseV
 rw [if_pos ⟨h.1, h.2, h0, by omega⟩]
set_option maxHeartbeats 4000000 in
theorem specBase_any (s : Option Addr) (c lo hi : Nat) (l : List Int) (n : Int) (w : World) (h : IntsR w lo hi s l) (hB : hi ≤ w.heap.size) (hl : l.length ≤ 2000000) :
  Calls Tryz.prog 74 #[.slice s l.length c, .int .i64 n] w fun e w' => e = .returned (.int .i64 (baseV l n)) ∧ Below w.heap.size w w' := by
 have H : Hid (IntsR w lo hi s l) := h
 clear h
 have r9 := l9Right_any s c lo hi l w H.out hB hl
 by_cases hr : rightC l = true
 ·rw [hr] at r9
  by_cases hn : 0 ≤ n ∧ n ≤ (l.length : Int) - 1
  ·have hd : decide (0 ≤ n ∧ n ≤ (l.length : Int) - 1) = true := decide_eq_true hn
   have HE : Hid (baseV l n = sumC (l.take n.toNat)) := baseV_yes hr hn.1 hn.2
   have hrr := hr
   unfold rightC at hrr
   rw [Bool.and_eq_true, decide_eq_true_eq] at hrr
   have hlen := sumC_len _ hrr.1
   have HC : Hid (capsR l = true) := hrr.1
   have h24 : l.length ≤ 24 := by omega
   have n0 := hn.1
   have n1 := hn.2
   have HT : Hid (IntsR w lo hi s l) := H.out
   obtain ⟨m, rfl⟩ : ∃ m : Nat, n = (m : Int) := ⟨n.toNat, by omega⟩
   rw [Int.toNat_natCast] at HE
   clear hn hr hrr hlen
   go_enter Tryz.func74, Tryz.ntmps74
   go_wp2_with (first | (go_at_call 39; refine r9.mono ?_; rintro e w8 ⟨rfl, hb8⟩; have z8 := hb8.size) | (go_at_call 65; refine (l1InD_is _ _ _ true _ hd).mono ?_; rintro e w9 ⟨rfl, hw9⟩; subst w9) | (go_at_call 67; refine (l9Base_any s c lo hi l m w8 (H.out.keep (Keep.of_below hb8 hB)) (by omega) h24 (by omega) HC.out).mono ?_; rintro e w9 ⟨rfl, hb9⟩))
   go_ret
   exact ⟨by rw [HE.out]; rfl, hb8.trans (hb9.mono z8)⟩
  ·have hd : decide (0 ≤ n ∧ n ≤ (l.length : Int) - 1) = false := decide_eq_false hn
   have HE : Hid (baseV l n = -1) := baseV_no (fun e => hn e.2)
   clear hn hr
   go_enter Tryz.func74, Tryz.ntmps74
   go_wp2_with (first | (go_at_call 39; refine r9.mono ?_; rintro e w8 ⟨rfl, hb8⟩; have z8 := hb8.size) | (go_at_call 65; refine (l1InD_is _ _ _ false _ hd).mono ?_; rintro e w9 ⟨rfl, hw9⟩; subst w9))
   go_ret
   exact ⟨by rw [HE.out]; rfl, hb8⟩
 ·have HE : Hid (baseV l n = -1) := baseV_no (fun e => hr e.1)
  have hr' : rightC l = false := by simpa using hr
  rw [hr'] at r9
  clear hr hr'
  go_enter Tryz.func74, Tryz.ntmps74
  go_wp2_with (go_at_call 39; refine r9.mono ?_; rintro e w8 ⟨rfl, hb8⟩; have z8 := hb8.size)
  go_ret
  exact ⟨by rw [HE.out]; rfl, hb8⟩
end
end Go.Proofs.YtehjbpjjegajjaaGreat
