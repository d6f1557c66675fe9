/- When code is right. CodeOk of the program, at every list of at most 1048576 steps. CodeOk of the specification, at every list of at most 1048576 steps. Rows of cells, five a piece. Rows of rows of steps that a call has made. The code of a body, without a program: the code of its places, one behind the other. Conditions: bodies that are right. The code of a body: what codeOf of the program answers. Conditions: bodies that are right, at most 2^20 channels. Compile of the program. Conditions: programs that fit. Compile of the specification. Conditions: programs that fit. The code of a body is as long as its places are together; how many first steps lie below a step. Conditions: bodies that are right. DrawCompile: a program is drawn. Conditions: the code lies in memory. sameSteps of two rows that are alike. Conditions: at most a thousand steps. -/
import Derived.Test.YteddmadbegpecaaGreatX2
import Derived.Test.YteddmadbegpecaaGreatX5
import Derived.Deep.RegionHeld3
import Derived.Test.YteddmadbegpecaaGreatProgDefs
import Derived.Test.YteddmadbegpecaaGreatOwnN
import Derived.Test.YteddmadbegpecaaGreatP11Body
import Derived.Test.YteddmadbegpecaaGreatX1
import Derived.Test.YteddmadbegpecaaGreatP11Sort
import Derived.Deep.QuietTactic
import Derived.BigQuiet
import Derived.Test.YteddmadbegpecaaGreatP11Jump
import Derived.Test.YteddmadbegpecaaGreatP11St
import Derived.Test.YteddmadbegpecaaGreatX3
import Derived.Test.YteddmadbegpecaaGreatP11Pl
import Derived.Test.YteddmadbegpecaaGreatF11Draw
import Derived.Test.YteddmadbegpecaaGreatInsDefs
import Derived.Test.YteddmadbegpecaaGreatX4
import Derived.BigRegion
namespace Go.Proofs.YteddmadbegpecaaGreat
section
set_option linter.unusedSimpArgs false
set_option linter.unusedVariables false
set_option maxRecDepth 100000
open Go.RowKit


def stX (x : I5) (pl : Int) : Bool := Plain.stepB x.o x.r x.a x.b x.n pl
def lastC (l : List I5) : Bool := Plain.endB (l.getD (l.length - 1) z5).o
def codeB (l : List I5) : Bool := decide (∀ i, i < l.length → stX (l.getD i z5) l.length = true) && (decide (1 ≤ l.length ∧ l.length ≤ 800) && lastC l)

theorem code_no {l : List I5} {k : Nat} (hk : k < l.length) (h : stX (l.getD k z5) l.length = false) : codeB l = false := by
  have : decide (∀ i, i < l.length → stX (l.getD i z5) l.length = true) = false := by
    rw [decide_eq_false_iff_not]
    intro H
    rw [H k hk] at h
    cases h
  unfold codeB
  rw [this]
  rfl
theorem code_all {l : List I5} (h : ∀ i, i < l.length → stX (l.getD i z5) l.length = true) : codeB l = (decide (1 ≤ l.length ∧ l.length ≤ 800) && lastC l) := by
  unfold codeB
  rw [decide_eq_true h]
  simp
theorem code_short {l : List I5} (h : Plain.inB (l.length : Int) 1 800 = false) : codeB l = false := by
  have : decide (1 ≤ l.length ∧ l.length ≤ 800) = false := by
    rw [decide_eq_false_iff_not]
    simp [Plain.inB] at h
    omega
  unfold codeB
  rw [this]
  simp
end

section
set_option linter.unusedSimpArgs false
set_option linter.unusedVariables false
set_option maxRecDepth 100000
open Go.RowKit

theorem endsCode_any (o r a b n : Int) (w : World) : Calls Tryz.prog 31 #[.agg #[.int .i64 o, .int .i64 r, .int .i64 a, .int .i64 b, .int .i64 n]] w fun e w' => e = .returned (.bool (Plain.endB o)) ∧ Below w.heap.size w w' := by
  by_cases h1 : o = 10
  · subst h1
    go_enter Tryz.func31, Tryz.ntmps31
    go_wp2
    go_ret
    exact ⟨rfl, (Below.refl _ _).alloc (Nat.le_refl _) _⟩
  have h2 : (o == 10) = false := by simp [h1]
  by_cases h3 : o = 12
  · subst h3
    go_enter Tryz.func31, Tryz.ntmps31
    go_wp2
    go_ret
    exact ⟨rfl, (Below.refl _ _).alloc (Nat.le_refl _) _⟩
  have h4 : (o == 12) = false := by simp [h3]
  go_enter Tryz.func31, Tryz.ntmps31
  go_wp2
  go_ret
  exact ⟨ret_bool (by rw [Bool.eq_iff_iff]; simp [Plain.endB, h1, h3]), (Below.refl _ _).alloc (Nat.le_refl _) _⟩

set_option maxRecDepth 100000 in
set_option maxHeartbeats 1000000 in
theorem implCode_some (g off c B : Nat) (l : List I5) (w : World) (hg : g < B) (hc : ∀ i, i < l.length → At5 w g (off + i * 5) (l.getD i z5)) (hB : B ≤ w.heap.size) (hl1 : 1 ≤ l.length) (hl : l.length ≤ 800) :
    Calls Tryz.prog 11 #[.slice (some ⟨g, off, none⟩) l.length c] w fun e w' => e = .returned (.bool (codeB l)) ∧ Below w.heap.size w w' := by
  have HC : Hid (∀ i, i < l.length → At5 w g (off + i * 5) (l.getD i z5)) := hc
  clear hc
  have q1 : ¬ (l.length : Int) < 1 := by omega
  have q2 : ¬ 800 < (l.length : Int) := by omega
  go_enter Tryz.func11, Tryz.ntmps11
  go_wp2
  go_loopw [15] (fun i wr => ∃ k : Nat, k ≤ l.length ∧ i = .int .i64 k ∧ Below w.heap.size w wr ∧ (∀ i, i < k → stX (l.getD i z5) l.length = true)) (fun i _ => l.length - (intOf i).toNat)
  case atStart => exact ⟨0, Nat.zero_le _, rfl, Below.refl _ _, fun i hi => absurd hi (Nat.not_lt_zero _)⟩
  case round =>
    obtain ⟨k, hk, rfl, hb, hd⟩ := hrel
    have HB : Hid (Below w.heap.size w wr) := hb
    have HD : Hid (∀ i, i < k → stX (l.getD i z5) l.length = true) := hd
    clear hb hd
    by_cases hlt : k < l.length
    · obtain ⟨f0, f1, f2, f3, f4⟩ := (HC.out k hlt).keep HB.out (by omega)
      cases hv : stX (l.getD k z5) l.length
      · have F : Hid (codeB l = false) := code_no hlt hv
        generalize l.getD k z5 = x at f0 f1 f2 f3 f4 hv
        obtain ⟨xo, xr, xa, xb, xn⟩ := x
        have V : Hid (Plain.stepB xo xr xa xb xn l.length = false) := hv
        clear hv
        have b0 : (0 : Int) ≤ (k : Int) := by omega
        have b1 : (k : Int) < (l.length : Int) := by omega
        go_wp2_with fail
        refine (stepOk_any _ _ _ _ _ _ _).mono ?_
        rintro e w1 ⟨rfl, hb1⟩
        rw [V.out]
        have hs1 := HB.out.size
        go_wp2
        go_ret
        exact ⟨by rw [F.out]; rfl, (HB.out.alloc hs1 _).trans (hb1.mono (by simp; omega))⟩
      · have HV : Hid (stX (l.getD k z5) l.length = true) := hv
        generalize l.getD k z5 = x at f0 f1 f2 f3 f4 hv
        obtain ⟨xo, xr, xa, xb, xn⟩ := x
        have V : Hid (Plain.stepB xo xr xa xb xn l.length = true) := hv
        clear hv
        have b0 : (0 : Int) ≤ (k : Int) := by omega
        have b1 : (k : Int) < (l.length : Int) := by omega
        go_wp2_with fail
        refine (stepOk_any _ _ _ _ _ _ _).mono ?_
        rintro e w1 ⟨rfl, hb1⟩
        rw [V.out]
        have hs1 := HB.out.size
        have HB1 : Hid (Below w.heap.size w w1) := (HB.out.alloc hs1 _).trans (hb1.mono (by simp; omega))
        clear hb1
        go_wp2
        go_roundw
        case rel =>
          refine ⟨k + 1, by omega, by go_num, HB1.out, ?_⟩
          intro i hi
          by_cases e : i = k
          · subst e; exact HV.out
          · exact HD.out i (by omega)
        case measure => simp [intOf]; omega
    · have : k = l.length := by omega
      subst this
      have F : Hid (codeB l = lastC l) := by
        show _ = _
        rw [code_all HD.out, decide_eq_true ⟨hl1, hl⟩]
        simp
      obtain ⟨f0, f1, f2, f3, f4⟩ := (HC.out (l.length - 1) (by omega)).keep HB.out (by omega)
      generalize hx : l.getD (l.length - 1) z5 = x at f0 f1 f2 f3 f4
      have FX : Hid (lastC l = Plain.endB x.o) := by show _ = _; unfold lastC; rw [hx]
      clear hx
      obtain ⟨xo, xr, xa, xb, xn⟩ := x
      have b0 : (1 : Int) ≤ (l.length : Int) := by omega
      have b1 : (l.length : Int) - 1 < (l.length : Int) := by omega
      go_wp2_with fail
      refine (endsCode_any _ _ _ _ _ _).mono ?_
      rintro e w1 ⟨rfl, hb1⟩
      have hs1 := HB.out.size
      go_wp2
      go_ret
      exact ⟨ret_bool (by rw [F.out, FX.out]), HB.out.trans (hb1.mono hs1)⟩

theorem implCode_bad (s : Option Addr) (n c : Nat) (w : World) (hn : n ≤ 1048576) (h : n < 1 ∨ 800 < n) :
    Calls Tryz.prog 11 #[.slice s n c] w fun e w' => e = .returned (.bool false) ∧ w' = w := by
  by_cases h2 : n < 1
  · have q1 : (n : Int) < 1 := by omega
    clear h h2
    go_enter Tryz.func11, Tryz.ntmps11
    go_wp2
    go_ret
    exact ⟨rfl, rfl⟩
  · have q1 : ¬ (n : Int) < 1 := by omega
    have q2 : 800 < (n : Int) := by omega
    clear h h2
    go_enter Tryz.func11, Tryz.ntmps11
    go_wp2
    go_ret
    exact ⟨rfl, rfl⟩

theorem implCode_any (s : Option Addr) (c B : Nat) (l : List I5) (w : World) (h : InsB w B s l) (hB : B ≤ w.heap.size) (hl : l.length ≤ 1048576) :
    Calls Tryz.prog 11 #[.slice s l.length c] w fun e w' => e = .returned (.bool (codeB l)) ∧ Below w.heap.size w w' := by
  by_cases hd : 1 ≤ l.length ∧ l.length ≤ 800
  · obtain ⟨h2, h3⟩ := hd
    rcases h with rfl | ⟨g, off, rfl, hg, hc⟩
    · simp at h2
    · exact implCode_some g off c B l w hg hc hB h2 h3
  · have F : codeB l = false := by
      refine code_short ?_
      simp [Plain.inB]
      omega
    rw [F]
    refine (implCode_bad s l.length c w hl (by omega)).mono ?_
    rintro e w' ⟨rfl, rfl⟩
    exact ⟨rfl, Below.refl _ _⟩
end

section
set_option linter.unusedSimpArgs false
set_option linter.unusedVariables false
set_option maxRecDepth 100000
open Go.RowKit

set_option maxRecDepth 100000 in
set_option maxHeartbeats 1000000 in
theorem specCode_some (g off c B : Nat) (l : List I5) (w : World) (hg : g < B) (hc : ∀ i, i < l.length → At5 w g (off + i * 5) (l.getD i z5)) (hB : B ≤ w.heap.size) (hl : l.length ≤ 1048576) :
    Calls Tryz.prog 27 #[.slice (some ⟨g, off, none⟩) l.length c] w fun e w' => e = .returned (.bool (codeB l)) ∧ Below w.heap.size w w' := by
  have HC : Hid (∀ i, i < l.length → At5 w g (off + i * 5) (l.getD i z5)) := hc
  clear hc
  go_enter Tryz.func27, Tryz.ntmps27
  cases h1 : Plain.inB (l.length : Int) 1 800
  · have F : Hid (codeB l = false) := code_short h1
    go_wp2_with (go_at_call 35; refine (l1In_is _ _ _ _ _ h1).mono ?_; rintro e w' ⟨rfl, rfl⟩)
    go_ret
    exact ⟨by rw [F.out]; rfl, Below.refl _ _⟩
  have hlen : 1 ≤ l.length ∧ l.length ≤ 800 := by simp [Plain.inB] at h1; omega
  go_wp2_with (go_at_call 35; refine (l1In_is _ _ _ _ _ h1).mono ?_; rintro e w' ⟨rfl, hw⟩; have hw' := hw.symm; clear hw; subst hw')
  clear h1
  go_loopw [4] (fun i wr => ∃ k : Nat, k ≤ l.length ∧ i = .int .i64 k ∧ Below w.heap.size w wr ∧ (∀ i, i < k → stX (l.getD i z5) l.length = true)) (fun i _ => l.length - (intOf i).toNat)
  case atStart => exact ⟨0, Nat.zero_le _, rfl, Below.refl _ _, fun i hi => absurd hi (Nat.not_lt_zero _)⟩
  case round =>
    obtain ⟨k, hk, rfl, hb, hd⟩ := hrel
    have HB : Hid (Below w.heap.size w wr) := hb
    have HD : Hid (∀ i, i < k → stX (l.getD i z5) l.length = true) := hd
    clear hb hd
    by_cases hlt : k < l.length
    · obtain ⟨f0, f1, f2, f3, f4⟩ := (HC.out k hlt).keep HB.out (by omega)
      cases hv : stX (l.getD k z5) l.length
      · have F : Hid (codeB l = false) := code_no hlt hv
        generalize l.getD k z5 = x at f0 f1 f2 f3 f4 hv
        obtain ⟨xo, xr, xa, xb, xn⟩ := x
        have V : Hid (Plain.stepB xo xr xa xb xn l.length = false) := hv
        clear hv
        have b0 : (0 : Int) ≤ (k : Int) := by omega
        have b1 : (k : Int) < (l.length : Int) := by omega
        go_wp2_with fail
        refine (specStepOk_any _ _ _ _ _ _ _).mono ?_
        rintro e w1 ⟨rfl, hb1⟩
        rw [V.out]
        have hs1 := HB.out.size
        go_wp2
        go_ret
        exact ⟨by rw [F.out]; rfl, HB.out.trans (hb1.mono hs1)⟩
      · have HV : Hid (stX (l.getD k z5) l.length = true) := hv
        generalize l.getD k z5 = x at f0 f1 f2 f3 f4 hv
        obtain ⟨xo, xr, xa, xb, xn⟩ := x
        have V : Hid (Plain.stepB xo xr xa xb xn l.length = true) := hv
        clear hv
        have b0 : (0 : Int) ≤ (k : Int) := by omega
        have b1 : (k : Int) < (l.length : Int) := by omega
        go_wp2_with fail
        refine (specStepOk_any _ _ _ _ _ _ _).mono ?_
        rintro e w1 ⟨rfl, hb1⟩
        rw [V.out]
        have hs1 := HB.out.size
        have HB1 : Hid (Below wr.heap.size wr w1) := hb1
        clear hb1
        go_wp2
        go_roundw
        case rel =>
          refine ⟨k + 1, by omega, by go_num, HB.out.trans (HB1.out.mono hs1), ?_⟩
          intro i hi
          by_cases e : i = k
          · subst e; exact HV.out
          · exact HD.out i (by omega)
        case measure => simp [intOf]; omega
    · have : k = l.length := by omega
      subst this
      have F : Hid (codeB l = lastC l) := by
        show _ = _
        rw [code_all HD.out, decide_eq_true hlen]
        simp
      obtain ⟨f0, -⟩ := (HC.out (l.length - 1) (by omega)).keep HB.out (by omega)
      generalize hx : (l.getD (l.length - 1) z5).o = x at f0
      have FX : Hid (lastC l = Plain.endB x) := by show _ = _; unfold lastC; rw [hx]
      clear hx
      have b0 : (1 : Int) ≤ (l.length : Int) := by omega
      have b1 : (l.length : Int) - 1 < (l.length : Int) := by omega
      by_cases x10 : x = 10
      · subst x10
        go_wp2
        go_ret
        exact ⟨ret_bool (by rw [F.out, FX.out]; rfl), HB.out⟩
      by_cases x12 : x = 12
      · subst x12
        go_wp2
        go_ret
        exact ⟨ret_bool (by rw [F.out, FX.out]; rfl), HB.out⟩
      have y10 : (x == 10) = false := by simpa using x10
      have y12 : (x == 12) = false := by simpa using x12
      go_wp2
      go_ret
      exact ⟨ret_bool (by rw [F.out, FX.out, Bool.eq_iff_iff]; simp [Plain.endB, x10, x12]), HB.out⟩

theorem specCode_any (s : Option Addr) (c B : Nat) (l : List I5) (w : World) (h : InsB w B s l) (hB : B ≤ w.heap.size) (hl : l.length ≤ 1048576) :
    Calls Tryz.prog 27 #[.slice s l.length c] w fun e w' => e = .returned (.bool (codeB l)) ∧ Below w.heap.size w w' := by
  rcases h with rfl | ⟨g, off, rfl, hg, hc⟩
  · have h1 : Plain.inB ((0 : Nat) : Int) 1 800 = false := by decide
    have h2 : Plain.inB 0 1 800 = false := by decide
    have F : Hid (codeB [] = false) := code_short (l := []) h1
    clear h1
    go_enter Tryz.func27, Tryz.ntmps27
    go_wp2_with (go_at_call 35; refine (l1In_is _ _ _ _ _ h2).mono ?_; rintro e w' ⟨rfl, rfl⟩)
    go_ret
    exact ⟨by rw [F.out]; rfl, Below.refl _ _⟩
  · exact specCode_some g off c B l w hg hc hB hl
end

section
set_option linter.unusedSimpArgs false
set_option linter.unusedVariables false
set_option maxRecDepth 100000
open Go.RowKit


def cellsP (x : I5) : List Value := [.int .i64 x.o, .int .i64 x.r, .int .i64 x.a, .int .i64 x.b, .int .i64 x.n]
def flatP : List I5 → List Value
  | [] => []
  | x :: r => cellsP x ++ flatP r
theorem flatP_len : ∀ l : List I5, (flatP l).length = l.length * 5
  | [] => rfl
  | x :: r => by simp [flatP, cellsP, flatP_len r]; omega
theorem flatP_snoc : ∀ (l : List I5) (x : I5), flatP (l ++ [x]) = flatP l ++ cellsP x
  | [], x => by simp [flatP]
  | y :: r, x => by simp [flatP, flatP_snoc r x]
theorem flatP_at : ∀ (l : List I5) (i j : Nat) (hi : i < l.length) (hj : j < 5), (flatP l)[i * 5 + j]? = (cellsP (l.getD i z5))[j]?
  | [], i, j, hi, hj => absurd hi (Nat.not_lt_zero _)
  | x :: r, 0, j, hi, hj => by
    simp only [flatP, Nat.zero_mul, Nat.zero_add]
    rw [List.getElem?_append_left (by simp [cellsP]; omega)]
    simp
  | x :: r, i + 1, j, hi, hj => by
    have h5 : (cellsP x).length = 5 := rfl
    simp only [flatP]
    rw [List.getElem?_append_right (by rw [h5]; omega), h5, show (i + 1) * 5 + j - 5 = i * 5 + j by omega, flatP_at r i j (by simp at hi; omega) hj]
    simp

theorem ownKeep {w w' : World} {base : Nat} {e : TypeId} {size n : Nat} {v : Value} {xs : List Value} (h : w.ownsRow base e size v n xs) (hb : ∀ k, v.ownBlock = some k → w'.heap[k]? = w.heap[k]?) : w'.ownsRow base e size v n xs := by
  obtain ⟨h1, h2⟩ := h
  refine ⟨h1, ?_⟩
  rcases h2 with h2 | ⟨g, cap, cur, rfl, b0, c, d⟩
  · exact .inl h2
  · exact .inr ⟨g, cap, cur, rfl, b0, (hb g rfl).trans c, d⟩
theorem ownLow {w : World} {b b' : Nat} {e : TypeId} {size n : Nat} {v : Value} {xs : List Value} (h : w.ownsRow b e size v n xs) (hb : b' ≤ b) : w.ownsRow b' e size v n xs := by
  obtain ⟨h1, h2⟩ := h
  refine ⟨h1, ?_⟩
  rcases h2 with h2 | ⟨g, cap, cur, a, b0, c, d⟩
  · exact .inl h2
  · exact .inr ⟨g, cap, cur, a, Nat.le_trans hb b0, c, d⟩
theorem ownType {w : World} {base base' : Nat} {e e' : TypeId} {size size' n n' : Nat} {v v' : Value} {xs xs' : List Value} (h : w.ownsRow base e size v n xs) (h' : w.ownsRow base' e' size' v' n' xs') (hne : e ≠ e') {k : Nat} (hk : v.ownBlock = some k) : v'.ownBlock ≠ some k := by
  intro hk'
  rcases h.2 with ⟨rfl, -⟩ | ⟨g, cap, cur, rfl, -, c, -⟩
  · cases hk
  rcases h'.2 with ⟨rfl, -⟩ | ⟨g', cap', cur', rfl, -, c', -⟩
  · cases hk'
  · simp only [Value.ownBlock, Option.some.injEq] at hk hk'
    subst hk
    subst hk'
    rw [c] at c'
    injection c' with c'
    injection c' with c1 c2
    exact hne c2
theorem getD_snoc {α : Type} (xs : List α) (y d : α) (i : Nat) : (xs ++ [y]).getD i d = if i < xs.length then xs.getD i d else if i = xs.length then y else d := by
  by_cases h : i < xs.length
  · rw [if_pos h]; simp [List.getD_eq_getElem?_getD, List.getElem?_append_left h]
  · rw [if_neg h]
    by_cases h2 : i = xs.length
    · subst h2; simp [List.getD_eq_getElem?_getD]
    · rw [if_neg h2, List.getD_eq_getElem?_getD, List.getElem?_eq_none (by simp; omega)]; rfl
end

section
set_option linter.unusedSimpArgs false
set_option linter.unusedVariables false
set_option maxRecDepth 100000
open Go.RowKit

def OwnP6 (w : World) (base : Nat) (v : Value) (b : List I5) : Prop := w.ownsRow base 56 5 v b.length (flatP b)
def OwnB6 (w : World) (base : Nat) (v : Value) (bs : List (List I5)) : Prop :=
  ∃ xs : List Value, w.ownsRow base 34 1 v bs.length xs ∧ (∀ i, i < bs.length → OwnP6 w base (xs.getD i undef) (bs.getD i [])) ∧ ∀ i j k, i < bs.length → j < bs.length → i ≠ j → (xs.getD i undef).ownBlock = some k → (xs.getD j undef).ownBlock ≠ some k

theorem infoB6 : ∃ i, Tryz.prog.info? 34 = some i ∧ i.zero = some (.slice none 0 0) ∧ i.size = 1 ∧ i.bytes = 24 := ⟨_, rfl, rfl, rfl, rfl⟩

theorem OwnB6.keep {w w' : World} {base : Nat} {v : Value} {bs : List (List I5)} (h : OwnB6 w base v bs) (hb : ∀ k, base ≤ k → k < w.heap.size → w'.heap[k]? = w.heap[k]?) : OwnB6 w' base v bs := by
  obtain ⟨xs, h1, h2, h3⟩ := h
  exact ⟨xs, ownKeep h1 (fun k hk => hb k (World.ownsRow.lt h1 _ hk).1 (World.ownsRow.lt h1 _ hk).2), fun i hi => ownKeep (h2 i hi) (fun k hk => hb k (World.ownsRow.lt (h2 i hi) _ hk).1 (World.ownsRow.lt (h2 i hi) _ hk).2), h3⟩
theorem OwnB6.below {w w' : World} {base : Nat} {v : Value} {bs : List (List I5)} (h : OwnB6 w base v bs) (hb : Below w.heap.size w w') : OwnB6 w' base v bs := h.keep fun k _ hk => hb.block k hk
theorem OwnB6.nil (w : World) (base : Nat) : OwnB6 w base (.slice none 0 0) [] := ⟨[], World.ownsRow_nil _ _ _ _, fun i hi => absurd hi (Nat.not_lt_zero _), fun i j k hi => absurd hi (Nat.not_lt_zero _)⟩
theorem OwnB6.sl {w : World} {base : Nat} {v : Value} {bs : List (List I5)} (h : OwnB6 w base v bs) : ∃ s c, v = .slice s bs.length c := by
  obtain ⟨xs, h, -⟩ := h
  rcases h.2 with ⟨h1, h2⟩ | ⟨g, cap, cur, a, -⟩
  · exact ⟨none, 0, by rw [h1, h2]⟩
  · exact ⟨_, _, a⟩
theorem OwnB6.low {w : World} {b b' : Nat} {v : Value} {bs : List (List I5)} (h : OwnB6 w b v bs) (hb : b' ≤ b) : OwnB6 w b' v bs := by
  obtain ⟨xs, h1, h2, h3⟩ := h
  exact ⟨xs, ownLow h1 hb, fun i hi => ownLow (h2 i hi) hb, h3⟩

/- append of an empty row: what it makes of the rows -/
theorem OwnB6.grow {w w' : World} {base g cap : Nat} {v u : Value} {bs : List (List I5)} {xs : List Value} (h1 : w.ownsRow base 34 1 v bs.length xs) (h2 : ∀ i, i < bs.length → OwnP6 w base (xs.getD i undef) (bs.getD i []))
    (h3 : ∀ i j k, i < bs.length → j < bs.length → i ≠ j → (xs.getD i undef).ownBlock = some k → (xs.getD j undef).ownBlock ≠ some k) (hu : u.ownBlock = none ∨ ∃ k, u.ownBlock = some k ∧ w.heap.size ≤ k)
    (q1 : w'.ownsRow base 34 1 (.slice (some ⟨g, 0, none⟩) (bs.length + 1) cap) (bs.length + 1) (xs ++ [u])) (hk : ∀ k, base ≤ k → k < w.heap.size → v.ownBlock ≠ some k → w'.heap[k]? = w.heap[k]?) {b : List I5} (hP : OwnP6 w' base u b) :
    OwnB6 w' base (.slice (some ⟨g, 0, none⟩) (bs.length + 1) cap) (bs ++ [b]) := by
  have hxl : xs.length = bs.length := by have := h1.1; omega
  refine ⟨xs ++ [u], by rw [List.length_append]; exact q1, ?_, ?_⟩
  · intro i hi
    rw [getD_snoc, getD_snoc, hxl]
    by_cases e : i < bs.length
    · rw [if_pos e, if_pos e]
      exact ownKeep (h2 i e) (fun k hk' => hk k (World.ownsRow.lt (h2 i e) _ hk').1 (World.ownsRow.lt (h2 i e) _ hk').2 (ownType (h2 i e) h1 (by decide) hk'))
    · have : i = bs.length := by simp at hi; omega
      rw [if_neg e, if_pos this, if_neg e, if_pos this]
      exact hP
  · intro i j k hi hj hne
    simp only [List.length_append, List.length_cons, List.length_nil] at hi hj
    rw [getD_snoc, getD_snoc, hxl]
    by_cases e : i < bs.length <;> by_cases e' : j < bs.length
    · rw [if_pos e, if_pos e']; exact h3 i j k e e' hne
    · rw [if_pos e, if_neg e', if_pos (by omega)]
      intro hk' hk''
      have := (World.ownsRow.lt (h2 i e) _ hk').2
      rcases hu with hu | ⟨k', hu, hk2⟩
      · rw [hu] at hk''; cases hk''
      · rw [hu] at hk''; injection hk'' with hk''; omega
    · rw [if_neg e, if_pos (by omega), if_pos e']
      intro hk' hk''
      have := (World.ownsRow.lt (h2 j e') _ hk'').2
      rcases hu with hu | ⟨k', hu, hk2⟩
      · rw [hu] at hk'; cases hk'
      · rw [hu] at hk'; injection hk' with hk'; omega
    · omega

theorem OwnP6.ins {w : World} {base : Nat} {v : Value} {l : List I5} (h : OwnP6 w base v l) : ∃ s c, v = .slice s l.length c ∧ InsR w base w.heap.size s l := by
  rcases Nat.eq_zero_or_pos l.length with h0 | hpos
  · rcases h.2 with ⟨h1, h2⟩ | ⟨g, cap, cur, a, -⟩
    · exact ⟨none, 0, by rw [h1, h2], .inl (List.length_eq_zero_iff.1 h0)⟩
    · exact ⟨_, _, a, .inl (List.length_eq_zero_iff.1 h0)⟩
  · obtain ⟨g, cap, rfl, -⟩ := World.ownsRow.form h hpos
    have hlt := World.ownsRow.lt h g rfl
    refine ⟨_, _, rfl, .inr ⟨g, 0, rfl, hlt.1, hlt.2, fun i hi => ?_⟩⟩
    have hc : ∀ j, j < 5 → w.cell? ⟨g, i * 5 + j, none⟩ = (cellsP (l.getD i z5))[j]? := fun j hj => by
      rw [World.ownsRow.cellAt h (i * 5 + j) (by omega)]
      exact flatP_at l i j hi hj
    rw [Nat.zero_add]
    exact ⟨hc 0 (by omega), hc 1 (by omega), hc 2 (by omega), hc 3 (by omega), hc 4 (by omega)⟩
theorem OwnB6.bods {w : World} {base : Nat} {v : Value} {l : List (List I5)} (h : OwnB6 w base v l) : ∃ s c, v = .slice s l.length c ∧ BodsR w base w.heap.size s l := by
  obtain ⟨xs, h1, h2, -⟩ := h
  rcases Nat.eq_zero_or_pos l.length with h0 | hpos
  · rcases h1.2 with ⟨h1, h2⟩ | ⟨g, cap, cur, a, -⟩
    · exact ⟨none, 0, by rw [h1, h2], .inl (List.length_eq_zero_iff.1 h0)⟩
    · exact ⟨_, _, a, .inl (List.length_eq_zero_iff.1 h0)⟩
  · obtain ⟨g, cap, rfl, -⟩ := World.ownsRow.form h1 hpos
    have hlt := World.ownsRow.lt h1 g rfl
    have hxl : xs.length = l.length := by have := h1.1; omega
    refine ⟨_, _, rfl, .inr ⟨g, 0, rfl, hlt.1, hlt.2, fun i hi => ?_⟩⟩
    obtain ⟨s, c, e, hi'⟩ := OwnP6.ins (h2 i hi)
    refine ⟨s, c, ?_, hi'⟩
    rw [Nat.zero_add, World.ownsRow.cellAt h1 i (by omega), ← e, List.getD_eq_getElem?_getD, List.getElem?_eq_getElem (by omega)]
    rfl
end

section
set_option linter.unusedSimpArgs false
set_option linter.unusedVariables false
set_option maxRecDepth 100000
open Go.RowKit

def emX (cs ss : List Int) (x : I5) (fr : Int) : List I5 := emitM cs ss x.o x.r x.a x.b x.n fr
def cdM (cs : List Int) (l : List I5) : Nat → List I5
  | 0 => []
  | k + 1 => cdM cs l k ++ emX cs (stL l l.length) (l.getD k z5) (stV l k)
theorem cdM_len (cs : List Int) (l : List I5) : ∀ k, (cdM cs l k).length ≤ 40 * k
  | 0 => by simp [cdM]
  | k + 1 => by
    have h1 := cdM_len cs l k
    have h2 := emitM_len cs (stL l l.length) (l.getD k z5).o (l.getD k z5).r (l.getD k z5).a (l.getD k z5).b (l.getD k z5).n (stV l k)
    simp only [cdM, emX, List.length_append]
    omega
theorem sumC_bd : ∀ l : List Int, (∀ c ∈ l, 1 ≤ c ∧ c ≤ 4) → 0 ≤ sumC l ∧ sumC l ≤ 8 * l.length
  | [], _ => by simp [sumC]
  | c :: r, h => by
    have h1 := sumC_bd r (fun x hx => h x (List.mem_cons_of_mem _ hx))
    have h2 := h c (List.mem_cons_self ..)
    simp [sumC] at h1 ⊢
    omega
theorem caps_all {p : PD} (h : progB p = true) : ∀ c ∈ p.caps, 1 ≤ c ∧ c ≤ 4 := fun c hc => by
  obtain ⟨i, hi, e⟩ := List.getElem_of_mem hc
  have := (progB_len h).2.2.2 i hi
  rw [List.getD_eq_getElem?_getD, List.getElem?_eq_getElem hi] at this
  simp at this
  rw [← e]
  exact this
theorem caps_R {p : PD} (h : progB p = true) : capsR p.caps = true := by
  unfold capsR
  rw [List.all_eq_true]
  intro c hc
  exact decide_eq_true (caps_all h c hc)
theorem base_ok {p : PD} (h : progB p = true) {n : Int} (h0 : 0 ≤ n) (h1 : n < p.caps.length) : baseV p.caps n ≠ -1 := by
  have a := sumC_bd p.caps (caps_all h)
  have b := sumC_bd (p.caps.take n.toNat) (fun c hc => caps_all h c (List.mem_of_mem_take hc))
  have c := (progB_len h).2.2.1
  unfold baseV
  rw [if_pos ⟨caps_R h, by omega, h0, h1⟩]
  omega
theorem right_ok {p : PD} (h : progB p = true) : rightC p.caps = true := by
  have a := sumC_bd p.caps (caps_all h)
  have c := (progB_len h).2.2.1
  unfold rightC
  rw [caps_R h, Bool.true_and]
  exact decide_eq_true (by omega)
theorem chanM_pos (o r a x rm b fr : Int) : 0 < (chanM o r a x rm b fr).length := by
  unfold chanM
  repeat' split
  all_goals
    rw [togL_len]
    simp [lens, lockR, askR, faultR, openR, roundR, putR, letR, triedR, takenR, roundT, keepT, keepR, noneT, noneR, cameR]
theorem emitM_pos {cs ss : List Int} {o r a x n fr : Int} (h : Plain.insB o r a x n ss.length cs.length = true) (hb : ∀ m : Int, 0 ≤ m → m < cs.length → baseV cs m ≠ -1) : 0 < (emitM cs ss o r a x n fr).length := by
  have h' := h
  simp only [Plain.insB, decide_eq_true_eq] at h'
  unfold emitM
  rw [if_pos h]
  repeat' split
  all_goals first | exact chanM_pos _ _ _ _ _ _ _ | (simp; done) | (exfalso; rename_i hz; exact hb n (by omega) (by omega) hz)
theorem em_pos {p : PD} (h : progB p = true) {b : Nat} (hb : b < p.bods.length) {k : Nat} (hk : k < (p.bods.getD b []).length) (fr : Int) : 0 < (emX p.caps (stL (p.bods.getD b []) (p.bods.getD b []).length) ((p.bods.getD b []).getD k z5) fr).length := by
  have h1 : bodyB (p.bods.getD b []) p.caps.length = true := by
    simp only [progB, bodsB, Bool.and_eq_true, decide_eq_true_eq] at h
    exact h.2.1 b hb
  have h2 : insX ((p.bods.getD b []).getD k z5) (p.bods.getD b []).length p.caps.length = true := by
    simp only [bodyB, Bool.and_eq_true, decide_eq_true_eq] at h1
    exact h1.1 k hk
  unfold emX
  refine emitM_pos ?_ (fun m h0 h1 => base_ok h h0 h1)
  rw [stL_len]
  exact h2
theorem flat_fl : ∀ l : List I5, (fl5 l).map (Value.int .i64) = flatP l
  | [] => rfl
  | x :: r => by simp [fl5, flatP, cellsP, flat_fl r]
end

section
set_option linter.unusedSimpArgs false
set_option linter.unusedVariables false
set_option maxRecDepth 100000
open Go.RowKit

theorem wp5g {o : Oper} {a : Act} {K : Act → World → Prop} {Q : Exit → Act → World → Prop} (s x : Operand) (ho : o.op = .call { callee := .builtin .append, args := #[s, x], argTypes := #[34, 34] })
    (w : World) (base : Nat) (v : Value) (L1 : List I5) (hs : a.eval s = v) (hown : OwnT5 w base v L1) (base2 g2 n2 c2 : Nat) (L2 : List I5) (hx : a.eval x = .slice (some ⟨g2, 0, none⟩) n2 c2) (h2 : OwnT5 w base2 (.slice (some ⟨g2, 0, none⟩) n2 c2) L2) (hl2 : L2.length = n2)
    (hl : 0 < n2) (hn : L1.length + n2 ≤ 1000) (N : Nat) (hN : L1.length + n2 = N) (hbase : base ≤ w.heap.size)
    (h : ∀ g c w', OwnT5 w' base (.slice (some ⟨g, 0, none⟩) N c) (L1 ++ L2) → Below base w w' → (∀ k, k < w.heap.size → v.ownBlock ≠ some k → w'.heap[k]? = w.heap[k]?) → K (a.put o.dst (.slice (some ⟨g, 0, none⟩) N c)) w') : Oper.wp Tryz.prog o a w K Q := by
  obtain ⟨i0, hi0, hz0, hz1, hz2⟩ := infoSt
  subst hN hl2
  refine wp_append_lies w s x 34 ho base 56 i0 _ 5 40 Tryz.underlying34 hi0 hz0 hz1 hz2 rfl (by decide) v L1.length _ hs hown ⟨g2, 0, none⟩ L2.length c2 ((fl5 L2).map (Value.int .i64)) hx (by rw [List.length_map, fl5_len]) (fun j u hj => ?_) (fun u hu => by obtain ⟨z, -, rfl⟩ := List.mem_map.1 hu; rfl) hl (by unfold maxLen; omega) (by omega) hbase _ rfl ?_
  · rw [List.getElem?_map] at hj
    obtain ⟨z, hz, rfl⟩ := Option.map_eq_some_iff.1 hj
    have ea : Addr.add ⟨g2, 0, none⟩ j = ⟨g2, j, none⟩ := by
      by_cases h : j = 0
      · subst h; rfl
      · simp [Addr.add, h]
    rw [ea]
    exact h2.cellAt hz
  intro g cap w' q1 q2 q3 q4
  refine h g cap w' ?_ (Below.grown (Below.refl _ _) q2 hbase (fun j hj => (World.ownsRow.lt hown _ hj).1)) (fun k hk hne => q2.block k hk (fun e => hne e.symm))
  show w'.ownsRow base 56 5 _ (L1 ++ L2).length ((fl5 (L1 ++ L2)).map (Value.int .i64))
  rw [fl5_app, List.map_append, List.length_append]
  exact q1
theorem step5g {ops : Array Oper} {o : Oper} {a : Act} {K : Act → World → Prop} {Q : Exit → Act → World → Prop} {E : Prop} (hgd : o.guard = none) (s x : Operand) (ho : o.op = .call { callee := .builtin .append, args := #[s, x], argTypes := #[34, 34] })
    (w : World) (base : Nat) (v : Value) (L1 : List I5) (hs : a.eval s = v) (hown : OwnT5 w base v L1) (base2 g2 n2 c2 : Nat) (L2 : List I5) (hx : a.eval x = .slice (some ⟨g2, 0, none⟩) n2 c2) (h2 : OwnT5 w base2 (.slice (some ⟨g2, 0, none⟩) n2 c2) L2) (hl2 : L2.length = n2)
    (hl : 0 < n2) (hn : L1.length + n2 ≤ 1000) (N : Nat) (hN : L1.length + n2 = N) (hbase : base ≤ w.heap.size)
    (h : ∀ g c w', OwnT5 w' base (.slice (some ⟨g, 0, none⟩) N c) (L1 ++ L2) → Below base w w' → (∀ k, k < w.heap.size → v.ownBlock ≠ some k → w'.heap[k]? = w.heap[k]?) → K (a.put o.dst (.slice (some ⟨g, 0, none⟩) N c)) w') : if Region.wanted o (yielded ops a.tmps) = true then Oper.wp Tryz.prog o a w K Q else E := by
  have hw : Region.wanted o (yielded ops a.tmps) = true := by simp [Region.wanted, hgd]
  rw [if_pos hw]
  exact wp5g s x ho w base v L1 hs hown base2 g2 n2 c2 L2 hx h2 hl2 hl hn N hN hbase h
theorem implEmit_n (o r a x n fr : Int) (ss sk : Option Addr) (sc kc lo hi lo' hi' : Nat) (caps starts : List Int) (m : Nat) (hm : starts.length = m) (w : World) (hcp : IntsR w lo hi sk caps) (hhi : hi ≤ w.heap.size) (hcl : caps.length ≤ 2000000) (hst : IntsR w lo' hi' ss starts) (hhi' : hi' ≤ w.heap.size) :
    Calls Tryz.prog 44 #[.slice sk caps.length kc, .agg #[.int .i64 o, .int .i64 r, .int .i64 a, .int .i64 x, .int .i64 n], .int .i64 fr, .slice ss m sc] w fun e w' => ∃ v, e = .returned v ∧ OwnT5 w' w.heap.size v (emitM caps starts o r a x n fr) ∧ Below w.heap.size w w' := by
  subst hm
  exact implEmit_any o r a x n fr ss sk sc kc lo hi lo' hi' caps starts w hcp hhi hcl hst hhi'
set_option maxHeartbeats 2000000 in
theorem haveBases_yes (s : Option Addr) (c lo hi : Nat) (p : PD) (w : World) (hp : progB p = true) (h : IntsR w lo hi s p.caps) (hB : hi ≤ w.heap.size) :
    Calls Tryz.prog 22 #[.slice s p.caps.length c] w fun e w' => e = .returned (.bool true) ∧ Below w.heap.size w w' := by
  have hl := (progB_len hp).2.2.1
  have HI := hidP h
  have HP := hidP hp
  clear h hp
  by_cases h0 : p.caps.length = 0
  · have h1 : ((p.caps.length : Int) == 0) = true := by simp [h0]
    clear h0
    go_enter Tryz.func22, Tryz.ntmps22
    go_wp2
    go_ret
    exact ⟨rfl, Below.refl _ _⟩
  · have h1 : ((p.caps.length : Int) == 0) = false := beq_eq_false_iff_ne.2 (by omega)
    have h2 : (baseV p.caps 0 != -1) = true := by simpa using base_ok HP.out (Int.le_refl 0) (by omega)
    obtain ⟨bv, hbv⟩ : ∃ bv, baseV p.caps 0 = bv := ⟨_, rfl⟩
    have HBV := hidP hbv
    rw [hbv] at h2
    clear hbv h0
    go_enter Tryz.func22, Tryz.ntmps22
    go_wp2_with (go_at_call 43; refine (implBase_any s c lo hi p.caps 0 w HI.out hB (by omega)).mono ?_; rintro e w1 ⟨rfl, hb1⟩; rw [HBV.out])
    go_ret
    exact ⟨rfl, hb1⟩

set_option maxRecDepth 100000 in
set_option maxHeartbeats 4000000 in
theorem codeOf_any (sk s : Option Addr) (kc c lo' hi' lo hi : Nat) (cs : List Int) (l : List I5) (w : World) (hcp : IntsR w lo' hi' sk cs) (hB' : hi' ≤ w.heap.size) (hcl : cs.length ≤ 1048576) (h : InsR w lo hi s l) (hB : hi ≤ w.heap.size) (hr : Rt l)
    (hpos : ∀ k, k < l.length → 0 < (emX cs (stL l l.length) (l.getD k z5) (stV l k)).length) :
    Calls Tryz.prog 23 #[.slice sk cs.length kc, .slice s l.length c] w fun e w' => ∃ v, e = .returned v ∧ OwnT5 w' w.heap.size v (cdM cs l l.length) ∧ Below w.heap.size w w' := by
  have HCP := hidP hcp
  have HI := hidP h
  have HR := hidP hr
  have HPO := hidP hpos
  have hl24 := hr.len
  clear hcp h hr hpos
  go_enter Tryz.func23, Tryz.ntmps23
  go_wp2_with fail
  refine (startsOf_any s c lo hi l w HI.out hB HR.out).mono ?_
  rintro e w1 ⟨⟨gs, cps, rfl, ho1⟩, hb1⟩
  have hos : OwnN w1 w.heap.size (.slice (some ⟨gs, 0, none⟩) (stL l l.length).length cps) (stL l l.length) := by rw [stL_len]; exact ho1
  have HS := hidP (ownN_intsR hos)
  have hgs := own_block_lt ho1 (k := gs) rfl
  have hsc : ∀ i, i < l.length → w1.cell? ⟨gs, i, none⟩ = some (.int .i64 (stV l i)) := fun i hi => by
    have := hos.cell (i := i) (by rw [stL_len]; exact hi)
    rw [stL_at l hi] at this
    exact this
  have HSC := hidP hsc
  have K1 := hidP hb1
  have hz1 := hb1.size
  clear ho1 hos hb1 hsc
  go_wp2
  go_loopw [6, 13] (fun v i wr => ∃ k : Nat, k ≤ l.length ∧ i = .int .i64 k ∧ OwnT5 wr w1.heap.size v (cdM cs l k) ∧ Below w1.heap.size w1 wr) (fun _ i _ => l.length - (intOf i).toNat)
  case atStart => exact ⟨0, Nat.zero_le _, rfl, World.ownsRow_nil _ _ _ _, Below.refl _ _⟩
  case round =>
    obtain ⟨k, hk, rfl, ho, hb⟩ := hrel
    have HO := hidP ho
    have HB := hidP hb
    have hs := hb.size
    by_cases hlt : k < l.length
    · obtain ⟨gl, off, hs', hlo, hgl, hc⟩ := insR_at HI.out hlt
      subst hs'
      obtain ⟨f0, f1, f2, f3, f4⟩ := (hc k hlt).keep (K1.out.trans (hb.mono hz1)) (by omega)
      clear ho hb hc
      have hp1 := HPO.out k hlt
      have EC := hidP (show cdM cs l (k + 1) = cdM cs l k ++ emX cs (stL l l.length) (l.getD k z5) (stV l k) from rfl)
      generalize l.getD k z5 = x at f0 f1 f2 f3 f4 hp1 EC
      obtain ⟨xo, xr, xa, xb, xn⟩ := x
      have b0 : (0 : Int) ≤ (k : Int) := by omega
      have b1 : (k : Int) < (l.length : Int) := by omega
      have b3 : (k : Int) < (k : Int) + 1 := by omega
      obtain ⟨st, hst⟩ : ∃ st, stV l k = st := ⟨_, rfl⟩
      have f5 := (HB.out.cell (p := ⟨gs, k, none⟩) hgs.2).trans (HSC.out k hlt)
      rw [hst] at f5 hp1
      have HST := hidP hst
      clear hst
      obtain ⟨L, hL⟩ : ∃ L, emX cs (stL l l.length) ⟨xo, xr, xa, xb, xn⟩ st = L := ⟨_, rfl⟩
      have HL := hidP (show emitM cs (stL l l.length) xo xr xa xb xn st = L from hL)
      have hLn : L.length ≤ 40 := by rw [← HL.out]; exact emitM_len _ _ _ _ _ _ _ _
      have hcn := cdM_len cs l k
      rw [hL] at hp1
      have EL := hidP hL
      clear hL
      obtain ⟨W, hW, bx, kb, zb⟩ := Bo5.new wr (.int .i64 xo) (.int .i64 xr) (.int .i64 xa) (.int .i64 xb) (.int .i64 xn) 46
      have HX := hidP bx
      have KB := hidP kb
      have hzW : wr.heap.size + 1 ≤ W.heap.size := by omega
      clear zb
      have HCW := hidP (HCP.out.keep (Keep.of_below (K1.out.trans ((HB.out.trans (KB.out.mono hs)).mono hz1)) hB'))
      have HSW := hidP (HS.out.keep (Keep.of_below (HB.out.trans (KB.out.mono hs)) (Nat.le_refl _)))
      have HOW := hidP (HO.out.keep KB.out)
      have g0 := bx.c0
      have g1 := bx.c1
      have g2 := bx.c2
      have g3 := bx.c3
      have g4 := bx.c4
      have g5 := (KB.out.cell (p := ⟨gs, k, none⟩) (show gs < wr.heap.size by omega)).trans f5
      have hbx : ∀ kk, (u6 : Value).ownBlock = some kk → kk < wr.heap.size := fun kk e => (World.ownsRow.lt HO.out _ e).2
      have HBX := hidP hbx
      clear bx kb hbx
      have side1 : hi' ≤ W.heap.size := by omega
      have side2 : w1.heap.size ≤ W.heap.size := by omega
      have side3 : cs.length ≤ 2000000 := by omega
      have side4 : (cdM cs l k).length + L.length ≤ 1000 := by omega
      have side5 : gs < W.heap.size := by omega
      have side6 : gs < wr.heap.size := by omega
      have EST := hidP (show some (Value.int .i64 (stV l k)) = some (Value.int .i64 st) by rw [HST.out])
      go_wp2_with fail
      clear hW f0 f1 f2 f3 f4 f5
      go_region_held3 (fun w' => w'.cell? ⟨wr.heap.size, 0, none⟩ = some (.int .i64 xo) ∧ w'.cell? ⟨wr.heap.size, 1, none⟩ = some (.int .i64 xr) ∧ w'.cell? ⟨wr.heap.size, 2, none⟩ = some (.int .i64 xa) ∧ w'.cell? ⟨wr.heap.size, 3, none⟩ = some (.int .i64 xb) ∧ w'.cell? ⟨wr.heap.size, 4, none⟩ = some (.int .i64 xn) ∧ w'.cell? ⟨gs, k, none⟩ = some (.int .i64 st)) (go_keep) (first | (go_at_call 44; refine (implEmit_n xo xr xa xb xn st (some ⟨gs, 0, none⟩) sk cps kc lo' hi' w.heap.size w1.heap.size cs (stL l l.length) l.length (stL_len l _) W.drew (show IntsR W.drew lo' hi' sk cs from HCW.out) side1 side3 (show IntsR W.drew w.heap.size w1.heap.size (some ⟨gs, 0, none⟩) (stL l l.length) from HSW.out) side2).mono ?_; rintro e y1 ⟨v1, rfl, hv1, hbu⟩; rw [HL.out] at hv1; have kbu : Below W.heap.size W y1 := ⟨hbu.os, hbu.tape, hbu.output, hbu.size, hbu.block⟩; have hzu := kbu.size; obtain ⟨q2, c2, e2, hq2a, hq2b⟩ := World.ownsRow.form hv1 hp1; subst e2; have HV1 := hidP hv1; have HOU := hidP (HOW.out.keep kbu); have KBU := hidP kbu; clear g0 g1 g2 g3 g4 g5 hv1 hbu kbu; obtain ⟨g0, g1, g2, g3, g4⟩ := HX.out.keep (Keep.of_below KBU.out hzW); have g5 := (KBU.out.cell (p := ⟨gs, k, none⟩) side5).trans ((KB.out.cell (p := ⟨gs, k, none⟩) side6).trans ((HB.out.cell (p := ⟨gs, k, none⟩) hgs.2).trans ((HSC.out k hlt).trans EST.out)))) | (refine step5g rfl _ _ rfl y1 w1.heap.size u6 (cdM cs l k) rfl HOU.out _ q2 L.length c2 L rfl HV1.out rfl hp1 side4 _ rfl (Nat.le_trans side2 hzu) ?_; intro g7 c7 w7 ho7 hb7 hk7; have HO7 := hidP ho7; have KB7 : Hid (Below w1.heap.size W w7) := (KBU.out.mono side2).trans ⟨hb7.os, hb7.tape, hb7.output, hb7.size, hb7.block⟩; have kx : w7.heap[wr.heap.size]? = y1.heap[wr.heap.size]? := hk7 wr.heap.size (Nat.lt_of_lt_of_le hzW hzu) (fun e => absurd (HBX.out _ e) (Nat.lt_irrefl _)); have cx : ∀ o, w7.cell? ⟨wr.heap.size, o, none⟩ = y1.cell? ⟨wr.heap.size, o, none⟩ := fun o => World.cell?_of_block kx; have i0 := (cx 0).trans g0; have i1 := (cx 1).trans g1; have i2 := (cx 2).trans g2; have i3 := (cx 3).trans g3; have i4 := (cx 4).trans g4; have i5 := (KB7.out.cell (p := ⟨gs, k, none⟩) hgs.2).trans ((KB.out.cell (p := ⟨gs, k, none⟩) side6).trans ((HB.out.cell (p := ⟨gs, k, none⟩) hgs.2).trans ((HSC.out k hlt).trans EST.out))); clear ho7 hb7 hk7 kx cx) | fail)
      have E7 := hidP (show cdM cs l k ++ L = cdM cs l (k + 1) by rw [EC.out, HST.out, EL.out])
      clear i0 i1 i2 i3 i4 i5
      go_wp2
      go_roundw
      case rel => exact ⟨k + 1, by omega, by go_num, by rw [← E7.out]; exact HO7.out, (HB.out.trans (KB.out.mono hs)).trans KB7.out⟩
      case measure => simp [intOf]; omega
    · have hkn : k = l.length := by omega
      subst hkn
      go_wp2
      go_ret
      exact ⟨_, rfl, HO.out.low hz1, K1.out.trans (HB.out.mono hz1)⟩
end

section
set_option linter.unusedSimpArgs false
set_option linter.unusedVariables false
set_option maxRecDepth 100000
open Go.RowKit

def cdAt (p : PD) (k : Nat) : List I5 := cdM p.caps (p.bods.getD k []) (p.bods.getD k []).length
def cdL (p : PD) (n : Nat) : List (List I5) := (List.range n).map (cdAt p)
theorem cdL_len (p : PD) (n : Nat) : (cdL p n).length = n := by simp [cdL]
theorem cdL_succ (p : PD) (n : Nat) : cdL p (n + 1) = cdL p n ++ [cdAt p n] := by simp [cdL, List.range_succ]
theorem cdL_at (p : PD) {n i : Nat} (h : i < n) : (cdL p n).getD i [] = cdAt p i := by simp [cdL, List.getD_eq_getElem?_getD, h]
def cpM (p : PD) : List (List I5) × Bool := if progB p = true ∧ ∀ i, i < p.bods.length → codeB (cdAt p i) = true then (cdL p p.bods.length, true) else ([], false)
theorem cpM_yes {p : PD} (h : progB p = true) (h2 : ∀ i, i < p.bods.length → codeB (cdAt p i) = true) : cpM p = (cdL p p.bods.length, true) := by unfold cpM; rw [if_pos ⟨h, h2⟩]
theorem cpM_no {p : PD} {k : Nat} (hk : k < p.bods.length) (h : codeB (cdAt p k) = false) : cpM p = ([], false) := by
  unfold cpM
  rw [if_neg (fun h2 => by rw [h2.2 k hk] at h; cases h)]
theorem cpM_none {p : PD} (h : progB p = false) : cpM p = ([], false) := by
  unfold cpM
  rw [if_neg (fun h2 => by rw [h2.1] at h; cases h)]
def lenV : Value → Nat
  | .slice _ n _ => n
  | _ => 0
theorem own5_six {w : World} {base : Nat} {v : Value} {l : List I5} (h : OwnT5 w base v l) : OwnP6 w base v l := by
  show w.ownsRow base 56 5 v l.length (flatP l)
  rw [← flat_fl]
  exact h
theorem own5_one {w : World} {base : Nat} {v : Value} {l : List I5} (h : OwnT5 w base v l) : v.oneCell' = true := by
  obtain ⟨s, c, rfl⟩ := own5_sl h
  rfl
theorem own_hu {w : World} {base : Nat} {e : TypeId} {size n : Nat} {v : Value} {xs : List Value} (h : w.ownsRow base e size v n xs) : v.ownBlock = none ∨ ∃ k, v.ownBlock = some k ∧ base ≤ k := by
  rcases hob : v.ownBlock with _ | kk
  · exact .inl rfl
  · exact .inr ⟨kk, rfl, (World.ownsRow.lt h _ hob).1⟩
theorem ok_step {p : PD} {k : Nat} (h : ∀ i, i < k → codeB (cdAt p i) = true) (h2 : codeB (cdAt p k) = true) : ∀ i, i < k + 1 → codeB (cdAt p i) = true := fun i hi => by
  by_cases e : i = k
  · subst e; exact h2
  · exact h i (by omega)
theorem own_last {w : World} {base g cap k : Nat} {e : TypeId} {xs : List Value} {u : Value} (h : w.ownsRow base e 1 (.slice (some ⟨g, 0, none⟩) (k + 1) cap) (k + 1) (xs ++ [u])) (hx : xs.length = k) : w.cell? ⟨g, k, none⟩ = some u := by
  have := World.ownsRow.cells h (g := g) rfl k u (by rw [List.getElem?_append_right (by omega)]; simp [hx])
  have e : (Addr.add ⟨g, 0, none⟩ k) = ⟨g, k, none⟩ := by by_cases h : k = 0 <;> simp [Addr.add, h]
  rw [e] at this
  exact this
theorem wp6 {o : Oper} {a : Act} {K : Act → World → Prop} {Q : Exit → Act → World → Prop} (s x : Operand) (ho : o.op = .call { callee := .builtin .append, args := #[s, x], argTypes := #[29, 29] })
    (w : World) (base : Nat) (v : Value) (xs : List Value) (n : Nat) (hs : a.eval s = v) (hown : w.ownsRow base 34 1 v n xs) (g0 c : Nat) (u : Value) (hu : u.oneCell' = true) (hx : a.eval x = .slice (some ⟨g0, 0, none⟩) 1 c) (hc : w.cell? ⟨g0, 0, none⟩ = some u) (hn : n ≤ 1000) (hbase : base ≤ w.heap.size)
    (h : ∀ g cap w', w'.ownsRow base 34 1 (.slice (some ⟨g, 0, none⟩) (n + 1) cap) (n + 1) (xs ++ [u]) → w.grownBy w' v.ownBlock → (v.ownBlock = some g ∨ g = w.heap.size) → g < w'.heap.size → K (a.put o.dst (.slice (some ⟨g, 0, none⟩) (n + 1) cap)) w') : Oper.wp Tryz.prog o a w K Q := by
  obtain ⟨i0, hi0, hz0, hz1, hz2⟩ := infoB6
  refine wp_append_lies w s x 29 ho base 34 i0 _ 1 24 Tryz.underlying29 hi0 hz0 hz1 hz2 rfl (by decide) v n xs hs hown ⟨g0, 0, none⟩ 1 c [u] hx rfl (fun j y hj => ?_) (fun y hy => by simp at hy; subst hy; exact hu) (by decide) (by unfold maxLen; omega) (by omega) hbase _ rfl h
  cases j with
  | zero => simp at hj; subst hj; simpa [Addr.add] using hc
  | succ j => simp at hj
theorem step6 {ops : Array Oper} {o : Oper} {a : Act} {K : Act → World → Prop} {Q : Exit → Act → World → Prop} {E : Prop} (hgd : o.guard = none) (s x : Operand) (ho : o.op = .call { callee := .builtin .append, args := #[s, x], argTypes := #[29, 29] })
    (w : World) (base : Nat) (v : Value) (xs : List Value) (n : Nat) (hs : a.eval s = v) (hown : w.ownsRow base 34 1 v n xs) (g0 c : Nat) (u : Value) (hu : u.oneCell' = true) (hx : a.eval x = .slice (some ⟨g0, 0, none⟩) 1 c) (hc : w.cell? ⟨g0, 0, none⟩ = some u) (hn : n ≤ 1000) (hbase : base ≤ w.heap.size)
    (h : ∀ g cap w', w'.ownsRow base 34 1 (.slice (some ⟨g, 0, none⟩) (n + 1) cap) (n + 1) (xs ++ [u]) → w.grownBy w' v.ownBlock → (v.ownBlock = some g ∨ g = w.heap.size) → g < w'.heap.size → K (a.put o.dst (.slice (some ⟨g, 0, none⟩) (n + 1) cap)) w') : if Region.wanted o (yielded ops a.tmps) = true then Oper.wp Tryz.prog o a w K Q else E := by
  have hw : Region.wanted o (yielded ops a.tmps) = true := by simp [Region.wanted, hgd]
  rw [if_pos hw]
  exact wp6 s x ho w base v xs n hs hown g0 c u hu hx hc hn hbase h
theorem app6 {ops : Array Oper} {rest : List Oper} {o : Oper} {a : Act} {Q : Exit → Act → World → Prop} (hgd : o.guard = none) (s x : Operand) (ho : o.op = .call { callee := .builtin .append, args := #[s, x], argTypes := #[29, 29] })
    (w : World) (base : Nat) (v : Value) (xs : List Value) (n : Nat) (hs : a.eval s = v) (hown : w.ownsRow base 34 1 v n xs) (g0 c : Nat) (u : Value) (hu : u.oneCell' = true) (hx : a.eval x = .slice (some ⟨g0, 0, none⟩) 1 c) (hc : w.cell? ⟨g0, 0, none⟩ = some u) (hn : n ≤ 1000) (hbase : base ≤ w.heap.size)
    (h : ∀ g cap w', w'.ownsRow base 34 1 (.slice (some ⟨g, 0, none⟩) (n + 1) cap) (n + 1) (xs ++ [u]) → w.grownBy w' v.ownBlock → (v.ownBlock = some g ∨ g = w.heap.size) → g < w'.heap.size → wpList Tryz.prog ops Q rest (a.put o.dst (.slice (some ⟨g, 0, none⟩) (n + 1) cap)) w') : wpList Tryz.prog ops Q (o :: rest) a w :=
  wpList_plain hgd fun _ hK => wp6 s x ho w base v xs n hs hown g0 c u hu hx hc hn hbase fun g cap w' h2 h3 h4 h5 => hK _ _ (h g cap w' h2 h3 h4 h5)

set_option maxRecDepth 100000 in
set_option maxHeartbeats 8000000 in
theorem implCompile_any (s s' : Option Addr) (c c' lo hi : Nat) (p : PD) (w : World) (h : ProgR w lo hi s s' p) (hB : hi ≤ w.heap.size) (hf : Fits p) :
    Calls Tryz.prog 7 #[.agg #[.slice s p.caps.length c, .slice s' p.bods.length c']] w fun e w' => ∃ v, e = .returned (.tuple #[v, .bool (cpM p).2]) ∧ OwnB6 w' w.heap.size v (cpM p).1 ∧ Below w.heap.size w w' := by
  have HP := hidP h
  have HF := hidP hf
  have hfn := hf.2.1
  clear h hf
  obtain ⟨W, hW, bx, kb, zb⟩ := Bo2.new w (.slice s p.caps.length c) (.slice s' p.bods.length c') 27
  have HBX := hidP bx
  have KW0 := hidP kb
  have hzW : w.heap.size + 1 ≤ W.heap.size := by omega
  clear zb
  obtain ⟨x0, x1⟩ := bx
  clear kb
  go_enter Tryz.func7, Tryz.ntmps7
  go_wp2
  refine wp_scope_two 0 1 (fun a' w' => Below w.heap.size w w' ∧ cpM p = ([], false) ∧ ∃ (u0 u1 u2 u3 u4 u5 u6 u7 u8 u9 u10 u11 u12 u13 u14 u15 u16 u17 u18 u19 u20 u21 u22 u23 u24 u25 u26 u27 u28 u29 u30 u31 u32 u33 u34 u35 u36 u37 u38 u39 : Value), a' = { tmps := #[u0, u1, u2, u3, u4, u5, u6, u7, u8, u9, u10, u11, u12, u13, u14, u15, u16, u17, u18, u19, u20, u21, u22, u23, u24, u25, u26, u27, u28, u29, u30, u31, u32, u33, u34, u35, u36, u37, u38, u39], defers := [] })
    (fun a' w' => progB p = true ∧ ∃ k : Nat, k ≤ p.bods.length ∧ ∃ sv cv, OwnB6 w' (w.heap.size + 1) (.slice sv k cv) (cdL p k) ∧ Below (w.heap.size + 1) W w' ∧ (∀ i, i < k → codeB (cdAt p i) = true) ∧ ∃ (u0 u5 u6 u7 u8 u9 u10 u11 u12 u13 u14 u15 u16 u17 u18 u19 u20 u21 u22 u23 u24 u25 u26 u27 u28 u29 u30 u31 u32 u33 u34 u35 u36 u37 u38 u39 : Value), a' = { tmps := #[u0, .pointer (some ⟨w.heap.size, 0, none⟩), .slice none 0 0, .bool false, .slice sv k cv, u5, u6, u7, u8, u9, u10, u11, u12, u13, u14, u15, u16, u17, u18, u19, u20, u21, u22, u23, u24, u25, u26, u27, u28, u29, u30, u31, u32, u33, u34, u35, u36, u37, u38, u39], defers := [] })
    (fun _ _ => 0) (fun a' _ => p.bods.length + 1 - (lenV (a'.tmps.getD 4 undef))) rfl rfl (by decide) ?_ ?_ ?_
  · go_wp2_with fail
    refine (implProg_any s s' c c' lo hi p W (ProgR.keep' HP.out (Keep.of_below KW0.out hB)) (by omega) HF.out).mono ?_
    rintro e w1 ⟨rfl, hb1⟩
    have hz1 := hb1.size
    have K1 := hidP (KW0.out.trans (hb1.mono (by omega)))
    have K1W := hidP hb1
    clear x0 x1
    obtain ⟨x0, x1⟩ := HBX.out.keep (Keep.of_below hb1 (by omega))
    clear hb1
    cases hp : progB p
    · have EC := hidP (cpM_none hp)
      clear hp
      go_wp2
      go_step3
      exact .inl ⟨rfl, K1.out, EC.out, _, _, _, _, _, _, _, _, _, _, _, _, _, _, _, _, _, _, _, _, _, _, _, _, _, _, _, _, _, _, _, _, _, _, _, _, _, _, _, _, rfl⟩
    · have HPB := hidP hp
      clear hp
      go_wp2_with (go_at_call 22; refine (haveBases_yes s c lo hi p w1 HPB.out ((ProgR.keep' HP.out (Keep.of_below K1.out hB)).1) (by omega)).mono ?_; rintro e w' ⟨rfl, hb2⟩)
      go_step3
      have HBW : Hid (Below (w.heap.size + 1) W w') := (K1W.out.trans (hb2.mono hz1)).mono hzW
      have HB := hidP (KW0.out.trans (HBW.out.mono (Nat.le_succ _)))
      have HO : Hid (OwnB6 w' (w.heap.size + 1) (.slice none 0 0) (cdL p 0)) := OwnB6.nil _ _
      have HOK : Hid (∀ i, i < 0 → codeB (cdAt p i) = true) := fun i hi => absurd hi (Nat.not_lt_zero _)
      clear hb2 x0 x1
      by_cases hlt : 0 < p.bods.length
      · have hne : ((0 : Int) == (p.bods.length : Int)) = false := beq_eq_false_iff_ne.2 (by omega)
        obtain ⟨gb, offb, hs2, hgb, s1, c1, hcell, hin⟩ := bods_at ((ProgR.keep' HP.out (Keep.of_below HB.out hB)).2) (i := 0) hlt
        subst hs2
        rw [Nat.add_zero] at hcell
        have HIN := hidP hin
        clear hin
        obtain ⟨hrt, hl1⟩ := progB_body HPB.out (i := 0) hlt
        have hem := hidP (fun (kk : Nat) (hkk : kk < (p.bods.getD 0 []).length) => em_pos HPB.out (b := 0) hlt hkk (stV (p.bods.getD 0 []) kk))
        have ECD := hidP (show cdAt p 0 = cdM p.caps (p.bods.getD 0 []) (p.bods.getD 0 []).length from rfl)
        obtain ⟨l, hl⟩ : ∃ l, p.bods.getD 0 [] = l := ⟨_, rfl⟩
        rw [hl] at hcell HIN hrt hl1 hem ECD
        clear hl
        have HRT := hidP hrt
        have hl24 := hrt.len
        clear hrt
        have hcpl := (progB_len HPB.out).2.2.1
        obtain ⟨x0, x1⟩ := HBX.out.keep (Keep.of_below HBW.out (Nat.le_refl _))
        have HCPW := hidP ((ProgR.keep' HP.out (Keep.of_below HB.out hB)).1)
        have side1 : w.heap.size < w'.heap.size := by have := HBW.out.size; omega
        have side2 : hi ≤ w'.heap.size := by omega
        have side3 : gb < w'.heap.size := by omega
        have side4 : p.caps.length ≤ 1048576 := by omega
        have side5 : 0 ≤ 1000 := by have := (progB_len HPB.out).2.1; omega
        have b0 : (0 : Int) ≤ (0 : Int) := by omega
        have b1 : (0 : Int) < (p.bods.length : Int) := by omega
        have HO6 : Hid (OwnB6 w' (w.heap.size + 1) (.slice none 0 0) (cdL p 0)) := HO.out
        obtain ⟨xs, r1, r2, r3⟩ := HO.out
        rw [cdL_len] at r1 r2 r3
        have HR1 := hidP r1
        have hvb : ∀ kk, (Value.slice none 0 0).ownBlock = some kk → w.heap.size + 1 ≤ kk ∧ kk < w'.heap.size := fun kk e => World.ownsRow.lt r1 _ e
        have HVB := hidP hvb
        have HR23 := hidP (And.intro r2 r3)
        clear r1 r2 r3 hvb
        have HCE := hidP hcell
        go_wp2_with fail
        go_region_held3 (fun w'' => w''.cell? ⟨w.heap.size, 0, none⟩ = some (.slice s p.caps.length c) ∧ w''.cell? ⟨w.heap.size, 1, none⟩ = some (.slice (some ⟨gb, offb, none⟩) p.bods.length c') ∧ w''.cell? ⟨gb, offb, none⟩ = some (.slice s1 l.length c1)) (go_keep) (first | (go_at_call 23; refine (codeOf_any s s1 c c1 lo hi lo hi p.caps l w'.drew (show IntsR w'.drew lo hi s p.caps from HCPW.out) side2 side4 (show InsR w'.drew lo hi s1 l from HIN.out) side2 HRT.out hem.out).mono ?_; rintro e y1 ⟨v1, rfl, hv1, hbu⟩; rw [← ECD.out] at hv1; obtain ⟨sL, cL, eL⟩ := own5_sl hv1; subst eL; have kbu : Below w'.heap.size w' y1 := ⟨hbu.os, hbu.tape, hbu.output, hbu.size, hbu.block⟩; have hzu := kbu.size; have HV1 : Hid (OwnT5 y1 w'.heap.size (.slice sL (cdAt p 0).length cL) (cdAt p 0)) := hv1; have KBU := hidP kbu; clear x0 x1 hcell hv1 hbu kbu; have x0 := (KBU.out.cell (p := ⟨w.heap.size, 0, none⟩) side1).trans (HBX.out.keep (Keep.of_below HBW.out (Nat.le_refl _))).c0; have x1 := (KBU.out.cell (p := ⟨w.heap.size, 1, none⟩) side1).trans (HBX.out.keep (Keep.of_below HBW.out (Nat.le_refl _))).c1; have hcell := (KBU.out.cell (p := ⟨gb, offb, none⟩) side3).trans HCE.out) | (refine step6 rfl _ _ rfl (y1.alloc (.cells #[.slice sL (cdAt p 0).length cL] 34)) (w.heap.size + 1) (.slice none 0 0) xs 0 rfl (ownKeep HR1.out (fun kk e => (Below.heap_alloc _ _ _ (Nat.lt_of_lt_of_le (HVB.out kk e).2 hzu)).trans (KBU.out.block kk (HVB.out kk e).2))) y1.heap.size 1 (.slice sL (cdAt p 0).length cL) rfl rfl (by simp [go_sem]) side5 (by simp; omega) ?_; intro g7 c7 w7 ho7 hg7 ha7 hlt7; have HO7 := hidP ho7; have HK7 := hidP (fun kk (h1 : kk < y1.heap.size) (h2 : (Value.slice none 0 0).ownBlock ≠ some kk) => (hg7.block kk (by simp; omega) (fun e => h2 e.symm)).trans (Below.heap_alloc y1 (.cells #[.slice sL (cdAt p 0).length cL] 34) kk h1)); have HG7 := hidP hg7; have hy0 : w.heap.size < y1.heap.size := Nat.lt_of_lt_of_le side1 hzu; have hyb : gb < y1.heap.size := Nat.lt_of_lt_of_le side3 hzu; have i0 := (World.cell?_of_block (a := ⟨w.heap.size, 0, none⟩) (HK7.out w.heap.size hy0 (fun e => absurd (HVB.out _ e).1 (by omega)))).trans x0; have i1 := (World.cell?_of_block (a := ⟨w.heap.size, 1, none⟩) (HK7.out w.heap.size hy0 (fun e => absurd (HVB.out _ e).1 (by omega)))).trans x1; have i2 := (World.cell?_of_block (a := ⟨gb, offb, none⟩) (HK7.out gb hyb (fun e => absurd (HVB.out _ e).1 (by omega)))).trans hcell; clear ho7 hg7 ha7) | fail)
        clear i0 i1 i2
        have hw7 : y1.heap.size + 1 ≤ w7.heap.size := by have := HG7.out.size; simpa using this
        have HB7 : Hid (Below (w.heap.size + 1) W w7) := ⟨HG7.out.os.trans (KBU.out.os.trans HBW.out.os), HG7.out.tape.trans (KBU.out.tape.trans HBW.out.tape), HG7.out.output.trans (KBU.out.output.trans HBW.out.output), by have := HBW.out.size; omega, fun kk hk2 => (HK7.out kk (by omega) (fun e => absurd (HVB.out _ e).1 (by omega))).trans ((KBU.out.block kk (by omega)).trans (HBW.out.block kk hk2))⟩
        have OB : Hid (OwnB6 w7 (w.heap.size + 1) (.slice (some ⟨g7, 0, none⟩) (0 + 1) c7) (cdL p (0 + 1))) := by
          show OwnB6 w7 (w.heap.size + 1) (.slice (some ⟨g7, 0, none⟩) (0 + 1) c7) (cdL p (0 + 1))
          have hlk := cdL_len p 0
          have := OwnB6.grow (w := w') (w' := w7) (base := w.heap.size + 1) (g := g7) (cap := c7) (v := .slice none 0 0) (u := .slice sL (cdAt p 0).length cL) (bs := cdL p 0) (xs := xs) (b := cdAt p 0) (by rw [hlk]; exact HR1.out) (by rw [hlk]; exact HR23.out.1) (by rw [hlk]; exact HR23.out.2) (own_hu HV1.out) (by rw [hlk]; exact HO7.out) (fun kk h1 h2 h3 => (HK7.out kk (by omega) h3).trans (KBU.out.block kk h2)) (own5_six (ownKeep (ownLow HV1.out (by omega)) (fun kk e => HK7.out kk (World.ownsRow.lt HV1.out _ e).2 (fun e2 => absurd (HVB.out _ e2).2 (by have := (World.ownsRow.lt HV1.out _ e).1; omega)))))
          rw [hlk] at this
          rw [cdL_succ]
          exact this
        have hcl : w7.cell? ⟨g7, 0, none⟩ = some (.slice sL (cdAt p 0).length cL) := own_last HO7.out (by have := HR1.out.1; omega)
        have hLi := (SB5.of (ownKeep (base := w'.heap.size) HV1.out (fun kk e => HK7.out kk (World.ownsRow.lt HV1.out _ e).2 (fun e2 => absurd (HVB.out _ e2).2 (by have := (World.ownsRow.lt HV1.out _ e).1; omega))) : OwnT5 w7 w'.heap.size (.slice sL (cdAt p 0).length cL) (cdAt p 0))).insB
        have HLI := hidP hLi
        clear hLi
        have hcn := cdM_len p.caps l l.length
        rw [← ECD.out] at hcn
        cases hcb : codeB (cdAt p 0)
        · have HCB := hidP hcb
          have EC := hidP (cpM_no (p := p) (k := 0) hlt hcb)
          clear hcb
          go_wp2_with (go_at_call 11; refine (implCode_any sL cL w7.heap.size (cdAt p 0) w7 HLI.out (Nat.le_refl _) (by omega)).mono ?_; rintro e w8 ⟨rfl, hb8⟩; rw [HCB.out])
          go_step3
          go_wp2
          simp only [jump2]
          refine bodyPost_ret (v := .tuple #[.slice none 0 0, .bool false]) (by simp [results, Tryz.results7, go_sem]) rfl ?_
          exact ⟨.slice none 0 0, by rw [EC.out], by rw [EC.out]; exact OwnB6.nil _ _, KW0.out.trans ((HB7.out.mono (Nat.le_succ _)).trans (hb8.mono (by omega)))⟩
        · have HCB := hidP hcb
          clear hcb
          go_wp2_with (go_at_call 11; refine (implCode_any sL cL w7.heap.size (cdAt p 0) w7 HLI.out (Nat.le_refl _) (by omega)).mono ?_; rintro e w8 ⟨rfl, hb8⟩; rw [HCB.out])
          go_step3
          exact .inr ⟨rfl, ⟨HPB.out, 0 + 1, by omega, some ⟨g7, 0, none⟩, c7, OB.out.below hb8, HB7.out.trans (hb8.mono (by omega)), (ok_step HOK.out HCB.out), _, _, _, _, _, _, _, _, _, _, _, _, _, _, _, _, _, _, _, _, _, _, _, _, _, _, _, _, _, _, _, _, _, _, _, _, rfl⟩⟩
      · have hkn : p.bods.length = 0 := by omega
        exfalso
        have := (progB_len HPB.out).1
        omega
  · rintro a' w' ⟨hb, hcp, u0, u1, u2, u3, u4, u5, u6, u7, u8, u9, u10, u11, u12, u13, u14, u15, u16, u17, u18, u19, u20, u21, u22, u23, u24, u25, u26, u27, u28, u29, u30, u31, u32, u33, u34, u35, u36, u37, u38, u39, rfl⟩
    go_wp2
    simp only [jump2]
    refine bodyPost_ret (v := .tuple #[.slice none 0 0, .bool false]) (by simp [results, Tryz.results7, go_sem]) rfl ?_
    exact ⟨.slice none 0 0, by rw [hcp], by rw [hcp]; exact OwnB6.nil _ _, hb⟩
  · rintro a' w' ⟨hpb, k, hk, sv, cv, hO, hbW, hok, u0, u5, u6, u7, u8, u9, u10, u11, u12, u13, u14, u15, u16, u17, u18, u19, u20, u21, u22, u23, u24, u25, u26, u27, u28, u29, u30, u31, u32, u33, u34, u35, u36, u37, u38, u39, rfl⟩
    have HPB := hidP hpb
    have HO := hidP hO
    have HBW := hidP hbW
    have HOK := hidP hok
    have HB := hidP (KW0.out.trans (hbW.mono (Nat.le_succ _)))
    clear hpb hO hbW hok
    by_cases hlt : k < p.bods.length
    · have hne : ((k : Int) == (p.bods.length : Int)) = false := beq_eq_false_iff_ne.2 (by omega)
      obtain ⟨gb, offb, hs2, hgb, s1, c1, hcell, hin⟩ := bods_at ((ProgR.keep' HP.out (Keep.of_below HB.out hB)).2) (i := k) hlt
      subst hs2
      have HIN := hidP hin
      clear hin
      obtain ⟨hrt, hl1⟩ := progB_body HPB.out (i := k) hlt
      have hem := hidP (fun (kk : Nat) (hkk : kk < (p.bods.getD k []).length) => em_pos HPB.out (b := k) hlt hkk (stV (p.bods.getD k []) kk))
      have ECD := hidP (show cdAt p k = cdM p.caps (p.bods.getD k []) (p.bods.getD k []).length from rfl)
      obtain ⟨l, hl⟩ : ∃ l, p.bods.getD k [] = l := ⟨_, rfl⟩
      rw [hl] at hcell HIN hrt hl1 hem ECD
      clear hl
      have HRT := hidP hrt
      have hl24 := hrt.len
      clear hrt
      have hcpl := (progB_len HPB.out).2.2.1
      obtain ⟨x0, x1⟩ := HBX.out.keep (Keep.of_below HBW.out (Nat.le_refl _))
      have HCPW := hidP ((ProgR.keep' HP.out (Keep.of_below HB.out hB)).1)
      have side1 : w.heap.size < w'.heap.size := by have := HBW.out.size; omega
      have side2 : hi ≤ w'.heap.size := by omega
      have side3 : gb < w'.heap.size := by omega
      have side4 : p.caps.length ≤ 1048576 := by omega
      have side5 : k ≤ 1000 := by have := (progB_len HPB.out).2.1; omega
      have b0 : (0 : Int) ≤ (k : Int) := by omega
      have b1 : (k : Int) < (p.bods.length : Int) := by omega
      have HO6 : Hid (OwnB6 w' (w.heap.size + 1) (.slice sv k cv) (cdL p k)) := HO.out
      obtain ⟨xs, r1, r2, r3⟩ := HO.out
      rw [cdL_len] at r1 r2 r3
      have HR1 := hidP r1
      have hvb : ∀ kk, (Value.slice sv k cv).ownBlock = some kk → w.heap.size + 1 ≤ kk ∧ kk < w'.heap.size := fun kk e => World.ownsRow.lt r1 _ e
      have HVB := hidP hvb
      have HR23 := hidP (And.intro r2 r3)
      clear r1 r2 r3 hvb
      have HCE := hidP hcell
      go_wp2_with fail
      go_region_held3 (fun w'' => w''.cell? ⟨w.heap.size, 0, none⟩ = some (.slice s p.caps.length c) ∧ w''.cell? ⟨w.heap.size, 1, none⟩ = some (.slice (some ⟨gb, offb, none⟩) p.bods.length c') ∧ w''.cell? ⟨gb, offb + k, none⟩ = some (.slice s1 l.length c1)) (go_keep) (first | (go_at_call 23; refine (codeOf_any s s1 c c1 lo hi lo hi p.caps l w'.drew (show IntsR w'.drew lo hi s p.caps from HCPW.out) side2 side4 (show InsR w'.drew lo hi s1 l from HIN.out) side2 HRT.out hem.out).mono ?_; rintro e y1 ⟨v1, rfl, hv1, hbu⟩; rw [← ECD.out] at hv1; obtain ⟨sL, cL, eL⟩ := own5_sl hv1; subst eL; have kbu : Below w'.heap.size w' y1 := ⟨hbu.os, hbu.tape, hbu.output, hbu.size, hbu.block⟩; have hzu := kbu.size; have HV1 : Hid (OwnT5 y1 w'.heap.size (.slice sL (cdAt p k).length cL) (cdAt p k)) := hv1; have KBU := hidP kbu; clear x0 x1 hcell hv1 hbu kbu; have x0 := (KBU.out.cell (p := ⟨w.heap.size, 0, none⟩) side1).trans (HBX.out.keep (Keep.of_below HBW.out (Nat.le_refl _))).c0; have x1 := (KBU.out.cell (p := ⟨w.heap.size, 1, none⟩) side1).trans (HBX.out.keep (Keep.of_below HBW.out (Nat.le_refl _))).c1; have hcell := (KBU.out.cell (p := ⟨gb, offb + k, none⟩) side3).trans HCE.out) | (refine step6 rfl _ _ rfl (y1.alloc (.cells #[.slice sL (cdAt p k).length cL] 34)) (w.heap.size + 1) (.slice sv k cv) xs k rfl (ownKeep HR1.out (fun kk e => (Below.heap_alloc _ _ _ (Nat.lt_of_lt_of_le (HVB.out kk e).2 hzu)).trans (KBU.out.block kk (HVB.out kk e).2))) y1.heap.size 1 (.slice sL (cdAt p k).length cL) rfl rfl (by simp [go_sem]) side5 (by simp; omega) ?_; intro g7 c7 w7 ho7 hg7 ha7 hlt7; have HO7 := hidP ho7; have HK7 := hidP (fun kk (h1 : kk < y1.heap.size) (h2 : (Value.slice sv k cv).ownBlock ≠ some kk) => (hg7.block kk (by simp; omega) (fun e => h2 e.symm)).trans (Below.heap_alloc y1 (.cells #[.slice sL (cdAt p k).length cL] 34) kk h1)); have HG7 := hidP hg7; have hy0 : w.heap.size < y1.heap.size := Nat.lt_of_lt_of_le side1 hzu; have hyb : gb < y1.heap.size := Nat.lt_of_lt_of_le side3 hzu; have i0 := (World.cell?_of_block (a := ⟨w.heap.size, 0, none⟩) (HK7.out w.heap.size hy0 (fun e => absurd (HVB.out _ e).1 (by omega)))).trans x0; have i1 := (World.cell?_of_block (a := ⟨w.heap.size, 1, none⟩) (HK7.out w.heap.size hy0 (fun e => absurd (HVB.out _ e).1 (by omega)))).trans x1; have i2 := (World.cell?_of_block (a := ⟨gb, offb + k, none⟩) (HK7.out gb hyb (fun e => absurd (HVB.out _ e).1 (by omega)))).trans hcell; clear ho7 hg7 ha7) | fail)
      clear i0 i1 i2
      have hw7 : y1.heap.size + 1 ≤ w7.heap.size := by have := HG7.out.size; simpa using this
      have HB7 : Hid (Below (w.heap.size + 1) W w7) := ⟨HG7.out.os.trans (KBU.out.os.trans HBW.out.os), HG7.out.tape.trans (KBU.out.tape.trans HBW.out.tape), HG7.out.output.trans (KBU.out.output.trans HBW.out.output), by have := HBW.out.size; omega, fun kk hk2 => (HK7.out kk (by omega) (fun e => absurd (HVB.out _ e).1 (by omega))).trans ((KBU.out.block kk (by omega)).trans (HBW.out.block kk hk2))⟩
      have OB : Hid (OwnB6 w7 (w.heap.size + 1) (.slice (some ⟨g7, 0, none⟩) (k + 1) c7) (cdL p (k + 1))) := by
        show OwnB6 w7 (w.heap.size + 1) (.slice (some ⟨g7, 0, none⟩) (k + 1) c7) (cdL p (k + 1))
        have hlk := cdL_len p k
        have := OwnB6.grow (w := w') (w' := w7) (base := w.heap.size + 1) (g := g7) (cap := c7) (v := .slice sv k cv) (u := .slice sL (cdAt p k).length cL) (bs := cdL p k) (xs := xs) (b := cdAt p k) (by rw [hlk]; exact HR1.out) (by rw [hlk]; exact HR23.out.1) (by rw [hlk]; exact HR23.out.2) (own_hu HV1.out) (by rw [hlk]; exact HO7.out) (fun kk h1 h2 h3 => (HK7.out kk (by omega) h3).trans (KBU.out.block kk h2)) (own5_six (ownKeep (ownLow HV1.out (by omega)) (fun kk e => HK7.out kk (World.ownsRow.lt HV1.out _ e).2 (fun e2 => absurd (HVB.out _ e2).2 (by have := (World.ownsRow.lt HV1.out _ e).1; omega)))))
        rw [hlk] at this
        rw [cdL_succ]
        exact this
      have hcl : w7.cell? ⟨g7, k, none⟩ = some (.slice sL (cdAt p k).length cL) := own_last HO7.out (by have := HR1.out.1; omega)
      have hLi := (SB5.of (ownKeep (base := w'.heap.size) HV1.out (fun kk e => HK7.out kk (World.ownsRow.lt HV1.out _ e).2 (fun e2 => absurd (HVB.out _ e2).2 (by have := (World.ownsRow.lt HV1.out _ e).1; omega))) : OwnT5 w7 w'.heap.size (.slice sL (cdAt p k).length cL) (cdAt p k))).insB
      have HLI := hidP hLi
      clear hLi
      have hcn := cdM_len p.caps l l.length
      rw [← ECD.out] at hcn
      cases hcb : codeB (cdAt p k)
      · have HCB := hidP hcb
        have EC := hidP (cpM_no (p := p) (k := k) hlt hcb)
        clear hcb
        go_wp2_with (go_at_call 11; refine (implCode_any sL cL w7.heap.size (cdAt p k) w7 HLI.out (Nat.le_refl _) (by omega)).mono ?_; rintro e w8 ⟨rfl, hb8⟩; rw [HCB.out])
        go_step3
        go_wp2
        simp only [jump2]
        refine bodyPost_ret (v := .tuple #[.slice none 0 0, .bool false]) (by simp [results, Tryz.results7, go_sem]) rfl ?_
        exact ⟨.slice none 0 0, by rw [EC.out], by rw [EC.out]; exact OwnB6.nil _ _, KW0.out.trans ((HB7.out.mono (Nat.le_succ _)).trans (hb8.mono (by omega)))⟩
      · have HCB := hidP hcb
        clear hcb
        go_wp2_with (go_at_call 11; refine (implCode_any sL cL w7.heap.size (cdAt p k) w7 HLI.out (Nat.le_refl _) (by omega)).mono ?_; rintro e w8 ⟨rfl, hb8⟩; rw [HCB.out])
        go_step3
        exact .inr ⟨rfl, ⟨HPB.out, k + 1, by omega, some ⟨g7, 0, none⟩, c7, OB.out.below hb8, HB7.out.trans (hb8.mono (by omega)), (ok_step HOK.out HCB.out), _, _, _, _, _, _, _, _, _, _, _, _, _, _, _, _, _, _, _, _, _, _, _, _, _, _, _, _, _, _, _, _, _, _, _, _, rfl⟩, by show p.bods.length + 1 - (k + 1) < p.bods.length + 1 - k; omega⟩
    · have hkn : p.bods.length = k := by omega
      subst hkn
      have hne : ((p.bods.length : Int) == (p.bods.length : Int)) = true := by simp
      obtain ⟨x0, x1⟩ := HBX.out.keep (Keep.of_below HBW.out (Nat.le_refl _))
      have EC := hidP (cpM_yes HPB.out HOK.out)
      go_wp2
      simp only [jump2]
      refine bodyPost_ret (v := .tuple #[.slice sv p.bods.length cv, .bool true]) (by simp [results, Tryz.results7, go_sem]) rfl ?_
      exact ⟨_, by rw [EC.out], by rw [EC.out]; exact HO.out.low (Nat.le_succ _), HB.out⟩
end

section
set_option linter.unusedSimpArgs false
set_option linter.unusedVariables false
set_option maxRecDepth 100000
open Go.RowKit

theorem own6_empty {w : World} {base : Nat} (hb : base ≤ w.heap.size) : OwnB6 (w.alloc (.cells #[] 34)) base (.slice (some ⟨w.heap.size, 0, none⟩) 0 0) [] :=
  ⟨[], World.ownsRow_lit w #[] 0 hb (by unfold maxLen; omega) rfl, fun i hi => absurd hi (Nat.not_lt_zero _), fun i j k hi => absurd hi (Nat.not_lt_zero _)⟩
theorem own5_empty {w : World} {base : Nat} (hb : base ≤ w.heap.size) : OwnT5 (w.alloc (.cells #[] 56)) base (.slice (some ⟨w.heap.size, 0, none⟩) 0 0) [] := own5_new [] #[] rfl hb (Nat.zero_le _)
theorem specEmit_n (o r a x n fr : Int) (ss sk : Option Addr) (sc kc lo hi lo' hi' : Nat) (caps starts : List Int) (m : Nat) (hm : starts.length = m) (w : World) (hcp : IntsR w lo hi sk caps) (hhi : hi ≤ w.heap.size) (hcl : caps.length ≤ 2000000) (hst : IntsR w lo' hi' ss starts) (hhi' : hi' ≤ w.heap.size) :
    Calls Tryz.prog 26 #[.slice sk caps.length kc, .agg #[.int .i64 o, .int .i64 r, .int .i64 a, .int .i64 x, .int .i64 n], .int .i64 fr, .slice ss m sc] w fun e w' => ∃ v, e = .returned v ∧ OwnT5 w' w.heap.size v (emitM caps starts o r a x n fr) ∧ Below w.heap.size w w' := by
  subst hm
  exact specEmit_any o r a x n fr ss sk sc kc lo hi lo' hi' caps starts w hcp hhi hcl hst hhi'
theorem stB_body {p : PD} (h : progB p = true) {k : Nat} (hk : k < p.bods.length) : stB p (k : Int) = stL (p.bods.getD k []) (p.bods.getD k []).length := by
  unfold stB
  rw [bodV_yes h (by omega) (by omega)]
  rfl
theorem own5_insB {w : World} {base : Nat} {s : Option Addr} {c : Nat} {l : List I5} (h : OwnT5 w base (.slice s l.length c) l) : InsB w w.heap.size s l := (SB5.of h).insB

set_option maxRecDepth 100000 in
set_option maxHeartbeats 8000000 in
theorem specCompile_any (s s' : Option Addr) (c c' lo hi : Nat) (p : PD) (w : World) (h : ProgR w lo hi s s' p) (hB : hi ≤ w.heap.size) (hf : Fits p) :
    Calls Tryz.prog 8 #[.agg #[.slice s p.caps.length c, .slice s' p.bods.length c']] w fun e w' => ∃ v, e = .returned (.tuple #[v, .bool (cpM p).2]) ∧ OwnB6 w' w.heap.size v (cpM p).1 ∧ Below w.heap.size w w' := by
  have HP := hidP h
  have HF := hidP hf
  have hfn := hf.2.1
  clear h hf
  obtain ⟨W, hW, bx, kb, zb⟩ := Bo2.new w (.slice s p.caps.length c) (.slice s' p.bods.length c') 27
  have HBX := hidP bx
  have KW0 := hidP kb
  have hzW : w.heap.size + 1 ≤ W.heap.size := by omega
  clear zb
  obtain ⟨x0, x1⟩ := bx
  clear kb
  obtain ⟨V, hV⟩ : ∃ V, W.alloc (.cells #[] 34) = V := ⟨_, rfl⟩
  have HOV : Hid (OwnB6 V (w.heap.size + 1) (.slice (some ⟨W.heap.size, 0, none⟩) 0 0) []) := hV ▸ own6_empty hzW
  have KV : Hid (Below (w.heap.size + 1) W V) := hV ▸ (Below.refl _ _).alloc hzW _
  have hzV : W.heap.size ≤ V.heap.size := by rw [← hV]; simp
  have y0 := (KV.out.cell (p := ⟨w.heap.size, 0, none⟩) (Nat.lt_succ_self _)).trans x0
  have y1 := (KV.out.cell (p := ⟨w.heap.size, 1, none⟩) (Nat.lt_succ_self _)).trans x1
  have KWV := hidP (KW0.out.trans (KV.out.mono (Nat.le_succ _)))
  have HV := hidP hV
  go_enter Tryz.func8, Tryz.ntmps8
  go_wp2_with fail
  refine (specProg_any s s' c c' lo hi p V (ProgR.keep' HP.out (Keep.of_below KWV.out hB)) (by omega) HF.out).mono ?_
  rintro e w1 ⟨rfl, hb1⟩
  have hz1 := hb1.size
  have K1W : Hid (Below (w.heap.size + 1) W w1) := KV.out.trans (hb1.mono (by omega))
  have K1 := hidP (KW0.out.trans (K1W.out.mono (Nat.le_succ _)))
  have HO1 := hidP (HOV.out.below hb1)
  clear x0 x1 y0 y1 hb1
  obtain ⟨x0, x1⟩ := HBX.out.keep (Keep.of_below K1W.out (Nat.le_refl _))
  cases hp : progB p
  · have EC := hidP (cpM_none hp)
    clear hp
    go_wp2
    refine bodyPost_ret (v := .tuple #[.slice (some ⟨W.heap.size, 0, none⟩) 0 0, .bool false]) (by simp [results, Tryz.results8, go_sem]) rfl ?_
    exact ⟨_, by rw [EC.out], by rw [EC.out]; exact HO1.out.low (Nat.le_succ _), K1.out⟩
  · have HPB := hidP hp
    have HRC := hidP (right_ok hp)
    have hpl := progB_len hp
    clear hp
    have hc3 := hpl.2.2.1
    have hb4 := hpl.2.1
    clear hpl
    go_wp2_with (go_at_call 25; refine (l9Right_any s c lo hi p.caps w1 ((ProgR.keep' HP.out (Keep.of_below K1.out hB)).1) (by omega) (by omega)).mono ?_; rintro e w2 ⟨rfl, hb2⟩; rw [HRC.out]; have x0' := (hb2.cell (p := ⟨w.heap.size, 0, none⟩) (show w.heap.size < w1.heap.size by omega)).trans x0; have x1' := (hb2.cell (p := ⟨w.heap.size, 1, none⟩) (show w.heap.size < w1.heap.size by omega)).trans x1)
    have K2W := hidP (K1W.out.trans (hb2.mono (by omega)))
    have HO2 := hidP (HO1.out.below hb2)
    have hz2 := hb2.size
    clear hb2 x0 x1 x0' x1'
    go_loopw [5, 6] (fun v i wr => ∃ k : Nat, k ≤ p.bods.length ∧ i = .int .i64 k ∧ (∃ sv cv, v = .slice sv k cv ∧ OwnB6 wr (w.heap.size + 1) (.slice sv k cv) (cdL p k)) ∧ Below (w.heap.size + 1) W wr ∧ (∀ i, i < k → codeB (cdAt p i) = true)) (fun _ i _ => p.bods.length - (intOf i).toNat)
    case atStart => exact ⟨0, Nat.zero_le _, rfl, ⟨_, _, rfl, HO2.out⟩, K2W.out, fun i hi => absurd hi (Nat.not_lt_zero _)⟩
    case round =>
      obtain ⟨wo, hwo⟩ : ∃ wo : World, wo = wr := ⟨_, rfl⟩
      subst hwo
      obtain ⟨k, hk, rfl, ⟨sv, cv, rfl, ho⟩, hbW, hok⟩ := hrel
      have HO := hidP ho
      have HBW := hidP hbW
      have HOK := hidP hok
      have hzr := hbW.size
      have HB := hidP (KW0.out.trans (hbW.mono (Nat.le_succ _)))
      obtain ⟨x0, x1⟩ := HBX.out.keep (Keep.of_below hbW (Nat.le_refl _))
      clear ho hbW hok
      by_cases hlt : k < p.bods.length
      · have hki : (k : Int) < (p.bods.length : Int) := by omega
        go_wp2_with fail
        refine (specStarts_any s s' c c' lo hi p (k : Int) wo (ProgR.keep' HP.out (Keep.of_below HB.out hB)) (by omega) HF.out).mono ?_
        rintro e w3 ⟨v3, rfl, ho3, hb3⟩
        rw [stB_body HPB.out hlt] at ho3
        obtain ⟨gb, offb, hs2, hgb, s1, c1, hcell, hin⟩ := bods_at ((ProgR.keep' HP.out (Keep.of_below HB.out hB)).2) (i := k) hlt
        subst hs2
        obtain ⟨hrt, hl1⟩ := progB_body HPB.out (i := k) hlt
        have hem := hidP (fun (kk : Nat) (hkk : kk < (p.bods.getD k []).length) => em_pos HPB.out (b := k) hlt hkk (stV (p.bods.getD k []) kk))
        have ECD := hidP (show cdAt p k = cdM p.caps (p.bods.getD k []) (p.bods.getD k []).length from rfl)
        obtain ⟨l, hl⟩ : ∃ l, p.bods.getD k [] = l := ⟨_, rfl⟩
        rw [hl] at hcell hin hrt hl1 hem ECD ho3
        clear hl
        have hl24 := hrt.len
        obtain ⟨gs, cps, e3, hgs1, hgs2⟩ := World.ownsRow.form ho3 (by rw [stL_len]; omega)
        rw [stL_len] at e3
        subst e3
        have hos : OwnN w3 wo.heap.size (.slice (some ⟨gs, 0, none⟩) (stL l l.length).length cps) (stL l l.length) := by rw [stL_len]; exact ho3
        have HS := hidP (ownN_intsR hos)
        have HSC := hidP (show ∀ i, i < l.length → w3.cell? ⟨gs, i, none⟩ = some (.int .i64 (stV l i)) from fun i hi => by
          have := hos.cell (i := i) (by rw [stL_len]; exact hi)
          rw [stL_at l hi] at this
          exact this)
        have hz3 := hb3.size
        have K3 := hidP (HB.out.trans (hb3.mono (by omega)))
        have K3W := hidP (HBW.out.trans (hb3.mono (by omega)))
        have HIN := hidP hin
        have HCE := hidP ((hb3.cell (p := ⟨gb, offb + k, none⟩) (show gb < wo.heap.size by omega)).trans hcell)
        have HX3 := hidP (HBX.out.keep (Keep.of_below K3W.out (Nat.le_refl _)))
        have HIN3 := hidP (hin.keep (Keep.of_below hb3 (by omega)))
        have HO3 := hidP (HO.out.below hb3)
        have HCP3 := hidP ((ProgR.keep' HP.out (Keep.of_below K3.out hB)).1)
        obtain ⟨x0', x1'⟩ := HX3.out
        have hbs : w.heap.size + 1 ≤ w3.heap.size := by omega
        have hhs : hi ≤ w3.heap.size := by omega
        have hgb3 : gb < w3.heap.size := by omega
        clear ho3 hos hb3 hin hcell hrt x0 x1 HIN
        go_wp2
        go_loopw [8, 9] (fun v i wz => ∃ j : Nat, j ≤ l.length ∧ i = .int .i64 j ∧ OwnT5 wz w3.heap.size v (cdM p.caps l j) ∧ Below w3.heap.size w3 wz) (fun _ i _ => l.length - (intOf i).toNat)
        case atStart => exact ⟨0, Nat.zero_le _, rfl, own5_empty (Nat.le_refl _), (Below.refl _ _).alloc (Nat.le_refl _) _⟩
        case round =>
          obtain ⟨j, hj, rfl, ho, hb⟩ := hrel
          have HO5 := hidP ho
          have HBq := hidP hb
          have hzq := hb.size
          have x0 := (hb.cell (p := ⟨w.heap.size, 0, none⟩) (show w.heap.size < w3.heap.size by omega)).trans x0'
          have x1 := (hb.cell (p := ⟨w.heap.size, 1, none⟩) (show w.heap.size < w3.heap.size by omega)).trans x1'
          have x2 := (hb.cell (p := ⟨gb, offb + k, none⟩) hgb3).trans HCE.out
          clear ho hb
          by_cases hlj : j < l.length
          · obtain ⟨gl, off, hs', hlo, hgl, hc⟩ := insR_at HIN3.out hlj
            subst hs'
            have HA5 := hidP (hc j hlj)
            clear hc
            have hp1 := hem.out j hlj
            have HS5 := hidP (HSC.out j hlj)
            have EC := hidP (show cdM p.caps l (j + 1) = cdM p.caps l j ++ emX p.caps (stL l l.length) (l.getD j z5) (stV l j) from rfl)
            generalize l.getD j z5 = x at HA5 hp1 EC
            obtain ⟨xo, xr, xa, xb, xn⟩ := x
            obtain ⟨st, hst⟩ : ∃ st, stV l j = st := ⟨_, rfl⟩
            rw [hst] at HS5 hp1 EC
            clear hst
            obtain ⟨L, hL⟩ : ∃ L, emX p.caps (stL l l.length) ⟨xo, xr, xa, xb, xn⟩ st = L := ⟨_, rfl⟩
            have HL := hidP (show emitM p.caps (stL l l.length) xo xr xa xb xn st = L from hL)
            have hLn : L.length ≤ 40 := by rw [← HL.out]; exact emitM_len _ _ _ _ _ _ _ _
            have hcn := cdM_len p.caps l j
            rw [hL] at hp1 EC
            clear hL
            have hws : w.heap.size < w3.heap.size := by omega
            have hgl3 : gl < w3.heap.size := by omega
            have hhq : hi ≤ wr.heap.size := by omega
            have hc20 : p.caps.length ≤ 2000000 := by omega
            have side4 : (cdM p.caps l j).length + L.length ≤ 1000 := by omega
            have HCPq := hidP (HCP3.out.keep (Keep.of_below HBq.out hhs))
            have HSq := hidP (HS.out.keep (Keep.of_below HBq.out (Nat.le_refl _)))
            have b0 : (0 : Int) ≤ (j : Int) := by omega
            have b1 : (j : Int) < (l.length : Int) := by omega
            have b2 : (0 : Int) ≤ (k : Int) := by omega
            obtain ⟨f0, f1, f2, f3, f4⟩ := HA5.out.keep HBq.out hgl3
            have f5 := (HBq.out.cell (p := ⟨gs, j, none⟩) hgs2).trans HS5.out
            go_wp2_with fail
            go_region_held3 (fun w'' => w''.cell? ⟨w.heap.size, 0, none⟩ = some (.slice s p.caps.length c) ∧ w''.cell? ⟨w.heap.size, 1, none⟩ = some (.slice (some ⟨gb, offb, none⟩) p.bods.length c') ∧ w''.cell? ⟨gb, offb + k, none⟩ = some (.slice (some ⟨gl, off, none⟩) l.length c1) ∧ w''.cell? ⟨gl, off + j * 5, none⟩ = some (.int .i64 xo) ∧ w''.cell? ⟨gl, off + j * 5 + 1, none⟩ = some (.int .i64 xr) ∧ w''.cell? ⟨gl, off + j * 5 + 2, none⟩ = some (.int .i64 xa) ∧ w''.cell? ⟨gl, off + j * 5 + 3, none⟩ = some (.int .i64 xb) ∧ w''.cell? ⟨gl, off + j * 5 + 4, none⟩ = some (.int .i64 xn) ∧ w''.cell? ⟨gs, j, none⟩ = some (.int .i64 st)) (go_keep) (first | (go_at_call 26; refine (specEmit_n xo xr xa xb xn st (some ⟨gs, 0, none⟩) s cps c lo hi wo.heap.size w3.heap.size p.caps (stL l l.length) l.length (stL_len l _) wr.drew (show IntsR wr.drew lo hi s p.caps from HCPq.out) hhq hc20 (show IntsR wr.drew wo.heap.size w3.heap.size (some ⟨gs, 0, none⟩) (stL l l.length) from HSq.out) hzq).mono ?_; rintro e y1 ⟨v1, rfl, hv1, hbu⟩; rw [HL.out] at hv1; have kbu : Below wr.heap.size wr y1 := ⟨hbu.os, hbu.tape, hbu.output, hbu.size, hbu.block⟩; have hzu := kbu.size; obtain ⟨q2, c2, e2, hq2a, hq2b⟩ := World.ownsRow.form hv1 hp1; subst e2; have HV1 := hidP hv1; have HOU := hidP (HO5.out.keep kbu); have KBU := hidP (HBq.out.trans (kbu.mono hzq)); clear x0 x1 x2 f0 f1 f2 f3 f4 f5 hv1 hbu kbu; have x0 := (KBU.out.cell (p := ⟨w.heap.size, 0, none⟩) hws).trans HX3.out.c0; have x1 := (KBU.out.cell (p := ⟨w.heap.size, 1, none⟩) hws).trans HX3.out.c1; have x2 := (KBU.out.cell (p := ⟨gb, offb + k, none⟩) hgb3).trans HCE.out; obtain ⟨f0, f1, f2, f3, f4⟩ := HA5.out.keep KBU.out hgl3; have f5 := (KBU.out.cell (p := ⟨gs, j, none⟩) hgs2).trans HS5.out) | (refine step5 rfl _ _ rfl y1 w3.heap.size u8 (cdM p.caps l j) rfl HOU.out _ q2 L.length c2 L rfl HV1.out rfl hp1 side4 _ rfl (Nat.le_trans hzq hzu) ?_; intro g7 c7 w7 ho7 hb7; have HO7 := hidP ho7; have KB7 := hidP (KBU.out.trans hb7); clear x0 x1 x2 f0 f1 f2 f3 f4 f5 ho7 hb7; have x0 := (KB7.out.cell (p := ⟨w.heap.size, 0, none⟩) hws).trans HX3.out.c0; have x1 := (KB7.out.cell (p := ⟨w.heap.size, 1, none⟩) hws).trans HX3.out.c1; have x2 := (KB7.out.cell (p := ⟨gb, offb + k, none⟩) hgb3).trans HCE.out; obtain ⟨f0, f1, f2, f3, f4⟩ := HA5.out.keep KB7.out hgl3; have f5 := (KB7.out.cell (p := ⟨gs, j, none⟩) hgs2).trans HS5.out) | fail)
            clear x0 x1 x2 f0 f1 f2 f3 f4 f5
            go_wp2
            go_roundw
            case rel => exact ⟨j + 1, by omega, by go_num, by rw [EC.out]; exact HO7.out, KB7.out⟩
            case measure => simp [intOf]; omega
          · have hjn : j = l.length := by omega
            subst hjn
            rw [← ECD.out] at HO5
            obtain ⟨sL, cL, eL⟩ := own5_sl HO5.out
            subst eL
            have hcn := cdM_len p.caps l l.length
            rw [← ECD.out] at hcn
            have hn1 : (cdAt p k).length ≤ 1048576 := by omega
            have HIB := hidP (own5_insB HO5.out)
            have b2 : (0 : Int) ≤ (k : Int) := by omega
            have b3 : ¬ ((l.length : Int) < (l.length : Int)) := by omega
            cases hcb : codeB (cdAt p k)
            · have HCB := hidP hcb
              have EC := hidP (cpM_no (p := p) (k := k) hlt hcb)
              clear hcb
              go_wp2_with (go_at_call 27; refine (specCode_any sL cL wr.heap.size (cdAt p k) wr HIB.out (Nat.le_refl _) hn1).mono ?_; rintro e w8 ⟨rfl, hb8⟩; rw [HCB.out])
              have hz8 := hb8.size
              refine bodyPost_ret (v := .tuple #[.slice (some ⟨w8.heap.size, 0, none⟩) 0 0, .bool false]) (by simp [results, Tryz.results8, go_sem]) rfl ?_
              exact ⟨_, by rw [EC.out], by rw [EC.out]; exact own6_empty (by omega), (K3.out.trans ((HBq.out.trans (hb8.mono hzq)).mono (by omega))).alloc (by omega) _⟩
            · have HCB := hidP hcb
              clear hcb
              obtain ⟨xs, r1, r2, r3⟩ := HO3.out
              rw [cdL_len] at r1 r2 r3
              have HR1 := hidP r1
              have HVB := hidP (show ∀ kk, (Value.slice sv k cv).ownBlock = some kk → w.heap.size + 1 ≤ kk ∧ kk < w3.heap.size from fun kk e => World.ownsRow.lt r1 _ e)
              have HR23 := hidP (And.intro r2 r3)
              have side5 : k ≤ 1000 := by omega
              clear r1 r2 r3
              go_wp2_with (first | (go_at_call 27; refine (specCode_any sL cL wr.heap.size (cdAt p k) wr HIB.out (Nat.le_refl _) hn1).mono ?_; rintro e w8 ⟨rfl, hb8⟩; rw [HCB.out]; have hz8 := hb8.size; have HB8 := hidP hb8; have K8 := hidP (HBq.out.trans (hb8.mono hzq)); clear hb8) | (at_builtin; refine app6 rfl _ _ rfl (w8.alloc (.cells #[.slice sL (cdAt p k).length cL] 34)) (w.heap.size + 1) (.slice sv k cv) xs k rfl (ownKeep HR1.out (fun kk e => (Below.heap_alloc _ _ _ (Nat.lt_of_lt_of_le (HVB.out kk e).2 (Nat.le_trans hzq hz8))).trans (K8.out.block kk (HVB.out kk e).2))) w8.heap.size 1 (.slice sL (cdAt p k).length cL) rfl rfl (by simp [go_sem]) side5 (by simp; omega) ?_; intro g9 c9 w9 ho9 hg9 ha9 hlt9) | go_in)
              have HK9 := hidP (fun kk (h1 : kk < w8.heap.size) (h2 : (Value.slice sv k cv).ownBlock ≠ some kk) => (hg9.block kk (by simp; omega) (fun e => h2 e.symm)).trans (Below.heap_alloc w8 (.cells #[.slice sL (cdAt p k).length cL] 34) kk h1))
              have hw9 : w8.heap.size + 1 ≤ w9.heap.size := by have := hg9.size; simpa using this
              have OB : OwnB6 w9 (w.heap.size + 1) (.slice (some ⟨g9, 0, none⟩) (k + 1) c9) (cdL p (k + 1)) := by
                have hlk := cdL_len p k
                have := OwnB6.grow (w := w3) (w' := w9) (base := w.heap.size + 1) (g := g9) (cap := c9) (v := .slice sv k cv) (u := .slice sL (cdAt p k).length cL) (bs := cdL p k) (xs := xs) (b := cdAt p k) (by rw [hlk]; exact HR1.out) (by rw [hlk]; exact HR23.out.1) (by rw [hlk]; exact HR23.out.2) (own_hu HO5.out) (by rw [hlk]; exact ho9) (fun kk h1 h2 h3 => (HK9.out kk (by omega) h3).trans (K8.out.block kk h2)) (own5_six (ownKeep (ownLow (HO5.out.keep HB8.out) (by omega)) (fun kk e => HK9.out kk (Nat.lt_of_lt_of_le (World.ownsRow.lt HO5.out _ e).2 hz8) (fun e2 => absurd (HVB.out _ e2).2 (by have := (World.ownsRow.lt HO5.out _ e).1; omega)))))
                rw [hlk] at this
                rw [cdL_succ]
                exact this
              have HB9 : Below (w.heap.size + 1) W w9 := ⟨hg9.os.trans (K8.out.os.trans K3W.out.os), hg9.tape.trans (K8.out.tape.trans K3W.out.tape), hg9.output.trans (K8.out.output.trans K3W.out.output), by have := K3W.out.size; omega, fun kk hk2 => (HK9.out kk (by omega) (fun e => absurd (HVB.out _ e).1 (by omega))).trans ((K8.out.block kk (by omega)).trans (K3W.out.block kk hk2))⟩
              exact ⟨⟨k + 1, by omega, by go_num, ⟨_, _, rfl, OB⟩, HB9, ok_step HOK.out HCB.out⟩, by simp [intOf]; omega⟩
      · have hkn : k = p.bods.length := by omega
        subst hkn
        have EC := hidP (cpM_yes HPB.out HOK.out)
        go_wp2
        refine bodyPost_ret (v := .tuple #[.slice sv p.bods.length cv, .bool true]) (by simp [results, Tryz.results8, go_sem]) rfl ?_
        exact ⟨_, by rw [EC.out], by rw [EC.out]; exact HO.out.low (Nat.le_succ _), HB.out⟩
end

section
set_option linter.unusedSimpArgs false
set_option linter.unusedVariables false
set_option maxRecDepth 100000
open Go.RowKit

theorem chanM_size {o : Int} (r a x rm b fr : Int) (h : o = 5 ∨ o = 6 ∨ o = 7 ∨ o = 8 ∨ o = 9) : ((chanM o r a x rm b fr).length : Int) = sizeV o := by
  rcases h with rfl | rfl | rfl | rfl | rfl
  all_goals simp [chanM, sizeV, togL_len, lens, lockR, askR, faultR, openR, roundR, putR, letR, triedR, takenR, roundT, keepT, keepR, noneT, noneR, cameR]
theorem emitM_size {cs ss : List Int} {o r a x n fr : Int} (h : Plain.insB o r a x n ss.length cs.length = true) (hb : ∀ m : Int, 0 ≤ m → m < cs.length → baseV cs m ≠ -1) : ((emitM cs ss o r a x n fr).length : Int) = sizeV o := by
  have h' := h
  simp only [Plain.insB, decide_eq_true_eq] at h'
  unfold emitM
  rw [if_pos h]
  repeat' split
  all_goals first
    | (subst_vars; simp [sizeV]; done)
    | exact chanM_size _ _ _ _ _ _ (by omega)
    | (exfalso; rename_i hz; exact hb n (by omega) (by omega) hz)
theorem em_size {p : PD} (h : progB p = true) {b : Nat} (hb : b < p.bods.length) {k : Nat} (hk : k < (p.bods.getD b []).length) (fr : Int) : ((emX p.caps (stL (p.bods.getD b []) (p.bods.getD b []).length) ((p.bods.getD b []).getD k z5) fr).length : Int) = sizeV ((p.bods.getD b []).getD k z5).o := by
  have h1 : bodyB (p.bods.getD b []) p.caps.length = true := by
    simp only [progB, bodsB, Bool.and_eq_true, decide_eq_true_eq] at h
    exact h.2.1 b hb
  have h2 : insX ((p.bods.getD b []).getD k z5) (p.bods.getD b []).length p.caps.length = true := by
    simp only [bodyB, Bool.and_eq_true, decide_eq_true_eq] at h1
    exact h1.1 k hk
  unfold emX
  refine emitM_size ?_ (fun m h0 h1 => base_ok h h0 h1)
  rw [stL_len]
  exact h2
theorem cdM_size {p : PD} (h : progB p = true) {b : Nat} (hb : b < p.bods.length) : ∀ k, k ≤ (p.bods.getD b []).length → ((cdM p.caps (p.bods.getD b []) k).length : Int) = stV (p.bods.getD b []) k
  | 0, _ => rfl
  | k + 1, hk => by
    have h1 := cdM_size h hb k (by omega)
    have h2 := em_size h hb (k := k) (by omega) (stV (p.bods.getD b []) k)
    simp only [cdM, stV, List.length_append]
    omega
theorem cdAt_size {p : PD} (h : progB p = true) {b : Nat} (hb : b < p.bods.length) : ((cdAt p b).length : Int) = stV (p.bods.getD b []) (p.bods.getD b []).length := cdM_size h hb _ (Nat.le_refl _)
/- how many first steps lie below i -/
def belN (l : List I5) (i : Int) : Nat := ((List.range l.length).filter (fun j => decide (stV l j < i))).length
theorem belN_zero {l : List I5} (h : Rt l) : belN l 0 = 0 := by
  unfold belN
  rw [List.filter_eq_nil_iff.2 (fun j hj => by
    have := stV_bd h j (by have := List.mem_range.1 hj; omega)
    simp only [decide_eq_true_eq]
    omega)]
  rfl
theorem belN_all {l : List I5} (h : Rt l) : belN l (stV l l.length) = l.length := by
  unfold belN
  rw [List.filter_eq_self.2 (fun j hj => decide_eq_true (stV_lt h _ (List.mem_range.1 hj) (Nat.le_refl _)))]
  simp
theorem belN_no {l : List I5} {i : Int} (hn : ∀ j, j < l.length → stV l j ≠ i) : belN l (i + 1) = belN l i := by
  unfold belN
  congr 1
  refine List.filter_congr fun j hj => ?_
  have := hn j (List.mem_range.1 hj)
  simp only [decide_eq_decide]
  omega

theorem belN_is {l : List I5} {i : Int} {m : Nat} (hm : m ≤ l.length) (h1 : ∀ j, j < m → stV l j < i) (h2 : ∀ j, m ≤ j → j < l.length → i ≤ stV l j) : belN l i = m := by
  unfold belN
  obtain ⟨d, hd⟩ : ∃ d, l.length = m + d := ⟨l.length - m, by omega⟩
  rw [hd, List.range_add, List.filter_append, List.filter_eq_self.2 (fun j hj => decide_eq_true (h1 j (List.mem_range.1 hj))), List.filter_eq_nil_iff.2 (fun j hj => by
    obtain ⟨x, hx, rfl⟩ := List.mem_map.1 hj
    have := h2 (m + x) (by omega) (by have := List.mem_range.1 hx; omega)
    simp only [decide_eq_true_eq]
    omega)]
  simp
theorem belN_first {l : List I5} (h : Rt l) {j : Nat} (hj : j < l.length) : belN l (stV l j) = j ∧ belN l (stV l j + 1) = j + 1 := by
  refine ⟨belN_is (by omega) (fun k hk => stV_lt h j hk (by omega)) (fun k hk hkl => ?_), belN_is (by omega) (fun k hk => ?_) (fun k hk hkl => ?_)⟩
  · rcases Nat.lt_or_ge j k with h1 | h1
    · have := stV_lt h k h1 (by omega); omega
    · have : k = j := by omega
      subst this; omega
  · rcases Nat.lt_or_ge k j with h1 | h1
    · have := stV_lt h j h1 (by omega); omega
    · have : k = j := by omega
      subst this; omega
  · have := stV_lt h k (by omega : j < k) (by omega); omega
theorem belN_step {l : List I5} (h : Rt l) {j : Nat} {i : Int} (hj : j < l.length) (h1 : stV l j ≤ i) (h2 : i < stV l (j + 1)) : belN l (i + 1) = belN l i + (if stV l j = i then 1 else 0) := by
  by_cases e : stV l j = i
  · rw [if_pos e, ← e, (belN_first h hj).1, (belN_first h hj).2]
  · rw [if_neg e, Nat.add_zero]
    refine belN_no fun k hk ek => e ?_
    have : k = j := by
      rcases Nat.lt_trichotomy k j with a | a | a
      · have := stV_lt h j a (by omega); omega
      · exact a
      · rcases Nat.lt_or_ge (j + 1) k with b | b
        · have := stV_lt h k b (by omega); omega
        · have : j + 1 = k := by omega
          rw [this] at h2; omega
    rw [← this]; exact ek
end

section
set_option linter.unusedSimpArgs false
set_option linter.unusedVariables false
set_option maxRecDepth 100000
open Go.RowKit

set_option maxRecDepth 100000 in
set_option maxHeartbeats 4000000 in
theorem drawCompile_any (s : Option Addr) (n c : Nat) (w : World) (hb : Bytes w w.heap.size s n) (hn : n ≤ maxLen) :
    Calls Tryz.prog 6 #[.slice s n c] w fun e w' => ∃ (s0 : Option Addr) (d0 : Nat) (s1 : Option Addr) (d1 : Nat) (pd : PD), e = .returned (.agg #[.slice s0 pd.caps.length d0, .slice s1 pd.bods.length d1]) ∧ (ProgR w' w.heap.size w'.heap.size s0 s1 pd ∧ Below w.heap.size w w') ∧ Fits pd := by
  have HB : Hid (Bytes (w.alloc (.cells #[.slice none 0 0, .slice none 0 0] 27)) (w.heap.size + 1) s n) := bytes_up hb ((Below.refl w.heap.size w).alloc (Nat.le_refl _) _) (by omega)
  clear hb
  go_enter Tryz.func6, Tryz.ntmps6
  go_wp2_with fail
  refine (new_cb s n c _ (by simpa using HB.out) hn).mono ?_
  rintro e w1 ⟨rfl, hc1, hb1, hz1⟩
  simp only [World.size_alloc] at hc1 hz1
  have r0 : w1.cell? ⟨w.heap.size, 0, none⟩ = some (.slice none 0 0) := by rw [hb1.cell (by simp)]; simp [go_sem]
  have r1 : w1.cell? ⟨w.heap.size, 1, none⟩ = some (.slice none 0 0) := by rw [hb1.cell (by simp)]; simp [go_sem]
  have fR : ∀ j, w1.frozen? ⟨w.heap.size, j, none⟩ = false := fun j => by rw [hb1.frozen (by simp)]; simp [go_sem]
  have K1 : Hid (Below w.heap.size w w1) := ((Below.refl _ _).alloc (Nat.le_refl _) _).trans (hb1.mono (by simp))
  have HC : Hid (CB w1 (w.heap.size + 1) s n c) := hc1
  have hlt1 := hc1.lt
  clear hb1 hc1 hz1
  go_wp2_with fail
  refine (draw_cb2 (w.heap.size + 1) s n c w1 HC.out).mono ?_
  rintro e w2 ⟨v0, v1, a, b, rfl, hC, hS, ha, hb, hb2, hcb2⟩
  obtain ⟨s0, d0, caps, rfl, hca, hIC⟩ := hC.ints
  obtain ⟨s1, d1, bods, rfl, hbo, hbl, hIS⟩ := hS.bods
  have g0 := (hb2.cell (p := ⟨w.heap.size, 0, none⟩) (by show w.heap.size < _; omega) (by show w.heap.size ≠ w.heap.size + 1; omega)).trans r0
  have g1 := (hb2.cell (p := ⟨w.heap.size, 1, none⟩) (by show w.heap.size < _; omega) (by show w.heap.size ≠ w.heap.size + 1; omega)).trans r1
  have fz : ∀ j, w2.frozen? ⟨w.heap.size, j, none⟩ = false := fun j => (hb2.frozen (p := ⟨w.heap.size, j, none⟩) (by show w.heap.size < _; omega) (by show w.heap.size ≠ w.heap.size + 1; omega)).trans (fR j)
  have hz2 := hb2.size
  have HI1 := hidP hIC
  have HI2 := hidP hIS
  have HF : Hid (Fits ⟨caps, bods⟩) := ⟨by show caps.length ≤ _; omega, by show bods.length ≤ _; omega, fun i hi => by have := hbl i hi; show (bods.getD i []).length ≤ _; omega⟩
  have K2 : Hid (Below w.heap.size w w2) := K1.out.trans (hb2.below (by omega) (by omega))
  clear hC hS hb2 r0 r1 fR hIC hIS hbl hcb2 hca hbo
  go_wp2
  refine bodyPost_ret (v := .agg #[.slice s0 caps.length d0, .slice s1 bods.length d1]) (by simp [results, Tryz.results6, go_sem, g0, g1]) rfl ?_
  have k1 : Keep w1.heap.size w2.heap.size w2 ((w2.setCell ⟨w.heap.size, 0, none⟩ (.slice s0 caps.length d0)).setCell ⟨w.heap.size, 1, none⟩ (.slice s1 bods.length d1)) := (Keep.of_set (a := ⟨w.heap.size, 0, none⟩) (by show w.heap.size < w1.heap.size; omega)).trans (Keep.of_set (a := ⟨w.heap.size, 1, none⟩) (by show w.heap.size < w1.heap.size; omega))
  exact ⟨s0, d0, s1, d1, ⟨caps, bods⟩, rfl, ⟨⟨(HI1.out.keep k1).mono (by omega) (by simp), (HI2.out.keep k1).mono (by omega) (by simp)⟩, (K2.out.setCell (p := ⟨w.heap.size, 0, none⟩) (Nat.le_refl _) _).setCell (p := ⟨w.heap.size, 1, none⟩) (Nat.le_refl _) _⟩, HF.out⟩
end

section
set_option linter.unusedSimpArgs false
set_option linter.unusedVariables false
set_option maxRecDepth 100000
open Go.RowKit

set_option maxHeartbeats 1000000 in
theorem sameSteps_same (s s' : Option Addr) (c c' B : Nat) (l : List I5) (w : World) (h : InsB w B s l) (h' : InsB w B s' l) (hB : B ≤ w.heap.size) (hl : l.length ≤ 1000) :
    Calls Tryz.prog 10 #[.slice s l.length c, .slice s' l.length c'] w fun e w' => e = .returned (.bool true) ∧ ∃ n, w' = w.drewN n := by
  have hne : ((l.length : Int) != (l.length : Int)) = false := by simp
  have H := hid_of h
  have H' := hid_of h'
  clear h h'
  go_enter Tryz.func10, Tryz.ntmps10
  go_wp2
  go_loopw [5] (fun i wr => ∃ (k m : Nat), k ≤ l.length ∧ i = .int .i64 k ∧ wr = w.drewN m) (fun i _ => l.length - (intOf i).toNat)
  case atStart => exact ⟨0, 0, Nat.zero_le _, rfl, rfl⟩
  case round =>
    obtain ⟨k, m, hk, rfl, rfl⟩ := hrel
    by_cases hlt : k < l.length
    · obtain ⟨g, o, rfl, hg, hc⟩ : ∃ g o, s = some ⟨g, o, none⟩ ∧ g < B ∧ At5 w g (o + k * 5) (l.getD k z5) := by
        rcases H.out with e | ⟨g, o, e, hg, hc⟩
        · rw [e] at hlt; simp at hlt
        · exact ⟨g, o, e, hg, hc k hlt⟩
      obtain ⟨g', o', rfl, hg', hc'⟩ : ∃ g o, s' = some ⟨g, o, none⟩ ∧ g < B ∧ At5 w g (o + k * 5) (l.getD k z5) := by
        rcases H'.out with e | ⟨g, o, e, hg, hc⟩
        · rw [e] at hlt; simp at hlt
        · exact ⟨g, o, e, hg, hc k hlt⟩
      generalize l.getD k z5 = x at hc hc'
      obtain ⟨xo, xr, xa, xb, xn⟩ := x
      obtain ⟨f0, f1, f2, f3, f4⟩ := hc
      obtain ⟨e0, e1, e2, e3, e4⟩ := hc'
      simp only at f0 f1 f2 f3 f4 e0 e1 e2 e3 e4
      have b0 : (0 : Int) ≤ (k : Int) := by omega
      have b1 : (k : Int) < (l.length : Int) := by omega
      have hr : ∀ w, (binOp .neq 56 (.agg #[.int .i64 xo, .int .i64 xr, .int .i64 xa, .int .i64 xb, .int .i64 xn]) (.agg #[.int .i64 xo, .int .i64 xr, .int .i64 xa, .int .i64 xb, .int .i64 xn])).run Tryz.prog w = .ok (.bool false) w := fun w => by rw [neqStep_run]; simp
      clear H H'
      go_wp2
      go_region
      all_goals go_wp2
      all_goals exact ⟨⟨k + 1, m + 1, by omega, by go_num, rfl⟩, by simp [intOf]; omega⟩
    · go_wp2
      go_ret
      exact ⟨rfl, m, rfl⟩
end

end Go.Proofs.YteddmadbegpecaaGreat
