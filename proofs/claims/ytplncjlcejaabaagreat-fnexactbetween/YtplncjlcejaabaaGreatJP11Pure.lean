/- First steps, without a program: where each place begins, what the map of first steps holds, what its keys are when they are told sorted. Conditions: bodies of at most 24 places, each of a kind that there is. -/
import Derived.Test.YtplncjlcejaabaaGreatJProgOk
import Derived.Test.YtplncjlcejaabaaGreatJE10Of
import Derived.Maps.Range
import Derived.Maps.Ext
namespace Go.Proofs.YtplncjlcejaabaaGreat
set_option linter.unusedSimpArgs false
set_option linter.unusedVariables false
set_option maxRecDepth 100000
open Go.RowKit Go.Maps
theorem hidP {p : Prop} (h : p) : Hid p := h
def stV (l : List I5) : Nat → Int
 | 0 => 0
 | n + 1 => stV l n + sizeV (l.getD n z5).o
def stL (l : List I5) (n : Nat) : List Int := (List.range n).map (stV l)
structure Rt (l : List I5) : Prop where
 len : l.length ≤ 24
 sz : ∀ i, i < l.length → 1 ≤ sizeV (l.getD i z5).o ∧ sizeV (l.getD i z5).o ≤ 32
theorem rt_nil : Rt [] := ⟨Nat.zero_le _, fun i hi => absurd hi (Nat.not_lt_zero _)⟩
theorem size_op {o : Int} (h1 : 1 ≤ o) (h2 : o ≤ 13) : 1 ≤ sizeV o ∧ sizeV o ≤ 32 := by
 unfold sizeV
 repeat' split
 all_goals omega
theorem insB_op {o r a b n pl ch : Int} (h : Plain.insB o r a b n pl ch = true) : 1 ≤ o ∧ o ≤ 13 := by
 simp only [Plain.insB, decide_eq_true_eq] at h
 omega
theorem bodyB_rt {l : List I5} {ch : Int} (h : bodyB l ch = true) : Rt l ∧ 1 ≤ l.length := by
 simp only [bodyB, Bool.and_eq_true, decide_eq_true_eq] at h
 exact ⟨⟨h.2.1.2, fun i hi => by obtain ⟨h1, h2⟩ := insB_op (h.1 i hi); exact size_op h1 h2⟩, h.2.1.1⟩
theorem progB_body {p : PD} (h : progB p = true) {i : Nat} (hi : i < p.bods.length) : Rt (p.bods.getD i []) ∧ 1 ≤ (p.bods.getD i []).length := by
 simp only [progB, bodsB, Bool.and_eq_true, decide_eq_true_eq] at h
 exact bodyB_rt (h.2.1 i hi)
theorem progB_len {p : PD} (h : progB p = true) : 1 ≤ p.bods.length ∧ p.bods.length ≤ 4 ∧ p.caps.length ≤ 3 ∧ ∀ i, i < p.caps.length → 1 ≤ p.caps.getD i 0 ∧ p.caps.getD i 0 ≤ 4 := by
 simp only [progB, capsB, Plain.inB, Bool.and_eq_true, decide_eq_true_eq] at h
 refine ⟨by omega, by omega, h.2.2.1, h.1⟩
theorem stV_step {l : List I5} (h : Rt l) {i : Nat} (hi : i < l.length) : stV l i + 1 ≤ stV l (i + 1) ∧ stV l (i + 1) ≤ stV l i + 32 := by
 have := h.sz i hi
 simp only [stV]
 omega
theorem stV_bd {l : List I5} (h : Rt l) : ∀ i, i ≤ l.length → 0 ≤ stV l i ∧ stV l i ≤ 32 * i
 | 0, _ => by simp [stV]
 | i + 1, hi => by have := stV_bd h i (by omega); have := stV_step h (i := i) (by omega); omega
theorem stV_lt {l : List I5} (h : Rt l) {i : Nat} : ∀ j, i < j → j ≤ l.length → stV l i < stV l j
 | 0, h1, _ => absurd h1 (Nat.not_lt_zero _)
 | j + 1, h1, h2 => by
  have s := stV_step h (i := j) (by omega)
  rcases Nat.lt_or_ge i j with h3 | h3
  ·have := stV_lt h j h3 (by omega); omega
  ·have : i = j := by omega
   subst this
   omega
theorem stV_inj {l : List I5} (h : Rt l) {i j : Nat} (hi : i ≤ l.length) (hj : j ≤ l.length) (e : stV l i = stV l j) : i = j := by
 rcases Nat.lt_trichotomy i j with h1 | h1 | h1
 ·have := stV_lt h j h1 hj; omega
 ·exact h1
 ·have := stV_lt h i h1 hi; omega
theorem stV_big {l : List I5} (h : Rt l) {i : Nat} (hi : i ≤ l.length) : 0 ≤ stV l i ∧ stV l i ≤ 768 := by
 have := stV_bd h i hi
 have := h.len
 omega
theorem stV_wf {l : List I5} (h : Rt l) {i : Nat} (hi : i ≤ l.length) : (Lit.int .i64 (stV l i)).wf = true := by
 have := stV_big h hi
 exact WalkArith.wf_i64 (by omega)
theorem stL_len (l : List I5) (n : Nat) : (stL l n).length = n := by simp [stL]
theorem stL_at (l : List I5) {n i : Nat} (hi : i < n) : (stL l n).getD i 0 = stV l i := by simp [stL, List.getD_eq_getElem?_getD, hi]
theorem stL_succ (l : List I5) (n : Nat) : stL l (n + 1) = stL l n ++ [stV l n] := by simp [stL, List.range_succ]
/- the map of first steps -/
def mpD (l : List I5) : Nat → DataW Unit
 | 0 => .map []
 | n + 1 => (mpD l n).put (.int .i64 (stV l n)) (.lit (.int .i64 n))
theorem mpD_map (l : List I5) : ∀ n, IsMap (mpD l n)
 | 0 => isMap_empty
 | n + 1 => (mpD_map l n).put _ _
theorem isK (x : Int) : WideAt.IsKeyLit (Lit.int .i64 x) := trivial
theorem ne_key {x y : Int} (h : x ≠ y) : Lit.int .i64 x ≠ Lit.int .i64 y := fun e => h (by simpa using e)
theorem mpD_has {l : List I5} (x : Int) : ∀ n, Maps.has (mpD l n) (.int .i64 x) = true ↔ ∃ i, i < n ∧ stV l i = x
 | 0 => by simp [mpD, Maps.has]
 | n + 1 => by
  by_cases e : x = stV l n
  ·subst e
   rw [mpD, has_put_same (mpD_map l n) (isK _)]
   exact ⟨fun _ => ⟨n, Nat.lt_succ_self _, rfl⟩, fun _ => rfl⟩
  ·rw [mpD, has_put_other (ne_key e), mpD_has x n]
   constructor
   ·rintro ⟨i, hi, h⟩; exact ⟨i, by omega, h⟩
   ·rintro ⟨i, hi, h⟩
    refine ⟨i, ?_, h⟩
    have : i ≠ n := fun e' => e (by rw [← h, e'])
    omega
theorem mpD_at {l : List I5} (h : Rt l) {i : Nat} (z : DataW Unit) : ∀ n, i < n → n ≤ l.length → (mpD l n).atKey (.int .i64 (stV l i)) z = .lit (.int .i64 i)
 | 0, h1, _ => absurd h1 (Nat.not_lt_zero _)
 | n + 1, h1, h2 => by
  by_cases e : i = n
  ·subst e
   exact atKey_put_same (mpD_map l i) (isK _) _ _
  ·rw [mpD, atKey_put_other (ne_key fun e' => e (stV_inj h (by omega) (by omega) e'))]
   exact mpD_at h z n (by omega) (by omega)
theorem place_one {l : List I5} (h : Rt l) {at' : Int} {i j : Nat} (hi : i < l.length) (hj : j < l.length) (a1 : stV l i ≤ at') (a2 : at' < stV l (i + 1)) (b1 : stV l j ≤ at') (b2 : at' < stV l (j + 1)) : i = j := by
 rcases Nat.lt_trichotomy i j with h1 | h1 | h1
 ·rcases Nat.lt_or_ge (i + 1) j with h2 | h2
  ·have := stV_lt h j h2 (by omega); omega
  ·have : i + 1 = j := by omega
   rw [this] at a2; omega
 ·exact h1
 ·rcases Nat.lt_or_ge (j + 1) i with h2 | h2
  ·have := stV_lt h i h2 (by omega); omega
  ·have : j + 1 = i := by omega
   rw [this] at b2; omega
end Go.Proofs.YtplncjlcejaabaaGreat
