/- The specification's digits: at every number its decimal numeral, as strconv.Itoa's. Condition: the number is one of 64 bits. -/
import Derived.Test.YtfgikjipkfggbaaGreatDoorQuietC
import Derived.Test.YtfgikjipkfggbaaGreatDoorChecked
import Derived.WalkKit
import Derived.KernelRfl
import Derived.WalkSpells
import Derived.WalkLawsBesides
import Derived.Below
import Derived.LoopTactic
import Derived.Laws.IdiomStrings
import Derived.Laws.Concat
import Derived.Lib.ItoaNum
namespace Go.Proofs.YtfgikjipkfggbaaGreatDoor
set_option linter.unusedSimpArgs false
set_option linter.unusedVariables false
set_option maxRecDepth 100000
open Go.RowKit

def magD (u : Nat) : List UInt8 := if u = 0 then [] else Lib.decDigits u
theorem magD_zero : magD 0 = [] := rfl
theorem magD_step {u : Nat} (h : u ≠ 0) : magD u = magD (u / 10) ++ [UInt8.ofNat (48 + u % 10)] := by
  unfold magD
  rw [if_neg h]
  by_cases h10 : u < 10
  · rw [Lib.decDigits_one h10, if_pos (by omega), Nat.mod_eq_of_lt h10]; rfl
  · rw [if_neg (by omega), Lib.decDigits, dif_neg h10]
theorem magD_lt : ∀ (k u : Nat), u < 10 ^ k → (magD u).length ≤ k
  | 0, u, h => by have : u = 0 := by simpa using h
                  subst this; simp [magD]
  | k + 1, u, h => by
    by_cases hu : u = 0
    · subst hu; simp [magD]
    · rw [magD_step hu]
      have := magD_lt k (u / 10) (by rw [Nat.pow_succ] at h; omega)
      simp; omega
theorem magD_len {n : Int} (h0 : -9223372036854775808 ≤ n) (h1 : n ≤ 9223372036854775807) : (magD n.natAbs).length ≤ 19 :=
  magD_lt 19 _ (by omega)
theorem itoa_pos {n : Int} (h : 0 < n) : Lib.itoa n = magD n.natAbs := by
  unfold Lib.itoa magD
  rw [if_neg (by omega), if_neg (by omega)]
  congr 1
  omega
theorem itoa_below {n : Int} (h : n < 0) : Lib.itoa n = 45 :: magD n.natAbs := by
  unfold Lib.itoa magD
  rw [if_pos h, if_neg (by omega)]

theorem conv1 (w : World) (Y : Int) : (convert 22 9 (.slice (some ⟨w.heap.size, 0, none⟩) 1 1)).run Tryz.prog (w.alloc (.cells #[.int .u8 (Y % 256)] 5)) = .ok (.string ⟨#[UInt8.ofNat (Y % 256).toNat]⟩) (w.alloc (.cells #[.int .u8 (Y % 256)] 5)) := by
  have e : ((UInt8.ofNat (Y % 256).toNat).toNat : Int) = Y % 256 := by
    simp
    omega
  refine run_convert_bytes_back (P := Tryz.prog) (w.alloc (.cells #[.int .u8 (Y % 256)] 5)) 22 9 5 ⟨w.heap.size, 0, none⟩ 1 [UInt8.ofNat (Y % 256).toNat] Tryz.underlying22 Tryz.underlying5 Tryz.underlying9 ?_
  intro j hj
  have : j = 0 := by simpa using hj
  subst this
  rw [List.getElem_cons_zero, e]
  simp [go_sem, Addr.add]
theorem add1 (x : UInt8) (l : List UInt8) (h : l.length ≤ 8388608) (W : World) : (Op.stringOp .add ⟨#[x]⟩ ⟨l.toArray⟩).run Tryz.prog W = .ok (.string ⟨(x :: l).toArray⟩) W :=
  run_string_add_lists W [x] l (by simp) (by omega)
theorem tm_pos {m : Int} (h : 0 ≤ m) : m.tmod 10 = m % 10 ∧ m.tdiv 10 = m / 10 := ⟨Int.tmod_eq_emod_of_nonneg h, Int.tdiv_eq_ediv_of_nonneg h⟩
theorem tm_neg {m : Int} (h : m < 0) : m.tmod 10 = -((-m) % 10) ∧ m.tdiv 10 = -((-m) / 10) := by
  have e : m = -(-m) := by omega
  have a := (tm_pos (m := -m) (by omega))
  constructor
  · rw [e, Int.neg_tmod, a.1]; simp
  · rw [e, Int.neg_tdiv, a.2]; simp
theorem digit_neg {m : Int} (h : m.tmod 10 < 0) : wrap64 (48 + wrap64 (-m.tmod 10)) % 256 = 48 + (m.natAbs % 10 : Nat) := by
  have hm : m < 0 := by
    apply Classical.byContradiction
    intro hc
    rw [(tm_pos (by omega)).1] at h
    omega
  rw [(tm_neg hm).1]
  unfold wrap64
  omega
theorem digit_pos {m : Int} (h : ¬ m.tmod 10 < 0) : wrap64 (48 + m.tmod 10) % 256 = 48 + (m.natAbs % 10 : Nat) := by
  by_cases hm : m < 0
  · rw [(tm_neg hm).1] at h ⊢
    unfold wrap64
    omega
  · rw [(tm_pos (by omega)).1] at h ⊢
    unfold wrap64
    omega
theorem quo_abs (m : Int) : (m.tdiv 10).natAbs = m.natAbs / 10 := by
  by_cases hm : m < 0
  · rw [(tm_neg hm).2]; omega
  · rw [(tm_pos (by omega)).2]; omega
theorem quo_in {m : Int} (m0 : -9223372036854775808 ≤ m) (m1 : m ≤ 9223372036854775807) : -9223372036854775808 ≤ m.tdiv 10 ∧ m.tdiv 10 ≤ 9223372036854775807 := by
  by_cases hm : m < 0
  · rw [(tm_neg hm).2]; omega
  · rw [(tm_pos (by omega)).2]; omega
theorem digit_next {m n : Int} {l : List UInt8} (hm : ¬ m = 0) (h : magD m.natAbs ++ l = magD n.natAbs) : magD (m.tdiv 10).natAbs ++ (UInt8.ofNat (48 + ((m.natAbs % 10 : Nat) : Int)).toNat :: l) = magD n.natAbs := by
  have e : (48 + ((m.natAbs % 10 : Nat) : Int)).toNat = 48 + m.natAbs % 10 := by omega
  rw [quo_abs, ← h, magD_step (u := m.natAbs) (by omega), e]
  simp

set_option maxRecDepth 100000 in
set_option maxHeartbeats 1000000 in
theorem l2Digits_any (n : Int) (h0 : -9223372036854775808 ≤ n) (h1 : n ≤ 9223372036854775807) (w : World) :
    Calls Tryz.prog 36 #[.int .i64 n] w fun e w' => e = .returned (.string ⟨(Lib.itoa n).toArray⟩) ∧ Below w.heap.size w w' := by
  by_cases hn : n = 0
  · subst hn
    go_enter Tryz.func36, Tryz.ntmps36
    go_wp2
    go_ret
    exact ⟨by rw [Lib.itoa]; simp [Lib.decDigits], Below.refl _ _⟩
  · go_enter Tryz.func36, Tryz.ntmps36
    go_wp2
    go_loopw [0, 4] (fun a b wr => ∃ (m : Int) (l : List UInt8), a = .int .i64 m ∧ b = .string ⟨l.toArray⟩ ∧ Below w.heap.size w wr ∧ magD m.natAbs ++ l = magD n.natAbs ∧ -9223372036854775808 ≤ m ∧ m ≤ 9223372036854775807) (fun a _ _ => (intOf a).natAbs)
    case atStart => exact ⟨n, [], rfl, rfl, Below.refl _ _, by simp, h0, h1⟩
    case round =>
      obtain ⟨m, l, rfl, rfl, hb, hd, m0, m1⟩ := hrel
      have HB : Hid (Below w.heap.size w wr) := hb
      have HD : Hid (magD m.natAbs ++ l = magD n.natAbs) := hd
      have hl : l.length ≤ 19 := by
        have e := congrArg List.length hd
        have := magD_len h0 h1
        simp at e
        omega
      clear hb hd
      by_cases hm : m = 0
      · subst hm
        have E : Hid (l = magD n.natAbs) := HD.out
        have hadd := add1 45 l (by omega)
        by_cases hneg : n < 0
        · go_wp2
          go_ret
          refine ⟨?_, HB.out⟩
          rw [itoa_below hneg, ← E.out]
          rfl
        · go_wp2
          go_ret
          refine ⟨?_, HB.out⟩
          rw [itoa_pos (by omega), ← E.out]
          rfl
      · have hconv := conv1 wr
        have hadd := fun x => add1 x l (by omega)
        have hs := HB.out.size
        by_cases hneg : m.tmod 10 < 0
        · go_wp2
          go_roundw
          case rel =>
            refine ⟨m.tdiv 10, _, rfl, rfl, HB.out.alloc hs _, ?_, (quo_in m0 m1).1, (quo_in m0 m1).2⟩
            rw [digit_neg hneg]
            exact digit_next hm HD.out
          case measure => simp only [intOf]; rw [quo_abs]; omega
        · go_wp2
          go_roundw
          case rel =>
            refine ⟨m.tdiv 10, _, rfl, rfl, HB.out.alloc hs _, ?_, (quo_in m0 m1).1, (quo_in m0 m1).2⟩
            rw [digit_pos hneg]
            exact digit_next hm HD.out
          case measure => simp only [intOf]; rw [quo_abs]; omega


end Go.Proofs.YtfgikjipkfggbaaGreatDoor
