/- The leaves of chapter 1: what each small function of the program answers, for every argument, in every world; which place is made of an Ins, and which Ins is made of a place. No condition. -/
import Derived.Test.YtcfehbfjillnoaaGreatJG00
import Derived.Test.YtcfehbfjillnoaaGreatChecked
import Derived.WalkKit
import Derived.KernelRfl
import Derived.WalkSpells
import Derived.WalkLawsBesides
namespace Go.Proofs.YtcfehbfjillnoaaGreat
set_option linter.unusedSimpArgs false
set_option linter.unusedVariables false
set_option maxRecDepth 100000
open Go.RowKit
theorem isReg_any (r : Int) (w : World) : Calls Tryz.prog 151 #[.int .i64 r] w fun e w' => e = .returned (.bool (Plain.regB r)) ∧ w' = w := by
 by_cases h0 : 0 ≤ r <;> by_cases h1 : r ≤ 3
 all_goals
  go_enter Tryz.func151, Tryz.ntmps151
  go_wp2
  go_ret
  exact ⟨by simp [Plain.regB]; omega, rfl⟩
theorem isNum_any (n : Int) (w : World) : Calls Tryz.prog 152 #[.int .i64 n] w fun e w' => e = .returned (.bool (Plain.numB n)) ∧ w' = w := by
 by_cases h0 : -1000000000 ≤ n <;> by_cases h1 : n ≤ 1000000000
 all_goals
  go_enter Tryz.func152, Tryz.ntmps152
  go_wp2
  go_ret
  exact ⟨by simp [Plain.numB]; omega, rfl⟩
theorem isOneOf_any (n c : Int) (w : World) : Calls Tryz.prog 83 #[.int .i64 n, .int .i64 c] w fun e w' => e = .returned (.bool (Plain.oneB n c)) ∧ w' = w := by
 by_cases h0 : 0 ≤ n <;> by_cases h1 : n < c
 all_goals
  go_enter Tryz.func83, Tryz.ntmps83
  go_wp2
  go_ret
  exact ⟨by simp [Plain.oneB]; omega, rfl⟩
theorem areChans_any (c : Int) (w : World) : Calls Tryz.prog 131 #[.int .i64 c] w fun e w' => e = .returned (.bool (Plain.chansB c)) ∧ w' = w := by
 by_cases h0 : 0 ≤ c <;> by_cases h1 : c ≤ 3
 all_goals
  go_enter Tryz.func131, Tryz.ntmps131
  go_wp2
  go_ret
  exact ⟨by simp [Plain.chansB]; omega, rfl⟩
theorem areRegs_any (r a b : Int) (w : World) : Calls Tryz.prog 153 #[.int .i64 r, .int .i64 a, .int .i64 b] w fun e w' => e = .returned (.bool (Plain.areB r a b)) ∧ w' = w := by
 cases h0 : Plain.regB r <;> cases h1 : Plain.regB a
 all_goals
  go_enter Tryz.func153, Tryz.ntmps153
  go_wp2_with (go_at_call 151; refine (isReg_any _ _).mono ?_; rintro e w' ⟨rfl, rfl⟩)
  go_ret
  exact ⟨by simp [Plain.areB, h0, h1], rfl⟩
theorem takesOk_any (r b : Int) (w : World) : Calls Tryz.prog 154 #[.int .i64 r, .int .i64 b] w fun e w' => e = .returned (.bool (Plain.takesB r b)) ∧ w' = w := by
 cases h0 : Plain.regB r <;> cases h1 : Plain.regB b
 all_goals
  go_enter Tryz.func154, Tryz.ntmps154
  go_wp2_with (go_at_call 151; refine (isReg_any _ _).mono ?_; rintro e w' ⟨rfl, rfl⟩)
  go_ret
  exact ⟨by simp [Plain.takesB, h0, h1], rfl⟩
theorem placeOf_1 (r a b n : Int) (w : World) : Calls Tryz.prog 144 #[.agg #[.int .i64 1, .int .i64 r, .int .i64 a, .int .i64 b, .int .i64 n]] w fun e w' => e = .returned (.iface 206 (.agg #[.int .i64 r, .int .i64 n])) ∧ Below w.heap.size w w' := by
 go_enter Tryz.func144, Tryz.ntmps144
 go_wp2
 go_ret
 exact ⟨rfl, (Below.refl _ _).alloc (Nat.le_refl _) _⟩
theorem placeOf_2 (r a b n : Int) (w : World) : Calls Tryz.prog 144 #[.agg #[.int .i64 2, .int .i64 r, .int .i64 a, .int .i64 b, .int .i64 n]] w fun e w' => e = .returned (.iface 208 (.agg #[.int .i64 r, .int .i64 a, .int .i64 b])) ∧ Below w.heap.size w w' := by
 go_enter Tryz.func144, Tryz.ntmps144
 go_wp2
 go_ret
 exact ⟨rfl, (Below.refl _ _).alloc (Nat.le_refl _) _⟩
theorem placeOf_3 (r a b n : Int) (w : World) : Calls Tryz.prog 144 #[.agg #[.int .i64 3, .int .i64 r, .int .i64 a, .int .i64 b, .int .i64 n]] w fun e w' => e = .returned (.iface 209 (.agg #[.int .i64 r, .int .i64 a, .int .i64 b])) ∧ Below w.heap.size w w' := by
 go_enter Tryz.func144, Tryz.ntmps144
 go_wp2
 go_ret
 exact ⟨rfl, (Below.refl _ _).alloc (Nat.le_refl _) _⟩
theorem placeOf_4 (r a b n : Int) (w : World) : Calls Tryz.prog 144 #[.agg #[.int .i64 4, .int .i64 r, .int .i64 a, .int .i64 b, .int .i64 n]] w fun e w' => e = .returned (.iface 210 (.agg #[.int .i64 r, .int .i64 a, .int .i64 b])) ∧ Below w.heap.size w w' := by
 go_enter Tryz.func144, Tryz.ntmps144
 go_wp2
 go_ret
 exact ⟨rfl, (Below.refl _ _).alloc (Nat.le_refl _) _⟩
theorem placeOf_5 (r a b n : Int) (w : World) : Calls Tryz.prog 144 #[.agg #[.int .i64 5, .int .i64 r, .int .i64 a, .int .i64 b, .int .i64 n]] w fun e w' => e = .returned (.iface 212 (.agg #[.int .i64 a, .int .i64 n])) ∧ Below w.heap.size w w' := by
 go_enter Tryz.func144, Tryz.ntmps144
 go_wp2
 go_ret
 exact ⟨rfl, (Below.refl _ _).alloc (Nat.le_refl _) _⟩
theorem placeOf_6 (r a b n : Int) (w : World) : Calls Tryz.prog 144 #[.agg #[.int .i64 6, .int .i64 r, .int .i64 a, .int .i64 b, .int .i64 n]] w fun e w' => e = .returned (.iface 214 (.agg #[.int .i64 r, .int .i64 b, .int .i64 n])) ∧ Below w.heap.size w w' := by
 go_enter Tryz.func144, Tryz.ntmps144
 go_wp2
 go_ret
 exact ⟨rfl, (Below.refl _ _).alloc (Nat.le_refl _) _⟩
theorem placeOf_7 (r a b n : Int) (w : World) : Calls Tryz.prog 144 #[.agg #[.int .i64 7, .int .i64 r, .int .i64 a, .int .i64 b, .int .i64 n]] w fun e w' => e = .returned (.iface 216 (.agg #[.int .i64 r, .int .i64 a, .int .i64 n])) ∧ Below w.heap.size w w' := by
 go_enter Tryz.func144, Tryz.ntmps144
 go_wp2
 go_ret
 exact ⟨rfl, (Below.refl _ _).alloc (Nat.le_refl _) _⟩
theorem placeOf_8 (r a b n : Int) (w : World) : Calls Tryz.prog 144 #[.agg #[.int .i64 8, .int .i64 r, .int .i64 a, .int .i64 b, .int .i64 n]] w fun e w' => e = .returned (.iface 217 (.agg #[.int .i64 r, .int .i64 b, .int .i64 n])) ∧ Below w.heap.size w w' := by
 go_enter Tryz.func144, Tryz.ntmps144
 go_wp2
 go_ret
 exact ⟨rfl, (Below.refl _ _).alloc (Nat.le_refl _) _⟩
theorem placeOf_9 (r a b n : Int) (w : World) : Calls Tryz.prog 144 #[.agg #[.int .i64 9, .int .i64 r, .int .i64 a, .int .i64 b, .int .i64 n]] w fun e w' => e = .returned (.iface 219 (.agg #[.int .i64 n])) ∧ Below w.heap.size w w' := by
 go_enter Tryz.func144, Tryz.ntmps144
 go_wp2
 go_ret
 exact ⟨rfl, (Below.refl _ _).alloc (Nat.le_refl _) _⟩
theorem placeOf_10 (r a b n : Int) (w : World) : Calls Tryz.prog 144 #[.agg #[.int .i64 10, .int .i64 r, .int .i64 a, .int .i64 b, .int .i64 n]] w fun e w' => e = .returned (.iface 221 (.agg #[.int .i64 a])) ∧ Below w.heap.size w w' := by
 go_enter Tryz.func144, Tryz.ntmps144
 go_wp2
 go_ret
 exact ⟨rfl, (Below.refl _ _).alloc (Nat.le_refl _) _⟩
theorem placeOf_11 (r a b n : Int) (w : World) : Calls Tryz.prog 144 #[.agg #[.int .i64 11, .int .i64 r, .int .i64 a, .int .i64 b, .int .i64 n]] w fun e w' => e = .returned (.iface 222 (.agg #[.int .i64 n])) ∧ Below w.heap.size w w' := by
 go_enter Tryz.func144, Tryz.ntmps144
 go_wp2
 go_ret
 exact ⟨rfl, (Below.refl _ _).alloc (Nat.le_refl _) _⟩
theorem placeOf_12 (r a b n : Int) (w : World) : Calls Tryz.prog 144 #[.agg #[.int .i64 12, .int .i64 r, .int .i64 a, .int .i64 b, .int .i64 n]] w fun e w' => e = .returned (.iface 223 (.agg #[.int .i64 a, .int .i64 n])) ∧ Below w.heap.size w w' := by
 go_enter Tryz.func144, Tryz.ntmps144
 go_wp2
 go_ret
 exact ⟨rfl, (Below.refl _ _).alloc (Nat.le_refl _) _⟩
theorem placeOf_13 (r a b n : Int) (w : World) : Calls Tryz.prog 144 #[.agg #[.int .i64 13, .int .i64 r, .int .i64 a, .int .i64 b, .int .i64 n]] w fun e w' => e = .returned (.iface 225 (.agg #[])) ∧ Below w.heap.size w w' := by
 go_enter Tryz.func144, Tryz.ntmps144
 go_wp2
 go_ret
 exact ⟨rfl, (Below.refl _ _).alloc (Nat.le_refl _) _⟩
set_option maxRecDepth 100000 in
theorem placeOf_0 (op r a b n : Int) (w : World) (h1 : (op == 1) = false) (h2 : (op == 2) = false) (h3 : (op == 3) = false) (h4 : (op == 4) = false) (h5 : (op == 5) = false) (h6 : (op == 6) = false) (h7 : (op == 7) = false) (h8 : (op == 8) = false) (h9 : (op == 9) = false) (h10 : (op == 10) = false) (h11 : (op == 11) = false) (h12 : (op == 12) = false) (h13 : (op == 13) = false) : Calls Tryz.prog 144 #[.agg #[.int .i64 op, .int .i64 r, .int .i64 a, .int .i64 b, .int .i64 n]] w fun e w' => e = .returned .nilIface ∧ Below w.heap.size w w' := by
 go_enter Tryz.func144, Tryz.ntmps144
 go_wp2
 go_ret
 exact ⟨rfl, (Below.refl _ _).alloc (Nat.le_refl _) _⟩
theorem ins_1 (r n : Int) (w : World) : Calls Tryz.prog 211 #[.agg #[.int .i64 r, .int .i64 n]] w fun e w' => e = .returned (.agg #[.int .i64 1, .int .i64 r, .int .i64 0, .int .i64 0, .int .i64 n]) ∧ Below w.heap.size w w' := by
 go_enter Tryz.func211, Tryz.ntmps211
 go_wp2
 exact bodyPost_ret (v := .agg #[.int .i64 1, .int .i64 r, .int .i64 0, .int .i64 0, .int .i64 n]) (by simp [results, Tryz.results211, go_sem]) rfl ⟨rfl, ((Below.refl _ _).alloc (Nat.le_refl _) _).alloc (by simp) _⟩
theorem ins_2 (r a b : Int) (w : World) : Calls Tryz.prog 212 #[.agg #[.int .i64 r, .int .i64 a, .int .i64 b]] w fun e w' => e = .returned (.agg #[.int .i64 2, .int .i64 r, .int .i64 a, .int .i64 b, .int .i64 0]) ∧ Below w.heap.size w w' := by
 go_enter Tryz.func212, Tryz.ntmps212
 go_wp2
 exact bodyPost_ret (v := .agg #[.int .i64 2, .int .i64 r, .int .i64 a, .int .i64 b, .int .i64 0]) (by simp [results, Tryz.results212, go_sem]) rfl ⟨rfl, ((Below.refl _ _).alloc (Nat.le_refl _) _).alloc (by simp) _⟩
theorem ins_3 (r a b : Int) (w : World) : Calls Tryz.prog 213 #[.agg #[.int .i64 r, .int .i64 a, .int .i64 b]] w fun e w' => e = .returned (.agg #[.int .i64 3, .int .i64 r, .int .i64 a, .int .i64 b, .int .i64 0]) ∧ Below w.heap.size w w' := by
 go_enter Tryz.func213, Tryz.ntmps213
 go_wp2
 exact bodyPost_ret (v := .agg #[.int .i64 3, .int .i64 r, .int .i64 a, .int .i64 b, .int .i64 0]) (by simp [results, Tryz.results213, go_sem]) rfl ⟨rfl, ((Below.refl _ _).alloc (Nat.le_refl _) _).alloc (by simp) _⟩
theorem ins_4 (r a b : Int) (w : World) : Calls Tryz.prog 214 #[.agg #[.int .i64 r, .int .i64 a, .int .i64 b]] w fun e w' => e = .returned (.agg #[.int .i64 4, .int .i64 r, .int .i64 a, .int .i64 b, .int .i64 0]) ∧ Below w.heap.size w w' := by
 go_enter Tryz.func214, Tryz.ntmps214
 go_wp2
 exact bodyPost_ret (v := .agg #[.int .i64 4, .int .i64 r, .int .i64 a, .int .i64 b, .int .i64 0]) (by simp [results, Tryz.results214, go_sem]) rfl ⟨rfl, ((Below.refl _ _).alloc (Nat.le_refl _) _).alloc (by simp) _⟩
theorem ins_5 (a n : Int) (w : World) : Calls Tryz.prog 215 #[.agg #[.int .i64 a, .int .i64 n]] w fun e w' => e = .returned (.agg #[.int .i64 5, .int .i64 0, .int .i64 a, .int .i64 0, .int .i64 n]) ∧ Below w.heap.size w w' := by
 go_enter Tryz.func215, Tryz.ntmps215
 go_wp2
 exact bodyPost_ret (v := .agg #[.int .i64 5, .int .i64 0, .int .i64 a, .int .i64 0, .int .i64 n]) (by simp [results, Tryz.results215, go_sem]) rfl ⟨rfl, ((Below.refl _ _).alloc (Nat.le_refl _) _).alloc (by simp) _⟩
theorem ins_6 (r b n : Int) (w : World) : Calls Tryz.prog 216 #[.agg #[.int .i64 r, .int .i64 b, .int .i64 n]] w fun e w' => e = .returned (.agg #[.int .i64 6, .int .i64 r, .int .i64 0, .int .i64 b, .int .i64 n]) ∧ Below w.heap.size w w' := by
 go_enter Tryz.func216, Tryz.ntmps216
 go_wp2
 exact bodyPost_ret (v := .agg #[.int .i64 6, .int .i64 r, .int .i64 0, .int .i64 b, .int .i64 n]) (by simp [results, Tryz.results216, go_sem]) rfl ⟨rfl, ((Below.refl _ _).alloc (Nat.le_refl _) _).alloc (by simp) _⟩
theorem ins_7 (r a n : Int) (w : World) : Calls Tryz.prog 217 #[.agg #[.int .i64 r, .int .i64 a, .int .i64 n]] w fun e w' => e = .returned (.agg #[.int .i64 7, .int .i64 r, .int .i64 a, .int .i64 0, .int .i64 n]) ∧ Below w.heap.size w w' := by
 go_enter Tryz.func217, Tryz.ntmps217
 go_wp2
 exact bodyPost_ret (v := .agg #[.int .i64 7, .int .i64 r, .int .i64 a, .int .i64 0, .int .i64 n]) (by simp [results, Tryz.results217, go_sem]) rfl ⟨rfl, ((Below.refl _ _).alloc (Nat.le_refl _) _).alloc (by simp) _⟩
theorem ins_8 (r b n : Int) (w : World) : Calls Tryz.prog 218 #[.agg #[.int .i64 r, .int .i64 b, .int .i64 n]] w fun e w' => e = .returned (.agg #[.int .i64 8, .int .i64 r, .int .i64 0, .int .i64 b, .int .i64 n]) ∧ Below w.heap.size w w' := by
 go_enter Tryz.func218, Tryz.ntmps218
 go_wp2
 exact bodyPost_ret (v := .agg #[.int .i64 8, .int .i64 r, .int .i64 0, .int .i64 b, .int .i64 n]) (by simp [results, Tryz.results218, go_sem]) rfl ⟨rfl, ((Below.refl _ _).alloc (Nat.le_refl _) _).alloc (by simp) _⟩
theorem ins_9 (n : Int) (w : World) : Calls Tryz.prog 219 #[.agg #[.int .i64 n]] w fun e w' => e = .returned (.agg #[.int .i64 9, .int .i64 0, .int .i64 0, .int .i64 0, .int .i64 n]) ∧ Below w.heap.size w w' := by
 go_enter Tryz.func219, Tryz.ntmps219
 go_wp2
 exact bodyPost_ret (v := .agg #[.int .i64 9, .int .i64 0, .int .i64 0, .int .i64 0, .int .i64 n]) (by simp [results, Tryz.results219, go_sem]) rfl ⟨rfl, ((Below.refl _ _).alloc (Nat.le_refl _) _).alloc (by simp) _⟩
theorem ins_10 (a : Int) (w : World) : Calls Tryz.prog 220 #[.agg #[.int .i64 a]] w fun e w' => e = .returned (.agg #[.int .i64 10, .int .i64 0, .int .i64 a, .int .i64 0, .int .i64 0]) ∧ Below w.heap.size w w' := by
 go_enter Tryz.func220, Tryz.ntmps220
 go_wp2
 exact bodyPost_ret (v := .agg #[.int .i64 10, .int .i64 0, .int .i64 a, .int .i64 0, .int .i64 0]) (by simp [results, Tryz.results220, go_sem]) rfl ⟨rfl, ((Below.refl _ _).alloc (Nat.le_refl _) _).alloc (by simp) _⟩
theorem ins_11 (n : Int) (w : World) : Calls Tryz.prog 221 #[.agg #[.int .i64 n]] w fun e w' => e = .returned (.agg #[.int .i64 11, .int .i64 0, .int .i64 0, .int .i64 0, .int .i64 n]) ∧ Below w.heap.size w w' := by
 go_enter Tryz.func221, Tryz.ntmps221
 go_wp2
 exact bodyPost_ret (v := .agg #[.int .i64 11, .int .i64 0, .int .i64 0, .int .i64 0, .int .i64 n]) (by simp [results, Tryz.results221, go_sem]) rfl ⟨rfl, ((Below.refl _ _).alloc (Nat.le_refl _) _).alloc (by simp) _⟩
theorem ins_12 (a n : Int) (w : World) : Calls Tryz.prog 222 #[.agg #[.int .i64 a, .int .i64 n]] w fun e w' => e = .returned (.agg #[.int .i64 12, .int .i64 0, .int .i64 a, .int .i64 0, .int .i64 n]) ∧ Below w.heap.size w w' := by
 go_enter Tryz.func222, Tryz.ntmps222
 go_wp2
 exact bodyPost_ret (v := .agg #[.int .i64 12, .int .i64 0, .int .i64 a, .int .i64 0, .int .i64 n]) (by simp [results, Tryz.results222, go_sem]) rfl ⟨rfl, ((Below.refl _ _).alloc (Nat.le_refl _) _).alloc (by simp) _⟩
theorem ins_13 (w : World) : Calls Tryz.prog 223 #[.agg #[]] w fun e w' => e = .returned (.agg #[.int .i64 13, .int .i64 0, .int .i64 0, .int .i64 0, .int .i64 0]) ∧ Below w.heap.size w w' := by
 go_enter Tryz.func223, Tryz.ntmps223
 go_wp2
 exact bodyPost_ret (v := .agg #[.int .i64 13, .int .i64 0, .int .i64 0, .int .i64 0, .int .i64 0]) (by simp [results, Tryz.results223, go_sem]) rfl ⟨rfl, ((Below.refl _ _).alloc (Nat.le_refl _) _).alloc (by simp) _⟩
end Go.Proofs.YtcfehbfjillnoaaGreat
