/- WordStep of the program and of the specification, at every number of 64 bits, in every world: the same answer. -/
import Derived.Test.YtkmliphfelinjaaC7Word2
namespace Go.Proofs.Ytkmliphfelinjaa
set_option linter.unusedSimpArgs false
set_option linter.unusedVariables false
set_option maxRecDepth 100000
open Go.RowKit
open Go.ChangeMaps (setBlock)

namespace Plain
def gO (x : Int) : Int := if wsB x = true then fO x else 0
def gR (x : Int) : Int := if wsB x = true then fR x else 0
def gA (x : Int) : Int := if wsB x = true then fA x else 0
def gB (x : Int) : Int := if wsB x = true then fB x else 0
def gN (x : Int) : Int := if wsB x = true then fN x else 0
end Plain
theorem ws_no {x : Int} (h : Plain.wsB x = false) : (Plain.gO x = 0 ∧ Plain.gR x = 0 ∧ Plain.gA x = 0 ∧ Plain.gB x = 0 ∧ Plain.gN x = 0) := by
  simp [Plain.gO, Plain.gR, Plain.gA, Plain.gB, Plain.gN, h]
theorem ws_yes {x : Int} (h : Plain.wsB x = true) : (Plain.gO x = Plain.fO x ∧ Plain.gR x = Plain.fR x ∧ Plain.gA x = Plain.fA x ∧ Plain.gB x = Plain.fB x ∧ Plain.gN x = Plain.fN x) := by
  simp [Plain.gO, Plain.gR, Plain.gA, Plain.gB, Plain.gN, h]
def Word2 (F : FuncId) : Prop := ∀ (x : Int) (w : World), -9223372036854775808 ≤ x → x ≤ 9223372036854775807 → Calls Try.prog F #[.int .i64 x] w fun e w' => e = .returned (.tuple #[.agg #[.int .i64 (Plain.gO x), .int .i64 (Plain.gR x), .int .i64 (Plain.gA x), .int .i64 (Plain.gB x), .int .i64 (Plain.gN x)], .bool (Plain.wsB x)]) ∧ Below w.heap.size w w'
theorem word2_no {x : Int} {w w' : World} {e : Ending} (hw : Plain.wsB x = false) (h : e = .returned (.tuple #[.agg #[.int .i64 0, .int .i64 0, .int .i64 0, .int .i64 0, .int .i64 0], .bool false]) ∧ Below w.heap.size w w') : e = .returned (.tuple #[.agg #[.int .i64 (Plain.gO x), .int .i64 (Plain.gR x), .int .i64 (Plain.gA x), .int .i64 (Plain.gB x), .int .i64 (Plain.gN x)], .bool (Plain.wsB x)]) ∧ Below w.heap.size w w' := by
  obtain ⟨a, b, c, d, e'⟩ := ws_no hw
  rw [a, b, c, d, e', hw]
  exact h
theorem word2_yes {x : Int} {w w' : World} {e : Ending} (hw : Plain.wsB x = true) (h : e = .returned (.tuple #[.agg #[.int .i64 (Plain.fO x), .int .i64 (Plain.fR x), .int .i64 (Plain.fA x), .int .i64 (Plain.fB x), .int .i64 (Plain.fN x)], .bool true]) ∧ Below w.heap.size w w') : e = .returned (.tuple #[.agg #[.int .i64 (Plain.gO x), .int .i64 (Plain.gR x), .int .i64 (Plain.gA x), .int .i64 (Plain.gB x), .int .i64 (Plain.gN x)], .bool (Plain.wsB x)]) ∧ Below w.heap.size w w' := by
  obtain ⟨a, b, c, d, e'⟩ := ws_yes hw
  rw [a, b, c, d, e', hw]
  exact h
theorem wordStep_any : Word2 13 := by
  intro x w h h'
  cases hs : Plain.stB x
  · exact (wordStep_no x w h h' hs).mono fun e w' k => word2_no (by simp [Plain.wsB, hs]) k
  by_cases hq : Plain.woI x = x
  · exact (wordStep_eq x w h h' hs (by simp [hq])).mono fun e w' k => word2_yes (by simp [Plain.wsB, hs, hq]) k
  · exact (wordStep_ne x w h h' hs (by simp [hq])).mono fun e w' k => word2_no (by simp [Plain.wsB, hs, hq]) k

theorem specStep_neg (x : Int) (w : World) (h : x < 0) : Calls Try.prog 15 #[.int .i64 x] w fun e w' => e = .returned (.tuple #[.agg #[.int .i64 0, .int .i64 0, .int .i64 0, .int .i64 0, .int .i64 0], .bool false]) ∧ Below w.heap.size w w' := by
  go_enter Try.func15, Try.ntmps15
  go_wp2
  refine bodyPost_ret (v := .tuple #[.agg #[.int .i64 0, .int .i64 0, .int .i64 0, .int .i64 0, .int .i64 0], .bool false]) (by simp [results, Try.results15, go_sem]) rfl ?_
  exact ⟨rfl, (Below.refl _ _).alloc (Nat.le_refl _) _⟩

set_option maxRecDepth 100000 in
set_option maxHeartbeats 2000000 in
theorem specStep_no (x : Int) (w : World) (hp : 0 ≤ x) (h' : x ≤ 9223372036854775807) (hs : Plain.stB x = false)  : Calls Try.prog 15 #[.int .i64 x] w fun e w' => e = .returned (.tuple #[.agg #[.int .i64 0, .int .i64 0, .int .i64 0, .int .i64 0, .int .i64 0], .bool false]) ∧ Below w.heap.size w w' := by
  obtain ⟨-, e1, e2, -, e4, e5, e6, e7⟩ := fields64 (show -9223372036854775808 ≤ x by omega) h'
  have EO : Plain.fO x = x % 16 := Int.tmod_eq_emod_of_nonneg hp
  unfold Plain.stB at hs
  obtain ⟨q, hq⟩ : ∃ q, Plain.woI x = q := ⟨_, rfl⟩
  have HQ0 : Hid (Plain.woI x = q) := hq
  unfold Plain.woI at hq
  have ER : Plain.fR x = (x.tdiv 16).tmod 16 := rfl
  have EA : Plain.fA x = (x.tdiv 256).tmod 16 - 1 := rfl
  have EB : Plain.fB x = (x.tdiv 4096).tmod 16 := rfl
  have EN : Plain.fN x = x.tdiv 65536 - 1000000000 := rfl
  rw [EO, ER, EA, EB, EN] at hs hq
  have HO : Hid (Plain.fO x = x % 16) := EO
  have HR : Hid (Plain.fR x = (x.tdiv 16).tmod 16) := rfl
  have HA : Hid (Plain.fA x = (x.tdiv 256).tmod 16 - 1) := rfl
  have HB : Hid (Plain.fB x = (x.tdiv 4096).tmod 16) := rfl
  have HN : Hid (Plain.fN x = x.tdiv 65536 - 1000000000) := rfl
  have HS : Hid (Plain.stepB (x % 16) ((x.tdiv 16).tmod 16) ((x.tdiv 256).tmod 16 - 1) ((x.tdiv 4096).tmod 16) (x.tdiv 65536 - 1000000000) 800 = false) := hs
  have HQ : Hid (Plain.wordI (x % 16) ((x.tdiv 16).tmod 16) ((x.tdiv 256).tmod 16 - 1) ((x.tdiv 4096).tmod 16) (x.tdiv 65536 - 1000000000) = q) := hq
  clear h' hs hq EO ER EA EB EN
  go_enter Try.func15, Try.ntmps15
  go_wp2_with fail
  generalize x % 16 = o at HS HQ HO ⊢
  generalize (x.tdiv 16).tmod 16 = r at HS HQ HR ⊢
  generalize (x.tdiv 256).tmod 16 - 1 = a at HS HQ HA ⊢
  generalize (x.tdiv 4096).tmod 16 = b at HS HQ HB ⊢
  generalize x.tdiv 65536 - 1000000000 = n at HS HQ HN ⊢
  clear e1 e2 e4 e5 e6 e7
  obtain ⟨B1, hB1⟩ : ∃ W, w.alloc (.cells #[.int .i64 0, .int .i64 0, .int .i64 0, .int .i64 0, .int .i64 0] 25) = W := ⟨_, rfl⟩
  have X1 : Bx B1 w.heap.size (.int .i64 0) (.int .i64 0) (.int .i64 0) (.int .i64 0) (.int .i64 0) := by rw [← hB1]; exact Bx.new
  have K1 : Hid (Below w.heap.size w B1) := by show Below _ _ _; rw [← hB1]; exact (Below.refl _ _).alloc (Nat.le_refl _) _
  have SZ : B1.heap.size = w.heap.size + 1 := by rw [← hB1]; simp
  rw [hB1]
  clear hB1
  rw [← SZ]
  obtain ⟨W, hW⟩ : ∃ W, B1.alloc (.cells #[.int .i64 o, .int .i64 r, .int .i64 a, .int .i64 b, .int .i64 n] 25) = W := ⟨_, rfl⟩
  have Y : Bx W B1.heap.size (.int .i64 o) (.int .i64 r) (.int .i64 a) (.int .i64 b) (.int .i64 n) := by rw [← hW]; exact Bx.new
  have KW : Below B1.heap.size B1 W := by rw [← hW]; exact (Below.refl _ _).alloc (Nat.le_refl _) _
  rw [hW]
  clear hW
  refine (specWord_no o r a b n _ HS.out).mono ?_
  rintro e w2 ⟨rfl, hb2⟩
  have hz : w.heap.size < B1.heap.size := X1.lt
  clear SZ
  have K2 : Hid (Below w.heap.size w w2) := (K1.out.trans (KW.mono (by omega))).trans (hb2.mono (by have := KW.size; omega))
  obtain ⟨q0, qf, q1, q2, q3, q4, q5⟩ := (X1.keep KW hz).keep hb2 (by have := KW.size; omega)
  obtain ⟨y0, _, d0, d1, d2, d3, d4⟩ := Y.keep hb2 Y.lt
  have f0 := qf 0
  have f1 := qf 1
  have f2 := qf 2
  have f3 := qf 3
  have f4 := qf 4
  clear qf hb2 KW X1 Y K1 hz
  go_wp2
  refine bodyPost_ret (v := .tuple #[.agg #[.int .i64 0, .int .i64 0, .int .i64 0, .int .i64 0, .int .i64 0], .bool false]) (by simp [results, Try.results15, go_sem, q1, q2, q3, q4, q5]) rfl ?_
  exact ⟨rfl, st5 K2.out (Nat.le_refl _)⟩

set_option maxRecDepth 100000 in
set_option maxHeartbeats 2000000 in
theorem specStep_ne (x : Int) (w : World) (hp : 0 ≤ x) (h' : x ≤ 9223372036854775807) (hs : Plain.stB x = true) (hw : (Plain.woI x != x) = true) : Calls Try.prog 15 #[.int .i64 x] w fun e w' => e = .returned (.tuple #[.agg #[.int .i64 0, .int .i64 0, .int .i64 0, .int .i64 0, .int .i64 0], .bool false]) ∧ Below w.heap.size w w' := by
  obtain ⟨-, e1, e2, -, e4, e5, e6, e7⟩ := fields64 (show -9223372036854775808 ≤ x by omega) h'
  have EO : Plain.fO x = x % 16 := Int.tmod_eq_emod_of_nonneg hp
  unfold Plain.stB at hs
  obtain ⟨q, hq⟩ : ∃ q, Plain.woI x = q := ⟨_, rfl⟩
  rw [hq] at hw
  have HQ0 : Hid (Plain.woI x = q) := hq
  unfold Plain.woI at hq
  have ER : Plain.fR x = (x.tdiv 16).tmod 16 := rfl
  have EA : Plain.fA x = (x.tdiv 256).tmod 16 - 1 := rfl
  have EB : Plain.fB x = (x.tdiv 4096).tmod 16 := rfl
  have EN : Plain.fN x = x.tdiv 65536 - 1000000000 := rfl
  rw [EO, ER, EA, EB, EN] at hs hq
  have HO : Hid (Plain.fO x = x % 16) := EO
  have HR : Hid (Plain.fR x = (x.tdiv 16).tmod 16) := rfl
  have HA : Hid (Plain.fA x = (x.tdiv 256).tmod 16 - 1) := rfl
  have HB : Hid (Plain.fB x = (x.tdiv 4096).tmod 16) := rfl
  have HN : Hid (Plain.fN x = x.tdiv 65536 - 1000000000) := rfl
  have HS : Hid (Plain.stepB (x % 16) ((x.tdiv 16).tmod 16) ((x.tdiv 256).tmod 16 - 1) ((x.tdiv 4096).tmod 16) (x.tdiv 65536 - 1000000000) 800 = true) := hs
  have HQ : Hid (Plain.wordI (x % 16) ((x.tdiv 16).tmod 16) ((x.tdiv 256).tmod 16 - 1) ((x.tdiv 4096).tmod 16) (x.tdiv 65536 - 1000000000) = q) := hq
  clear h' hs hq EO ER EA EB EN
  go_enter Try.func15, Try.ntmps15
  go_wp2_with fail
  generalize x % 16 = o at HS HQ HO ⊢
  generalize (x.tdiv 16).tmod 16 = r at HS HQ HR ⊢
  generalize (x.tdiv 256).tmod 16 - 1 = a at HS HQ HA ⊢
  generalize (x.tdiv 4096).tmod 16 = b at HS HQ HB ⊢
  generalize x.tdiv 65536 - 1000000000 = n at HS HQ HN ⊢
  clear e1 e2 e4 e5 e6 e7
  obtain ⟨B1, hB1⟩ : ∃ W, w.alloc (.cells #[.int .i64 0, .int .i64 0, .int .i64 0, .int .i64 0, .int .i64 0] 25) = W := ⟨_, rfl⟩
  have X1 : Bx B1 w.heap.size (.int .i64 0) (.int .i64 0) (.int .i64 0) (.int .i64 0) (.int .i64 0) := by rw [← hB1]; exact Bx.new
  have K1 : Hid (Below w.heap.size w B1) := by show Below _ _ _; rw [← hB1]; exact (Below.refl _ _).alloc (Nat.le_refl _) _
  have SZ : B1.heap.size = w.heap.size + 1 := by rw [← hB1]; simp
  rw [hB1]
  clear hB1
  rw [← SZ]
  obtain ⟨W, hW⟩ : ∃ W, B1.alloc (.cells #[.int .i64 o, .int .i64 r, .int .i64 a, .int .i64 b, .int .i64 n] 25) = W := ⟨_, rfl⟩
  have Y : Bx W B1.heap.size (.int .i64 o) (.int .i64 r) (.int .i64 a) (.int .i64 b) (.int .i64 n) := by rw [← hW]; exact Bx.new
  have KW : Below B1.heap.size B1 W := by rw [← hW]; exact (Below.refl _ _).alloc (Nat.le_refl _) _
  rw [hW]
  clear hW
  refine (specWord_yes o r a b n _ HS.out).mono ?_
  rintro e w2 ⟨rfl, hb2⟩
  rw [HQ.out]
  have hz : w.heap.size < B1.heap.size := X1.lt
  clear SZ
  have K2 : Hid (Below w.heap.size w w2) := (K1.out.trans (KW.mono (by omega))).trans (hb2.mono (by have := KW.size; omega))
  obtain ⟨q0, qf, q1, q2, q3, q4, q5⟩ := (X1.keep KW hz).keep hb2 (by have := KW.size; omega)
  obtain ⟨y0, _, d0, d1, d2, d3, d4⟩ := Y.keep hb2 Y.lt
  have f0 := qf 0
  have f1 := qf 1
  have f2 := qf 2
  have f3 := qf 3
  have f4 := qf 4
  clear qf hb2 KW X1 Y K1 hz
  go_wp2
  refine bodyPost_ret (v := .tuple #[.agg #[.int .i64 0, .int .i64 0, .int .i64 0, .int .i64 0, .int .i64 0], .bool false]) (by simp [results, Try.results15, go_sem, q1, q2, q3, q4, q5]) rfl ?_
  exact ⟨rfl, st5 K2.out (Nat.le_refl _)⟩

set_option maxRecDepth 100000 in
set_option maxHeartbeats 2000000 in
theorem specStep_eq (x : Int) (w : World) (hp : 0 ≤ x) (h' : x ≤ 9223372036854775807) (hs : Plain.stB x = true) (hw : (Plain.woI x != x) = false) : Calls Try.prog 15 #[.int .i64 x] w fun e w' => e = .returned (.tuple #[.agg #[.int .i64 (Plain.fO x), .int .i64 (Plain.fR x), .int .i64 (Plain.fA x), .int .i64 (Plain.fB x), .int .i64 (Plain.fN x)], .bool true]) ∧ Below w.heap.size w w' := by
  obtain ⟨-, e1, e2, -, e4, e5, e6, e7⟩ := fields64 (show -9223372036854775808 ≤ x by omega) h'
  have EO : Plain.fO x = x % 16 := Int.tmod_eq_emod_of_nonneg hp
  unfold Plain.stB at hs
  obtain ⟨q, hq⟩ : ∃ q, Plain.woI x = q := ⟨_, rfl⟩
  rw [hq] at hw
  have HQ0 : Hid (Plain.woI x = q) := hq
  unfold Plain.woI at hq
  have ER : Plain.fR x = (x.tdiv 16).tmod 16 := rfl
  have EA : Plain.fA x = (x.tdiv 256).tmod 16 - 1 := rfl
  have EB : Plain.fB x = (x.tdiv 4096).tmod 16 := rfl
  have EN : Plain.fN x = x.tdiv 65536 - 1000000000 := rfl
  rw [EO, ER, EA, EB, EN] at hs hq
  have HO : Hid (Plain.fO x = x % 16) := EO
  have HR : Hid (Plain.fR x = (x.tdiv 16).tmod 16) := rfl
  have HA : Hid (Plain.fA x = (x.tdiv 256).tmod 16 - 1) := rfl
  have HB : Hid (Plain.fB x = (x.tdiv 4096).tmod 16) := rfl
  have HN : Hid (Plain.fN x = x.tdiv 65536 - 1000000000) := rfl
  have HS : Hid (Plain.stepB (x % 16) ((x.tdiv 16).tmod 16) ((x.tdiv 256).tmod 16 - 1) ((x.tdiv 4096).tmod 16) (x.tdiv 65536 - 1000000000) 800 = true) := hs
  have HQ : Hid (Plain.wordI (x % 16) ((x.tdiv 16).tmod 16) ((x.tdiv 256).tmod 16 - 1) ((x.tdiv 4096).tmod 16) (x.tdiv 65536 - 1000000000) = q) := hq
  clear h' hs hq EO ER EA EB EN
  go_enter Try.func15, Try.ntmps15
  go_wp2_with fail
  generalize x % 16 = o at HS HQ HO ⊢
  generalize (x.tdiv 16).tmod 16 = r at HS HQ HR ⊢
  generalize (x.tdiv 256).tmod 16 - 1 = a at HS HQ HA ⊢
  generalize (x.tdiv 4096).tmod 16 = b at HS HQ HB ⊢
  generalize x.tdiv 65536 - 1000000000 = n at HS HQ HN ⊢
  clear e1 e2 e4 e5 e6 e7
  obtain ⟨B1, hB1⟩ : ∃ W, w.alloc (.cells #[.int .i64 0, .int .i64 0, .int .i64 0, .int .i64 0, .int .i64 0] 25) = W := ⟨_, rfl⟩
  have X1 : Bx B1 w.heap.size (.int .i64 0) (.int .i64 0) (.int .i64 0) (.int .i64 0) (.int .i64 0) := by rw [← hB1]; exact Bx.new
  have K1 : Hid (Below w.heap.size w B1) := by show Below _ _ _; rw [← hB1]; exact (Below.refl _ _).alloc (Nat.le_refl _) _
  have SZ : B1.heap.size = w.heap.size + 1 := by rw [← hB1]; simp
  rw [hB1]
  clear hB1
  rw [← SZ]
  obtain ⟨W, hW⟩ : ∃ W, B1.alloc (.cells #[.int .i64 o, .int .i64 r, .int .i64 a, .int .i64 b, .int .i64 n] 25) = W := ⟨_, rfl⟩
  have Y : Bx W B1.heap.size (.int .i64 o) (.int .i64 r) (.int .i64 a) (.int .i64 b) (.int .i64 n) := by rw [← hW]; exact Bx.new
  have KW : Below B1.heap.size B1 W := by rw [← hW]; exact (Below.refl _ _).alloc (Nat.le_refl _) _
  rw [hW]
  clear hW
  refine (specWord_yes o r a b n _ HS.out).mono ?_
  rintro e w2 ⟨rfl, hb2⟩
  rw [HQ.out]
  have hz : w.heap.size < B1.heap.size := X1.lt
  clear SZ
  have K2 : Hid (Below w.heap.size w w2) := (K1.out.trans (KW.mono (by omega))).trans (hb2.mono (by have := KW.size; omega))
  obtain ⟨q0, qf, q1, q2, q3, q4, q5⟩ := (X1.keep KW hz).keep hb2 (by have := KW.size; omega)
  obtain ⟨y0, _, d0, d1, d2, d3, d4⟩ := Y.keep hb2 Y.lt
  have f0 := qf 0
  have f1 := qf 1
  have f2 := qf 2
  have f3 := qf 3
  have f4 := qf 4
  clear qf hb2 KW X1 Y K1 hz
  go_wp2
  refine bodyPost_ret (v := .tuple #[.agg #[.int .i64 o, .int .i64 r, .int .i64 a, .int .i64 b, .int .i64 n], .bool true]) (by simp [results, Try.results15, go_sem, q1, q2, q3, q4, q5]) rfl ?_
  exact ⟨by rw [HO.out, HR.out, HA.out, HB.out, HN.out], st5 K2.out (Nat.le_refl _)⟩


theorem specWordStep_any : Word2 15 := by
  intro x w h h'
  by_cases hp : 0 ≤ x
  · cases hs : Plain.stB x
    · exact (specStep_no x w hp h' hs).mono fun e w' k => word2_no (by simp [Plain.wsB, hs]) k
    by_cases hq : Plain.woI x = x
    · exact (specStep_eq x w hp h' hs (by simp [hq])).mono fun e w' k => word2_yes (by simp [Plain.wsB, hs, hq]) k
    · exact (specStep_ne x w hp h' hs (by simp [hq])).mono fun e w' k => word2_no (by simp [Plain.wsB, hs, hq]) k
  · exact (specStep_neg x w (by omega)).mono fun e w' k => word2_no (wsB_neg (by omega)) k

end Go.Proofs.Ytkmliphfelinjaa
