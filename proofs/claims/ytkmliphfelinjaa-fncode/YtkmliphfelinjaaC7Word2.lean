/- WordStep of the program: the map of a word's steps, and what is read of it. Conditions: numbers of 64 bits. -/
import Derived.Test.YtkmliphfelinjaaC7Word
import Derived.Deep.RegionHeld3
namespace Go.Proofs.Ytkmliphfelinjaa
set_option linter.unusedSimpArgs false
set_option linter.unusedVariables false
set_option maxRecDepth 100000
open Go.RowKit
open Go.ChangeMaps (setBlock)

theorem stepWord_yes (op r a b n : Int) (w : World) (h : Plain.stepB op r a b n 800 = true) : Calls Try.prog 11 #[.agg #[.int .i64 op, .int .i64 r, .int .i64 a, .int .i64 b, .int .i64 n]] w fun e w' => e = .returned (.tuple #[.int .i64 (Plain.wordI op r a b n), .bool true]) ∧ Below w.heap.size w w' := by
  have g := stepWord_any op r a b n w
  rw [h, Plain.wordV_t h] at g
  exact g
theorem stepWord_no (op r a b n : Int) (w : World) (h : Plain.stepB op r a b n 800 = false) : Calls Try.prog 11 #[.agg #[.int .i64 op, .int .i64 r, .int .i64 a, .int .i64 b, .int .i64 n]] w fun e w' => e = .returned (.tuple #[.int .i64 0, .bool false]) ∧ Below w.heap.size w w' := by
  have g := stepWord_any op r a b n w
  rw [h, Plain.wordV_f h] at g
  exact g
theorem specWord_yes (op r a b n : Int) (w : World) (h : Plain.stepB op r a b n 800 = true) : Calls Try.prog 12 #[.agg #[.int .i64 op, .int .i64 r, .int .i64 a, .int .i64 b, .int .i64 n]] w fun e w' => e = .returned (.tuple #[.int .i64 (Plain.wordI op r a b n), .bool true]) ∧ Below w.heap.size w w' := by
  have g := specWord_any op r a b n w
  rw [h, Plain.wordV_t h] at g
  exact g
theorem specWord_no (op r a b n : Int) (w : World) (h : Plain.stepB op r a b n 800 = false) : Calls Try.prog 12 #[.agg #[.int .i64 op, .int .i64 r, .int .i64 a, .int .i64 b, .int .i64 n]] w fun e w' => e = .returned (.tuple #[.int .i64 0, .bool false]) ∧ Below w.heap.size w w' := by
  have g := specWord_any op r a b n w
  rw [h, Plain.wordV_f h] at g
  exact g

set_option maxRecDepth 100000 in
theorem stepsOf_no (x : Int) (w : World) (h : -9223372036854775808 ≤ x) (h' : x ≤ 9223372036854775807) (hs : Plain.stB x = false) : Calls Try.prog 28 #[.int .i64 x] w fun e w' => e = .returned (.map none) ∧ Below w.heap.size w w' := by
  go_enter Try.func28, Try.ntmps28
  go_wp2_with fail
  refine (wordFields_any x _ h h').mono ?_
  rintro e w1 ⟨rfl, hb1⟩
  clear h h'
  generalize ho : Plain.fO x = o
  generalize hr : Plain.fR x = r
  generalize ha : Plain.fA x = a
  generalize hb : Plain.fB x = b
  generalize hn : Plain.fN x = n
  have HS : Hid (Plain.stepB o r a b n 800 = false) := by show _ = _; rw [← ho, ← hr, ← ha, ← hb, ← hn]; exact hs
  clear hs ho hr ha hb hn
  go_wp2_with fail
  refine (stepWord_no _ _ _ _ _ _ HS.out).mono ?_
  rintro e w2 ⟨rfl, hb2⟩
  go_wp2
  go_ret
  have := hb1.size
  exact ⟨rfl, hb1.trans (((Below.refl _ _).alloc (Nat.le_refl _) _).trans (hb2.mono (by simp)) |>.mono this)⟩

set_option maxRecDepth 100000 in
theorem stepsOf_yes (x : Int) (w : World) (h : -9223372036854775808 ≤ x) (h' : x ≤ 9223372036854775807) (hs : Plain.stB x = true) : Calls Try.prog 28 #[.int .i64 x] w fun e w' => ∃ g, e = .returned (.map (some g)) ∧ w'.heap[g]? = some (.map (oneE (Plain.fO x) (Plain.fR x) (Plain.fA x) (Plain.fB x) (Plain.fN x) (Plain.woI x)) 1) ∧ Below w.heap.size w w' := by
  have hmm := @run_makeMap Try.prog
  go_enter Try.func28, Try.ntmps28
  go_wp2_with fail
  refine (wordFields_any x _ h h').mono ?_
  rintro e w1 ⟨rfl, hb1⟩
  clear h h'
  obtain ⟨q, hw⟩ : ∃ q, Plain.woI x = q := ⟨_, rfl⟩
  have HQ0 : Hid (Plain.woI x = q) := hw
  unfold Plain.woI at hw
  unfold Plain.stB at hs
  generalize ho : Plain.fO x = o at hs hw ⊢
  generalize hr : Plain.fR x = r at hs hw ⊢
  generalize ha : Plain.fA x = a at hs hw ⊢
  generalize hb : Plain.fB x = b at hs hw ⊢
  generalize hn : Plain.fN x = n at hs hw ⊢
  have HS : Hid (Plain.stepB o r a b n 800 = true) := hs
  have HQ : Hid (Plain.wordI o r a b n = q) := hw
  have HO : Hid (Plain.fO x = o) := ho
  have HR : Hid (Plain.fR x = r) := hr
  have HA : Hid (Plain.fA x = a) := ha
  have HB : Hid (Plain.fB x = b) := hb
  have HN : Hid (Plain.fN x = n) := hn
  clear hs hw ho hr ha hb hn
  go_wp2_with fail
  refine (stepWord_yes _ _ _ _ _ _ HS.out).mono ?_
  rintro e w2 ⟨rfl, hb2⟩
  rw [HQ.out]
  obtain ⟨c0, c1, c2, c3, c4, hz⟩ := boxed5 hb2
  have hins := ins_run o r a b n q w2.heap.size (w2.alloc (.map #[] 0)) mapNew
  go_wp2
  go_ret
  have := hb1.size
  refine ⟨w2.heap.size, rfl, by rw [HO.out, HR.out, HA.out, HB.out, HN.out, HQ0.out]; exact setB_at (w := w2.alloc (.map #[] 0)) (g := w2.heap.size) (by have e : (w2.alloc (.map #[] 0)).heap = w2.heap.push (.map #[] 0) := rfl; rw [e, Array.size_push]; exact Nat.lt_succ_self _), ?_⟩
  refine setB_below ?_ (by omega)
  exact (hb1.trans (((Below.refl _ _).alloc (Nat.le_refl _) _).trans (hb2.mono (by simp)) |>.mono this)).alloc (by omega) _

theorem zero5 {w W : World} {v0 v1 v2 v3 v4 : Value} {T : TypeId} (hW : w.alloc (.cells #[v0, v1, v2, v3, v4] T) = W) : Below w.heap.size w W ∧ w.heap.size < W.heap.size ∧ (∀ j, W.frozen? ⟨w.heap.size, j, none⟩ = false) ∧ W.cell? ⟨w.heap.size, 0, none⟩ = some v0 ∧ W.cell? ⟨w.heap.size, 1, none⟩ = some v1 ∧ W.cell? ⟨w.heap.size, 2, none⟩ = some v2 ∧ W.cell? ⟨w.heap.size, 3, none⟩ = some v3 ∧ W.cell? ⟨w.heap.size, 4, none⟩ = some v4 := by
  subst hW
  exact ⟨(Below.refl _ _).alloc (Nat.le_refl _) _, by simp, fun j => by simp [go_sem], by simp [go_sem], by simp [go_sem], by simp [go_sem], by simp [go_sem], by simp [go_sem]⟩
/- a box of five cells that may be written -/
structure Bx (w : World) (B : Nat) (v0 v1 v2 v3 v4 : Value) : Prop where
  lt : B < w.heap.size
  fz : ∀ j, w.frozen? ⟨B, j, none⟩ = false
  c0 : w.cell? ⟨B, 0, none⟩ = some v0
  c1 : w.cell? ⟨B, 1, none⟩ = some v1
  c2 : w.cell? ⟨B, 2, none⟩ = some v2
  c3 : w.cell? ⟨B, 3, none⟩ = some v3
  c4 : w.cell? ⟨B, 4, none⟩ = some v4
theorem Bx.keep {w w' : World} {B K : Nat} {v0 v1 v2 v3 v4 : Value} (x : Bx w B v0 v1 v2 v3 v4) (h : Below K w w') (hB : B < K) : Bx w' B v0 v1 v2 v3 v4 :=
  ⟨Nat.lt_of_lt_of_le x.lt h.size, fun j => (h.frozen (p := ⟨B, j, none⟩) hB).trans (x.fz j), (h.cell (p := ⟨B, 0, none⟩) hB).trans x.c0, (h.cell (p := ⟨B, 1, none⟩) hB).trans x.c1, (h.cell (p := ⟨B, 2, none⟩) hB).trans x.c2, (h.cell (p := ⟨B, 3, none⟩) hB).trans x.c3, (h.cell (p := ⟨B, 4, none⟩) hB).trans x.c4⟩
theorem Bx.new {w : World} {v0 v1 v2 v3 v4 : Value} {T : TypeId} : Bx (w.alloc (.cells #[v0, v1, v2, v3, v4] T)) w.heap.size v0 v1 v2 v3 v4 := by
  obtain ⟨_, z, f, c0, c1, c2, c3, c4⟩ := zero5 (w := w) (v0 := v0) (v1 := v1) (v2 := v2) (v3 := v3) (v4 := v4) (T := T) rfl
  exact ⟨z, f, c0, c1, c2, c3, c4⟩

theorem st5 {B g : Nat} {w w' : World} {v0 v1 v2 v3 v4 : Value} (h : Below B w w') (hg : B ≤ g) : Below B w (((((w'.setCell ⟨g, 0, none⟩ v0).setCell ⟨g, 1, none⟩ v1).setCell ⟨g, 2, none⟩ v2).setCell ⟨g, 3, none⟩ v3).setCell ⟨g, 4, none⟩ v4) := ((((h.setCell (p := ⟨g, 0, none⟩) hg _).setCell (p := ⟨g, 1, none⟩) hg _).setCell (p := ⟨g, 2, none⟩) hg _).setCell (p := ⟨g, 3, none⟩) hg _).setCell (p := ⟨g, 4, none⟩) hg _

set_option maxRecDepth 100000 in
set_option maxHeartbeats 2000000 in
theorem wordStep_no (x : Int) (w : World) (h : -9223372036854775808 ≤ x) (h' : x ≤ 9223372036854775807) (hs : Plain.stB x = false) : Calls Try.prog 13 #[.int .i64 x] w fun e w' => e = .returned (.tuple #[.agg #[.int .i64 0, .int .i64 0, .int .i64 0, .int .i64 0, .int .i64 0], .bool false]) ∧ Below w.heap.size w w' := by
  have HX : Hid (-9223372036854775808 ≤ x ∧ x ≤ 9223372036854775807) := ⟨h, h'⟩
  have HS : Hid (Plain.stB x = false) := hs
  clear hs
  clear h h'
  go_enter Try.func13, Try.ntmps13
  go_wp2_with fail
  refine (wordFields_any x _ HX.out.1 HX.out.2).mono ?_
  rintro e w1 ⟨rfl, hb1⟩
  have X1 := Bx.new.keep hb1 (by simp)
  have K1 : Hid (Below w.heap.size w w1) := ((Below.refl _ _).alloc (Nat.le_refl _) _).trans (hb1.mono (by simp))
  clear hb1
  generalize Plain.fO x = o
  generalize Plain.fR x = r
  generalize Plain.fA x = a
  generalize Plain.fB x = b
  generalize Plain.fN x = n
  have hl := look_nil o r a b n
  have hz := X1.lt
  go_wp2_with fail
  obtain ⟨W, hW⟩ : ∃ W, w1.alloc (.cells #[.int .i64 o, .int .i64 r, .int .i64 a, .int .i64 b, .int .i64 n] 25) = W := ⟨_, rfl⟩
  have Y : Bx W w1.heap.size (.int .i64 o) (.int .i64 r) (.int .i64 a) (.int .i64 b) (.int .i64 n) := by rw [← hW]; exact Bx.new
  have KW : Below w1.heap.size w1 W := by rw [← hW]; exact (Below.refl _ _).alloc (Nat.le_refl _) _
  have X2 := X1.keep KW hz
  have K2 : Hid (Below w.heap.size w W) := K1.out.trans (KW.mono (by omega))
  rw [hW]
  clear hW KW X1 K1
  obtain ⟨y0, _, d0, d1, d2, d3, d4⟩ := Y
  have y1 := Nat.lt_trans hz y0
  have XX : Hid (Bx W w.heap.size (.int .i64 0) (.int .i64 0) (.int .i64 0) (.int .i64 0) (.int .i64 0)) := X2
  clear X2
  first | go_region_with (go_at_call 28; refine (stepsOf_no x _ HX.out.1 HX.out.2 HS.out).mono ?_; rintro e w2 ⟨rfl, hb2⟩; have hb2' : Below W.heap.size W w2 := (Below.drew (Below.refl _ _)).trans hb2; obtain ⟨d0', d1', d2', d3', d4', hz2⟩ := carryK hb2' y0 d0 d1 d2 d3 d4) | fail
  all_goals have K3 : Hid (Below w.heap.size w w2) := K2.out.trans (hb2'.mono (by omega))
  all_goals have y2 : w1.heap.size < w2.heap.size := by omega
  all_goals obtain ⟨q0, qf, q1, q2, q3, q4, q5⟩ := XX.out.keep hb2' (by omega)
  all_goals have f0 := qf 0
  all_goals have f1 := qf 1
  all_goals have f2 := qf 2
  all_goals have f3 := qf 3
  all_goals have f4 := qf 4
  all_goals clear qf hb2 hb2' XX d0 d1 d2 d3 d4
  all_goals go_wp2
  all_goals refine bodyPost_ret (v := .tuple #[.agg #[.int .i64 0, .int .i64 0, .int .i64 0, .int .i64 0, .int .i64 0], .bool false]) (by simp [results, Try.results13, go_sem, q1, q2, q3, q4, q5]) rfl ?_
  all_goals exact ⟨rfl, st5 K3.out (Nat.le_refl _)⟩

set_option maxRecDepth 100000 in
set_option maxHeartbeats 2000000 in
theorem wordStep_ne (x : Int) (w : World) (h : -9223372036854775808 ≤ x) (h' : x ≤ 9223372036854775807) (hs : Plain.stB x = true) (hw : (Plain.woI x != x) = true) : Calls Try.prog 13 #[.int .i64 x] w fun e w' => e = .returned (.tuple #[.agg #[.int .i64 0, .int .i64 0, .int .i64 0, .int .i64 0, .int .i64 0], .bool false]) ∧ Below w.heap.size w w' := by
  have HX : Hid (-9223372036854775808 ≤ x ∧ x ≤ 9223372036854775807) := ⟨h, h'⟩
  have HS : Hid (Plain.stB x = true) := hs
  clear hs
  obtain ⟨q, hq⟩ : ∃ q, Plain.woI x = q := ⟨_, rfl⟩
  have HQ : Hid (Plain.woI x = q) := hq
  rw [hq] at hw
  clear hq
  clear h h'
  go_enter Try.func13, Try.ntmps13
  go_wp2_with fail
  refine (wordFields_any x _ HX.out.1 HX.out.2).mono ?_
  rintro e w1 ⟨rfl, hb1⟩
  have X1 := Bx.new.keep hb1 (by simp)
  have K1 : Hid (Below w.heap.size w w1) := ((Below.refl _ _).alloc (Nat.le_refl _) _).trans (hb1.mono (by simp))
  clear hb1
  generalize ho : Plain.fO x = o
  generalize hr : Plain.fR x = r
  generalize ha : Plain.fA x = a
  generalize hb : Plain.fB x = b
  generalize hn : Plain.fN x = n
  have HO : Hid (Plain.fO x = o) := ho
  have HR : Hid (Plain.fR x = r) := hr
  have HA : Hid (Plain.fA x = a) := ha
  have HB : Hid (Plain.fB x = b) := hb
  have HN : Hid (Plain.fN x = n) := hn
  clear ho hr ha hb hn
  have hz := X1.lt
  go_wp2_with fail
  obtain ⟨W, hW⟩ : ∃ W, w1.alloc (.cells #[.int .i64 o, .int .i64 r, .int .i64 a, .int .i64 b, .int .i64 n] 25) = W := ⟨_, rfl⟩
  have Y : Bx W w1.heap.size (.int .i64 o) (.int .i64 r) (.int .i64 a) (.int .i64 b) (.int .i64 n) := by rw [← hW]; exact Bx.new
  have KW : Below w1.heap.size w1 W := by rw [← hW]; exact (Below.refl _ _).alloc (Nat.le_refl _) _
  have X2 := X1.keep KW hz
  have K2 : Hid (Below w.heap.size w W) := K1.out.trans (KW.mono (by omega))
  rw [hW]
  clear hW KW X1 K1
  obtain ⟨y0, _, d0, d1, d2, d3, d4⟩ := Y
  have y1 := Nat.lt_trans hz y0
  have XX : Hid (Bx W w.heap.size (.int .i64 0) (.int .i64 0) (.int .i64 0) (.int .i64 0) (.int .i64 0)) := X2
  clear X2
  first | go_region_with (go_at_call 28; refine (stepsOf_yes x _ HX.out.1 HX.out.2 HS.out).mono ?_; rintro e w2 ⟨g, rfl, hg, hb2⟩; rw [HO.out, HR.out, HA.out, HB.out, HN.out, HQ.out] at hg; have hl := look_run o r a b n q g w2 hg; have hb2' : Below W.heap.size W w2 := (Below.drew (Below.refl _ _)).trans hb2; obtain ⟨d0', d1', d2', d3', d4', hz2⟩ := carryK hb2' y0 d0 d1 d2 d3 d4) | fail
  all_goals have K3 : Hid (Below w.heap.size w w2) := K2.out.trans (hb2'.mono (by omega))
  all_goals have y2 : w1.heap.size < w2.heap.size := by omega
  all_goals obtain ⟨q0, qf, q1, q2, q3, q4, q5⟩ := XX.out.keep hb2' (by omega)
  all_goals have f0 := qf 0
  all_goals have f1 := qf 1
  all_goals have f2 := qf 2
  all_goals have f3 := qf 3
  all_goals have f4 := qf 4
  all_goals clear qf hb2 hb2' XX d0 d1 d2 d3 d4
  all_goals go_wp2
  all_goals refine bodyPost_ret (v := .tuple #[.agg #[.int .i64 0, .int .i64 0, .int .i64 0, .int .i64 0, .int .i64 0], .bool false]) (by simp [results, Try.results13, go_sem, q1, q2, q3, q4, q5]) rfl ?_
  all_goals exact ⟨rfl, st5 K3.out (Nat.le_refl _)⟩

set_option maxRecDepth 100000 in
set_option maxHeartbeats 2000000 in
theorem wordStep_eq (x : Int) (w : World) (h : -9223372036854775808 ≤ x) (h' : x ≤ 9223372036854775807) (hs : Plain.stB x = true) (hw : (Plain.woI x != x) = false) : Calls Try.prog 13 #[.int .i64 x] w fun e w' => e = .returned (.tuple #[.agg #[.int .i64 (Plain.fO x), .int .i64 (Plain.fR x), .int .i64 (Plain.fA x), .int .i64 (Plain.fB x), .int .i64 (Plain.fN x)], .bool true]) ∧ Below w.heap.size w w' := by
  have HX : Hid (-9223372036854775808 ≤ x ∧ x ≤ 9223372036854775807) := ⟨h, h'⟩
  have HS : Hid (Plain.stB x = true) := hs
  clear hs
  obtain ⟨q, hq⟩ : ∃ q, Plain.woI x = q := ⟨_, rfl⟩
  have HQ : Hid (Plain.woI x = q) := hq
  rw [hq] at hw
  clear hq
  clear h h'
  go_enter Try.func13, Try.ntmps13
  go_wp2_with fail
  refine (wordFields_any x _ HX.out.1 HX.out.2).mono ?_
  rintro e w1 ⟨rfl, hb1⟩
  have X1 := Bx.new.keep hb1 (by simp)
  have K1 : Hid (Below w.heap.size w w1) := ((Below.refl _ _).alloc (Nat.le_refl _) _).trans (hb1.mono (by simp))
  clear hb1
  generalize ho : Plain.fO x = o
  generalize hr : Plain.fR x = r
  generalize ha : Plain.fA x = a
  generalize hb : Plain.fB x = b
  generalize hn : Plain.fN x = n
  have HO : Hid (Plain.fO x = o) := ho
  have HR : Hid (Plain.fR x = r) := hr
  have HA : Hid (Plain.fA x = a) := ha
  have HB : Hid (Plain.fB x = b) := hb
  have HN : Hid (Plain.fN x = n) := hn
  clear ho hr ha hb hn
  have hz := X1.lt
  go_wp2_with fail
  obtain ⟨W, hW⟩ : ∃ W, w1.alloc (.cells #[.int .i64 o, .int .i64 r, .int .i64 a, .int .i64 b, .int .i64 n] 25) = W := ⟨_, rfl⟩
  have Y : Bx W w1.heap.size (.int .i64 o) (.int .i64 r) (.int .i64 a) (.int .i64 b) (.int .i64 n) := by rw [← hW]; exact Bx.new
  have KW : Below w1.heap.size w1 W := by rw [← hW]; exact (Below.refl _ _).alloc (Nat.le_refl _) _
  have X2 := X1.keep KW hz
  have K2 : Hid (Below w.heap.size w W) := K1.out.trans (KW.mono (by omega))
  rw [hW]
  clear hW KW X1 K1
  obtain ⟨y0, _, d0, d1, d2, d3, d4⟩ := Y
  have y1 := Nat.lt_trans hz y0
  have XX : Hid (Bx W w.heap.size (.int .i64 0) (.int .i64 0) (.int .i64 0) (.int .i64 0) (.int .i64 0)) := X2
  clear X2
  first | go_region_with (go_at_call 28; refine (stepsOf_yes x _ HX.out.1 HX.out.2 HS.out).mono ?_; rintro e w2 ⟨g, rfl, hg, hb2⟩; rw [HO.out, HR.out, HA.out, HB.out, HN.out, HQ.out] at hg; have hl := look_run o r a b n q g w2 hg; have hb2' : Below W.heap.size W w2 := (Below.drew (Below.refl _ _)).trans hb2; obtain ⟨d0', d1', d2', d3', d4', hz2⟩ := carryK hb2' y0 d0 d1 d2 d3 d4) | fail
  all_goals have K3 : Hid (Below w.heap.size w w2) := K2.out.trans (hb2'.mono (by omega))
  all_goals have y2 : w1.heap.size < w2.heap.size := by omega
  all_goals obtain ⟨q0, qf, q1, q2, q3, q4, q5⟩ := XX.out.keep hb2' (by omega)
  all_goals have f0 := qf 0
  all_goals have f1 := qf 1
  all_goals have f2 := qf 2
  all_goals have f3 := qf 3
  all_goals have f4 := qf 4
  all_goals clear qf hb2 hb2' XX d0 d1 d2 d3 d4
  all_goals go_wp2
  all_goals refine bodyPost_ret (v := .tuple #[.agg #[.int .i64 o, .int .i64 r, .int .i64 a, .int .i64 b, .int .i64 n], .bool true]) (by simp [results, Try.results13, go_sem, q1, q2, q3, q4, q5]) rfl ?_
  all_goals exact ⟨by rw [HO.out, HR.out, HA.out, HB.out, HN.out], st5 K3.out (Nat.le_refl _)⟩

end Go.Proofs.Ytkmliphfelinjaa
