/- StepText of the specification: at every step, its text. No condition. -/
import Derived.Test.YtfgikjipkfggbaaGreatDoorT16W
import Derived.Test.YtfgikjipkfggbaaGreatDoorT16Env
import Derived.Test.YtfgikjipkfggbaaGreatDoorT16Ch
import Derived.Test.YtfgikjipkfggbaaGreatDoorQuietC
import Derived.Test.YtfgikjipkfggbaaGreatDoorDigits
import Derived.Test.YtfgikjipkfggbaaGreatDoorC7Plain
import Derived.Test.YtfgikjipkfggbaaGreatDoorT16St
import Derived.Test.YtfgikjipkfggbaaGreatDoorC7Spec
namespace Go.Proofs.YtfgikjipkfggbaaGreatDoor
set_option linter.unusedSimpArgs false
set_option linter.unusedVariables false
set_option maxRecDepth 100000
open Go.RowKit

theorem l16R_any (r : Int) (hr : -1000000000 ≤ r ∧ r ≤ 1000000000) (w : World) : Calls Tryz.prog 35 #[.int .i64 r] w fun e w' => e = .returned (.string ⟨([32, 114] ++ Lib.itoa r).toArray⟩) ∧ Below w.heap.size w w' := by
  have ln := itoa_10 hr.1 hr.2
  have a0 := addS [32, 114] (Lib.itoa r) (by simp; omega)
  go_enter Tryz.func35, Tryz.ntmps35
  go_wp2_with (go_at_call 36; refine (l2Digits_any r (by omega) (by omega) w).mono ?_; rintro e w1 ⟨rfl, hb1⟩)
  go_ret
  exact ⟨rfl, hb1⟩

set_option maxHeartbeats 2000000 in
theorem l16Cell_any (o r a b n : Int) (h : StOk o r a b n) (ho : o = 5 ∨ o = 6 ∨ o = 7 ∨ o = 8) (w : World) : Calls Tryz.prog 37 #[.agg #[.int .i64 o, .int .i64 r, .int .i64 a, .int .i64 b, .int .i64 n]] w fun e w' => e = .returned (.string ⟨(32 :: cellT o a n).toArray⟩) ∧ Below w.heap.size w w' := by
  have ln := itoa_10 h.n1 h.n2
  have la := itoa_10 (v := a) (by have := h.a1; omega) (by have := h.a2; omega)
  have hn1 := h.n1
  have hn2 := h.n2
  have ha1 := h.a1
  have ha2 := h.a2
  obtain ⟨W, hW⟩ : ∃ W, w.alloc (.cells #[.int .i64 o, .int .i64 r, .int .i64 a, .int .i64 b, .int .i64 n] 25) = W := ⟨_, rfl⟩
  have kW : Below w.heap.size w W := by subst hW; exact (Below.refl _ _).alloc (Nat.le_refl _) _
  have sW : w.heap.size < W.heap.size := by subst hW; simp
  have x0 : W.cell? ⟨w.heap.size, 0, none⟩ = some (.int .i64 o) := by subst hW; simp [go_sem]
  have x1 : W.cell? ⟨w.heap.size, 1, none⟩ = some (.int .i64 r) := by subst hW; simp [go_sem]
  have x2 : W.cell? ⟨w.heap.size, 2, none⟩ = some (.int .i64 a) := by subst hW; simp [go_sem]
  have x3 : W.cell? ⟨w.heap.size, 3, none⟩ = some (.int .i64 b) := by subst hW; simp [go_sem]
  have x4 : W.cell? ⟨w.heap.size, 4, none⟩ = some (.int .i64 n) := by subst hW; simp [go_sem]
  have KW := hidT kW
  clear kW
  by_cases hc : a < 0
  · have HT : Hid ((32 :: cellT o a n : List UInt8) = [32, 91] ++ Lib.itoa n ++ [93]) := by show _ = _; unfold cellT; rw [if_neg (by omega)]; simp
    generalize hg : Lib.itoa n = tn at ln HT
    have HG := hidT hg
    have a0 := addS [32, 91] tn (by simp; omega)
    have a1 := addS ([32, 91] ++ tn) [93] (by simp; omega)
    obtain ⟨t1, h1⟩ : ∃ t1, [32, 91] ++ tn = t1 := ⟨_, rfl⟩
    rw [h1] at a0 a1 HT
    clear h1 hg
    go_enter Tryz.func37, Tryz.ntmps37
    go_wp2_with fail
    try rw [hW]
    refine (l2Digits_any n (by omega) (by omega) W).mono ?_
    rintro e w1 ⟨rfl, hb1⟩
    rw [HG.out]
    have K1 := hidT (KW.out.trans (hb1.mono (Nat.le_of_lt sW)))
    clear hb1
    go_wp2
    go_ret
    exact ⟨by rw [HT.out]; rfl, K1.out⟩
  by_cases h8 : o = 8
  · subst h8
    have HT : Hid ((32 :: cellT 8 a n : List UInt8) = [32, 91] ++ Lib.itoa n ++ [93]) := by show _ = _; unfold cellT; rw [if_neg (by simp [Plain.memB])]; simp
    generalize hg : Lib.itoa n = tn at ln HT
    have HG := hidT hg
    have a0 := addS [32, 91] tn (by simp; omega)
    have a1 := addS ([32, 91] ++ tn) [93] (by simp; omega)
    obtain ⟨t1, h1⟩ : ∃ t1, [32, 91] ++ tn = t1 := ⟨_, rfl⟩
    rw [h1] at a0 a1 HT
    clear h1 hg
    go_enter Tryz.func37, Tryz.ntmps37
    go_wp2_with fail
    try rw [hW]
    refine (l2Digits_any n (by omega) (by omega) W).mono ?_
    rintro e w1 ⟨rfl, hb1⟩
    rw [HG.out]
    have K1 := hidT (KW.out.trans (hb1.mono (Nat.le_of_lt sW)))
    clear hb1
    go_wp2
    go_ret
    exact ⟨by rw [HT.out]; rfl, K1.out⟩
  · have HT : Hid ((32 :: cellT o a n : List UInt8) = [32, 91] ++ Lib.itoa n ++ [43, 114] ++ Lib.itoa a ++ [93]) := by show _ = _; unfold cellT; rw [if_pos ⟨decide_eq_true (by omega), by omega⟩]; simp
    have h8' : (o == 8) = false := by simpa using h8
    have IA : Hid (∀ X : World, Calls Tryz.prog 36 #[.int .i64 n] X fun e w' => e = .returned (.string ⟨(Lib.itoa n).toArray⟩) ∧ Below X.heap.size X w') := fun X => l2Digits_any _ (by omega) (by omega) X
    have IB : Hid (∀ X : World, Calls Tryz.prog 36 #[.int .i64 a] X fun e w' => e = .returned (.string ⟨(Lib.itoa a).toArray⟩) ∧ Below X.heap.size X w') := fun X => l2Digits_any _ (by omega) (by omega) X
    generalize Lib.itoa n = tn at ln HT IA
    generalize Lib.itoa a = ta at la HT IB
    have a0 := addS [32, 91] tn (by simp; omega)
    have a1 := addS ([32, 91] ++ tn) [43, 114] (by simp; omega)
    have a2 := addS ([32, 91] ++ tn ++ [43, 114]) ta (by simp; omega)
    have a3 := addS ([32, 91] ++ tn ++ [43, 114] ++ ta) [93] (by simp; omega)
    obtain ⟨t1, h1⟩ : ∃ t1, [32, 91] ++ tn = t1 := ⟨_, rfl⟩
    rw [h1] at a0 a1 a2 a3 HT
    obtain ⟨t2, h2⟩ : ∃ t2, t1 ++ [43, 114] = t2 := ⟨_, rfl⟩
    rw [h2] at a1 a2 a3 HT
    obtain ⟨t3, h3⟩ : ∃ t3, t2 ++ ta = t3 := ⟨_, rfl⟩
    rw [h3] at a2 a3 HT
    obtain ⟨t4, h4⟩ : ∃ t4, t3 ++ [93] = t4 := ⟨_, rfl⟩
    rw [h4] at a3 HT
    clear h1 h2 h3 h4 h8 ha1 ha2 ho hn1 hn2 h
    have hne := ext_ne W
    have u2 := Ext.fit x2 sW
    have u4 := Ext.fit x4 sW
    go_enter Tryz.func37, Tryz.ntmps37
    go_wp2_with fail
    try rw [hW]
    clear hW x0 x1 x2 x3 x4
    refine regionExt W (by kernel_rfl) (by kernel_rfl) ?_
    repeat (go_big_quiet_step (first | (rename_i X; go_at_call 36; (with_reducible refine Calls.mono (IA.out _) ?_); rintro e w3 ⟨rfl, hb3⟩; exact ⟨rfl, X.on hb3⟩) | (rename_i X; go_at_call 36; (with_reducible refine Calls.mono (IB.out _) ?_); rintro e w3 ⟨rfl, hb3⟩; exact ⟨rfl, X.on hb3⟩) | fail))
    refine wpQuiet_nil ?_
    rintro w3 ⟨X3, rfl⟩
    have KU := hidT (KW.out.trans (X3.b.mono (Nat.le_of_lt sW)))
    clear hne u2 u4
    go_wp2
    go_ret
    exact ⟨by rw [HT.out]; rfl, KU.out⟩

set_option maxHeartbeats 2000000 in
theorem specSt1 (r a b n : Int) (h : Plain.stepB 1 r a b n 800 = true) (w : World) : Calls Tryz.prog 13 #[.agg #[.int .i64 1, .int .i64 r, .int .i64 a, .int .i64 b, .int .i64 n]] w fun e w' => e = .returned (.string ⟨(stT 1 r a b n).toArray⟩) ∧ Below w.heap.size w w' := by
  have HT : Hid (stT 1 r a b n = [115, 101, 116] ++ ([32, 114] ++ Lib.itoa r) ++ ([32] ++ Lib.itoa n)) := by show _ = _; unfold stT; rw [if_pos h]; simp [maW, maWords, maL, maLets, ltsT, prtT]
  have hs := stOk_of h
  have l1 := itoa_10 (v := r) (by have := hs.r1; omega) (by have := hs.r2; omega)
  have l2 := itoa_10 (v := a) (by have := hs.a1; omega) (by have := hs.a2; omega)
  have l3 := itoa_10 (v := b) (by have := hs.b1; omega) (by have := hs.b2; omega)
  have l4 := itoa_10 hs.n1 hs.n2
  have IR : Hid (∀ X : World, Calls Tryz.prog 35 #[.int .i64 r] X fun e w' => e = .returned (.string ⟨([32, 114] ++ Lib.itoa r).toArray⟩) ∧ Below X.heap.size X w') := fun X => l16R_any r (by have := hs.r1; have := hs.r2; omega) X
  have IA : Hid (∀ X : World, Calls Tryz.prog 35 #[.int .i64 a] X fun e w' => e = .returned (.string ⟨([32, 114] ++ Lib.itoa a).toArray⟩) ∧ Below X.heap.size X w') := fun X => l16R_any a (by have := hs.a1; have := hs.a2; omega) X
  have IB : Hid (∀ X : World, Calls Tryz.prog 35 #[.int .i64 b] X fun e w' => e = .returned (.string ⟨([32, 114] ++ Lib.itoa b).toArray⟩) ∧ Below X.heap.size X w') := fun X => l16R_any b (by have := hs.b1; have := hs.b2; omega) X
  have IN : Hid (∀ X : World, Calls Tryz.prog 36 #[.int .i64 n] X fun e w' => e = .returned (.string ⟨(Lib.itoa n).toArray⟩) ∧ Below X.heap.size X w') := fun X => l2Digits_any n (by have := hs.n1; omega) (by have := hs.n2; omega) X
  have q1 : ([32, 114] ++ Lib.itoa r).length ≤ 22 := by simp; omega
  have q2 : ([32, 114] ++ Lib.itoa a).length ≤ 22 := by simp; omega
  have q3 : ([32, 114] ++ Lib.itoa b).length ≤ 22 := by simp; omega
  have V := hidT h
  have an := addS [32] (Lib.itoa n) (by simp; omega)
  have q4 : ([32] ++ Lib.itoa n).length ≤ 21 := by simp; omega
  clear l1 l2 l3 hs h
  generalize [32, 114] ++ Lib.itoa r = tr at HT IR q1
  generalize [32, 114] ++ Lib.itoa a = ta at HT IA q2
  generalize [32, 114] ++ Lib.itoa b = tb at HT IB q3
  generalize hn : [32] ++ Lib.itoa n = tn at HT an q4
  clear hn
  generalize Lib.itoa n = tm at IN an l4
  have a0 := addS ([115, 101, 116]) tr (by simp; omega)
  have a1 := addS ([115, 101, 116] ++ tr) tn (by simp; omega)
  obtain ⟨v0, h0⟩ : ∃ v, [115, 101, 116] ++ tr = v := ⟨_, rfl⟩
  rw [h0] at a0 a1 HT
  obtain ⟨v1, h1⟩ : ∃ v, v0 ++ tn = v := ⟨_, rfl⟩
  rw [h1] at a1 HT
  clear h0 h1
  obtain ⟨W, hW⟩ : ∃ W, w.alloc (.cells #[.int .i64 1, .int .i64 r, .int .i64 a, .int .i64 b, .int .i64 n] 25) = W := ⟨_, rfl⟩
  have kW : Below w.heap.size w W := by subst hW; exact (Below.refl _ _).alloc (Nat.le_refl _) _
  have sW : w.heap.size < W.heap.size := by subst hW; simp
  have x0 : W.cell? ⟨w.heap.size, 0, none⟩ = some (.int .i64 1) := by subst hW; simp [go_sem]
  have x1 : W.cell? ⟨w.heap.size, 1, none⟩ = some (.int .i64 r) := by subst hW; simp [go_sem]
  have x2 : W.cell? ⟨w.heap.size, 2, none⟩ = some (.int .i64 a) := by subst hW; simp [go_sem]
  have x3 : W.cell? ⟨w.heap.size, 3, none⟩ = some (.int .i64 b) := by subst hW; simp [go_sem]
  have x4 : W.cell? ⟨w.heap.size, 4, none⟩ = some (.int .i64 n) := by subst hW; simp [go_sem]
  have KW := hidT kW
  clear kW
  go_enter Tryz.func13, Tryz.ntmps13
  go_wp2_with fail
  try rw [hW]
  clear hW
  refine (specStepOk_is 1 r a b n 800 true W V.out).mono ?_
  rintro e w1 ⟨rfl, hb1⟩
  have z0 := (hb1.cell (p := ⟨w.heap.size, 0, none⟩) sW).trans x0
  have z1 := (hb1.cell (p := ⟨w.heap.size, 1, none⟩) sW).trans x1
  have z2 := (hb1.cell (p := ⟨w.heap.size, 2, none⟩) sW).trans x2
  have z3 := (hb1.cell (p := ⟨w.heap.size, 3, none⟩) sW).trans x3
  have z4 := (hb1.cell (p := ⟨w.heap.size, 4, none⟩) sW).trans x4
  have s1 : w.heap.size < w1.heap.size := by have := hb1.size; omega
  have K1 := hidT (KW.out.trans (hb1.mono (Nat.le_of_lt sW)))
  clear hb1 x0 x1 x2 x3 x4
  have hne := ext_ne w1
  have u1 := Ext.fit z1 s1
  have u2 := Ext.fit z2 s1
  have u3 := Ext.fit z3 s1
  have u4 := Ext.fit z4 s1
  go_wp2_with fail
  refine regionExt w1 (by kernel_rfl) (by kernel_rfl) ?_
  repeat (go_big_quiet_step (first | (rename_i X; go_at_call 36; (with_reducible refine Calls.mono (IN.out _) ?_); rintro e w3 ⟨rfl, hb3⟩; exact ⟨rfl, X.on hb3⟩) | (rename_i X; go_at_call 35; (first | (with_reducible refine Calls.mono (IR.out _) ?_) | (with_reducible refine Calls.mono (IA.out _) ?_) | (with_reducible refine Calls.mono (IB.out _) ?_)); rintro e w3 ⟨rfl, hb3⟩; exact ⟨rfl, X.on hb3⟩) | fail))
  refine wpQuiet_nil ?_
  rintro w3 ⟨X3, rfl⟩
  have KU := hidT (K1.out.trans (X3.b.mono (Nat.le_of_lt s1)))
  have y0 := Ext.fit z0 s1 X3
  have y1 := u1 X3
  have y2 := u2 X3
  have y3 := u3 X3
  have y4 := u4 X3
  clear hne u1 u2 u3 u4 an
  go_wp2
  go_ret
  exact ⟨by rw [HT.out]; rfl, KU.out⟩

set_option maxHeartbeats 2000000 in
theorem specSt2 (r a b n : Int) (h : Plain.stepB 2 r a b n 800 = true) (w : World) : Calls Tryz.prog 13 #[.agg #[.int .i64 2, .int .i64 r, .int .i64 a, .int .i64 b, .int .i64 n]] w fun e w' => e = .returned (.string ⟨(stT 2 r a b n).toArray⟩) ∧ Below w.heap.size w w' := by
  have HT : Hid (stT 2 r a b n = [97, 100, 100] ++ ([32, 114] ++ Lib.itoa r) ++ ([32, 114] ++ Lib.itoa a) ++ ([32, 114] ++ Lib.itoa b)) := by show _ = _; unfold stT; rw [if_pos h]; simp [maW, maWords, maL, maLets, ltsT, prtT]
  have hs := stOk_of h
  have l1 := itoa_10 (v := r) (by have := hs.r1; omega) (by have := hs.r2; omega)
  have l2 := itoa_10 (v := a) (by have := hs.a1; omega) (by have := hs.a2; omega)
  have l3 := itoa_10 (v := b) (by have := hs.b1; omega) (by have := hs.b2; omega)
  have l4 := itoa_10 hs.n1 hs.n2
  have IR : Hid (∀ X : World, Calls Tryz.prog 35 #[.int .i64 r] X fun e w' => e = .returned (.string ⟨([32, 114] ++ Lib.itoa r).toArray⟩) ∧ Below X.heap.size X w') := fun X => l16R_any r (by have := hs.r1; have := hs.r2; omega) X
  have IA : Hid (∀ X : World, Calls Tryz.prog 35 #[.int .i64 a] X fun e w' => e = .returned (.string ⟨([32, 114] ++ Lib.itoa a).toArray⟩) ∧ Below X.heap.size X w') := fun X => l16R_any a (by have := hs.a1; have := hs.a2; omega) X
  have IB : Hid (∀ X : World, Calls Tryz.prog 35 #[.int .i64 b] X fun e w' => e = .returned (.string ⟨([32, 114] ++ Lib.itoa b).toArray⟩) ∧ Below X.heap.size X w') := fun X => l16R_any b (by have := hs.b1; have := hs.b2; omega) X
  have IN : Hid (∀ X : World, Calls Tryz.prog 36 #[.int .i64 n] X fun e w' => e = .returned (.string ⟨(Lib.itoa n).toArray⟩) ∧ Below X.heap.size X w') := fun X => l2Digits_any n (by have := hs.n1; omega) (by have := hs.n2; omega) X
  have q1 : ([32, 114] ++ Lib.itoa r).length ≤ 22 := by simp; omega
  have q2 : ([32, 114] ++ Lib.itoa a).length ≤ 22 := by simp; omega
  have q3 : ([32, 114] ++ Lib.itoa b).length ≤ 22 := by simp; omega
  have V := hidT h
  have an := addS [32] (Lib.itoa n) (by simp; omega)
  have q4 : ([32] ++ Lib.itoa n).length ≤ 21 := by simp; omega
  clear l1 l2 l3 hs h
  generalize [32, 114] ++ Lib.itoa r = tr at HT IR q1
  generalize [32, 114] ++ Lib.itoa a = ta at HT IA q2
  generalize [32, 114] ++ Lib.itoa b = tb at HT IB q3
  generalize hn : [32] ++ Lib.itoa n = tn at HT an q4
  clear hn
  generalize Lib.itoa n = tm at IN an l4
  have a0 := addS ([97, 100, 100]) tr (by simp; omega)
  have a1 := addS ([97, 100, 100] ++ tr) ta (by simp; omega)
  have a2 := addS ([97, 100, 100] ++ tr ++ ta) tb (by simp; omega)
  obtain ⟨v0, h0⟩ : ∃ v, [97, 100, 100] ++ tr = v := ⟨_, rfl⟩
  rw [h0] at a0 a1 a2 HT
  obtain ⟨v1, h1⟩ : ∃ v, v0 ++ ta = v := ⟨_, rfl⟩
  rw [h1] at a1 a2 HT
  obtain ⟨v2, h2⟩ : ∃ v, v1 ++ tb = v := ⟨_, rfl⟩
  rw [h2] at a2 HT
  clear h0 h1 h2
  obtain ⟨W, hW⟩ : ∃ W, w.alloc (.cells #[.int .i64 2, .int .i64 r, .int .i64 a, .int .i64 b, .int .i64 n] 25) = W := ⟨_, rfl⟩
  have kW : Below w.heap.size w W := by subst hW; exact (Below.refl _ _).alloc (Nat.le_refl _) _
  have sW : w.heap.size < W.heap.size := by subst hW; simp
  have x0 : W.cell? ⟨w.heap.size, 0, none⟩ = some (.int .i64 2) := by subst hW; simp [go_sem]
  have x1 : W.cell? ⟨w.heap.size, 1, none⟩ = some (.int .i64 r) := by subst hW; simp [go_sem]
  have x2 : W.cell? ⟨w.heap.size, 2, none⟩ = some (.int .i64 a) := by subst hW; simp [go_sem]
  have x3 : W.cell? ⟨w.heap.size, 3, none⟩ = some (.int .i64 b) := by subst hW; simp [go_sem]
  have x4 : W.cell? ⟨w.heap.size, 4, none⟩ = some (.int .i64 n) := by subst hW; simp [go_sem]
  have KW := hidT kW
  clear kW
  go_enter Tryz.func13, Tryz.ntmps13
  go_wp2_with fail
  try rw [hW]
  clear hW
  refine (specStepOk_is 2 r a b n 800 true W V.out).mono ?_
  rintro e w1 ⟨rfl, hb1⟩
  have z0 := (hb1.cell (p := ⟨w.heap.size, 0, none⟩) sW).trans x0
  have z1 := (hb1.cell (p := ⟨w.heap.size, 1, none⟩) sW).trans x1
  have z2 := (hb1.cell (p := ⟨w.heap.size, 2, none⟩) sW).trans x2
  have z3 := (hb1.cell (p := ⟨w.heap.size, 3, none⟩) sW).trans x3
  have z4 := (hb1.cell (p := ⟨w.heap.size, 4, none⟩) sW).trans x4
  have s1 : w.heap.size < w1.heap.size := by have := hb1.size; omega
  have K1 := hidT (KW.out.trans (hb1.mono (Nat.le_of_lt sW)))
  clear hb1 x0 x1 x2 x3 x4
  have hne := ext_ne w1
  have u1 := Ext.fit z1 s1
  have u2 := Ext.fit z2 s1
  have u3 := Ext.fit z3 s1
  have u4 := Ext.fit z4 s1
  go_wp2_with fail
  refine regionExt w1 (by kernel_rfl) (by kernel_rfl) ?_
  repeat (go_big_quiet_step (first | (rename_i X; go_at_call 36; (with_reducible refine Calls.mono (IN.out _) ?_); rintro e w3 ⟨rfl, hb3⟩; exact ⟨rfl, X.on hb3⟩) | (rename_i X; go_at_call 35; (first | (with_reducible refine Calls.mono (IR.out _) ?_) | (with_reducible refine Calls.mono (IA.out _) ?_) | (with_reducible refine Calls.mono (IB.out _) ?_)); rintro e w3 ⟨rfl, hb3⟩; exact ⟨rfl, X.on hb3⟩) | fail))
  refine wpQuiet_nil ?_
  rintro w3 ⟨X3, rfl⟩
  have KU := hidT (K1.out.trans (X3.b.mono (Nat.le_of_lt s1)))
  have y0 := Ext.fit z0 s1 X3
  have y1 := u1 X3
  have y2 := u2 X3
  have y3 := u3 X3
  have y4 := u4 X3
  clear hne u1 u2 u3 u4 an
  go_wp2
  go_ret
  exact ⟨by rw [HT.out]; rfl, KU.out⟩

set_option maxHeartbeats 2000000 in
theorem specSt3 (r a b n : Int) (h : Plain.stepB 3 r a b n 800 = true) (w : World) : Calls Tryz.prog 13 #[.agg #[.int .i64 3, .int .i64 r, .int .i64 a, .int .i64 b, .int .i64 n]] w fun e w' => e = .returned (.string ⟨(stT 3 r a b n).toArray⟩) ∧ Below w.heap.size w w' := by
  have HT : Hid (stT 3 r a b n = [115, 117, 98] ++ ([32, 114] ++ Lib.itoa r) ++ ([32, 114] ++ Lib.itoa a) ++ ([32, 114] ++ Lib.itoa b)) := by show _ = _; unfold stT; rw [if_pos h]; simp [maW, maWords, maL, maLets, ltsT, prtT]
  have hs := stOk_of h
  have l1 := itoa_10 (v := r) (by have := hs.r1; omega) (by have := hs.r2; omega)
  have l2 := itoa_10 (v := a) (by have := hs.a1; omega) (by have := hs.a2; omega)
  have l3 := itoa_10 (v := b) (by have := hs.b1; omega) (by have := hs.b2; omega)
  have l4 := itoa_10 hs.n1 hs.n2
  have IR : Hid (∀ X : World, Calls Tryz.prog 35 #[.int .i64 r] X fun e w' => e = .returned (.string ⟨([32, 114] ++ Lib.itoa r).toArray⟩) ∧ Below X.heap.size X w') := fun X => l16R_any r (by have := hs.r1; have := hs.r2; omega) X
  have IA : Hid (∀ X : World, Calls Tryz.prog 35 #[.int .i64 a] X fun e w' => e = .returned (.string ⟨([32, 114] ++ Lib.itoa a).toArray⟩) ∧ Below X.heap.size X w') := fun X => l16R_any a (by have := hs.a1; have := hs.a2; omega) X
  have IB : Hid (∀ X : World, Calls Tryz.prog 35 #[.int .i64 b] X fun e w' => e = .returned (.string ⟨([32, 114] ++ Lib.itoa b).toArray⟩) ∧ Below X.heap.size X w') := fun X => l16R_any b (by have := hs.b1; have := hs.b2; omega) X
  have IN : Hid (∀ X : World, Calls Tryz.prog 36 #[.int .i64 n] X fun e w' => e = .returned (.string ⟨(Lib.itoa n).toArray⟩) ∧ Below X.heap.size X w') := fun X => l2Digits_any n (by have := hs.n1; omega) (by have := hs.n2; omega) X
  have q1 : ([32, 114] ++ Lib.itoa r).length ≤ 22 := by simp; omega
  have q2 : ([32, 114] ++ Lib.itoa a).length ≤ 22 := by simp; omega
  have q3 : ([32, 114] ++ Lib.itoa b).length ≤ 22 := by simp; omega
  have V := hidT h
  have an := addS [32] (Lib.itoa n) (by simp; omega)
  have q4 : ([32] ++ Lib.itoa n).length ≤ 21 := by simp; omega
  clear l1 l2 l3 hs h
  generalize [32, 114] ++ Lib.itoa r = tr at HT IR q1
  generalize [32, 114] ++ Lib.itoa a = ta at HT IA q2
  generalize [32, 114] ++ Lib.itoa b = tb at HT IB q3
  generalize hn : [32] ++ Lib.itoa n = tn at HT an q4
  clear hn
  generalize Lib.itoa n = tm at IN an l4
  have a0 := addS ([115, 117, 98]) tr (by simp; omega)
  have a1 := addS ([115, 117, 98] ++ tr) ta (by simp; omega)
  have a2 := addS ([115, 117, 98] ++ tr ++ ta) tb (by simp; omega)
  obtain ⟨v0, h0⟩ : ∃ v, [115, 117, 98] ++ tr = v := ⟨_, rfl⟩
  rw [h0] at a0 a1 a2 HT
  obtain ⟨v1, h1⟩ : ∃ v, v0 ++ ta = v := ⟨_, rfl⟩
  rw [h1] at a1 a2 HT
  obtain ⟨v2, h2⟩ : ∃ v, v1 ++ tb = v := ⟨_, rfl⟩
  rw [h2] at a2 HT
  clear h0 h1 h2
  obtain ⟨W, hW⟩ : ∃ W, w.alloc (.cells #[.int .i64 3, .int .i64 r, .int .i64 a, .int .i64 b, .int .i64 n] 25) = W := ⟨_, rfl⟩
  have kW : Below w.heap.size w W := by subst hW; exact (Below.refl _ _).alloc (Nat.le_refl _) _
  have sW : w.heap.size < W.heap.size := by subst hW; simp
  have x0 : W.cell? ⟨w.heap.size, 0, none⟩ = some (.int .i64 3) := by subst hW; simp [go_sem]
  have x1 : W.cell? ⟨w.heap.size, 1, none⟩ = some (.int .i64 r) := by subst hW; simp [go_sem]
  have x2 : W.cell? ⟨w.heap.size, 2, none⟩ = some (.int .i64 a) := by subst hW; simp [go_sem]
  have x3 : W.cell? ⟨w.heap.size, 3, none⟩ = some (.int .i64 b) := by subst hW; simp [go_sem]
  have x4 : W.cell? ⟨w.heap.size, 4, none⟩ = some (.int .i64 n) := by subst hW; simp [go_sem]
  have KW := hidT kW
  clear kW
  go_enter Tryz.func13, Tryz.ntmps13
  go_wp2_with fail
  try rw [hW]
  clear hW
  refine (specStepOk_is 3 r a b n 800 true W V.out).mono ?_
  rintro e w1 ⟨rfl, hb1⟩
  have z0 := (hb1.cell (p := ⟨w.heap.size, 0, none⟩) sW).trans x0
  have z1 := (hb1.cell (p := ⟨w.heap.size, 1, none⟩) sW).trans x1
  have z2 := (hb1.cell (p := ⟨w.heap.size, 2, none⟩) sW).trans x2
  have z3 := (hb1.cell (p := ⟨w.heap.size, 3, none⟩) sW).trans x3
  have z4 := (hb1.cell (p := ⟨w.heap.size, 4, none⟩) sW).trans x4
  have s1 : w.heap.size < w1.heap.size := by have := hb1.size; omega
  have K1 := hidT (KW.out.trans (hb1.mono (Nat.le_of_lt sW)))
  clear hb1 x0 x1 x2 x3 x4
  have hne := ext_ne w1
  have u1 := Ext.fit z1 s1
  have u2 := Ext.fit z2 s1
  have u3 := Ext.fit z3 s1
  have u4 := Ext.fit z4 s1
  go_wp2_with fail
  refine regionExt w1 (by kernel_rfl) (by kernel_rfl) ?_
  repeat (go_big_quiet_step (first | (rename_i X; go_at_call 36; (with_reducible refine Calls.mono (IN.out _) ?_); rintro e w3 ⟨rfl, hb3⟩; exact ⟨rfl, X.on hb3⟩) | (rename_i X; go_at_call 35; (first | (with_reducible refine Calls.mono (IR.out _) ?_) | (with_reducible refine Calls.mono (IA.out _) ?_) | (with_reducible refine Calls.mono (IB.out _) ?_)); rintro e w3 ⟨rfl, hb3⟩; exact ⟨rfl, X.on hb3⟩) | fail))
  refine wpQuiet_nil ?_
  rintro w3 ⟨X3, rfl⟩
  have KU := hidT (K1.out.trans (X3.b.mono (Nat.le_of_lt s1)))
  have y0 := Ext.fit z0 s1 X3
  have y1 := u1 X3
  have y2 := u2 X3
  have y3 := u3 X3
  have y4 := u4 X3
  clear hne u1 u2 u3 u4 an
  go_wp2
  go_ret
  exact ⟨by rw [HT.out]; rfl, KU.out⟩

set_option maxHeartbeats 2000000 in
theorem specSt4 (r a b n : Int) (h : Plain.stepB 4 r a b n 800 = true) (w : World) : Calls Tryz.prog 13 #[.agg #[.int .i64 4, .int .i64 r, .int .i64 a, .int .i64 b, .int .i64 n]] w fun e w' => e = .returned (.string ⟨(stT 4 r a b n).toArray⟩) ∧ Below w.heap.size w w' := by
  have HT : Hid (stT 4 r a b n = [108, 101, 115, 115] ++ ([32, 114] ++ Lib.itoa r) ++ ([32, 114] ++ Lib.itoa a) ++ ([32, 114] ++ Lib.itoa b)) := by show _ = _; unfold stT; rw [if_pos h]; simp [maW, maWords, maL, maLets, ltsT, prtT]
  have hs := stOk_of h
  have l1 := itoa_10 (v := r) (by have := hs.r1; omega) (by have := hs.r2; omega)
  have l2 := itoa_10 (v := a) (by have := hs.a1; omega) (by have := hs.a2; omega)
  have l3 := itoa_10 (v := b) (by have := hs.b1; omega) (by have := hs.b2; omega)
  have l4 := itoa_10 hs.n1 hs.n2
  have IR : Hid (∀ X : World, Calls Tryz.prog 35 #[.int .i64 r] X fun e w' => e = .returned (.string ⟨([32, 114] ++ Lib.itoa r).toArray⟩) ∧ Below X.heap.size X w') := fun X => l16R_any r (by have := hs.r1; have := hs.r2; omega) X
  have IA : Hid (∀ X : World, Calls Tryz.prog 35 #[.int .i64 a] X fun e w' => e = .returned (.string ⟨([32, 114] ++ Lib.itoa a).toArray⟩) ∧ Below X.heap.size X w') := fun X => l16R_any a (by have := hs.a1; have := hs.a2; omega) X
  have IB : Hid (∀ X : World, Calls Tryz.prog 35 #[.int .i64 b] X fun e w' => e = .returned (.string ⟨([32, 114] ++ Lib.itoa b).toArray⟩) ∧ Below X.heap.size X w') := fun X => l16R_any b (by have := hs.b1; have := hs.b2; omega) X
  have IN : Hid (∀ X : World, Calls Tryz.prog 36 #[.int .i64 n] X fun e w' => e = .returned (.string ⟨(Lib.itoa n).toArray⟩) ∧ Below X.heap.size X w') := fun X => l2Digits_any n (by have := hs.n1; omega) (by have := hs.n2; omega) X
  have q1 : ([32, 114] ++ Lib.itoa r).length ≤ 22 := by simp; omega
  have q2 : ([32, 114] ++ Lib.itoa a).length ≤ 22 := by simp; omega
  have q3 : ([32, 114] ++ Lib.itoa b).length ≤ 22 := by simp; omega
  have V := hidT h
  have an := addS [32] (Lib.itoa n) (by simp; omega)
  have q4 : ([32] ++ Lib.itoa n).length ≤ 21 := by simp; omega
  clear l1 l2 l3 hs h
  generalize [32, 114] ++ Lib.itoa r = tr at HT IR q1
  generalize [32, 114] ++ Lib.itoa a = ta at HT IA q2
  generalize [32, 114] ++ Lib.itoa b = tb at HT IB q3
  generalize hn : [32] ++ Lib.itoa n = tn at HT an q4
  clear hn
  generalize Lib.itoa n = tm at IN an l4
  have a0 := addS ([108, 101, 115, 115]) tr (by simp; omega)
  have a1 := addS ([108, 101, 115, 115] ++ tr) ta (by simp; omega)
  have a2 := addS ([108, 101, 115, 115] ++ tr ++ ta) tb (by simp; omega)
  obtain ⟨v0, h0⟩ : ∃ v, [108, 101, 115, 115] ++ tr = v := ⟨_, rfl⟩
  rw [h0] at a0 a1 a2 HT
  obtain ⟨v1, h1⟩ : ∃ v, v0 ++ ta = v := ⟨_, rfl⟩
  rw [h1] at a1 a2 HT
  obtain ⟨v2, h2⟩ : ∃ v, v1 ++ tb = v := ⟨_, rfl⟩
  rw [h2] at a2 HT
  clear h0 h1 h2
  obtain ⟨W, hW⟩ : ∃ W, w.alloc (.cells #[.int .i64 4, .int .i64 r, .int .i64 a, .int .i64 b, .int .i64 n] 25) = W := ⟨_, rfl⟩
  have kW : Below w.heap.size w W := by subst hW; exact (Below.refl _ _).alloc (Nat.le_refl _) _
  have sW : w.heap.size < W.heap.size := by subst hW; simp
  have x0 : W.cell? ⟨w.heap.size, 0, none⟩ = some (.int .i64 4) := by subst hW; simp [go_sem]
  have x1 : W.cell? ⟨w.heap.size, 1, none⟩ = some (.int .i64 r) := by subst hW; simp [go_sem]
  have x2 : W.cell? ⟨w.heap.size, 2, none⟩ = some (.int .i64 a) := by subst hW; simp [go_sem]
  have x3 : W.cell? ⟨w.heap.size, 3, none⟩ = some (.int .i64 b) := by subst hW; simp [go_sem]
  have x4 : W.cell? ⟨w.heap.size, 4, none⟩ = some (.int .i64 n) := by subst hW; simp [go_sem]
  have KW := hidT kW
  clear kW
  go_enter Tryz.func13, Tryz.ntmps13
  go_wp2_with fail
  try rw [hW]
  clear hW
  refine (specStepOk_is 4 r a b n 800 true W V.out).mono ?_
  rintro e w1 ⟨rfl, hb1⟩
  have z0 := (hb1.cell (p := ⟨w.heap.size, 0, none⟩) sW).trans x0
  have z1 := (hb1.cell (p := ⟨w.heap.size, 1, none⟩) sW).trans x1
  have z2 := (hb1.cell (p := ⟨w.heap.size, 2, none⟩) sW).trans x2
  have z3 := (hb1.cell (p := ⟨w.heap.size, 3, none⟩) sW).trans x3
  have z4 := (hb1.cell (p := ⟨w.heap.size, 4, none⟩) sW).trans x4
  have s1 : w.heap.size < w1.heap.size := by have := hb1.size; omega
  have K1 := hidT (KW.out.trans (hb1.mono (Nat.le_of_lt sW)))
  clear hb1 x0 x1 x2 x3 x4
  have hne := ext_ne w1
  have u1 := Ext.fit z1 s1
  have u2 := Ext.fit z2 s1
  have u3 := Ext.fit z3 s1
  have u4 := Ext.fit z4 s1
  go_wp2_with fail
  refine regionExt w1 (by kernel_rfl) (by kernel_rfl) ?_
  repeat (go_big_quiet_step (first | (rename_i X; go_at_call 36; (with_reducible refine Calls.mono (IN.out _) ?_); rintro e w3 ⟨rfl, hb3⟩; exact ⟨rfl, X.on hb3⟩) | (rename_i X; go_at_call 35; (first | (with_reducible refine Calls.mono (IR.out _) ?_) | (with_reducible refine Calls.mono (IA.out _) ?_) | (with_reducible refine Calls.mono (IB.out _) ?_)); rintro e w3 ⟨rfl, hb3⟩; exact ⟨rfl, X.on hb3⟩) | fail))
  refine wpQuiet_nil ?_
  rintro w3 ⟨X3, rfl⟩
  have KU := hidT (K1.out.trans (X3.b.mono (Nat.le_of_lt s1)))
  have y0 := Ext.fit z0 s1 X3
  have y1 := u1 X3
  have y2 := u2 X3
  have y3 := u3 X3
  have y4 := u4 X3
  clear hne u1 u2 u3 u4 an
  go_wp2
  go_ret
  exact ⟨by rw [HT.out]; rfl, KU.out⟩

set_option maxHeartbeats 2000000 in
theorem specSt5 (r a b n : Int) (h : Plain.stepB 5 r a b n 800 = true) (w : World) : Calls Tryz.prog 13 #[.agg #[.int .i64 5, .int .i64 r, .int .i64 a, .int .i64 b, .int .i64 n]] w fun e w' => e = .returned (.string ⟨(stT 5 r a b n).toArray⟩) ∧ Below w.heap.size w w' := by
  have HT : Hid (stT 5 r a b n = [108, 111, 97, 100] ++ ([32, 114] ++ Lib.itoa r) ++ ((32 :: cellT 5 a n))) := by show _ = _; unfold stT; rw [if_pos h]; simp [maW, maWords, maL, maLets, ltsT, prtT]
  have hs := stOk_of h
  have CL : Hid (∀ X : World, Calls Tryz.prog 37 #[.agg #[.int .i64 5, .int .i64 r, .int .i64 a, .int .i64 b, .int .i64 n]] X fun e w' => e = .returned (.string ⟨(32 :: cellT 5 a n).toArray⟩) ∧ Below X.heap.size X w') := fun X => l16Cell_any 5 r a b n hs (by omega) X
  have lc : (32 :: cellT 5 a n : List UInt8).length ≤ 45 := by have := cellT_len (o := 5) ⟨hs.n1, hs.n2⟩ ⟨by have := hs.a1; omega, hs.a2⟩; simp; omega
  have l1 := itoa_10 (v := r) (by have := hs.r1; omega) (by have := hs.r2; omega)
  have l2 := itoa_10 (v := a) (by have := hs.a1; omega) (by have := hs.a2; omega)
  have l3 := itoa_10 (v := b) (by have := hs.b1; omega) (by have := hs.b2; omega)
  have l4 := itoa_10 hs.n1 hs.n2
  have IR : Hid (∀ X : World, Calls Tryz.prog 35 #[.int .i64 r] X fun e w' => e = .returned (.string ⟨([32, 114] ++ Lib.itoa r).toArray⟩) ∧ Below X.heap.size X w') := fun X => l16R_any r (by have := hs.r1; have := hs.r2; omega) X
  have IA : Hid (∀ X : World, Calls Tryz.prog 35 #[.int .i64 a] X fun e w' => e = .returned (.string ⟨([32, 114] ++ Lib.itoa a).toArray⟩) ∧ Below X.heap.size X w') := fun X => l16R_any a (by have := hs.a1; have := hs.a2; omega) X
  have IB : Hid (∀ X : World, Calls Tryz.prog 35 #[.int .i64 b] X fun e w' => e = .returned (.string ⟨([32, 114] ++ Lib.itoa b).toArray⟩) ∧ Below X.heap.size X w') := fun X => l16R_any b (by have := hs.b1; have := hs.b2; omega) X
  have IN : Hid (∀ X : World, Calls Tryz.prog 36 #[.int .i64 n] X fun e w' => e = .returned (.string ⟨(Lib.itoa n).toArray⟩) ∧ Below X.heap.size X w') := fun X => l2Digits_any n (by have := hs.n1; omega) (by have := hs.n2; omega) X
  have q1 : ([32, 114] ++ Lib.itoa r).length ≤ 22 := by simp; omega
  have q2 : ([32, 114] ++ Lib.itoa a).length ≤ 22 := by simp; omega
  have q3 : ([32, 114] ++ Lib.itoa b).length ≤ 22 := by simp; omega
  have V := hidT h
  have an := addS [32] (Lib.itoa n) (by simp; omega)
  have q4 : ([32] ++ Lib.itoa n).length ≤ 21 := by simp; omega
  clear l1 l2 l3 hs h
  generalize [32, 114] ++ Lib.itoa r = tr at HT IR q1
  generalize [32, 114] ++ Lib.itoa a = ta at HT IA q2
  generalize [32, 114] ++ Lib.itoa b = tb at HT IB q3
  generalize hn : [32] ++ Lib.itoa n = tn at HT an q4
  clear hn
  generalize Lib.itoa n = tm at IN an l4
  generalize (32 :: cellT 5 a n : List UInt8) = tc at HT CL lc
  have a0 := addS ([108, 111, 97, 100]) tr (by simp; omega)
  have a1 := addS ([108, 111, 97, 100] ++ tr) tc (by simp; omega)
  obtain ⟨v0, h0⟩ : ∃ v, [108, 111, 97, 100] ++ tr = v := ⟨_, rfl⟩
  rw [h0] at a0 a1 HT
  obtain ⟨v1, h1⟩ : ∃ v, v0 ++ tc = v := ⟨_, rfl⟩
  rw [h1] at a1 HT
  clear h0 h1
  obtain ⟨W, hW⟩ : ∃ W, w.alloc (.cells #[.int .i64 5, .int .i64 r, .int .i64 a, .int .i64 b, .int .i64 n] 25) = W := ⟨_, rfl⟩
  have kW : Below w.heap.size w W := by subst hW; exact (Below.refl _ _).alloc (Nat.le_refl _) _
  have sW : w.heap.size < W.heap.size := by subst hW; simp
  have x0 : W.cell? ⟨w.heap.size, 0, none⟩ = some (.int .i64 5) := by subst hW; simp [go_sem]
  have x1 : W.cell? ⟨w.heap.size, 1, none⟩ = some (.int .i64 r) := by subst hW; simp [go_sem]
  have x2 : W.cell? ⟨w.heap.size, 2, none⟩ = some (.int .i64 a) := by subst hW; simp [go_sem]
  have x3 : W.cell? ⟨w.heap.size, 3, none⟩ = some (.int .i64 b) := by subst hW; simp [go_sem]
  have x4 : W.cell? ⟨w.heap.size, 4, none⟩ = some (.int .i64 n) := by subst hW; simp [go_sem]
  have KW := hidT kW
  clear kW
  go_enter Tryz.func13, Tryz.ntmps13
  go_wp2_with fail
  try rw [hW]
  clear hW
  refine (specStepOk_is 5 r a b n 800 true W V.out).mono ?_
  rintro e w1 ⟨rfl, hb1⟩
  have z0 := (hb1.cell (p := ⟨w.heap.size, 0, none⟩) sW).trans x0
  have z1 := (hb1.cell (p := ⟨w.heap.size, 1, none⟩) sW).trans x1
  have z2 := (hb1.cell (p := ⟨w.heap.size, 2, none⟩) sW).trans x2
  have z3 := (hb1.cell (p := ⟨w.heap.size, 3, none⟩) sW).trans x3
  have z4 := (hb1.cell (p := ⟨w.heap.size, 4, none⟩) sW).trans x4
  have s1 : w.heap.size < w1.heap.size := by have := hb1.size; omega
  have K1 := hidT (KW.out.trans (hb1.mono (Nat.le_of_lt sW)))
  clear hb1 x0 x1 x2 x3 x4
  have hne := ext_ne w1
  have u1 := Ext.fit z1 s1
  have u2 := Ext.fit z2 s1
  have u3 := Ext.fit z3 s1
  have u4 := Ext.fit z4 s1
  go_wp2_with fail
  refine regionExt w1 (by kernel_rfl) (by kernel_rfl) ?_
  repeat (go_big_quiet_step (first | (rename_i X; go_at_call 36; (with_reducible refine Calls.mono (IN.out _) ?_); rintro e w3 ⟨rfl, hb3⟩; exact ⟨rfl, X.on hb3⟩) | (rename_i X; go_at_call 35; (first | (with_reducible refine Calls.mono (IR.out _) ?_) | (with_reducible refine Calls.mono (IA.out _) ?_) | (with_reducible refine Calls.mono (IB.out _) ?_)); rintro e w3 ⟨rfl, hb3⟩; exact ⟨rfl, X.on hb3⟩) | fail))
  refine wpQuiet_nil ?_
  rintro w3 ⟨X3, rfl⟩
  have KU := hidT (K1.out.trans (X3.b.mono (Nat.le_of_lt s1)))
  have y0 := Ext.fit z0 s1 X3
  have y1 := u1 X3
  have y2 := u2 X3
  have y3 := u3 X3
  have y4 := u4 X3
  clear hne u1 u2 u3 u4 an
  have s3 : w.heap.size < X3.w.heap.size := Nat.lt_of_lt_of_le s1 X3.b.size
  obtain ⟨Y, hY⟩ : ∃ Y, X3.w = Y := ⟨_, rfl⟩
  rw [hY] at KU y0 y1 y2 y3 y4 s3 ⊢
  clear hY X3
  go_wp2_with (go_at_call 37; refine Calls.mono (CL.out _) ?_; rintro e w4 ⟨rfl, hb4⟩; have K4 := hidT (KU.out.trans (hb4.mono (Nat.le_of_lt s3))); clear hb4)
  go_ret
  exact ⟨by rw [HT.out]; rfl, K4.out⟩

set_option maxHeartbeats 2000000 in
theorem specSt6 (r a b n : Int) (h : Plain.stepB 6 r a b n 800 = true) (w : World) : Calls Tryz.prog 13 #[.agg #[.int .i64 6, .int .i64 r, .int .i64 a, .int .i64 b, .int .i64 n]] w fun e w' => e = .returned (.string ⟨(stT 6 r a b n).toArray⟩) ∧ Below w.heap.size w w' := by
  have HT : Hid (stT 6 r a b n = [115, 116, 111, 114, 101] ++ ((32 :: cellT 6 a n)) ++ ([32, 114] ++ Lib.itoa b)) := by show _ = _; unfold stT; rw [if_pos h]; simp [maW, maWords, maL, maLets, ltsT, prtT]
  have hs := stOk_of h
  have CL : Hid (∀ X : World, Calls Tryz.prog 37 #[.agg #[.int .i64 6, .int .i64 r, .int .i64 a, .int .i64 b, .int .i64 n]] X fun e w' => e = .returned (.string ⟨(32 :: cellT 6 a n).toArray⟩) ∧ Below X.heap.size X w') := fun X => l16Cell_any 6 r a b n hs (by omega) X
  have lc : (32 :: cellT 6 a n : List UInt8).length ≤ 45 := by have := cellT_len (o := 6) ⟨hs.n1, hs.n2⟩ ⟨by have := hs.a1; omega, hs.a2⟩; simp; omega
  have l1 := itoa_10 (v := r) (by have := hs.r1; omega) (by have := hs.r2; omega)
  have l2 := itoa_10 (v := a) (by have := hs.a1; omega) (by have := hs.a2; omega)
  have l3 := itoa_10 (v := b) (by have := hs.b1; omega) (by have := hs.b2; omega)
  have l4 := itoa_10 hs.n1 hs.n2
  have IR : Hid (∀ X : World, Calls Tryz.prog 35 #[.int .i64 r] X fun e w' => e = .returned (.string ⟨([32, 114] ++ Lib.itoa r).toArray⟩) ∧ Below X.heap.size X w') := fun X => l16R_any r (by have := hs.r1; have := hs.r2; omega) X
  have IA : Hid (∀ X : World, Calls Tryz.prog 35 #[.int .i64 a] X fun e w' => e = .returned (.string ⟨([32, 114] ++ Lib.itoa a).toArray⟩) ∧ Below X.heap.size X w') := fun X => l16R_any a (by have := hs.a1; have := hs.a2; omega) X
  have IB : Hid (∀ X : World, Calls Tryz.prog 35 #[.int .i64 b] X fun e w' => e = .returned (.string ⟨([32, 114] ++ Lib.itoa b).toArray⟩) ∧ Below X.heap.size X w') := fun X => l16R_any b (by have := hs.b1; have := hs.b2; omega) X
  have IN : Hid (∀ X : World, Calls Tryz.prog 36 #[.int .i64 n] X fun e w' => e = .returned (.string ⟨(Lib.itoa n).toArray⟩) ∧ Below X.heap.size X w') := fun X => l2Digits_any n (by have := hs.n1; omega) (by have := hs.n2; omega) X
  have q1 : ([32, 114] ++ Lib.itoa r).length ≤ 22 := by simp; omega
  have q2 : ([32, 114] ++ Lib.itoa a).length ≤ 22 := by simp; omega
  have q3 : ([32, 114] ++ Lib.itoa b).length ≤ 22 := by simp; omega
  have V := hidT h
  have an := addS [32] (Lib.itoa n) (by simp; omega)
  have q4 : ([32] ++ Lib.itoa n).length ≤ 21 := by simp; omega
  clear l1 l2 l3 hs h
  generalize [32, 114] ++ Lib.itoa r = tr at HT IR q1
  generalize [32, 114] ++ Lib.itoa a = ta at HT IA q2
  generalize [32, 114] ++ Lib.itoa b = tb at HT IB q3
  generalize hn : [32] ++ Lib.itoa n = tn at HT an q4
  clear hn
  generalize Lib.itoa n = tm at IN an l4
  generalize (32 :: cellT 6 a n : List UInt8) = tc at HT CL lc
  have a0 := addS ([115, 116, 111, 114, 101]) tc (by simp; omega)
  have a1 := addS ([115, 116, 111, 114, 101] ++ tc) tb (by simp; omega)
  obtain ⟨v0, h0⟩ : ∃ v, [115, 116, 111, 114, 101] ++ tc = v := ⟨_, rfl⟩
  rw [h0] at a0 a1 HT
  obtain ⟨v1, h1⟩ : ∃ v, v0 ++ tb = v := ⟨_, rfl⟩
  rw [h1] at a1 HT
  clear h0 h1
  obtain ⟨W, hW⟩ : ∃ W, w.alloc (.cells #[.int .i64 6, .int .i64 r, .int .i64 a, .int .i64 b, .int .i64 n] 25) = W := ⟨_, rfl⟩
  have kW : Below w.heap.size w W := by subst hW; exact (Below.refl _ _).alloc (Nat.le_refl _) _
  have sW : w.heap.size < W.heap.size := by subst hW; simp
  have x0 : W.cell? ⟨w.heap.size, 0, none⟩ = some (.int .i64 6) := by subst hW; simp [go_sem]
  have x1 : W.cell? ⟨w.heap.size, 1, none⟩ = some (.int .i64 r) := by subst hW; simp [go_sem]
  have x2 : W.cell? ⟨w.heap.size, 2, none⟩ = some (.int .i64 a) := by subst hW; simp [go_sem]
  have x3 : W.cell? ⟨w.heap.size, 3, none⟩ = some (.int .i64 b) := by subst hW; simp [go_sem]
  have x4 : W.cell? ⟨w.heap.size, 4, none⟩ = some (.int .i64 n) := by subst hW; simp [go_sem]
  have KW := hidT kW
  clear kW
  go_enter Tryz.func13, Tryz.ntmps13
  go_wp2_with fail
  try rw [hW]
  clear hW
  refine (specStepOk_is 6 r a b n 800 true W V.out).mono ?_
  rintro e w1 ⟨rfl, hb1⟩
  have z0 := (hb1.cell (p := ⟨w.heap.size, 0, none⟩) sW).trans x0
  have z1 := (hb1.cell (p := ⟨w.heap.size, 1, none⟩) sW).trans x1
  have z2 := (hb1.cell (p := ⟨w.heap.size, 2, none⟩) sW).trans x2
  have z3 := (hb1.cell (p := ⟨w.heap.size, 3, none⟩) sW).trans x3
  have z4 := (hb1.cell (p := ⟨w.heap.size, 4, none⟩) sW).trans x4
  have s1 : w.heap.size < w1.heap.size := by have := hb1.size; omega
  have K1 := hidT (KW.out.trans (hb1.mono (Nat.le_of_lt sW)))
  clear hb1 x0 x1 x2 x3 x4
  have hne := ext_ne w1
  have u1 := Ext.fit z1 s1
  have u2 := Ext.fit z2 s1
  have u3 := Ext.fit z3 s1
  have u4 := Ext.fit z4 s1
  go_wp2_with fail
  refine regionExt w1 (by kernel_rfl) (by kernel_rfl) ?_
  repeat (go_big_quiet_step (first | (rename_i X; go_at_call 36; (with_reducible refine Calls.mono (IN.out _) ?_); rintro e w3 ⟨rfl, hb3⟩; exact ⟨rfl, X.on hb3⟩) | (rename_i X; go_at_call 35; (first | (with_reducible refine Calls.mono (IR.out _) ?_) | (with_reducible refine Calls.mono (IA.out _) ?_) | (with_reducible refine Calls.mono (IB.out _) ?_)); rintro e w3 ⟨rfl, hb3⟩; exact ⟨rfl, X.on hb3⟩) | fail))
  refine wpQuiet_nil ?_
  rintro w3 ⟨X3, rfl⟩
  have KU := hidT (K1.out.trans (X3.b.mono (Nat.le_of_lt s1)))
  have y0 := Ext.fit z0 s1 X3
  have y1 := u1 X3
  have y2 := u2 X3
  have y3 := u3 X3
  have y4 := u4 X3
  clear hne u1 u2 u3 u4 an
  have s3 : w.heap.size < X3.w.heap.size := Nat.lt_of_lt_of_le s1 X3.b.size
  obtain ⟨Y, hY⟩ : ∃ Y, X3.w = Y := ⟨_, rfl⟩
  rw [hY] at KU y0 y1 y2 y3 y4 s3 ⊢
  clear hY X3
  go_wp2_with (go_at_call 37; refine Calls.mono (CL.out _) ?_; rintro e w4 ⟨rfl, hb4⟩; have K4 := hidT (KU.out.trans (hb4.mono (Nat.le_of_lt s3))); clear hb4)
  go_ret
  exact ⟨by rw [HT.out]; rfl, K4.out⟩

set_option maxHeartbeats 2000000 in
theorem specSt7 (r a b n : Int) (h : Plain.stepB 7 r a b n 800 = true) (w : World) : Calls Tryz.prog 13 #[.agg #[.int .i64 7, .int .i64 r, .int .i64 a, .int .i64 b, .int .i64 n]] w fun e w' => e = .returned (.string ⟨(stT 7 r a b n).toArray⟩) ∧ Below w.heap.size w w' := by
  have HT : Hid (stT 7 r a b n = [108, 101, 116] ++ ((32 :: cellT 7 a n)) ++ ([32, 114] ++ Lib.itoa b)) := by show _ = _; unfold stT; rw [if_pos h]; simp [maW, maWords, maL, maLets, ltsT, prtT]
  have hs := stOk_of h
  have CL : Hid (∀ X : World, Calls Tryz.prog 37 #[.agg #[.int .i64 7, .int .i64 r, .int .i64 a, .int .i64 b, .int .i64 n]] X fun e w' => e = .returned (.string ⟨(32 :: cellT 7 a n).toArray⟩) ∧ Below X.heap.size X w') := fun X => l16Cell_any 7 r a b n hs (by omega) X
  have lc : (32 :: cellT 7 a n : List UInt8).length ≤ 45 := by have := cellT_len (o := 7) ⟨hs.n1, hs.n2⟩ ⟨by have := hs.a1; omega, hs.a2⟩; simp; omega
  have l1 := itoa_10 (v := r) (by have := hs.r1; omega) (by have := hs.r2; omega)
  have l2 := itoa_10 (v := a) (by have := hs.a1; omega) (by have := hs.a2; omega)
  have l3 := itoa_10 (v := b) (by have := hs.b1; omega) (by have := hs.b2; omega)
  have l4 := itoa_10 hs.n1 hs.n2
  have IR : Hid (∀ X : World, Calls Tryz.prog 35 #[.int .i64 r] X fun e w' => e = .returned (.string ⟨([32, 114] ++ Lib.itoa r).toArray⟩) ∧ Below X.heap.size X w') := fun X => l16R_any r (by have := hs.r1; have := hs.r2; omega) X
  have IA : Hid (∀ X : World, Calls Tryz.prog 35 #[.int .i64 a] X fun e w' => e = .returned (.string ⟨([32, 114] ++ Lib.itoa a).toArray⟩) ∧ Below X.heap.size X w') := fun X => l16R_any a (by have := hs.a1; have := hs.a2; omega) X
  have IB : Hid (∀ X : World, Calls Tryz.prog 35 #[.int .i64 b] X fun e w' => e = .returned (.string ⟨([32, 114] ++ Lib.itoa b).toArray⟩) ∧ Below X.heap.size X w') := fun X => l16R_any b (by have := hs.b1; have := hs.b2; omega) X
  have IN : Hid (∀ X : World, Calls Tryz.prog 36 #[.int .i64 n] X fun e w' => e = .returned (.string ⟨(Lib.itoa n).toArray⟩) ∧ Below X.heap.size X w') := fun X => l2Digits_any n (by have := hs.n1; omega) (by have := hs.n2; omega) X
  have q1 : ([32, 114] ++ Lib.itoa r).length ≤ 22 := by simp; omega
  have q2 : ([32, 114] ++ Lib.itoa a).length ≤ 22 := by simp; omega
  have q3 : ([32, 114] ++ Lib.itoa b).length ≤ 22 := by simp; omega
  have V := hidT h
  have an := addS [32] (Lib.itoa n) (by simp; omega)
  have q4 : ([32] ++ Lib.itoa n).length ≤ 21 := by simp; omega
  clear l1 l2 l3 hs h
  generalize [32, 114] ++ Lib.itoa r = tr at HT IR q1
  generalize [32, 114] ++ Lib.itoa a = ta at HT IA q2
  generalize [32, 114] ++ Lib.itoa b = tb at HT IB q3
  generalize hn : [32] ++ Lib.itoa n = tn at HT an q4
  clear hn
  generalize Lib.itoa n = tm at IN an l4
  generalize (32 :: cellT 7 a n : List UInt8) = tc at HT CL lc
  have a0 := addS ([108, 101, 116]) tc (by simp; omega)
  have a1 := addS ([108, 101, 116] ++ tc) tb (by simp; omega)
  obtain ⟨v0, h0⟩ : ∃ v, [108, 101, 116] ++ tc = v := ⟨_, rfl⟩
  rw [h0] at a0 a1 HT
  obtain ⟨v1, h1⟩ : ∃ v, v0 ++ tb = v := ⟨_, rfl⟩
  rw [h1] at a1 HT
  clear h0 h1
  obtain ⟨W, hW⟩ : ∃ W, w.alloc (.cells #[.int .i64 7, .int .i64 r, .int .i64 a, .int .i64 b, .int .i64 n] 25) = W := ⟨_, rfl⟩
  have kW : Below w.heap.size w W := by subst hW; exact (Below.refl _ _).alloc (Nat.le_refl _) _
  have sW : w.heap.size < W.heap.size := by subst hW; simp
  have x0 : W.cell? ⟨w.heap.size, 0, none⟩ = some (.int .i64 7) := by subst hW; simp [go_sem]
  have x1 : W.cell? ⟨w.heap.size, 1, none⟩ = some (.int .i64 r) := by subst hW; simp [go_sem]
  have x2 : W.cell? ⟨w.heap.size, 2, none⟩ = some (.int .i64 a) := by subst hW; simp [go_sem]
  have x3 : W.cell? ⟨w.heap.size, 3, none⟩ = some (.int .i64 b) := by subst hW; simp [go_sem]
  have x4 : W.cell? ⟨w.heap.size, 4, none⟩ = some (.int .i64 n) := by subst hW; simp [go_sem]
  have KW := hidT kW
  clear kW
  go_enter Tryz.func13, Tryz.ntmps13
  go_wp2_with fail
  try rw [hW]
  clear hW
  refine (specStepOk_is 7 r a b n 800 true W V.out).mono ?_
  rintro e w1 ⟨rfl, hb1⟩
  have z0 := (hb1.cell (p := ⟨w.heap.size, 0, none⟩) sW).trans x0
  have z1 := (hb1.cell (p := ⟨w.heap.size, 1, none⟩) sW).trans x1
  have z2 := (hb1.cell (p := ⟨w.heap.size, 2, none⟩) sW).trans x2
  have z3 := (hb1.cell (p := ⟨w.heap.size, 3, none⟩) sW).trans x3
  have z4 := (hb1.cell (p := ⟨w.heap.size, 4, none⟩) sW).trans x4
  have s1 : w.heap.size < w1.heap.size := by have := hb1.size; omega
  have K1 := hidT (KW.out.trans (hb1.mono (Nat.le_of_lt sW)))
  clear hb1 x0 x1 x2 x3 x4
  have hne := ext_ne w1
  have u1 := Ext.fit z1 s1
  have u2 := Ext.fit z2 s1
  have u3 := Ext.fit z3 s1
  have u4 := Ext.fit z4 s1
  go_wp2_with fail
  refine regionExt w1 (by kernel_rfl) (by kernel_rfl) ?_
  repeat (go_big_quiet_step (first | (rename_i X; go_at_call 36; (with_reducible refine Calls.mono (IN.out _) ?_); rintro e w3 ⟨rfl, hb3⟩; exact ⟨rfl, X.on hb3⟩) | (rename_i X; go_at_call 35; (first | (with_reducible refine Calls.mono (IR.out _) ?_) | (with_reducible refine Calls.mono (IA.out _) ?_) | (with_reducible refine Calls.mono (IB.out _) ?_)); rintro e w3 ⟨rfl, hb3⟩; exact ⟨rfl, X.on hb3⟩) | fail))
  refine wpQuiet_nil ?_
  rintro w3 ⟨X3, rfl⟩
  have KU := hidT (K1.out.trans (X3.b.mono (Nat.le_of_lt s1)))
  have y0 := Ext.fit z0 s1 X3
  have y1 := u1 X3
  have y2 := u2 X3
  have y3 := u3 X3
  have y4 := u4 X3
  clear hne u1 u2 u3 u4 an
  have s3 : w.heap.size < X3.w.heap.size := Nat.lt_of_lt_of_le s1 X3.b.size
  obtain ⟨Y, hY⟩ : ∃ Y, X3.w = Y := ⟨_, rfl⟩
  rw [hY] at KU y0 y1 y2 y3 y4 s3 ⊢
  clear hY X3
  go_wp2_with (go_at_call 37; refine Calls.mono (CL.out _) ?_; rintro e w4 ⟨rfl, hb4⟩; have K4 := hidT (KU.out.trans (hb4.mono (Nat.le_of_lt s3))); clear hb4)
  go_ret
  exact ⟨by rw [HT.out]; rfl, K4.out⟩

set_option maxHeartbeats 2000000 in
theorem specSt8 (r a b n : Int) (h : Plain.stepB 8 r a b n 800 = true) (w : World) : Calls Tryz.prog 13 #[.agg #[.int .i64 8, .int .i64 r, .int .i64 a, .int .i64 b, .int .i64 n]] w fun e w' => e = .returned (.string ⟨(stT 8 r a b n).toArray⟩) ∧ Below w.heap.size w w' := by
  have HT : Hid (stT 8 r a b n = [115, 119, 97, 112] ++ ([32, 114] ++ Lib.itoa r) ++ ((32 :: cellT 8 a n)) ++ ([32, 114] ++ Lib.itoa b)) := by show _ = _; unfold stT; rw [if_pos h]; simp [maW, maWords, maL, maLets, ltsT, prtT]
  have hs := stOk_of h
  have CL : Hid (∀ X : World, Calls Tryz.prog 37 #[.agg #[.int .i64 8, .int .i64 r, .int .i64 a, .int .i64 b, .int .i64 n]] X fun e w' => e = .returned (.string ⟨(32 :: cellT 8 a n).toArray⟩) ∧ Below X.heap.size X w') := fun X => l16Cell_any 8 r a b n hs (by omega) X
  have lc : (32 :: cellT 8 a n : List UInt8).length ≤ 45 := by have := cellT_len (o := 8) ⟨hs.n1, hs.n2⟩ ⟨by have := hs.a1; omega, hs.a2⟩; simp; omega
  have l1 := itoa_10 (v := r) (by have := hs.r1; omega) (by have := hs.r2; omega)
  have l2 := itoa_10 (v := a) (by have := hs.a1; omega) (by have := hs.a2; omega)
  have l3 := itoa_10 (v := b) (by have := hs.b1; omega) (by have := hs.b2; omega)
  have l4 := itoa_10 hs.n1 hs.n2
  have IR : Hid (∀ X : World, Calls Tryz.prog 35 #[.int .i64 r] X fun e w' => e = .returned (.string ⟨([32, 114] ++ Lib.itoa r).toArray⟩) ∧ Below X.heap.size X w') := fun X => l16R_any r (by have := hs.r1; have := hs.r2; omega) X
  have IA : Hid (∀ X : World, Calls Tryz.prog 35 #[.int .i64 a] X fun e w' => e = .returned (.string ⟨([32, 114] ++ Lib.itoa a).toArray⟩) ∧ Below X.heap.size X w') := fun X => l16R_any a (by have := hs.a1; have := hs.a2; omega) X
  have IB : Hid (∀ X : World, Calls Tryz.prog 35 #[.int .i64 b] X fun e w' => e = .returned (.string ⟨([32, 114] ++ Lib.itoa b).toArray⟩) ∧ Below X.heap.size X w') := fun X => l16R_any b (by have := hs.b1; have := hs.b2; omega) X
  have IN : Hid (∀ X : World, Calls Tryz.prog 36 #[.int .i64 n] X fun e w' => e = .returned (.string ⟨(Lib.itoa n).toArray⟩) ∧ Below X.heap.size X w') := fun X => l2Digits_any n (by have := hs.n1; omega) (by have := hs.n2; omega) X
  have q1 : ([32, 114] ++ Lib.itoa r).length ≤ 22 := by simp; omega
  have q2 : ([32, 114] ++ Lib.itoa a).length ≤ 22 := by simp; omega
  have q3 : ([32, 114] ++ Lib.itoa b).length ≤ 22 := by simp; omega
  have V := hidT h
  have an := addS [32] (Lib.itoa n) (by simp; omega)
  have q4 : ([32] ++ Lib.itoa n).length ≤ 21 := by simp; omega
  clear l1 l2 l3 hs h
  generalize [32, 114] ++ Lib.itoa r = tr at HT IR q1
  generalize [32, 114] ++ Lib.itoa a = ta at HT IA q2
  generalize [32, 114] ++ Lib.itoa b = tb at HT IB q3
  generalize hn : [32] ++ Lib.itoa n = tn at HT an q4
  clear hn
  generalize Lib.itoa n = tm at IN an l4
  generalize (32 :: cellT 8 a n : List UInt8) = tc at HT CL lc
  have a0 := addS ([115, 119, 97, 112]) tr (by simp; omega)
  have a1 := addS ([115, 119, 97, 112] ++ tr) tc (by simp; omega)
  have a2 := addS ([115, 119, 97, 112] ++ tr ++ tc) tb (by simp; omega)
  obtain ⟨v0, h0⟩ : ∃ v, [115, 119, 97, 112] ++ tr = v := ⟨_, rfl⟩
  rw [h0] at a0 a1 a2 HT
  obtain ⟨v1, h1⟩ : ∃ v, v0 ++ tc = v := ⟨_, rfl⟩
  rw [h1] at a1 a2 HT
  obtain ⟨v2, h2⟩ : ∃ v, v1 ++ tb = v := ⟨_, rfl⟩
  rw [h2] at a2 HT
  clear h0 h1 h2
  obtain ⟨W, hW⟩ : ∃ W, w.alloc (.cells #[.int .i64 8, .int .i64 r, .int .i64 a, .int .i64 b, .int .i64 n] 25) = W := ⟨_, rfl⟩
  have kW : Below w.heap.size w W := by subst hW; exact (Below.refl _ _).alloc (Nat.le_refl _) _
  have sW : w.heap.size < W.heap.size := by subst hW; simp
  have x0 : W.cell? ⟨w.heap.size, 0, none⟩ = some (.int .i64 8) := by subst hW; simp [go_sem]
  have x1 : W.cell? ⟨w.heap.size, 1, none⟩ = some (.int .i64 r) := by subst hW; simp [go_sem]
  have x2 : W.cell? ⟨w.heap.size, 2, none⟩ = some (.int .i64 a) := by subst hW; simp [go_sem]
  have x3 : W.cell? ⟨w.heap.size, 3, none⟩ = some (.int .i64 b) := by subst hW; simp [go_sem]
  have x4 : W.cell? ⟨w.heap.size, 4, none⟩ = some (.int .i64 n) := by subst hW; simp [go_sem]
  have KW := hidT kW
  clear kW
  go_enter Tryz.func13, Tryz.ntmps13
  go_wp2_with fail
  try rw [hW]
  clear hW
  refine (specStepOk_is 8 r a b n 800 true W V.out).mono ?_
  rintro e w1 ⟨rfl, hb1⟩
  have z0 := (hb1.cell (p := ⟨w.heap.size, 0, none⟩) sW).trans x0
  have z1 := (hb1.cell (p := ⟨w.heap.size, 1, none⟩) sW).trans x1
  have z2 := (hb1.cell (p := ⟨w.heap.size, 2, none⟩) sW).trans x2
  have z3 := (hb1.cell (p := ⟨w.heap.size, 3, none⟩) sW).trans x3
  have z4 := (hb1.cell (p := ⟨w.heap.size, 4, none⟩) sW).trans x4
  have s1 : w.heap.size < w1.heap.size := by have := hb1.size; omega
  have K1 := hidT (KW.out.trans (hb1.mono (Nat.le_of_lt sW)))
  clear hb1 x0 x1 x2 x3 x4
  have hne := ext_ne w1
  have u1 := Ext.fit z1 s1
  have u2 := Ext.fit z2 s1
  have u3 := Ext.fit z3 s1
  have u4 := Ext.fit z4 s1
  go_wp2_with fail
  refine regionExt w1 (by kernel_rfl) (by kernel_rfl) ?_
  repeat (go_big_quiet_step (first | (rename_i X; go_at_call 36; (with_reducible refine Calls.mono (IN.out _) ?_); rintro e w3 ⟨rfl, hb3⟩; exact ⟨rfl, X.on hb3⟩) | (rename_i X; go_at_call 35; (first | (with_reducible refine Calls.mono (IR.out _) ?_) | (with_reducible refine Calls.mono (IA.out _) ?_) | (with_reducible refine Calls.mono (IB.out _) ?_)); rintro e w3 ⟨rfl, hb3⟩; exact ⟨rfl, X.on hb3⟩) | fail))
  refine wpQuiet_nil ?_
  rintro w3 ⟨X3, rfl⟩
  have KU := hidT (K1.out.trans (X3.b.mono (Nat.le_of_lt s1)))
  have y0 := Ext.fit z0 s1 X3
  have y1 := u1 X3
  have y2 := u2 X3
  have y3 := u3 X3
  have y4 := u4 X3
  clear hne u1 u2 u3 u4 an
  have s3 : w.heap.size < X3.w.heap.size := Nat.lt_of_lt_of_le s1 X3.b.size
  obtain ⟨Y, hY⟩ : ∃ Y, X3.w = Y := ⟨_, rfl⟩
  rw [hY] at KU y0 y1 y2 y3 y4 s3 ⊢
  clear hY X3
  go_wp2_with (go_at_call 37; refine Calls.mono (CL.out _) ?_; rintro e w4 ⟨rfl, hb4⟩; have K4 := hidT (KU.out.trans (hb4.mono (Nat.le_of_lt s3))); clear hb4)
  go_ret
  exact ⟨by rw [HT.out]; rfl, K4.out⟩

set_option maxHeartbeats 2000000 in
theorem specSt9 (r a b n : Int) (h : Plain.stepB 9 r a b n 800 = true) (w : World) : Calls Tryz.prog 13 #[.agg #[.int .i64 9, .int .i64 r, .int .i64 a, .int .i64 b, .int .i64 n]] w fun e w' => e = .returned (.string ⟨(stT 9 r a b n).toArray⟩) ∧ Below w.heap.size w w' := by
  have HT : Hid (stT 9 r a b n = [112, 114, 105, 110, 116] ++ ([32, 114] ++ Lib.itoa a)) := by show _ = _; unfold stT; rw [if_pos h]; simp [maW, maWords, maL, maLets, ltsT, prtT]
  have hs := stOk_of h
  have l1 := itoa_10 (v := r) (by have := hs.r1; omega) (by have := hs.r2; omega)
  have l2 := itoa_10 (v := a) (by have := hs.a1; omega) (by have := hs.a2; omega)
  have l3 := itoa_10 (v := b) (by have := hs.b1; omega) (by have := hs.b2; omega)
  have l4 := itoa_10 hs.n1 hs.n2
  have IR : Hid (∀ X : World, Calls Tryz.prog 35 #[.int .i64 r] X fun e w' => e = .returned (.string ⟨([32, 114] ++ Lib.itoa r).toArray⟩) ∧ Below X.heap.size X w') := fun X => l16R_any r (by have := hs.r1; have := hs.r2; omega) X
  have IA : Hid (∀ X : World, Calls Tryz.prog 35 #[.int .i64 a] X fun e w' => e = .returned (.string ⟨([32, 114] ++ Lib.itoa a).toArray⟩) ∧ Below X.heap.size X w') := fun X => l16R_any a (by have := hs.a1; have := hs.a2; omega) X
  have IB : Hid (∀ X : World, Calls Tryz.prog 35 #[.int .i64 b] X fun e w' => e = .returned (.string ⟨([32, 114] ++ Lib.itoa b).toArray⟩) ∧ Below X.heap.size X w') := fun X => l16R_any b (by have := hs.b1; have := hs.b2; omega) X
  have IN : Hid (∀ X : World, Calls Tryz.prog 36 #[.int .i64 n] X fun e w' => e = .returned (.string ⟨(Lib.itoa n).toArray⟩) ∧ Below X.heap.size X w') := fun X => l2Digits_any n (by have := hs.n1; omega) (by have := hs.n2; omega) X
  have q1 : ([32, 114] ++ Lib.itoa r).length ≤ 22 := by simp; omega
  have q2 : ([32, 114] ++ Lib.itoa a).length ≤ 22 := by simp; omega
  have q3 : ([32, 114] ++ Lib.itoa b).length ≤ 22 := by simp; omega
  have V := hidT h
  have an := addS [32] (Lib.itoa n) (by simp; omega)
  have q4 : ([32] ++ Lib.itoa n).length ≤ 21 := by simp; omega
  clear l1 l2 l3 hs h
  generalize [32, 114] ++ Lib.itoa r = tr at HT IR q1
  generalize [32, 114] ++ Lib.itoa a = ta at HT IA q2
  generalize [32, 114] ++ Lib.itoa b = tb at HT IB q3
  generalize hn : [32] ++ Lib.itoa n = tn at HT an q4
  clear hn
  generalize Lib.itoa n = tm at IN an l4
  have a0 := addS ([112, 114, 105, 110, 116]) ta (by simp; omega)
  obtain ⟨v0, h0⟩ : ∃ v, [112, 114, 105, 110, 116] ++ ta = v := ⟨_, rfl⟩
  rw [h0] at a0 HT
  clear h0
  obtain ⟨W, hW⟩ : ∃ W, w.alloc (.cells #[.int .i64 9, .int .i64 r, .int .i64 a, .int .i64 b, .int .i64 n] 25) = W := ⟨_, rfl⟩
  have kW : Below w.heap.size w W := by subst hW; exact (Below.refl _ _).alloc (Nat.le_refl _) _
  have sW : w.heap.size < W.heap.size := by subst hW; simp
  have x0 : W.cell? ⟨w.heap.size, 0, none⟩ = some (.int .i64 9) := by subst hW; simp [go_sem]
  have x1 : W.cell? ⟨w.heap.size, 1, none⟩ = some (.int .i64 r) := by subst hW; simp [go_sem]
  have x2 : W.cell? ⟨w.heap.size, 2, none⟩ = some (.int .i64 a) := by subst hW; simp [go_sem]
  have x3 : W.cell? ⟨w.heap.size, 3, none⟩ = some (.int .i64 b) := by subst hW; simp [go_sem]
  have x4 : W.cell? ⟨w.heap.size, 4, none⟩ = some (.int .i64 n) := by subst hW; simp [go_sem]
  have KW := hidT kW
  clear kW
  go_enter Tryz.func13, Tryz.ntmps13
  go_wp2_with fail
  try rw [hW]
  clear hW
  refine (specStepOk_is 9 r a b n 800 true W V.out).mono ?_
  rintro e w1 ⟨rfl, hb1⟩
  have z0 := (hb1.cell (p := ⟨w.heap.size, 0, none⟩) sW).trans x0
  have z1 := (hb1.cell (p := ⟨w.heap.size, 1, none⟩) sW).trans x1
  have z2 := (hb1.cell (p := ⟨w.heap.size, 2, none⟩) sW).trans x2
  have z3 := (hb1.cell (p := ⟨w.heap.size, 3, none⟩) sW).trans x3
  have z4 := (hb1.cell (p := ⟨w.heap.size, 4, none⟩) sW).trans x4
  have s1 : w.heap.size < w1.heap.size := by have := hb1.size; omega
  have K1 := hidT (KW.out.trans (hb1.mono (Nat.le_of_lt sW)))
  clear hb1 x0 x1 x2 x3 x4
  have hne := ext_ne w1
  have u1 := Ext.fit z1 s1
  have u2 := Ext.fit z2 s1
  have u3 := Ext.fit z3 s1
  have u4 := Ext.fit z4 s1
  go_wp2_with fail
  refine regionExt w1 (by kernel_rfl) (by kernel_rfl) ?_
  repeat (go_big_quiet_step (first | (rename_i X; go_at_call 36; (with_reducible refine Calls.mono (IN.out _) ?_); rintro e w3 ⟨rfl, hb3⟩; exact ⟨rfl, X.on hb3⟩) | (rename_i X; go_at_call 35; (first | (with_reducible refine Calls.mono (IR.out _) ?_) | (with_reducible refine Calls.mono (IA.out _) ?_) | (with_reducible refine Calls.mono (IB.out _) ?_)); rintro e w3 ⟨rfl, hb3⟩; exact ⟨rfl, X.on hb3⟩) | fail))
  refine wpQuiet_nil ?_
  rintro w3 ⟨X3, rfl⟩
  have KU := hidT (K1.out.trans (X3.b.mono (Nat.le_of_lt s1)))
  have y0 := Ext.fit z0 s1 X3
  have y1 := u1 X3
  have y2 := u2 X3
  have y3 := u3 X3
  have y4 := u4 X3
  clear hne u1 u2 u3 u4 an
  go_wp2
  go_ret
  exact ⟨by rw [HT.out]; rfl, KU.out⟩

set_option maxHeartbeats 2000000 in
theorem specSt10 (r a b n : Int) (h : Plain.stepB 10 r a b n 800 = true) (w : World) : Calls Tryz.prog 13 #[.agg #[.int .i64 10, .int .i64 r, .int .i64 a, .int .i64 b, .int .i64 n]] w fun e w' => e = .returned (.string ⟨(stT 10 r a b n).toArray⟩) ∧ Below w.heap.size w w' := by
  have HT : Hid (stT 10 r a b n = [106, 117, 109, 112] ++ ([32] ++ Lib.itoa n)) := by show _ = _; unfold stT; rw [if_pos h]; simp [maW, maWords, maL, maLets, ltsT, prtT]
  have hs := stOk_of h
  have l1 := itoa_10 (v := r) (by have := hs.r1; omega) (by have := hs.r2; omega)
  have l2 := itoa_10 (v := a) (by have := hs.a1; omega) (by have := hs.a2; omega)
  have l3 := itoa_10 (v := b) (by have := hs.b1; omega) (by have := hs.b2; omega)
  have l4 := itoa_10 hs.n1 hs.n2
  have IR : Hid (∀ X : World, Calls Tryz.prog 35 #[.int .i64 r] X fun e w' => e = .returned (.string ⟨([32, 114] ++ Lib.itoa r).toArray⟩) ∧ Below X.heap.size X w') := fun X => l16R_any r (by have := hs.r1; have := hs.r2; omega) X
  have IA : Hid (∀ X : World, Calls Tryz.prog 35 #[.int .i64 a] X fun e w' => e = .returned (.string ⟨([32, 114] ++ Lib.itoa a).toArray⟩) ∧ Below X.heap.size X w') := fun X => l16R_any a (by have := hs.a1; have := hs.a2; omega) X
  have IB : Hid (∀ X : World, Calls Tryz.prog 35 #[.int .i64 b] X fun e w' => e = .returned (.string ⟨([32, 114] ++ Lib.itoa b).toArray⟩) ∧ Below X.heap.size X w') := fun X => l16R_any b (by have := hs.b1; have := hs.b2; omega) X
  have IN : Hid (∀ X : World, Calls Tryz.prog 36 #[.int .i64 n] X fun e w' => e = .returned (.string ⟨(Lib.itoa n).toArray⟩) ∧ Below X.heap.size X w') := fun X => l2Digits_any n (by have := hs.n1; omega) (by have := hs.n2; omega) X
  have q1 : ([32, 114] ++ Lib.itoa r).length ≤ 22 := by simp; omega
  have q2 : ([32, 114] ++ Lib.itoa a).length ≤ 22 := by simp; omega
  have q3 : ([32, 114] ++ Lib.itoa b).length ≤ 22 := by simp; omega
  have V := hidT h
  have an := addS [32] (Lib.itoa n) (by simp; omega)
  have q4 : ([32] ++ Lib.itoa n).length ≤ 21 := by simp; omega
  clear l1 l2 l3 hs h
  generalize [32, 114] ++ Lib.itoa r = tr at HT IR q1
  generalize [32, 114] ++ Lib.itoa a = ta at HT IA q2
  generalize [32, 114] ++ Lib.itoa b = tb at HT IB q3
  generalize hn : [32] ++ Lib.itoa n = tn at HT an q4
  clear hn
  generalize Lib.itoa n = tm at IN an l4
  have a0 := addS ([106, 117, 109, 112]) tn (by simp; omega)
  obtain ⟨v0, h0⟩ : ∃ v, [106, 117, 109, 112] ++ tn = v := ⟨_, rfl⟩
  rw [h0] at a0 HT
  clear h0
  obtain ⟨W, hW⟩ : ∃ W, w.alloc (.cells #[.int .i64 10, .int .i64 r, .int .i64 a, .int .i64 b, .int .i64 n] 25) = W := ⟨_, rfl⟩
  have kW : Below w.heap.size w W := by subst hW; exact (Below.refl _ _).alloc (Nat.le_refl _) _
  have sW : w.heap.size < W.heap.size := by subst hW; simp
  have x0 : W.cell? ⟨w.heap.size, 0, none⟩ = some (.int .i64 10) := by subst hW; simp [go_sem]
  have x1 : W.cell? ⟨w.heap.size, 1, none⟩ = some (.int .i64 r) := by subst hW; simp [go_sem]
  have x2 : W.cell? ⟨w.heap.size, 2, none⟩ = some (.int .i64 a) := by subst hW; simp [go_sem]
  have x3 : W.cell? ⟨w.heap.size, 3, none⟩ = some (.int .i64 b) := by subst hW; simp [go_sem]
  have x4 : W.cell? ⟨w.heap.size, 4, none⟩ = some (.int .i64 n) := by subst hW; simp [go_sem]
  have KW := hidT kW
  clear kW
  go_enter Tryz.func13, Tryz.ntmps13
  go_wp2_with fail
  try rw [hW]
  clear hW
  refine (specStepOk_is 10 r a b n 800 true W V.out).mono ?_
  rintro e w1 ⟨rfl, hb1⟩
  have z0 := (hb1.cell (p := ⟨w.heap.size, 0, none⟩) sW).trans x0
  have z1 := (hb1.cell (p := ⟨w.heap.size, 1, none⟩) sW).trans x1
  have z2 := (hb1.cell (p := ⟨w.heap.size, 2, none⟩) sW).trans x2
  have z3 := (hb1.cell (p := ⟨w.heap.size, 3, none⟩) sW).trans x3
  have z4 := (hb1.cell (p := ⟨w.heap.size, 4, none⟩) sW).trans x4
  have s1 : w.heap.size < w1.heap.size := by have := hb1.size; omega
  have K1 := hidT (KW.out.trans (hb1.mono (Nat.le_of_lt sW)))
  clear hb1 x0 x1 x2 x3 x4
  have hne := ext_ne w1
  have u1 := Ext.fit z1 s1
  have u2 := Ext.fit z2 s1
  have u3 := Ext.fit z3 s1
  have u4 := Ext.fit z4 s1
  go_wp2_with fail
  refine regionExt w1 (by kernel_rfl) (by kernel_rfl) ?_
  repeat (go_big_quiet_step (first | (rename_i X; go_at_call 36; (with_reducible refine Calls.mono (IN.out _) ?_); rintro e w3 ⟨rfl, hb3⟩; exact ⟨rfl, X.on hb3⟩) | (rename_i X; go_at_call 35; (first | (with_reducible refine Calls.mono (IR.out _) ?_) | (with_reducible refine Calls.mono (IA.out _) ?_) | (with_reducible refine Calls.mono (IB.out _) ?_)); rintro e w3 ⟨rfl, hb3⟩; exact ⟨rfl, X.on hb3⟩) | fail))
  refine wpQuiet_nil ?_
  rintro w3 ⟨X3, rfl⟩
  have KU := hidT (K1.out.trans (X3.b.mono (Nat.le_of_lt s1)))
  have y0 := Ext.fit z0 s1 X3
  have y1 := u1 X3
  have y2 := u2 X3
  have y3 := u3 X3
  have y4 := u4 X3
  clear hne u1 u2 u3 u4 an
  go_wp2
  go_ret
  exact ⟨by rw [HT.out]; rfl, KU.out⟩

set_option maxHeartbeats 2000000 in
theorem specSt11 (r a b n : Int) (h : Plain.stepB 11 r a b n 800 = true) (w : World) : Calls Tryz.prog 13 #[.agg #[.int .i64 11, .int .i64 r, .int .i64 a, .int .i64 b, .int .i64 n]] w fun e w' => e = .returned (.string ⟨(stT 11 r a b n).toArray⟩) ∧ Below w.heap.size w w' := by
  have HT : Hid (stT 11 r a b n = [122, 101, 114, 111] ++ ([32, 114] ++ Lib.itoa a) ++ ([32] ++ Lib.itoa n)) := by show _ = _; unfold stT; rw [if_pos h]; simp [maW, maWords, maL, maLets, ltsT, prtT]
  have hs := stOk_of h
  have l1 := itoa_10 (v := r) (by have := hs.r1; omega) (by have := hs.r2; omega)
  have l2 := itoa_10 (v := a) (by have := hs.a1; omega) (by have := hs.a2; omega)
  have l3 := itoa_10 (v := b) (by have := hs.b1; omega) (by have := hs.b2; omega)
  have l4 := itoa_10 hs.n1 hs.n2
  have IR : Hid (∀ X : World, Calls Tryz.prog 35 #[.int .i64 r] X fun e w' => e = .returned (.string ⟨([32, 114] ++ Lib.itoa r).toArray⟩) ∧ Below X.heap.size X w') := fun X => l16R_any r (by have := hs.r1; have := hs.r2; omega) X
  have IA : Hid (∀ X : World, Calls Tryz.prog 35 #[.int .i64 a] X fun e w' => e = .returned (.string ⟨([32, 114] ++ Lib.itoa a).toArray⟩) ∧ Below X.heap.size X w') := fun X => l16R_any a (by have := hs.a1; have := hs.a2; omega) X
  have IB : Hid (∀ X : World, Calls Tryz.prog 35 #[.int .i64 b] X fun e w' => e = .returned (.string ⟨([32, 114] ++ Lib.itoa b).toArray⟩) ∧ Below X.heap.size X w') := fun X => l16R_any b (by have := hs.b1; have := hs.b2; omega) X
  have IN : Hid (∀ X : World, Calls Tryz.prog 36 #[.int .i64 n] X fun e w' => e = .returned (.string ⟨(Lib.itoa n).toArray⟩) ∧ Below X.heap.size X w') := fun X => l2Digits_any n (by have := hs.n1; omega) (by have := hs.n2; omega) X
  have q1 : ([32, 114] ++ Lib.itoa r).length ≤ 22 := by simp; omega
  have q2 : ([32, 114] ++ Lib.itoa a).length ≤ 22 := by simp; omega
  have q3 : ([32, 114] ++ Lib.itoa b).length ≤ 22 := by simp; omega
  have V := hidT h
  have an := addS [32] (Lib.itoa n) (by simp; omega)
  have q4 : ([32] ++ Lib.itoa n).length ≤ 21 := by simp; omega
  clear l1 l2 l3 hs h
  generalize [32, 114] ++ Lib.itoa r = tr at HT IR q1
  generalize [32, 114] ++ Lib.itoa a = ta at HT IA q2
  generalize [32, 114] ++ Lib.itoa b = tb at HT IB q3
  generalize hn : [32] ++ Lib.itoa n = tn at HT an q4
  clear hn
  generalize Lib.itoa n = tm at IN an l4
  have a0 := addS ([122, 101, 114, 111]) ta (by simp; omega)
  have a1 := addS ([122, 101, 114, 111] ++ ta) tn (by simp; omega)
  obtain ⟨v0, h0⟩ : ∃ v, [122, 101, 114, 111] ++ ta = v := ⟨_, rfl⟩
  rw [h0] at a0 a1 HT
  obtain ⟨v1, h1⟩ : ∃ v, v0 ++ tn = v := ⟨_, rfl⟩
  rw [h1] at a1 HT
  clear h0 h1
  obtain ⟨W, hW⟩ : ∃ W, w.alloc (.cells #[.int .i64 11, .int .i64 r, .int .i64 a, .int .i64 b, .int .i64 n] 25) = W := ⟨_, rfl⟩
  have kW : Below w.heap.size w W := by subst hW; exact (Below.refl _ _).alloc (Nat.le_refl _) _
  have sW : w.heap.size < W.heap.size := by subst hW; simp
  have x0 : W.cell? ⟨w.heap.size, 0, none⟩ = some (.int .i64 11) := by subst hW; simp [go_sem]
  have x1 : W.cell? ⟨w.heap.size, 1, none⟩ = some (.int .i64 r) := by subst hW; simp [go_sem]
  have x2 : W.cell? ⟨w.heap.size, 2, none⟩ = some (.int .i64 a) := by subst hW; simp [go_sem]
  have x3 : W.cell? ⟨w.heap.size, 3, none⟩ = some (.int .i64 b) := by subst hW; simp [go_sem]
  have x4 : W.cell? ⟨w.heap.size, 4, none⟩ = some (.int .i64 n) := by subst hW; simp [go_sem]
  have KW := hidT kW
  clear kW
  go_enter Tryz.func13, Tryz.ntmps13
  go_wp2_with fail
  try rw [hW]
  clear hW
  refine (specStepOk_is 11 r a b n 800 true W V.out).mono ?_
  rintro e w1 ⟨rfl, hb1⟩
  have z0 := (hb1.cell (p := ⟨w.heap.size, 0, none⟩) sW).trans x0
  have z1 := (hb1.cell (p := ⟨w.heap.size, 1, none⟩) sW).trans x1
  have z2 := (hb1.cell (p := ⟨w.heap.size, 2, none⟩) sW).trans x2
  have z3 := (hb1.cell (p := ⟨w.heap.size, 3, none⟩) sW).trans x3
  have z4 := (hb1.cell (p := ⟨w.heap.size, 4, none⟩) sW).trans x4
  have s1 : w.heap.size < w1.heap.size := by have := hb1.size; omega
  have K1 := hidT (KW.out.trans (hb1.mono (Nat.le_of_lt sW)))
  clear hb1 x0 x1 x2 x3 x4
  have hne := ext_ne w1
  have u1 := Ext.fit z1 s1
  have u2 := Ext.fit z2 s1
  have u3 := Ext.fit z3 s1
  have u4 := Ext.fit z4 s1
  go_wp2_with fail
  refine regionExt w1 (by kernel_rfl) (by kernel_rfl) ?_
  repeat (go_big_quiet_step (first | (rename_i X; go_at_call 36; (with_reducible refine Calls.mono (IN.out _) ?_); rintro e w3 ⟨rfl, hb3⟩; exact ⟨rfl, X.on hb3⟩) | (rename_i X; go_at_call 35; (first | (with_reducible refine Calls.mono (IR.out _) ?_) | (with_reducible refine Calls.mono (IA.out _) ?_) | (with_reducible refine Calls.mono (IB.out _) ?_)); rintro e w3 ⟨rfl, hb3⟩; exact ⟨rfl, X.on hb3⟩) | fail))
  refine wpQuiet_nil ?_
  rintro w3 ⟨X3, rfl⟩
  have KU := hidT (K1.out.trans (X3.b.mono (Nat.le_of_lt s1)))
  have y0 := Ext.fit z0 s1 X3
  have y1 := u1 X3
  have y2 := u2 X3
  have y3 := u3 X3
  have y4 := u4 X3
  clear hne u1 u2 u3 u4 an
  go_wp2
  go_ret
  exact ⟨by rw [HT.out]; rfl, KU.out⟩

set_option maxHeartbeats 2000000 in
theorem specSt12 (r a b n : Int) (h : Plain.stepB 12 r a b n 800 = true) (w : World) : Calls Tryz.prog 13 #[.agg #[.int .i64 12, .int .i64 r, .int .i64 a, .int .i64 b, .int .i64 n]] w fun e w' => e = .returned (.string ⟨(stT 12 r a b n).toArray⟩) ∧ Below w.heap.size w w' := by
  have HT : Hid (stT 12 r a b n = [101, 110, 100]) := by show _ = _; unfold stT; rw [if_pos h]; simp [maW, maWords, maL, maLets, ltsT, prtT]
  have hs := stOk_of h
  have l1 := itoa_10 (v := r) (by have := hs.r1; omega) (by have := hs.r2; omega)
  have l2 := itoa_10 (v := a) (by have := hs.a1; omega) (by have := hs.a2; omega)
  have l3 := itoa_10 (v := b) (by have := hs.b1; omega) (by have := hs.b2; omega)
  have l4 := itoa_10 hs.n1 hs.n2
  have IR : Hid (∀ X : World, Calls Tryz.prog 35 #[.int .i64 r] X fun e w' => e = .returned (.string ⟨([32, 114] ++ Lib.itoa r).toArray⟩) ∧ Below X.heap.size X w') := fun X => l16R_any r (by have := hs.r1; have := hs.r2; omega) X
  have IA : Hid (∀ X : World, Calls Tryz.prog 35 #[.int .i64 a] X fun e w' => e = .returned (.string ⟨([32, 114] ++ Lib.itoa a).toArray⟩) ∧ Below X.heap.size X w') := fun X => l16R_any a (by have := hs.a1; have := hs.a2; omega) X
  have IB : Hid (∀ X : World, Calls Tryz.prog 35 #[.int .i64 b] X fun e w' => e = .returned (.string ⟨([32, 114] ++ Lib.itoa b).toArray⟩) ∧ Below X.heap.size X w') := fun X => l16R_any b (by have := hs.b1; have := hs.b2; omega) X
  have IN : Hid (∀ X : World, Calls Tryz.prog 36 #[.int .i64 n] X fun e w' => e = .returned (.string ⟨(Lib.itoa n).toArray⟩) ∧ Below X.heap.size X w') := fun X => l2Digits_any n (by have := hs.n1; omega) (by have := hs.n2; omega) X
  have q1 : ([32, 114] ++ Lib.itoa r).length ≤ 22 := by simp; omega
  have q2 : ([32, 114] ++ Lib.itoa a).length ≤ 22 := by simp; omega
  have q3 : ([32, 114] ++ Lib.itoa b).length ≤ 22 := by simp; omega
  have V := hidT h
  have an := addS [32] (Lib.itoa n) (by simp; omega)
  have q4 : ([32] ++ Lib.itoa n).length ≤ 21 := by simp; omega
  clear l1 l2 l3 hs h
  generalize [32, 114] ++ Lib.itoa r = tr at HT IR q1
  generalize [32, 114] ++ Lib.itoa a = ta at HT IA q2
  generalize [32, 114] ++ Lib.itoa b = tb at HT IB q3
  generalize hn : [32] ++ Lib.itoa n = tn at HT an q4
  clear hn
  generalize Lib.itoa n = tm at IN an l4
  obtain ⟨W, hW⟩ : ∃ W, w.alloc (.cells #[.int .i64 12, .int .i64 r, .int .i64 a, .int .i64 b, .int .i64 n] 25) = W := ⟨_, rfl⟩
  have kW : Below w.heap.size w W := by subst hW; exact (Below.refl _ _).alloc (Nat.le_refl _) _
  have sW : w.heap.size < W.heap.size := by subst hW; simp
  have x0 : W.cell? ⟨w.heap.size, 0, none⟩ = some (.int .i64 12) := by subst hW; simp [go_sem]
  have x1 : W.cell? ⟨w.heap.size, 1, none⟩ = some (.int .i64 r) := by subst hW; simp [go_sem]
  have x2 : W.cell? ⟨w.heap.size, 2, none⟩ = some (.int .i64 a) := by subst hW; simp [go_sem]
  have x3 : W.cell? ⟨w.heap.size, 3, none⟩ = some (.int .i64 b) := by subst hW; simp [go_sem]
  have x4 : W.cell? ⟨w.heap.size, 4, none⟩ = some (.int .i64 n) := by subst hW; simp [go_sem]
  have KW := hidT kW
  clear kW
  go_enter Tryz.func13, Tryz.ntmps13
  go_wp2_with fail
  try rw [hW]
  clear hW
  refine (specStepOk_is 12 r a b n 800 true W V.out).mono ?_
  rintro e w1 ⟨rfl, hb1⟩
  have z0 := (hb1.cell (p := ⟨w.heap.size, 0, none⟩) sW).trans x0
  have z1 := (hb1.cell (p := ⟨w.heap.size, 1, none⟩) sW).trans x1
  have z2 := (hb1.cell (p := ⟨w.heap.size, 2, none⟩) sW).trans x2
  have z3 := (hb1.cell (p := ⟨w.heap.size, 3, none⟩) sW).trans x3
  have z4 := (hb1.cell (p := ⟨w.heap.size, 4, none⟩) sW).trans x4
  have s1 : w.heap.size < w1.heap.size := by have := hb1.size; omega
  have K1 := hidT (KW.out.trans (hb1.mono (Nat.le_of_lt sW)))
  clear hb1 x0 x1 x2 x3 x4
  have hne := ext_ne w1
  have u1 := Ext.fit z1 s1
  have u2 := Ext.fit z2 s1
  have u3 := Ext.fit z3 s1
  have u4 := Ext.fit z4 s1
  go_wp2_with fail
  refine regionExt w1 (by kernel_rfl) (by kernel_rfl) ?_
  repeat (go_big_quiet_step (first | (rename_i X; go_at_call 36; (with_reducible refine Calls.mono (IN.out _) ?_); rintro e w3 ⟨rfl, hb3⟩; exact ⟨rfl, X.on hb3⟩) | (rename_i X; go_at_call 35; (first | (with_reducible refine Calls.mono (IR.out _) ?_) | (with_reducible refine Calls.mono (IA.out _) ?_) | (with_reducible refine Calls.mono (IB.out _) ?_)); rintro e w3 ⟨rfl, hb3⟩; exact ⟨rfl, X.on hb3⟩) | fail))
  refine wpQuiet_nil ?_
  rintro w3 ⟨X3, rfl⟩
  have KU := hidT (K1.out.trans (X3.b.mono (Nat.le_of_lt s1)))
  have y0 := Ext.fit z0 s1 X3
  have y1 := u1 X3
  have y2 := u2 X3
  have y3 := u3 X3
  have y4 := u4 X3
  clear hne u1 u2 u3 u4 an
  go_wp2
  go_ret
  exact ⟨by rw [HT.out]; rfl, KU.out⟩

set_option maxHeartbeats 2000000 in
theorem specSt13 (r a b n : Int) (h : Plain.stepB 13 r a b n 800 = true) (w : World) : Calls Tryz.prog 13 #[.agg #[.int .i64 13, .int .i64 r, .int .i64 a, .int .i64 b, .int .i64 n]] w fun e w' => e = .returned (.string ⟨(stT 13 r a b n).toArray⟩) ∧ Below w.heap.size w w' := by
  have HT : Hid (stT 13 r a b n = [102, 97, 117, 108, 116]) := by show _ = _; unfold stT; rw [if_pos h]; simp [maW, maWords, maL, maLets, ltsT, prtT]
  have hs := stOk_of h
  have l1 := itoa_10 (v := r) (by have := hs.r1; omega) (by have := hs.r2; omega)
  have l2 := itoa_10 (v := a) (by have := hs.a1; omega) (by have := hs.a2; omega)
  have l3 := itoa_10 (v := b) (by have := hs.b1; omega) (by have := hs.b2; omega)
  have l4 := itoa_10 hs.n1 hs.n2
  have IR : Hid (∀ X : World, Calls Tryz.prog 35 #[.int .i64 r] X fun e w' => e = .returned (.string ⟨([32, 114] ++ Lib.itoa r).toArray⟩) ∧ Below X.heap.size X w') := fun X => l16R_any r (by have := hs.r1; have := hs.r2; omega) X
  have IA : Hid (∀ X : World, Calls Tryz.prog 35 #[.int .i64 a] X fun e w' => e = .returned (.string ⟨([32, 114] ++ Lib.itoa a).toArray⟩) ∧ Below X.heap.size X w') := fun X => l16R_any a (by have := hs.a1; have := hs.a2; omega) X
  have IB : Hid (∀ X : World, Calls Tryz.prog 35 #[.int .i64 b] X fun e w' => e = .returned (.string ⟨([32, 114] ++ Lib.itoa b).toArray⟩) ∧ Below X.heap.size X w') := fun X => l16R_any b (by have := hs.b1; have := hs.b2; omega) X
  have IN : Hid (∀ X : World, Calls Tryz.prog 36 #[.int .i64 n] X fun e w' => e = .returned (.string ⟨(Lib.itoa n).toArray⟩) ∧ Below X.heap.size X w') := fun X => l2Digits_any n (by have := hs.n1; omega) (by have := hs.n2; omega) X
  have q1 : ([32, 114] ++ Lib.itoa r).length ≤ 22 := by simp; omega
  have q2 : ([32, 114] ++ Lib.itoa a).length ≤ 22 := by simp; omega
  have q3 : ([32, 114] ++ Lib.itoa b).length ≤ 22 := by simp; omega
  have V := hidT h
  have an := addS [32] (Lib.itoa n) (by simp; omega)
  have q4 : ([32] ++ Lib.itoa n).length ≤ 21 := by simp; omega
  clear l1 l2 l3 hs h
  generalize [32, 114] ++ Lib.itoa r = tr at HT IR q1
  generalize [32, 114] ++ Lib.itoa a = ta at HT IA q2
  generalize [32, 114] ++ Lib.itoa b = tb at HT IB q3
  generalize hn : [32] ++ Lib.itoa n = tn at HT an q4
  clear hn
  generalize Lib.itoa n = tm at IN an l4
  obtain ⟨W, hW⟩ : ∃ W, w.alloc (.cells #[.int .i64 13, .int .i64 r, .int .i64 a, .int .i64 b, .int .i64 n] 25) = W := ⟨_, rfl⟩
  have kW : Below w.heap.size w W := by subst hW; exact (Below.refl _ _).alloc (Nat.le_refl _) _
  have sW : w.heap.size < W.heap.size := by subst hW; simp
  have x0 : W.cell? ⟨w.heap.size, 0, none⟩ = some (.int .i64 13) := by subst hW; simp [go_sem]
  have x1 : W.cell? ⟨w.heap.size, 1, none⟩ = some (.int .i64 r) := by subst hW; simp [go_sem]
  have x2 : W.cell? ⟨w.heap.size, 2, none⟩ = some (.int .i64 a) := by subst hW; simp [go_sem]
  have x3 : W.cell? ⟨w.heap.size, 3, none⟩ = some (.int .i64 b) := by subst hW; simp [go_sem]
  have x4 : W.cell? ⟨w.heap.size, 4, none⟩ = some (.int .i64 n) := by subst hW; simp [go_sem]
  have KW := hidT kW
  clear kW
  go_enter Tryz.func13, Tryz.ntmps13
  go_wp2_with fail
  try rw [hW]
  clear hW
  refine (specStepOk_is 13 r a b n 800 true W V.out).mono ?_
  rintro e w1 ⟨rfl, hb1⟩
  have z0 := (hb1.cell (p := ⟨w.heap.size, 0, none⟩) sW).trans x0
  have z1 := (hb1.cell (p := ⟨w.heap.size, 1, none⟩) sW).trans x1
  have z2 := (hb1.cell (p := ⟨w.heap.size, 2, none⟩) sW).trans x2
  have z3 := (hb1.cell (p := ⟨w.heap.size, 3, none⟩) sW).trans x3
  have z4 := (hb1.cell (p := ⟨w.heap.size, 4, none⟩) sW).trans x4
  have s1 : w.heap.size < w1.heap.size := by have := hb1.size; omega
  have K1 := hidT (KW.out.trans (hb1.mono (Nat.le_of_lt sW)))
  clear hb1 x0 x1 x2 x3 x4
  have hne := ext_ne w1
  have u1 := Ext.fit z1 s1
  have u2 := Ext.fit z2 s1
  have u3 := Ext.fit z3 s1
  have u4 := Ext.fit z4 s1
  go_wp2_with fail
  refine regionExt w1 (by kernel_rfl) (by kernel_rfl) ?_
  repeat (go_big_quiet_step (first | (rename_i X; go_at_call 36; (with_reducible refine Calls.mono (IN.out _) ?_); rintro e w3 ⟨rfl, hb3⟩; exact ⟨rfl, X.on hb3⟩) | (rename_i X; go_at_call 35; (first | (with_reducible refine Calls.mono (IR.out _) ?_) | (with_reducible refine Calls.mono (IA.out _) ?_) | (with_reducible refine Calls.mono (IB.out _) ?_)); rintro e w3 ⟨rfl, hb3⟩; exact ⟨rfl, X.on hb3⟩) | fail))
  refine wpQuiet_nil ?_
  rintro w3 ⟨X3, rfl⟩
  have KU := hidT (K1.out.trans (X3.b.mono (Nat.le_of_lt s1)))
  have y0 := Ext.fit z0 s1 X3
  have y1 := u1 X3
  have y2 := u2 X3
  have y3 := u3 X3
  have y4 := u4 X3
  clear hne u1 u2 u3 u4 an
  go_wp2
  go_ret
  exact ⟨by rw [HT.out]; rfl, KU.out⟩

set_option maxHeartbeats 2000000 in
theorem specStepText_any (o r a b n : Int) (w : World) :
    Calls Tryz.prog 13 #[.agg #[.int .i64 o, .int .i64 r, .int .i64 a, .int .i64 b, .int .i64 n]] w fun e w' => e = .returned (.string ⟨(stT o r a b n).toArray⟩) ∧ Below w.heap.size w w' := by
  cases hv : Plain.stepB o r a b n 800
  · have HT : Hid (stT o r a b n = []) := by show _ = _; unfold stT; rw [hv]; rfl
    have V := hidT hv
    clear hv
    obtain ⟨W, hW⟩ : ∃ W, w.alloc (.cells #[.int .i64 o, .int .i64 r, .int .i64 a, .int .i64 b, .int .i64 n] 25) = W := ⟨_, rfl⟩
    have kW : Below w.heap.size w W := by subst hW; exact (Below.refl _ _).alloc (Nat.le_refl _) _
    have sW : w.heap.size < W.heap.size := by subst hW; simp
    have x0 : W.cell? ⟨w.heap.size, 0, none⟩ = some (.int .i64 o) := by subst hW; simp [go_sem]
    have x1 : W.cell? ⟨w.heap.size, 1, none⟩ = some (.int .i64 r) := by subst hW; simp [go_sem]
    have x2 : W.cell? ⟨w.heap.size, 2, none⟩ = some (.int .i64 a) := by subst hW; simp [go_sem]
    have x3 : W.cell? ⟨w.heap.size, 3, none⟩ = some (.int .i64 b) := by subst hW; simp [go_sem]
    have x4 : W.cell? ⟨w.heap.size, 4, none⟩ = some (.int .i64 n) := by subst hW; simp [go_sem]
    have KW := hidT kW
    clear kW
    go_enter Tryz.func13, Tryz.ntmps13
    go_wp2_with fail
    try rw [hW]
    refine (specStepOk_is o r a b n 800 false W V.out).mono ?_
    rintro e w1 ⟨rfl, hb1⟩
    have K1 := hidT (KW.out.trans (hb1.mono (Nat.le_of_lt sW)))
    clear hb1
    go_wp2
    go_ret
    exact ⟨by rw [HT.out]; rfl, K1.out⟩
  · have hs := stOk_of hv
    have h1 := hs.o1
    have h2 := hs.o2
    have : o = 1 ∨ o = 2 ∨ o = 3 ∨ o = 4 ∨ o = 5 ∨ o = 6 ∨ o = 7 ∨ o = 8 ∨ o = 9 ∨ o = 10 ∨ o = 11 ∨ o = 12 ∨ o = 13 := by omega
    rcases this with rfl | rfl | rfl | rfl | rfl | rfl | rfl | rfl | rfl | rfl | rfl | rfl | rfl
    · exact specSt1 r a b n hv w
    · exact specSt2 r a b n hv w
    · exact specSt3 r a b n hv w
    · exact specSt4 r a b n hv w
    · exact specSt5 r a b n hv w
    · exact specSt6 r a b n hv w
    · exact specSt7 r a b n hv w
    · exact specSt8 r a b n hv w
    · exact specSt9 r a b n hv w
    · exact specSt10 r a b n hv w
    · exact specSt11 r a b n hv w
    · exact specSt12 r a b n hv w
    · exact specSt13 r a b n hv w

end Go.Proofs.YtfgikjipkfggbaaGreatDoor
