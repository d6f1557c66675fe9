/- The law FnWords of the given statements: a drawn step is read from its word as it was; a word that is read is that of the step. No condition. -/
import Derived.Test.YtkmliphfelinjaaFnBytes
import Derived.Test.YtkmliphfelinjaaDrawWord
import Derived.Test.YtkmliphfelinjaaC7Word3
namespace Go.Proofs.Ytkmliphfelinjaa
set_option linter.unusedSimpArgs false
set_option linter.unusedVariables false
set_option maxRecDepth 100000
open Go.ChangeShapes Go.WideShapes Go.ChangeAt Go.RowKit

theorem word_back {o r a b n : Int} (h : Plain.stepB o r a b n 800 = true) : Plain.fO (Plain.wordI o r a b n) = o ∧ Plain.fR (Plain.wordI o r a b n) = r ∧ Plain.fA (Plain.wordI o r a b n) = a ∧ Plain.fB (Plain.wordI o r a b n) = b ∧ Plain.fN (Plain.wordI o r a b n) = n ∧ 0 ≤ Plain.wordI o r a b n ∧ Plain.wordI o r a b n ≤ 9223372036854775807 := by
  obtain ⟨h0, h1, h2, h3, h4, h5, h6, h7, h8, h9⟩ := stepB_rng h
  have hx : 0 ≤ Plain.wordI o r a b n := by unfold Plain.wordI; omega
  refine ⟨?_, ?_, ?_, ?_, ?_, hx, by unfold Plain.wordI; omega⟩
  · unfold Plain.fO
    rw [Int.tmod_eq_emod_of_nonneg hx]
    unfold Plain.wordI
    omega
  · unfold Plain.fR
    rw [Int.tdiv_eq_ediv_of_nonneg hx, Int.tmod_eq_emod_of_nonneg (Int.ediv_nonneg hx (by decide))]
    unfold Plain.wordI
    omega
  · unfold Plain.fA
    rw [Int.tdiv_eq_ediv_of_nonneg hx, Int.tmod_eq_emod_of_nonneg (Int.ediv_nonneg hx (by decide))]
    unfold Plain.wordI
    omega
  · unfold Plain.fB
    rw [Int.tdiv_eq_ediv_of_nonneg hx, Int.tmod_eq_emod_of_nonneg (Int.ediv_nonneg hx (by decide))]
    unfold Plain.wordI
    omega
  · unfold Plain.fN
    rw [Int.tdiv_eq_ediv_of_nonneg hx]
    unfold Plain.wordI
    omega
theorem word_ws {o r a b n : Int} (h : Plain.stepB o r a b n 800 = true) : Plain.wsB (Plain.wordI o r a b n) = true := by
  obtain ⟨h0, h1, h2, h3, h4, -, -⟩ := word_back h
  have hs : Plain.stB (Plain.wordI o r a b n) = true := by unfold Plain.stB; rw [h0, h1, h2, h3, h4]; exact h
  have hw : Plain.woI (Plain.wordI o r a b n) = Plain.wordI o r a b n := by
    show Plain.wordI (Plain.fO _) (Plain.fR _) (Plain.fA _) (Plain.fB _) (Plain.fN _) = _
    rw [h0, h1, h2, h3, h4]
  unfold Plain.wsB
  rw [hs, hw]
  simp
theorem wordStep_of (o r a b n : Int) (w : World) (h : Plain.stepB o r a b n 800 = true) : Calls Try.prog 13 #[.int .i64 (Plain.wordI o r a b n)] w fun e w' => e = .returned (.tuple #[.agg #[.int .i64 o, .int .i64 r, .int .i64 a, .int .i64 b, .int .i64 n], .bool true]) ∧ Below w.heap.size w w' := by
  obtain ⟨h0, h1, h2, h3, h4, h5, h6⟩ := word_back h
  obtain ⟨g0, g1, g2, g3, g4⟩ := ws_yes (word_ws h)
  have c := wordStep_any (Plain.wordI o r a b n) w (by omega) h6
  rw [g0, g1, g2, g3, g4, h0, h1, h2, h3, h4, word_ws h] at c
  exact c

theorem ws2_no {F : FuncId} (hF : Word2 F) (x : Int) (w : World) (h1 : -9223372036854775808 ≤ x) (h2 : x ≤ 9223372036854775807) (h : Plain.wsB x = false) : Calls Try.prog F #[.int .i64 x] w fun e w' => e = .returned (.tuple #[.agg #[.int .i64 0, .int .i64 0, .int .i64 0, .int .i64 0, .int .i64 0], .bool false]) ∧ Below w.heap.size w w' := by
  obtain ⟨g0, g1, g2, g3, g4⟩ := ws_no h
  have c := hF x w h1 h2
  rw [g0, g1, g2, g3, g4, h] at c
  exact c
theorem ws2_yes {F : FuncId} (hF : Word2 F) (x : Int) (w : World) (h1 : -9223372036854775808 ≤ x) (h2 : x ≤ 9223372036854775807) (h : Plain.wsB x = true) : Calls Try.prog F #[.int .i64 x] w fun e w' => e = .returned (.tuple #[.agg #[.int .i64 (Plain.fO x), .int .i64 (Plain.fR x), .int .i64 (Plain.fA x), .int .i64 (Plain.fB x), .int .i64 (Plain.fN x)], .bool true]) ∧ Below w.heap.size w w' := by
  obtain ⟨g0, g1, g2, g3, g4⟩ := ws_yes h
  have c := hF x w h1 h2
  rw [g0, g1, g2, g3, g4, h] at c
  exact c
theorem ws_parts {x : Int} (h : Plain.wsB x = true) : Plain.stepB (Plain.fO x) (Plain.fR x) (Plain.fA x) (Plain.fB x) (Plain.fN x) 800 = true ∧ Plain.wordI (Plain.fO x) (Plain.fR x) (Plain.fA x) (Plain.fB x) (Plain.fN x) = x := by
  unfold Plain.wsB at h
  rw [Bool.and_eq_true, decide_eq_true_eq] at h
  exact h

set_option maxRecDepth 100000 in
set_option maxHeartbeats 4000000 in
theorem walkFnWords (s : Option Addr) (n c : Nat) (w : World) (hb : Bytes w w.heap.size s n) (hn : n ≤ maxLen) : Calls Try.prog 3 #[.slice s n c] w fun e w' => e = .returned (.bool true) ∧ Below w.heap.size w w' := by
  have HB0 : Hid (Bytes w w.heap.size s n) := hb
  have HN : Hid (n ≤ maxLen) := hn
  clear hb hn
  go_enter Try.func3, Try.ntmps3
  by_cases hbig : 1048576 < n
  · go_wp2_with (go_at_call 9; refine (big_any _ _ _ _).mono ?_; rintro e w' ⟨rfl, hw⟩; have hw' := hw.symm; clear hw; subst hw'; rw [decide_eq_true hbig])
    go_ret
    exact ⟨rfl, Below.refl _ _⟩
  go_wp2_with (go_at_call 9; refine (big_any _ _ _ _).mono ?_; rintro e w' ⟨rfl, hw⟩; have hw' := hw.symm; clear hw; subst hw'; rw [decide_eq_false hbig])
  clear hbig
  refine (drawStepWord_any s n c w HB0.out HN.out).mono ?_
  rintro e w1 ⟨o, r, a, b, m, rfl, hb1⟩
  have K1 : Hid (Below w.heap.size w w1) := hb1
  have Z1 : Hid (w.heap.size ≤ w1.heap.size) := hb1.size
  clear hb1
  go_wp2_with fail
  obtain ⟨W, hW⟩ : ∃ W, w1.alloc (.cells #[.int .i64 o, .int .i64 r, .int .i64 a, .int .i64 b, .int .i64 m] 25) = W := ⟨_, rfl⟩
  have BW : Bo W w1.heap.size o r a b m := by rw [← hW]; exact Bo.new
  have KW : Hid (Below w.heap.size w W) := by show Below _ _ _; rw [← hW]; exact K1.out.alloc Z1.out _
  rw [hW]
  clear hW K1
  generalize hX : w1.heap.size = X at BW ⊢
  have ZX : Hid (w.heap.size ≤ X) := by show _ ≤ _; rw [← hX]; exact Z1.out
  clear hX Z1
  refine (stepWord_any o r a b m W).mono ?_
  rintro e w2 ⟨rfl, hb2⟩
  have BX2 : Hid (Bo w2 X o r a b m) := BW.of (hb2.block X BW.lt) hb2.size
  have K2 : Hid (Below w.heap.size w w2) := KW.out.trans (hb2.mono (by have := BW.lt; have := ZX.out; omega))
  clear hb2 BW KW
  obtain ⟨x0, x1, x2, x3, x4, -, xl⟩ := BX2.out
  cases hs : Plain.stepB o r a b m 800
  · have V : Plain.wordV o r a b m = 0 := Plain.wordV_f hs
    rw [V]
    have HS : Hid (Plain.stepB o r a b m 800 = false) := hs
    clear V hs
    go_wp2_with fail
    refine (specWord_no o r a b m w2 HS.out).mono ?_
    rintro e w3 ⟨rfl, hb3⟩
    have K3 : Hid (Below w.heap.size w w3) := K2.out.trans (hb3.mono (by have := ZX.out; omega))
    have Y3 : Hid (Bytes w3 w3.heap.size s n) := HB0.out.up K3.out
    clear hb3 BX2 K2 x0 x1 x2 x3 x4 xl HS
    go_wp2_with fail
    refine (drawWord_any s n c w3 Y3.out HN.out).mono ?_
    rintro e w4 ⟨x, rfl, xlo, xhi, hb4⟩
    have K4 : Hid (Below w.heap.size w w4) := K3.out.trans (hb4.mono K3.out.size)
    have Z4 : Hid (w.heap.size ≤ w4.heap.size) := K4.out.size
    have XR : Hid (-9223372036854775808 ≤ x ∧ x ≤ 9223372036854775807) := ⟨xlo, xhi⟩
    clear xlo xhi hb4 K3 Y3
    cases hq : Plain.wsB x
    · have HQ : Hid (Plain.wsB x = false) := hq
      clear hq
      go_wp2_with fail
      refine (ws2_no wordStep_any x w4 XR.out.1 XR.out.2 HQ.out).mono ?_
      rintro e w5 ⟨rfl, hb5⟩
      have K5 : Hid (Below w.heap.size w w5) := K4.out.trans (hb5.mono Z4.out)
      have Z5 : Hid (w.heap.size ≤ w5.heap.size) := K5.out.size
      clear hb5
      go_wp2_with fail
      obtain ⟨V, hV⟩ : ∃ V, w5.alloc (.cells #[.int .i64 0, .int .i64 0, .int .i64 0, .int .i64 0, .int .i64 0] 25) = V := ⟨_, rfl⟩
      have BV : Bo V w5.heap.size 0 0 0 0 0 := by rw [← hV]; exact Bo.new
      have KV : Hid (Below w.heap.size w V) := by show Below _ _ _; rw [← hV]; exact K5.out.alloc Z5.out _
      rw [hV]
      clear hV
      refine (ws2_no specWordStep_any x V XR.out.1 XR.out.2 HQ.out).mono ?_
      rintro e w6 ⟨rfl, hb6⟩
      have B6 : Hid (Bo w6 w5.heap.size 0 0 0 0 0) := BV.of (hb6.block _ BV.lt) hb6.size
      have K6 : Hid (Below w.heap.size w w6) := KV.out.trans (hb6.mono (by have := BV.lt; have := Z5.out; omega))
      have Z6 : Hid (w.heap.size ≤ w6.heap.size) := K6.out.size
      clear hb6 BV KV
      obtain ⟨y0, y1, y2, y3, y4, -, yl⟩ := B6.out
      go_wp2_with fail
      obtain ⟨U, hU⟩ : ∃ V, w6.alloc (.cells #[.int .i64 0, .int .i64 0, .int .i64 0, .int .i64 0, .int .i64 0] 25) = V := ⟨_, rfl⟩
      have BU : Bo U w5.heap.size 0 0 0 0 0 := by rw [← hU]; exact B6.out.of ((MapKept.heap_alloc _ _).2 _ yl) (by simp)
      have KU : Hid (Below w.heap.size w U) := by show Below _ _ _; rw [← hU]; exact K6.out.alloc Z6.out _
      rw [hU]
      clear hU y0 y1 y2 y3 y4
      refine (stepWord_no 0 0 0 0 0 U (by decide)).mono ?_
      rintro e w7 ⟨rfl, hb7⟩
      have B7 : Bo w7 w5.heap.size 0 0 0 0 0 := BU.of (hb7.block _ BU.lt) hb7.size
      have K7 : Hid (Below w.heap.size w w7) := KU.out.trans (hb7.mono (by have := BU.lt; have := Z5.out; omega))
      clear hb7 BU KU
      obtain ⟨y0, y1, y2, y3, y4, -, yl⟩ := B7
      go_wp2
      go_ret
      exact ⟨rfl, K7.out⟩
    · obtain ⟨p1, p2⟩ := ws_parts hq
      have HQ : Hid (Plain.wsB x = true) := hq
      have c1 := fun w => ws2_yes wordStep_any x w XR.out.1 XR.out.2 hq
      have c2 := fun w => ws2_yes specWordStep_any x w XR.out.1 XR.out.2 hq
      clear hq
      generalize Plain.fO x = o' at p1 p2 c1 c2
      generalize Plain.fR x = r' at p1 p2 c1 c2
      generalize Plain.fA x = a' at p1 p2 c1 c2
      generalize Plain.fB x = b' at p1 p2 c1 c2
      generalize Plain.fN x = m' at p1 p2 c1 c2
      have P1 : Hid (Plain.stepB o' r' a' b' m' 800 = true) := p1
      have P2 : Hid (Plain.wordI o' r' a' b' m' = x) := p2
      have C1 : Hid (∀ w, Calls Try.prog 13 #[.int .i64 x] w fun e w' => e = .returned (.tuple #[.agg #[.int .i64 o', .int .i64 r', .int .i64 a', .int .i64 b', .int .i64 m'], .bool true]) ∧ Below w.heap.size w w') := c1
      have C2 : Hid (∀ w, Calls Try.prog 15 #[.int .i64 x] w fun e w' => e = .returned (.tuple #[.agg #[.int .i64 o', .int .i64 r', .int .i64 a', .int .i64 b', .int .i64 m'], .bool true]) ∧ Below w.heap.size w w') := c2
      clear p1 p2 c1 c2
      go_wp2_with fail
      refine (C1.out w4).mono ?_
      rintro e w5 ⟨rfl, hb5⟩
      have K5 : Hid (Below w.heap.size w w5) := K4.out.trans (hb5.mono Z4.out)
      have Z5 : Hid (w.heap.size ≤ w5.heap.size) := K5.out.size
      clear hb5
      go_wp2_with fail
      obtain ⟨V, hV⟩ : ∃ V, w5.alloc (.cells #[.int .i64 o', .int .i64 r', .int .i64 a', .int .i64 b', .int .i64 m'] 25) = V := ⟨_, rfl⟩
      have BV : Bo V w5.heap.size o' r' a' b' m' := by rw [← hV]; exact Bo.new
      have KV : Hid (Below w.heap.size w V) := by show Below _ _ _; rw [← hV]; exact K5.out.alloc Z5.out _
      rw [hV]
      clear hV
      refine (C2.out V).mono ?_
      rintro e w6 ⟨rfl, hb6⟩
      have B6 : Bo w6 w5.heap.size o' r' a' b' m' := BV.of (hb6.block _ BV.lt) hb6.size
      have K6 : Hid (Below w.heap.size w w6) := KV.out.trans (hb6.mono (by have := BV.lt; have := Z5.out; omega))
      have Z6 : Hid (w.heap.size ≤ w6.heap.size) := K6.out.size
      clear hb6 BV KV
      obtain ⟨y0, y1, y2, y3, y4, -, yl⟩ := B6
      go_wp2_with fail
      refine (stepWord_yes o' r' a' b' m' _ P1.out).mono ?_
      rintro e w7 ⟨rfl, hb7⟩
      rw [P2.out]
      have K7 : Hid (Below w.heap.size w w7) := (K6.out.alloc Z6.out _).trans (hb7.mono (by simp; have := Z6.out; omega))
      clear hb7
      go_wp2
      go_ret
      exact ⟨rfl, K7.out⟩
  · have V : Plain.wordV o r a b m = Plain.wordI o r a b m := Plain.wordV_t hs
    rw [V]
    have HS : Hid (Plain.stepB o r a b m 800 = true) := hs
    clear V hs
    obtain ⟨v, hv⟩ : ∃ v, Plain.wordI o r a b m = v := ⟨_, rfl⟩
    have HV : Hid (Plain.wordI o r a b m = v) := hv
    rw [hv]
    clear hv
    go_wp2_with fail
    refine (specWord_yes o r a b m w2 HS.out).mono ?_
    rintro e w3a ⟨rfl, hb3⟩
    rw [HV.out]
    have B3a : Hid (Bo w3a X o r a b m) := BX2.out.of (hb3.block X xl) hb3.size
    have K3a : Hid (Below w.heap.size w w3a) := K2.out.trans (hb3.mono (by have := ZX.out; omega))
    clear hb3 BX2 K2 x0 x1 x2 x3 x4 xl
    obtain ⟨x0, x1, x2, x3, x4, -, xl⟩ := B3a.out
    go_wp2_with fail
    rw [← HV.out]
    refine (wordStep_of o r a b m w3a HS.out).mono ?_
    rintro e w3 ⟨rfl, hb3⟩
    rw [HV.out]
    have B3 : Hid (Bo w3 X o r a b m) := B3a.out.of (hb3.block X xl) hb3.size
    have K3 : Hid (Below w.heap.size w w3) := K3a.out.trans (hb3.mono (by have := ZX.out; omega))
    clear hb3 B3a K3a x0 x1 x2 x3 x4 xl
    obtain ⟨x0, x1, x2, x3, x4, -, xl⟩ := B3.out
    have e2 := fun w => neqStep_run o r a b m o r a b m w
    rw [decide_eq_true ⟨rfl, rfl, rfl, rfl, rfl⟩, Bool.not_true] at e2
    go_wp2_with fail
    obtain ⟨wq, hwq⟩ : ∃ wq, w3.alloc (.cells #[.int .i64 o, .int .i64 r, .int .i64 a, .int .i64 b, .int .i64 m] 25) = wq := ⟨_, rfl⟩
    have KQ : Hid (Below w.heap.size w wq) := by show Below _ _ _; rw [← hwq]; exact K3.out.alloc K3.out.size _
    have YQ : Hid (Bytes wq wq.heap.size s n) := HB0.out.up KQ.out
    rw [hwq]
    clear hwq e2 B3 K3 x0 x1 x2 x3 x4 xl
    refine (drawWord_any s n c wq YQ.out HN.out).mono ?_
    rintro e w4 ⟨x, rfl, xlo, xhi, hb4⟩
    have K4 : Hid (Below w.heap.size w w4) := KQ.out.trans (hb4.mono KQ.out.size)
    have Z4 : Hid (w.heap.size ≤ w4.heap.size) := K4.out.size
    have XR : Hid (-9223372036854775808 ≤ x ∧ x ≤ 9223372036854775807) := ⟨xlo, xhi⟩
    clear xlo xhi hb4 KQ YQ
    cases hq : Plain.wsB x
    · have HQ : Hid (Plain.wsB x = false) := hq
      clear hq
      go_wp2_with fail
      refine (ws2_no wordStep_any x w4 XR.out.1 XR.out.2 HQ.out).mono ?_
      rintro e w5 ⟨rfl, hb5⟩
      have K5 : Hid (Below w.heap.size w w5) := K4.out.trans (hb5.mono Z4.out)
      have Z5 : Hid (w.heap.size ≤ w5.heap.size) := K5.out.size
      clear hb5
      go_wp2_with fail
      obtain ⟨V, hV⟩ : ∃ V, w5.alloc (.cells #[.int .i64 0, .int .i64 0, .int .i64 0, .int .i64 0, .int .i64 0] 25) = V := ⟨_, rfl⟩
      have BV : Bo V w5.heap.size 0 0 0 0 0 := by rw [← hV]; exact Bo.new
      have KV : Hid (Below w.heap.size w V) := by show Below _ _ _; rw [← hV]; exact K5.out.alloc Z5.out _
      rw [hV]
      clear hV
      refine (ws2_no specWordStep_any x V XR.out.1 XR.out.2 HQ.out).mono ?_
      rintro e w6 ⟨rfl, hb6⟩
      have B6 : Hid (Bo w6 w5.heap.size 0 0 0 0 0) := BV.of (hb6.block _ BV.lt) hb6.size
      have K6 : Hid (Below w.heap.size w w6) := KV.out.trans (hb6.mono (by have := BV.lt; have := Z5.out; omega))
      have Z6 : Hid (w.heap.size ≤ w6.heap.size) := K6.out.size
      clear hb6 BV KV
      obtain ⟨y0, y1, y2, y3, y4, -, yl⟩ := B6.out
      go_wp2_with fail
      obtain ⟨U, hU⟩ : ∃ V, w6.alloc (.cells #[.int .i64 0, .int .i64 0, .int .i64 0, .int .i64 0, .int .i64 0] 25) = V := ⟨_, rfl⟩
      have BU : Bo U w5.heap.size 0 0 0 0 0 := by rw [← hU]; exact B6.out.of ((MapKept.heap_alloc _ _).2 _ yl) (by simp)
      have KU : Hid (Below w.heap.size w U) := by show Below _ _ _; rw [← hU]; exact K6.out.alloc Z6.out _
      rw [hU]
      clear hU y0 y1 y2 y3 y4
      refine (stepWord_no 0 0 0 0 0 U (by decide)).mono ?_
      rintro e w7 ⟨rfl, hb7⟩
      have B7 : Bo w7 w5.heap.size 0 0 0 0 0 := BU.of (hb7.block _ BU.lt) hb7.size
      have K7 : Hid (Below w.heap.size w w7) := KU.out.trans (hb7.mono (by have := BU.lt; have := Z5.out; omega))
      clear hb7 BU KU
      obtain ⟨y0, y1, y2, y3, y4, -, yl⟩ := B7
      go_wp2
      go_ret
      exact ⟨rfl, K7.out⟩
    · obtain ⟨p1, p2⟩ := ws_parts hq
      have HQ : Hid (Plain.wsB x = true) := hq
      have c1 := fun w => ws2_yes wordStep_any x w XR.out.1 XR.out.2 hq
      have c2 := fun w => ws2_yes specWordStep_any x w XR.out.1 XR.out.2 hq
      clear hq
      generalize Plain.fO x = o' at p1 p2 c1 c2
      generalize Plain.fR x = r' at p1 p2 c1 c2
      generalize Plain.fA x = a' at p1 p2 c1 c2
      generalize Plain.fB x = b' at p1 p2 c1 c2
      generalize Plain.fN x = m' at p1 p2 c1 c2
      have P1 : Hid (Plain.stepB o' r' a' b' m' 800 = true) := p1
      have P2 : Hid (Plain.wordI o' r' a' b' m' = x) := p2
      have C1 : Hid (∀ w, Calls Try.prog 13 #[.int .i64 x] w fun e w' => e = .returned (.tuple #[.agg #[.int .i64 o', .int .i64 r', .int .i64 a', .int .i64 b', .int .i64 m'], .bool true]) ∧ Below w.heap.size w w') := c1
      have C2 : Hid (∀ w, Calls Try.prog 15 #[.int .i64 x] w fun e w' => e = .returned (.tuple #[.agg #[.int .i64 o', .int .i64 r', .int .i64 a', .int .i64 b', .int .i64 m'], .bool true]) ∧ Below w.heap.size w w') := c2
      clear p1 p2 c1 c2
      go_wp2_with fail
      refine (C1.out w4).mono ?_
      rintro e w5 ⟨rfl, hb5⟩
      have K5 : Hid (Below w.heap.size w w5) := K4.out.trans (hb5.mono Z4.out)
      have Z5 : Hid (w.heap.size ≤ w5.heap.size) := K5.out.size
      clear hb5
      go_wp2_with fail
      obtain ⟨V, hV⟩ : ∃ V, w5.alloc (.cells #[.int .i64 o', .int .i64 r', .int .i64 a', .int .i64 b', .int .i64 m'] 25) = V := ⟨_, rfl⟩
      have BV : Bo V w5.heap.size o' r' a' b' m' := by rw [← hV]; exact Bo.new
      have KV : Hid (Below w.heap.size w V) := by show Below _ _ _; rw [← hV]; exact K5.out.alloc Z5.out _
      rw [hV]
      clear hV
      refine (C2.out V).mono ?_
      rintro e w6 ⟨rfl, hb6⟩
      have B6 : Bo w6 w5.heap.size o' r' a' b' m' := BV.of (hb6.block _ BV.lt) hb6.size
      have K6 : Hid (Below w.heap.size w w6) := KV.out.trans (hb6.mono (by have := BV.lt; have := Z5.out; omega))
      have Z6 : Hid (w.heap.size ≤ w6.heap.size) := K6.out.size
      clear hb6 BV KV
      obtain ⟨y0, y1, y2, y3, y4, -, yl⟩ := B6
      go_wp2_with fail
      refine (stepWord_yes o' r' a' b' m' _ P1.out).mono ?_
      rintro e w7 ⟨rfl, hb7⟩
      rw [P2.out]
      have K7 : Hid (Below w.heap.size w w7) := (K6.out.alloc Z6.out _).trans (hb7.mono (by simp; have := Z6.out; omega))
      clear hb7
      go_wp2
      go_ret
      exact ⟨rfl, K7.out⟩

set_option maxRecDepth 100000 in
theorem liftedFnWords (os : Os) (started : os.Started) (H : Type) (enc : TypeId × Value → H) :
    ReturnsInHanded {} Try.checked os 3 .any (Rows.fnWordsSpec.pre6 enc Try.prog Try.f3 Rows.fnWordsRow.domain false) (Rows.fnWordsSpec.post enc Try.prog Try.f3 false true false false) := by
  refine returnsInHanded_of_change (C := Try.checked) ownS started (by kernel_rfl) Try.func3
    (ChangeSpec.witness6 (enc := enc) (C := Try.checked) false ⟨#[], #[.slice none 0 0], []⟩ 8 (by kernel_rfl) (by kernel_rfl) (by kernel_rfl) (by kernel_rfl)) ?_
  intro W base args ds gs before hval0 hW hcnd _
  have hval : ∀ (j : Nat) t v, Try.f3.params[j]? = some t → args[j]? = some v → Value.okWide Try.prog W .any base t v := hval0
  have hW' := hW
  obtain ⟨p, q, hA0, hV, rfl, hfz, hnd⟩ := hW
  have hA : DataW.TrodAll enc Try.prog W 0 (fun _ => true) true Try.f3.params.toList args.toList ds p := hA0
  rw [Try.params3] at hA hval
  obtain ⟨v0, d0, hargs, rfl, h0⟩ := trodAll_one hA
  obtain rfl : args = #[v0] := by cases args; simp_all
  obtain ⟨rfl, rfl⟩ := trodVars_none hV
  have k0 := h0
  have lt0 : ∀ x ∈ p, x.block < W.heap.size := by obtain ⟨m, hm⟩ := k0; exact DataW.trod_lt m _ _ _ hm
  obtain ⟨s, n, c, rfl, hn, hB⟩ := bytes_read (hval 0 22 v0 rfl rfl) h0
  clear hA0 hval0
  refine (walkFnWords s n c W hB hn).mono fun e W' ⟨he, bel⟩ => ?_
  subst he
  exact ⟨_, rfl, _, _, _, [], _, [], hW', trodAll_mk1 (shut_bool Try.underlying4 _), trodAll_mk1 (Below.trod laidOutS (by kernel_rfl) (of_decide_eq_true (by kernel_rfl)) k0 bel lt0), rfl, bel.frame _, fun h => by cases h⟩

theorem fnWords_holds : Rows.FnWordsSaid :=
  OpenClaim.holds_of_wide 3 Try.f3 rfl rfl rfl rfl rfl rfl rfl ⟨rfl, rfl, rfl, rfl, rfl⟩ rfl rfl rfl rfl rfl (by kernel_rfl) Try.func3 (by kernel_rfl)
    (of_decide_eq_true (by kernel_rfl)) (by unfold Func.isWrapper; first | (rw [if_pos (by decide +kernel)]; kernel_rfl) | (rw [if_neg (by decide +kernel)]; exact ⟨rfl, rfl⟩))
    (fun os started H enc _ => liftedFnWords os started H enc)
#print axioms fnWords_holds

end Go.Proofs.Ytkmliphfelinjaa
