/- The law FnExactKnows of the given statements: at every argument Knows of the program answers as the specification's and writes into no argument. No condition. -/
import Derived.Test.YtopopoahmkfdkaaFrameN
import Derived.Test.YtopopoahmkfdkaaViews
import Derived.Deep.RegionHeld3
namespace Go.Proofs.Ytopopoahmkfdkaa
set_option linter.unusedSimpArgs false
set_option linter.unusedVariables false
set_option maxRecDepth 100000
open Go.ChangeShapes Go.WideShapes Go.ChangeAt Go.RowKit Go.Deep

set_option maxRecDepth 100000 in
set_option maxHeartbeats 8000000 in
theorem walkExactKnows (s0 : Option Addr) (c0 : Nat) (l0 : List Int) (s1 : Option Addr) (c1 : Nat) (l1 : List Int) (w : World) (h0 : IntsR w 0 w.heap.size s0 l0) (m0 : l0.length ≤ maxLen) (h1 : IntsR w 0 w.heap.size s1 l1) (m1 : l1.length ≤ maxLen) :
    Calls Try.prog 7 #[.slice s0 l0.length c0, .slice s1 l1.length c1] w fun e w' => e = .returned (.bool true) ∧ Below w.heap.size w w' := by
  have HA0 : Hid (IntsR w 0 w.heap.size s0 l0) := h0
  clear h0
  unfold maxLen at m0
  have HA1 : Hid (IntsR w 0 w.heap.size s1 l1) := h1
  clear h1
  unfold maxLen at m1
  by_cases b0 : (l0.length : Int) > 1048576
  · go_enter Try.func7, Try.ntmps7
    go_wp2
    go_ret
    exact ⟨rfl, Below.refl _ _⟩
  have n0 : l0.length ≤ 1048576 := by omega
  by_cases b1 : (l1.length : Int) > 1048576
  · go_enter Try.func7, Try.ntmps7
    go_wp2
    go_ret
    exact ⟨rfl, Below.refl _ _⟩
  have n1 : l1.length ≤ 1048576 := by omega
  go_enter Try.func7, Try.ntmps7
  go_wp2_with fail
  have HK : Hid (Below w.heap.size w w) := Below.refl _ _
  refine (toIntS_own s0 c0 0 w.heap.size l0 w (HA0.out.keep (Keep.of_below HK.out (Nat.le_refl _))) (by omega) n0).mono ?_
  rintro e w1 ⟨rfl, ho1, hb1, z1⟩
  have zz1 := hb1.size
  have JK : Hid (Below w.heap.size w w1) := HK.out.trans (hb1.mono (by omega))
  clear HK
  have HK := JK
  clear JK
  have HRa : Hid (IntsR w1 w.heap.size w1.heap.size (some ⟨w.heap.size, 0, none⟩) l0) := ownN_intsR ho1
  clear hb1 ho1
  go_wp2_with fail
  refine (toIntS_own s1 c1 0 w.heap.size l1 w1 (HA1.out.keep (Keep.of_below HK.out (Nat.le_refl _))) (by omega) n1).mono ?_
  rintro e w2 ⟨rfl, ho2, hb2, z2⟩
  have zz2 := hb2.size
  have JK : Hid (Below w.heap.size w w2) := HK.out.trans (hb2.mono (by omega))
  have JRa : Hid (IntsR w2 w.heap.size w1.heap.size (some ⟨w.heap.size, 0, none⟩) l0) := HRa.out.keep (Keep.of_below hb2 (by omega))
  clear HK
  have HK := JK
  clear JK
  clear HRa
  have HRa := JRa
  clear JRa
  have HRb : Hid (IntsR w2 w1.heap.size w2.heap.size (some ⟨w1.heap.size, 0, none⟩) l1) := ownN_intsR ho2
  clear hb2 ho2
  go_wp2_with fail
  refine (specKnows_any _ _ _ _ _ _ _ _ l0 l1 w2 HRa.out HRb.out (by omega) (by omega) (by omega) (by omega)).mono ?_
  rintro e w3 ⟨rfl, n3, hw3⟩
  have hb3 : Below w2.heap.size w2 w3 := by rw [hw3]; exact below_drewN _ _
  have z3 := hb3.size
  clear hw3
  have JK : Hid (Below w.heap.size w w3) := HK.out.trans (hb3.mono (by omega))
  have JRa : Hid (IntsR w3 w.heap.size w1.heap.size (some ⟨w.heap.size, 0, none⟩) l0) := HRa.out.keep (Keep.of_below hb3 (by omega))
  have JRb : Hid (IntsR w3 w1.heap.size w2.heap.size (some ⟨w1.heap.size, 0, none⟩) l1) := HRb.out.keep (Keep.of_below hb3 (by omega))
  clear HK
  have HK := JK
  clear JK
  clear HRa
  have HRa := JRa
  clear JRa
  clear HRb
  have HRb := JRb
  clear JRb
  clear hb3
  obtain ⟨bb, hbb⟩ : ∃ b, knowsB l0 l1 = b := ⟨_, rfl⟩
  have HBB : Hid (knowsB l0 l1 = bb) := hbb
  rw [hbb]
  clear hbb
  have hbn : (bb != bb) = false := by simp
  clear HRa
  clear HRb
  go_wp2_with fail
  refine (toIntS_own s0 c0 0 w.heap.size l0 w3 (HA0.out.keep (Keep.of_below HK.out (Nat.le_refl _))) (by omega) n0).mono ?_
  rintro e w4 ⟨rfl, ho4, hb4, z4⟩
  have zz4 := hb4.size
  have JK : Hid (Below w.heap.size w w4) := HK.out.trans (hb4.mono (by omega))
  clear HK
  have HK := JK
  clear JK
  have HRx : Hid (IntsR w4 w3.heap.size w4.heap.size (some ⟨w3.heap.size, 0, none⟩) l0) := ownN_intsR ho4
  clear hb4 ho4
  go_wp2_with fail
  refine (toIntS_own s1 c1 0 w.heap.size l1 w4 (HA1.out.keep (Keep.of_below HK.out (Nat.le_refl _))) (by omega) n1).mono ?_
  rintro e w5 ⟨rfl, ho5, hb5, z5⟩
  have zz5 := hb5.size
  have JK : Hid (Below w.heap.size w w5) := HK.out.trans (hb5.mono (by omega))
  have JRx : Hid (IntsR w5 w3.heap.size w4.heap.size (some ⟨w3.heap.size, 0, none⟩) l0) := HRx.out.keep (Keep.of_below hb5 (by omega))
  clear HK
  have HK := JK
  clear JK
  clear HRx
  have HRx := JRx
  clear JRx
  have HRy : Hid (IntsR w5 w4.heap.size w5.heap.size (some ⟨w4.heap.size, 0, none⟩) l1) := ownN_intsR ho5
  clear hb5 ho5
  go_wp2_with fail
  refine (implKnows_any _ _ _ _ _ _ _ _ l0 l1 w5 HRx.out HRy.out (by omega) (by omega) (by omega)).mono ?_
  rintro e w6 ⟨rfl, hw6⟩
  subst w6
  rw [HBB.out]
  go_wp2_with fail
  refine (toIntS_own s0 c0 0 w.heap.size l0 w5 (HA0.out.keep (Keep.of_below HK.out (Nat.le_refl _))) (by omega) n0).mono ?_
  rintro e w7 ⟨rfl, ho7, hb7, z7⟩
  have zz7 := hb7.size
  have JK : Hid (Below w.heap.size w w7) := HK.out.trans (hb7.mono (by omega))
  have JRx : Hid (IntsR w7 w3.heap.size w4.heap.size (some ⟨w3.heap.size, 0, none⟩) l0) := HRx.out.keep (Keep.of_below hb7 (by omega))
  have JRy : Hid (IntsR w7 w4.heap.size w5.heap.size (some ⟨w4.heap.size, 0, none⟩) l1) := HRy.out.keep (Keep.of_below hb7 (by omega))
  clear HK
  have HK := JK
  clear JK
  clear HRx
  have HRx := JRx
  clear JRx
  clear HRy
  have HRy := JRy
  clear JRy
  have HRc : Hid (IntsR w7 w5.heap.size w7.heap.size (some ⟨w5.heap.size, 0, none⟩) l0) := ownN_intsR ho7
  clear hb7 ho7
  go_wp2_with fail
  refine (eqN_true _ _ HRx.out HRc.out (by omega) (by omega) (by omega)).mono ?_
  rintro e w8 ⟨rfl, hb8⟩
  have z8 := hb8.size
  have JK : Hid (Below w.heap.size w w8) := HK.out.trans (hb8.mono (by omega))
  have JRx : Hid (IntsR w8 w3.heap.size w4.heap.size (some ⟨w3.heap.size, 0, none⟩) l0) := HRx.out.keep (Keep.of_below hb8 (by omega))
  have JRy : Hid (IntsR w8 w4.heap.size w5.heap.size (some ⟨w4.heap.size, 0, none⟩) l1) := HRy.out.keep (Keep.of_below hb8 (by omega))
  have JRc : Hid (IntsR w8 w5.heap.size w7.heap.size (some ⟨w5.heap.size, 0, none⟩) l0) := HRc.out.keep (Keep.of_below hb8 (by omega))
  clear HK
  have HK := JK
  clear JK
  clear HRx
  have HRx := JRx
  clear JRx
  clear HRy
  have HRy := JRy
  clear JRy
  clear HRc
  have HRc := JRc
  clear JRc
  clear hb8
  go_wp2_with fail
  refine (toIntS_own s1 c1 0 w.heap.size l1 w8 (HA1.out.keep (Keep.of_below HK.out (Nat.le_refl _))) (by omega) n1).mono ?_
  rintro e w9 ⟨rfl, ho9, hb9, z9⟩
  have zz9 := hb9.size
  have JK : Hid (Below w.heap.size w w9) := HK.out.trans (hb9.mono (by omega))
  have JRx : Hid (IntsR w9 w3.heap.size w4.heap.size (some ⟨w3.heap.size, 0, none⟩) l0) := HRx.out.keep (Keep.of_below hb9 (by omega))
  have JRy : Hid (IntsR w9 w4.heap.size w5.heap.size (some ⟨w4.heap.size, 0, none⟩) l1) := HRy.out.keep (Keep.of_below hb9 (by omega))
  have JRc : Hid (IntsR w9 w5.heap.size w7.heap.size (some ⟨w5.heap.size, 0, none⟩) l0) := HRc.out.keep (Keep.of_below hb9 (by omega))
  clear HK
  have HK := JK
  clear JK
  clear HRx
  have HRx := JRx
  clear JRx
  clear HRy
  have HRy := JRy
  clear JRy
  clear HRc
  have HRc := JRc
  clear JRc
  have HRd : Hid (IntsR w9 w8.heap.size w9.heap.size (some ⟨w8.heap.size, 0, none⟩) l1) := ownN_intsR ho9
  clear hb9 ho9
  go_wp2_with fail
  refine (eqN_true _ _ HRy.out HRd.out (by omega) (by omega) (by omega)).mono ?_
  rintro e w10 ⟨rfl, hb10⟩
  have z10 := hb10.size
  have JK : Hid (Below w.heap.size w w10) := HK.out.trans (hb10.mono (by omega))
  have JRx : Hid (IntsR w10 w3.heap.size w4.heap.size (some ⟨w3.heap.size, 0, none⟩) l0) := HRx.out.keep (Keep.of_below hb10 (by omega))
  have JRy : Hid (IntsR w10 w4.heap.size w5.heap.size (some ⟨w4.heap.size, 0, none⟩) l1) := HRy.out.keep (Keep.of_below hb10 (by omega))
  have JRc : Hid (IntsR w10 w5.heap.size w7.heap.size (some ⟨w5.heap.size, 0, none⟩) l0) := HRc.out.keep (Keep.of_below hb10 (by omega))
  have JRd : Hid (IntsR w10 w8.heap.size w9.heap.size (some ⟨w8.heap.size, 0, none⟩) l1) := HRd.out.keep (Keep.of_below hb10 (by omega))
  clear HK
  have HK := JK
  clear JK
  clear HRx
  have HRx := JRx
  clear JRx
  clear HRy
  have HRy := JRy
  clear JRy
  clear HRc
  have HRc := JRc
  clear JRc
  clear HRd
  have HRd := JRd
  clear JRd
  clear hb10
  go_wp2
  go_ret
  exact ⟨rfl, HK.out⟩

set_option maxRecDepth 100000 in
theorem liftedExactKnows (os : Os) (started : os.Started) (H : Type) (enc : TypeId × Value → H) :
    ReturnsInHanded {} Try.checked os 7 .any (Rows.fnExactKnowsSpec.pre6 enc Try.prog Try.f7 Rows.fnExactKnowsRow.domain false) (Rows.fnExactKnowsSpec.post enc Try.prog Try.f7 false true false false) := by
  refine returnsInHanded_of_change (C := Try.checked) ownP started (by kernel_rfl) Try.func7
    (ChangeSpec.witness6 (enc := enc) (C := Try.checked) false ⟨#[], #[.slice none 0 0, .slice none 0 0], []⟩ 8 (by kernel_rfl) (by kernel_rfl) (by kernel_rfl) (by kernel_rfl)) ?_
  intro W base args ds gs before hval0 hW hcnd _
  have hval : ∀ (j : Nat) t v, Try.f7.params[j]? = some t → args[j]? = some v → Value.okWide Try.prog W .any base t v := hval0
  have hW' := hW
  obtain ⟨p, q, hA0, hV, rfl, hfz, hnd⟩ := hW
  have hA : DataW.TrodAll enc Try.prog W 0 (fun _ => true) true Try.f7.params.toList args.toList ds p := hA0
  rw [Try.params7] at hA hval
  obtain ⟨v0, v1, d0, d1, p0, p1, hargs, rfl, rfl, h0, h1⟩ := trodAll_two hA
  obtain rfl : args = #[v0, v1] := by cases args; simp_all
  obtain ⟨rfl, rfl⟩ := trodVars_none hV
  have k0 := h0
  have lt0 : ∀ x ∈ p0, x.block < W.heap.size := by obtain ⟨m, hm⟩ := k0; exact DataW.trod_lt m _ _ _ hm
  have k1 := h1
  have lt1 : ∀ x ∈ p1, x.block < W.heap.size := by obtain ⟨m, hm⟩ := k1; exact DataW.trod_lt m _ _ _ hm
  obtain ⟨s0, c0, l0, rfl, m0, hR0⟩ := open_intS (hval 0 25 v0 rfl rfl) h0
  obtain ⟨s1, c1, l1, rfl, m1, hR1⟩ := open_intS (hval 1 25 v1 rfl rfl) h1
  clear hA0 hval0
  refine (walkExactKnows s0 c0 l0 s1 c1 l1 W hR0 m0 hR1 m1).mono fun e W' ⟨he, bel⟩ => ?_
  subst he
  exact ⟨_, rfl, _, _, _, [], _, [], hW', trodAll_mk1 (shut_bool Try.underlying4 _), trodAll_mk2 (Below.trod laidOutP (by kernel_rfl) (of_decide_eq_true (by kernel_rfl)) k0 bel lt0) (Below.trod laidOutP (by kernel_rfl) (of_decide_eq_true (by kernel_rfl)) k1 bel lt1), rfl, bel.frame _, fun h => by cases h⟩

theorem fnExactKnows_holds : Rows.FnExactKnowsSaid :=
  OpenClaim.holds_of_wide 7 Try.f7 rfl rfl rfl rfl rfl rfl rfl ⟨rfl, rfl, rfl, rfl, rfl⟩ rfl rfl rfl rfl rfl (by kernel_rfl) Try.func7 (by kernel_rfl)
    (of_decide_eq_true (by kernel_rfl)) (by unfold Func.isWrapper; first | (rw [if_pos (by decide +kernel)]; kernel_rfl) | (rw [if_neg (by decide +kernel)]; exact ⟨rfl, rfl⟩))
    (fun os started H enc _ => liftedExactKnows os started H enc)
#print axioms fnExactKnows_holds

end Go.Proofs.Ytopopoahmkfdkaa
