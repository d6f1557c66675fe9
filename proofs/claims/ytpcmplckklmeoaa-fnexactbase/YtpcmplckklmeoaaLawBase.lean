/- The law FnExactBase of the given statements: at every argument Base of the program answers as the specification's and writes into no argument. No condition. -/
import Derived.Test.YtpcmplckklmeoaaFrameN
import Derived.Test.YtpcmplckklmeoaaN9Base
import Derived.Deep.RegionHeld3
namespace Go.Proofs.Ytpcmplckklmeoaa
set_option linter.unusedSimpArgs false
set_option linter.unusedVariables false
set_option maxRecDepth 100000
open Go.ChangeShapes Go.WideShapes Go.ChangeAt Go.RowKit Go.Deep

theorem wf_le {n : Int} (h : (Lit.int .i64 n).wf = true) : n ≤ 9223372036854775807 := by
  have hmax : IntKind.i64.max = 9223372036854775807 := rfl
  simp only [Lit.wf, Bool.and_eq_true, decide_eq_true_eq] at h
  omega
set_option maxRecDepth 100000 in
set_option maxHeartbeats 8000000 in
theorem walkExactBase (s0 : Option Addr) (c0 : Nat) (l0 : List Int) (l1 : Int) (w : World) (h0 : IntsR w 0 w.heap.size s0 l0) (m0 : l0.length ≤ maxLen) (hw1 : (Lit.int .i64 l1).wf = true) :
    Calls Try.prog 3 #[.slice s0 l0.length c0, .int .i64 l1] w fun e w' => e = .returned (.bool true) ∧ Below w.heap.size w w' := by
  have HA0 : Hid (IntsR w 0 w.heap.size s0 l0) := h0
  clear h0
  unfold maxLen at m0
  have hb1 := wf_le hw1
  clear hw1
  by_cases b0 : (l0.length : Int) > 1048576
  · go_enter Try.func3, Try.ntmps3
    go_wp2
    go_ret
    exact ⟨rfl, by first | exact Below.refl _ _ | exact (Below.refl _ _).alloc (Nat.le_refl _) _⟩
  have n0 : l0.length ≤ 1048576 := by omega
  go_enter Try.func3, Try.ntmps3
  go_wp2_with fail
  have HK : Hid (Below w.heap.size w w) := Below.refl _ _
  refine (toIntS_ex s0 c0 0 w.heap.size l0 w (HA0.out.keep (Keep.of_below HK.out (Nat.le_refl _))) (by omega) n0).mono ?_
  rintro e w1 ⟨xa, rfl, ho1, hb1, z1⟩
  have zz1 := hb1.size
  have JK : Hid (Below w.heap.size w w1) := HK.out.trans (hb1.mono (by omega))
  clear HK
  have HK := JK
  clear JK
  have HRa : Hid (IntsR w1 w.heap.size w1.heap.size (some ⟨xa, 0, none⟩) l0) := ownN_intsR ho1
  clear hb1 ho1
  go_wp2_with fail
  refine (specBase_any _ _ _ _ l0 l1 w1 HRa.out (by omega) (by omega)).mono ?_
  rintro e w2 ⟨rfl, hb2⟩
  have z2 := hb2.size
  have JK : Hid (Below w.heap.size w w2) := HK.out.trans (hb2.mono (by omega))
  have JRa : Hid (IntsR w2 w.heap.size w1.heap.size (some ⟨xa, 0, none⟩) l0) := HRa.out.keep (Keep.of_below hb2 (by omega))
  clear HK
  have HK := JK
  clear JK
  clear HRa
  have HRa := JRa
  clear JRa
  clear hb2
  obtain ⟨bb, hbb⟩ : ∃ b, baseV l0 l1 = b := ⟨_, rfl⟩
  have HBB : Hid (baseV l0 l1 = bb) := hbb
  rw [hbb]
  clear hbb
  have hbn : (bb != bb) = false := by simp
  clear HRa
  go_wp2_with fail
  refine (toIntS_ex s0 c0 0 w.heap.size l0 w2 (HA0.out.keep (Keep.of_below HK.out (Nat.le_refl _))) (by omega) n0).mono ?_
  rintro e w3 ⟨xx, rfl, ho3, hb3, z3⟩
  have zz3 := hb3.size
  have JK : Hid (Below w.heap.size w w3) := HK.out.trans (hb3.mono (by omega))
  clear HK
  have HK := JK
  clear JK
  have HRx : Hid (IntsR w3 w2.heap.size w3.heap.size (some ⟨xx, 0, none⟩) l0) := ownN_intsR ho3
  clear hb3 ho3
  go_wp2_with fail
  refine (implBase_any _ _ _ _ l0 l1 w3 HRx.out (by omega) (by omega)).mono ?_
  rintro e w4 ⟨rfl, hb4⟩
  have z4 := hb4.size
  have JK : Hid (Below w.heap.size w w4) := HK.out.trans (hb4.mono (by omega))
  have JRx : Hid (IntsR w4 w2.heap.size w3.heap.size (some ⟨xx, 0, none⟩) l0) := HRx.out.keep (Keep.of_below hb4 (by omega))
  clear HK
  have HK := JK
  clear JK
  clear HRx
  have HRx := JRx
  clear JRx
  clear hb4
  rw [HBB.out]
  go_wp2_with fail
  refine (toIntS_ex s0 c0 0 w.heap.size l0 w4 (HA0.out.keep (Keep.of_below HK.out (Nat.le_refl _))) (by omega) n0).mono ?_
  rintro e w5 ⟨xc, rfl, ho5, hb5, z5⟩
  have zz5 := hb5.size
  have JK : Hid (Below w.heap.size w w5) := HK.out.trans (hb5.mono (by omega))
  have JRx : Hid (IntsR w5 w2.heap.size w3.heap.size (some ⟨xx, 0, none⟩) l0) := HRx.out.keep (Keep.of_below hb5 (by omega))
  clear HK
  have HK := JK
  clear JK
  clear HRx
  have HRx := JRx
  clear JRx
  have HRc : Hid (IntsR w5 w4.heap.size w5.heap.size (some ⟨xc, 0, none⟩) l0) := ownN_intsR ho5
  clear hb5 ho5
  go_wp2_with fail
  refine (eqN_true _ _ HRx.out HRc.out (by omega) (by omega) (by omega)).mono ?_
  rintro e w6 ⟨rfl, hb6⟩
  have z6 := hb6.size
  have JK : Hid (Below w.heap.size w w6) := HK.out.trans (hb6.mono (by omega))
  have JRx : Hid (IntsR w6 w2.heap.size w3.heap.size (some ⟨xx, 0, none⟩) l0) := HRx.out.keep (Keep.of_below hb6 (by omega))
  have JRc : Hid (IntsR w6 w4.heap.size w5.heap.size (some ⟨xc, 0, none⟩) l0) := HRc.out.keep (Keep.of_below hb6 (by omega))
  clear HK
  have HK := JK
  clear JK
  clear HRx
  have HRx := JRx
  clear JRx
  clear HRc
  have HRc := JRc
  clear JRc
  clear hb6
  go_wp2
  go_ret
  exact ⟨rfl, HK.out⟩

set_option maxRecDepth 100000 in
theorem liftedExactBase (os : Os) (started : os.Started) (H : Type) (enc : TypeId × Value → H) :
    ReturnsInHanded {} Try.checked os 3 .any (Rows.fnExactBaseSpec.pre6 enc Try.prog Try.f3 Rows.fnExactBaseRow.domain false) (Rows.fnExactBaseSpec.post enc Try.prog Try.f3 false true false false) := by
  refine returnsInHanded_of_change (C := Try.checked) ownP started (by kernel_rfl) Try.func3
    (ChangeSpec.witness6 (enc := enc) (C := Try.checked) false ⟨#[], #[.slice none 0 0, .int .i64 0], []⟩ 8 (by kernel_rfl) (by kernel_rfl) (by kernel_rfl) (by kernel_rfl)) ?_
  intro W base args ds gs before hval0 hW hcnd _
  have hval : ∀ (j : Nat) t v, Try.f3.params[j]? = some t → args[j]? = some v → Value.okWide Try.prog W .any base t v := hval0
  have hW' := hW
  obtain ⟨p, q, hA0, hV, rfl, hfz, hnd⟩ := hW
  have hA : DataW.TrodAll enc Try.prog W 0 (fun _ => true) true Try.f3.params.toList args.toList ds p := hA0
  rw [Try.params3] at hA hval
  obtain ⟨v0, v1, d0, d1, p0, p1, hargs, rfl, rfl, h0, h1⟩ := trodAll_two hA
  obtain rfl : args = #[v0, v1] := by cases args; simp_all
  obtain ⟨rfl, rfl⟩ := trodVars_none hV
  have k0 := h0
  have lt0 : ∀ x ∈ p0, x.block < W.heap.size := by obtain ⟨m, hm⟩ := k0; exact DataW.trod_lt m _ _ _ hm
  have k1 := h1
  have lt1 : ∀ x ∈ p1, x.block < W.heap.size := by obtain ⟨m, hm⟩ := k1; exact DataW.trod_lt m _ _ _ hm
  obtain ⟨s0, c0, l0, rfl, m0, hR0⟩ := open_intS (hval 0 22 v0 rfl rfl) h0
  obtain ⟨l1, rfl, -, -, hwf1⟩ := open_int Try.underlying3 (hval 1 3 v1 rfl rfl) h1
  clear hA0 hval0
  refine (walkExactBase s0 c0 l0 l1 W hR0 m0 hwf1).mono fun e W' ⟨he, bel⟩ => ?_
  subst he
  exact ⟨_, rfl, _, _, _, [], _, [], hW', trodAll_mk1 (shut_bool Try.underlying4 _), trodAll_mk2 (Below.trod laidOutP (by kernel_rfl) (of_decide_eq_true (by kernel_rfl)) k0 bel lt0) (Below.trod laidOutP (by kernel_rfl) (of_decide_eq_true (by kernel_rfl)) k1 bel lt1), rfl, bel.frame _, fun h => by cases h⟩

theorem fnExactBase_holds : Rows.FnExactBaseSaid :=
  OpenClaim.holds_of_wide 3 Try.f3 rfl rfl rfl rfl rfl rfl rfl ⟨rfl, rfl, rfl, rfl, rfl⟩ rfl rfl rfl rfl rfl (by kernel_rfl) Try.func3 (by kernel_rfl)
    (of_decide_eq_true (by kernel_rfl)) (by unfold Func.isWrapper; first | (rw [if_pos (by decide +kernel)]; kernel_rfl) | (rw [if_neg (by decide +kernel)]; exact ⟨rfl, rfl⟩))
    (fun os started H enc _ => liftedExactBase os started H enc)
#print axioms fnExactBase_holds

end Go.Proofs.Ytpcmplckklmeoaa
