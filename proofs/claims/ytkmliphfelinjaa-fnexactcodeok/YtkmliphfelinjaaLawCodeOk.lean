/- The law FnExactCodeOk of the given statements: at every argument CodeOk of the program answers as the specification's, and writes into none. No condition. -/
import Derived.Test.YtkmliphfelinjaaFrameStepS
import Derived.Test.YtkmliphfelinjaaCodeI
import Derived.Test.YtkmliphfelinjaaCodeS
import Derived.Deep.Slices
namespace Go.Proofs.Ytkmliphfelinjaa
set_option linter.unusedSimpArgs false
set_option linter.unusedVariables false
set_option maxRecDepth 100000
open Go.ChangeShapes Go.WideShapes Go.ChangeAt Go.RowKit Go.Deep

set_option maxHeartbeats 1000000 in
theorem walkCode_big (s : Option Addr) (n c : Nat) (w : World) (hn : n ≤ maxLen) (hb : 1048576 < n) :
    Calls Try.prog 6 #[.slice s n c] w fun e w' => e = .returned (.bool true) ∧ Below w.heap.size w w' := by
  go_enter Try.func6, Try.ntmps6
  go_wp2_with fail
  refine (szStepS_any s n c _ hn).mono ?_
  rintro e w' ⟨rfl, rfl⟩
  rw [if_pos hb]
  go_wp2
  go_ret
  exact ⟨rfl, Below.refl _ _⟩

set_option maxHeartbeats 1000000 in
theorem walkCode (s : Option Addr) (c : Nat) (l : List I5) (w : World) (h : InsB w w.heap.size s l) (hn : l.length ≤ maxLen) (hl : l.length ≤ 1048576) :
    Calls Try.prog 6 #[.slice s l.length c] w fun e w' => e = .returned (.bool true) ∧ Below w.heap.size w w' := by
  have HI : Hid (InsB w w.heap.size s l) := h
  clear h
  have q : ¬ (1048576 : Int) - (l.length : Int) < 0 := by omega
  go_enter Try.func6, Try.ntmps6
  go_wp2_with fail
  refine (szStepS_any s l.length c _ hn).mono ?_
  rintro e w' ⟨rfl, hw⟩
  have hw' := hw.symm
  clear hw
  subst hw'
  rw [if_neg (by omega)]
  go_wp2_with fail
  refine (toStepS_any s c w.heap.size l w HI.out (Nat.le_refl _) hl).mono ?_
  rintro e w1 ⟨s1, rfl, hb1, hz1, hi1⟩
  go_wp2_with fail
  refine (specCode_any s1 _ w1.heap.size l w1 hi1 (Nat.le_refl _) hl).mono ?_
  rintro e w2 ⟨rfl, hb2⟩
  have k2 : Below w.heap.size w w2 := hb1.trans (hb2.mono (by omega))
  have hz2 := hb2.size
  clear hi1
  go_wp2_with fail
  refine (toStepS_any s c w.heap.size l w2 (HI.out.keep k2) (by omega) hl).mono ?_
  rintro e w3 ⟨s3, rfl, hb3, hz3, hi3⟩
  have HI3 : Hid (InsB w3 w3.heap.size s3 l) := hi3
  clear hi3
  go_wp2_with fail
  refine (implCode_any s3 _ w3.heap.size l w3 HI3.out (Nat.le_refl _) hl).mono ?_
  rintro e w4 ⟨rfl, hb4⟩
  have hz4 := hb4.size
  have k4 : Below w.heap.size w w4 := (k2.trans (hb3.mono (by omega))).trans (hb4.mono (by omega))
  go_wp2_with fail
  refine (toStepS_any s c w.heap.size l w4 (HI.out.keep k4) (by omega) hl).mono ?_
  rintro e w5 ⟨s5, rfl, hb5, hz5, hi5⟩
  have HI5 : Hid (InsB w5 w5.heap.size s5 l) := hi5
  clear hi5
  go_wp2_with fail
  refine (eqStepS_same s3 s5 _ _ w5.heap.size l w5 (((HI3.out.keep hb4).keep (hb5.mono (by omega))).mono (by omega)) HI5.out (Nat.le_refl _) hl).mono ?_
  rintro e w6 ⟨rfl, hb6⟩
  go_wp2
  go_ret
  exact ⟨rfl, (k4.trans (hb5.mono (by omega))).trans (hb6.mono (by omega))⟩

theorem ownB : ownKnob Try.prog.godebug = none := by kernel_rfl
theorem laidOutB' : laidOutB Try.prog = true := by kernel_rfl

set_option maxRecDepth 100000 in
theorem liftedCode (os : Os) (started : os.Started) (H : Type) (enc : TypeId × Value → H) :
    ReturnsInHanded {} Try.checked os 6 .any (Rows.fnExactCodeOkSpec.pre6 enc Try.prog Try.f6 Rows.fnExactCodeOkRow.domain false) (Rows.fnExactCodeOkSpec.post enc Try.prog Try.f6 false true false false) := by
  refine returnsInHanded_of_change (C := Try.checked) ownB started (by kernel_rfl) Try.func6
    (ChangeSpec.witness6 (enc := enc) (C := Try.checked) false ⟨#[], #[.slice none 0 0], []⟩ 8 (by kernel_rfl) (by kernel_rfl) (by kernel_rfl) (by kernel_rfl)) ?_
  intro W base args ds gs before hval0 hW hcnd _
  have hval : ∀ (j : Nat) t v, Try.f6.params[j]? = some t → args[j]? = some v → Value.okWide Try.prog W .any base t v := hval0
  have hW' := hW
  obtain ⟨p, q, hA0, hV, rfl, hfz, hnd⟩ := hW
  have hA : DataW.TrodAll enc Try.prog W 0 (fun _ => true) true Try.f6.params.toList args.toList ds p := hA0
  rw [Try.params6] at hA hval
  obtain ⟨v0, d0, hargs, rfl, h0⟩ := trodAll_one hA
  obtain rfl : args = #[v0] := by cases args; simp_all
  obtain ⟨rfl, rfl⟩ := trodVars_none hV
  have k0 := h0
  have lt0 : ∀ x ∈ p, x.block < W.heap.size := by obtain ⟨m, hm⟩ := k0; exact DataW.trod_lt m _ _ _ hm
  obtain ⟨s, c, l, rfl, hmax, hI⟩ := open_stepS (hval 0 41 v0 rfl rfl) h0
  clear hA0 hval0
  have hcall : Calls Try.prog 6 #[.slice s l.length c] W fun e w' => e = .returned (.bool true) ∧ Below W.heap.size W w' := by
    by_cases hb : 1048576 < l.length
    · exact walkCode_big s l.length c W hmax hb
    · exact walkCode s c l W hI hmax (by omega)
  refine hcall.mono fun e W' ⟨he, bel⟩ => ?_
  subst he
  exact ⟨_, rfl, _, _, _, [], _, [], hW', trodAll_mk1 (shut_bool Try.underlying4 _), trodAll_mk1 (Below.trod laidOutB' (by kernel_rfl) (of_decide_eq_true (by kernel_rfl)) k0 bel lt0), rfl, bel.frame _, fun h => by cases h⟩

theorem fnExactCodeOk_holds : Rows.FnExactCodeOkSaid :=
  OpenClaim.holds_of_wide 6 Try.f6 rfl rfl rfl rfl rfl rfl rfl ⟨rfl, rfl, rfl, rfl, rfl⟩ rfl rfl rfl rfl rfl (by kernel_rfl) Try.func6 (by kernel_rfl)
    (of_decide_eq_true (by kernel_rfl)) (by unfold Func.isWrapper; first | (rw [if_pos (by decide +kernel)]; kernel_rfl) | (rw [if_neg (by decide +kernel)]; exact ⟨rfl, rfl⟩))
    (fun os started H enc _ => liftedCode os started H enc)
#print axioms fnExactCodeOk_holds
end Go.Proofs.Ytkmliphfelinjaa
