/- The law FnExactCodeText of the given statements: at every argument CodeText of the program answers as the specification's, and writes into none. Condition: the card's own (the listed tables hold what the program's text lays). -/
import Derived.Test.YthgefddocenjmaaDoorT16Fr
import Derived.Test.YthgefddocenjmaaDoorT16Co
import Derived.Test.YthgefddocenjmaaDoorFrameStepS
import Derived.Test.YthgefddocenjmaaDoorCards
import Derived.Test.YthgefddocenjmaaDoorTie
import Derived.SevenTiedAt
import Derived.OpenVars
namespace Go.Proofs.YthgefddocenjmaaDoor
set_option linter.unusedSimpArgs false
set_option linter.unusedVariables false
set_option maxRecDepth 100000
open Go.ChangeShapes Go.WideShapes Go.ChangeAt Go.RowKit Go.Deep

set_option maxHeartbeats 1000000 in
theorem walkCodeText_big (s : Option Addr) (n c : Nat) (w : World) (hn : n ≤ maxLen) (hb : 1048576 < n) :
    Calls Tryd.prog 4 #[.slice s n c] w fun e w' => e = .returned (.bool true) ∧ Below w.heap.size w w' := by
  go_enter Tryd.func4, Tryd.ntmps4
  go_wp2_with fail
  refine (szStepS_any s n c _ hn).mono ?_
  rintro e w' ⟨rfl, rfl⟩
  rw [if_pos hb]
  go_wp2
  go_ret
  exact ⟨rfl, Below.refl _ _⟩

set_option maxHeartbeats 1000000 in
theorem walkCodeText (s : Option Addr) (c : Nat) (l : List I5) (w : World) (h : InsB w w.heap.size s l) (hn : l.length ≤ maxLen) (hl : l.length ≤ 1048576) (hE : Env w w.heap.size) :
    Calls Tryd.prog 4 #[.slice s l.length c] w fun e w' => e = .returned (.bool true) ∧ Below w.heap.size w w' := by
  have HI : Hid (InsB w w.heap.size s l) := h
  have HE := hidT hE
  clear h hE
  have q : ¬ (1048576 : Int) - (l.length : Int) < 0 := by omega
  go_enter Tryd.func4, Tryd.ntmps4
  go_wp2_with fail
  refine (szStepS_any s l.length c _ hn).mono ?_
  rintro e w' ⟨rfl, hw⟩
  have hw' := hw.symm
  clear hw
  subst hw'
  rw [if_neg (by omega)]
  go_wp2_with fail
  refine (toStepS_any s c w.heap.size l w HI.out (Nat.le_refl _) hl).mono ?_
  rintro e w1 ⟨s1, rfl, hb1, hz1, hi1⟩
  go_wp2_with fail
  refine (specCodT_any s1 _ w1.heap.size l w1 hi1 (Nat.le_refl _) hl).mono ?_
  rintro e w2 ⟨rfl, hb2⟩
  have k2 : Below w.heap.size w w2 := hb1.trans (hb2.mono (by omega))
  have hz2 := hb2.size
  clear hi1
  go_wp2_with fail
  refine (toStepS_any s c w.heap.size l w2 (HI.out.keep k2) (by omega) hl).mono ?_
  rintro e w3 ⟨s3, rfl, hb3, hz3, hi3⟩
  have HI3 : Hid (InsB w3 w3.heap.size s3 l) := hi3
  clear hi3
  go_wp2_with fail
  refine (implCodT_any s3 _ w3.heap.size l w3 HI3.out (Nat.le_refl _) hl ((HE.out.keep (k2.trans (hb3.mono (by omega)))).mono (by omega))).mono ?_
  rintro e w4 ⟨rfl, hb4⟩
  have hz4 := hb4.size
  have k4 : Below w.heap.size w w4 := (k2.trans (hb3.mono (by omega))).trans (hb4.mono (by omega))
  go_wp2_with fail
  refine (toStepS_any s c w.heap.size l w4 (HI.out.keep k4) (by omega) hl).mono ?_
  rintro e w5 ⟨s5, rfl, hb5, hz5, hi5⟩
  have HI5 : Hid (InsB w5 w5.heap.size s5 l) := hi5
  clear hi5
  go_wp2_with fail
  refine (eqStepS_same s3 s5 _ _ w5.heap.size l w5 (((HI3.out.keep hb4).keep (hb5.mono (by omega))).mono (by omega)) HI5.out (Nat.le_refl _) hl).mono ?_
  rintro e w6 ⟨rfl, hb6⟩
  go_wp2
  go_ret
  exact ⟨rfl, (k4.trans (hb5.mono (by omega))).trans (hb6.mono (by omega))⟩

theorem ownB : ownKnob Tryd.prog.godebug = none := by kernel_rfl
theorem laidOutB' : laidOutB Tryd.prog = true := by kernel_rfl


set_option maxRecDepth 100000 in
theorem liftedCodeText (os : Os) (started : os.Started) (H : Type) (enc : TypeId × Value → H) :
    ReturnsInHanded {} Tryd.checked os 4 .any (fun w args => (Rows.fnExactCodeTextSpec.pre enc Tryd.prog Tryd.f4 [] false w args ∧ laidMetH Tryd.prog Rows.fnExactCodeTextRow.laid w) ∧ sizedMet enc Tryd.prog Tryd.f4 (OpenSpec.ofChange Rows.fnExactCodeTextSpec) false w args)
      (Rows.fnExactCodeTextSpec.post enc Tryd.prog Tryd.f4 false true false false) := by
  refine returnsInHanded_of_change_and (C := Tryd.checked) (X := fun w _ => laidMetH Tryd.prog Rows.fnExactCodeTextRow.laid w) (fun _ _ _ hh h => h.of_heap hh) ownC started (by kernel_rfl) Tryd.func4
    (ChangeSpec.witness_shaped (enc := enc) (C := Tryd.checked) (os := os) (X := fun w _ => laidMetH Tryd.prog Rows.fnExactCodeTextRow.laid w) false (World.doorLaid Tryd.prog 42 os) #[.slice none 0 0] 8 rfl (World.shaped_of_RefB (by kernel_rfl) (by kernel_rfl)) (by kernel_rfl) (by kernel_rfl) (by kernel_rfl) (door_met os _)) ?_
  intro W base args ds gs before hval0 hW _ _ hL _
  have hval : ∀ (j : Nat) t v, Tryd.f4.params[j]? = some t → args[j]? = some v → Value.okWide Tryd.prog W .any base t v := hval0
  have hW' := hW
  obtain ⟨p, q, hA0, hV, rfl, hfz, hnd⟩ := hW
  have hA : DataW.TrodAll enc Tryd.prog W 0 (fun _ => true) true Tryd.f4.params.toList args.toList ds p := hA0
  rw [Tryd.params4] at hA hval
  obtain ⟨v0, d0, hargs, rfl, h0⟩ := trodAll_one hA
  obtain rfl : args = #[v0] := by cases args; simp_all
  obtain ⟨rfl, rfl⟩ := trodVars_none hV
  have k0 := h0
  have lt0 : ∀ x ∈ p, x.block < W.heap.size := by obtain ⟨m, hm⟩ := k0; exact DataW.trod_lt m _ _ _ hm
  obtain ⟨s, c, l, rfl, hm, hr⟩ := open_stepS (hval 0 28 v0 rfl rfl) h0
  have hcall : Calls Tryd.prog 4 #[.slice s l.length c] W fun e w' => e = .returned (.bool true) ∧ Below W.heap.size W w' := by
    by_cases hb : 1048576 < l.length
    · exact walkCodeText_big s l.length c W hm hb
    · exact walkCodeText s c l W hr hm (by omega) (env_of_laid hL)
  clear hA0 hval0
  refine (hcall).mono fun e W' ⟨he, bel⟩ => ?_
  subst he
  exact ⟨_, rfl, _, _, _, [], _, [], hW', trodAll_mk1 (shut_bool Tryd.underlying4 _), trodAll_mk1 (Below.trod laidOutC (by kernel_rfl) (of_decide_eq_true (by kernel_rfl)) k0 bel lt0), rfl, bel.frame _, fun h => by cases h⟩

theorem fnExactCodeText_row : Rows.FnExactCodeTextSaid :=
  OpenClaim.holds_of_wide 4 Tryd.f4 rfl rfl rfl rfl rfl rfl rfl ⟨rfl, rfl, rfl, rfl, rfl⟩ rfl rfl rfl rfl rfl (by kernel_rfl) Tryd.func4 (by kernel_rfl)
    (of_decide_eq_true (by kernel_rfl)) (by unfold Func.isWrapper; first | (rw [if_pos (by decide +kernel)]; kernel_rfl) | (rw [if_neg (by decide +kernel)]; exact ⟨rfl, rfl⟩))
    (fun os started H enc _ => liftedCodeText os started H enc)

theorem fnExactCodeText_card : Rows.FnExactCodeTextCardSaid :=
  Claim7.holds_tied_plain_at .later [] [.data, .data, .data] true _ _
    fnExactCodeText_row (fun _ h => by cases h) (by kernel_rfl) (fun _ h => by cases h) fnExactCodeText_row_tie rfl ⟨rfl, rfl⟩ (by kernel_rfl) rfl
    (fun f fn hf hfn => by
      obtain rfl : f = 4 := Option.some.inj ((show Tryd.prog.funcNamed Rows.fnExactCodeTextRow.func = some 4 by kernel_rfl).symm.trans hf) |>.symm
      obtain rfl : fn = Tryd.f4 := (Option.some.inj (Tryd.func4.symm.trans hfn)).symm
      exact ⟨by kernel_rfl, fun j t ht => by
        rw [Tryd.params4] at ht
        have hm : t ∈ [28] := by simpa using Array.mem_of_getElem? ht
        have hall : ([28].all fun u => !Tryd.prog.wantsStandIn u) = true := by kernel_rfl
        exact (show Tryd.prog.wantsStandIn t = false by simpa using List.all_eq_true.1 hall t hm)⟩)
    (by kernel_rfl)
#print axioms fnExactCodeText_card
end Go.Proofs.YthgefddocenjmaaDoor
