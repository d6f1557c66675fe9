/- The law FnExactTraceText of the given statements: at every argument TraceText of the program answers as the specification's, and writes into none. Condition: the card's own (the listed tables hold what the program's text lays). -/
import Derived.Test.YthgefddocenjmaaDoorT16Fr
import Derived.Test.YthgefddocenjmaaDoorCards
import Derived.Test.YthgefddocenjmaaDoorTie
import Derived.SevenTiedAt
import Derived.OpenVars
namespace Go.Proofs.YthgefddocenjmaaDoor
set_option linter.unusedSimpArgs false
set_option linter.unusedVariables false
set_option maxRecDepth 100000
open Go.ChangeShapes Go.WideShapes Go.ChangeAt Go.RowKit Go.Deep

set_option maxHeartbeats 2000000 in
theorem walkTraceText (s : Option Addr) (c : Nat) (l : List ND) (w : World) (h : NtsR w 0 w.heap.size s l) (hm : l.length ≤ maxLen) (hn : NtB l) (hE : Env w w.heap.size) :
    Calls Tryd.prog 5 #[.slice s l.length c] w fun e w' => e = .returned (.bool true) ∧ Below w.heap.size w w' := by
  by_cases hbig : (1048576 : Int) < l.length
  · clear h hn hE
    go_enter Tryd.func5, Tryd.ntmps5
    go_wp2_with fail
    refine (szNoteS_all s l.length c 1048576 w hm (by omega) (by omega)).mono ?_
    rintro e w1 ⟨rfl, hw⟩
    have hw' := hw.symm
    subst hw'
    rw [if_pos hbig]
    go_wp2
    go_ret
    exact ⟨rfl, Below.refl _ _⟩
  · have hl : l.length ≤ 1048576 := by omega
    have hz : ¬ (1048576 : Int) - (l.length : Int) < 0 := by omega
    have HP := hidT h
    have HN := hidT hn
    have HE := hidT hE
    clear h hn hE
    go_enter Tryd.func5, Tryd.ntmps5
    go_wp2_with fail
    refine (szNoteS_all s l.length c 1048576 w hm (by omega) (by omega)).mono ?_
    rintro e w1 ⟨rfl, hw⟩
    have hw' := hw.symm
    subst hw'
    rw [if_neg (by omega)]
    clear hbig
    go_wp2_with fail
    refine (toNoteS_own s c 0 w.heap.size l w HP.out (Nat.le_refl _) hl).mono ?_
    rintro e w2 ⟨rfl, o2, b2, z2⟩
    obtain ⟨s2, c2, e2, n2⟩ := o2.nts
    cases e2
    have N2 := hidT n2
    have K2 := hidT b2
    clear o2 b2 n2
    go_wp2_with fail
    refine (specTrace_any _ _ _ _ l w2 N2.out (Nat.le_refl _) hl HN.out).mono ?_
    rintro e w3 ⟨rfl, b3⟩
    have K3 := hidT (K2.out.trans (b3.mono (by omega)))
    have z3 := b3.size
    have P3 := hidT (HP.out.keep (Keep.of_below K3.out (Nat.le_refl _)))
    clear b3 N2
    go_wp2_with fail
    refine (toNoteS_own s c 0 w.heap.size l w3 P3.out (by omega) hl).mono ?_
    rintro e w4 ⟨rfl, o4, b4, z4⟩
    obtain ⟨s4, c4', e4, n4⟩ := o4.nts
    cases e4
    have N4 := hidT n4
    have K4 := hidT (K3.out.trans (b4.mono (by omega)))
    clear o4 b4 n4
    go_wp2_with fail
    refine (implTrace_any _ _ _ _ l w4 N4.out (Nat.le_refl _) hl HN.out ((HE.out.keep K4.out).mono (by omega))).mono ?_
    rintro e w5 ⟨rfl, b5⟩
    have K5 := hidT (K4.out.trans (b5.mono (by omega)))
    have z5 := b5.size
    have N5 := hidT (N4.out.keep (Keep.of_below b5 (Nat.le_refl _)))
    have P5 := hidT (HP.out.keep (Keep.of_below K5.out (Nat.le_refl _)))
    clear b5 N4 P3
    go_wp2_with fail
    refine (toNoteS_own s c 0 w.heap.size l w5 P5.out (by omega) hl).mono ?_
    rintro e w6 ⟨rfl, o6, b6, z6⟩
    obtain ⟨s6, c6', e6, n6⟩ := o6.nts
    cases e6
    have N6 := hidT n6
    have M6 := hidT (N5.out.keep (Keep.of_below b6 (by omega)))
    have K6 := hidT (K5.out.trans (b6.mono (by omega)))
    clear o6 b6 n6 N5
    go_wp2_with fail
    refine (eqNoteS_alike _ _ _ _ _ _ _ _ l w6 M6.out N6.out (by omega) (Nat.le_refl _) hl).mono ?_
    rintro e w7 ⟨rfl, b7⟩
    have K7 := hidT (K6.out.trans (b7.mono (by omega)))
    clear b7
    go_wp2
    go_ret
    exact ⟨rfl, K7.out⟩

set_option maxRecDepth 100000 in
theorem liftedTraceText (os : Os) (started : os.Started) (H : Type) (enc : TypeId × Value → H) :
    ReturnsInHanded {} Tryd.checked os 5 .any (fun w args => (Rows.fnExactTraceTextSpec.pre enc Tryd.prog Tryd.f5 [] false w args ∧ laidMetH Tryd.prog Rows.fnExactTraceTextRow.laid w) ∧ sizedMet enc Tryd.prog Tryd.f5 (OpenSpec.ofChange Rows.fnExactTraceTextSpec) false w args)
      (Rows.fnExactTraceTextSpec.post enc Tryd.prog Tryd.f5 false true false false) := by
  refine returnsInHanded_of_change_and (C := Tryd.checked) (X := fun w _ => laidMetH Tryd.prog Rows.fnExactTraceTextRow.laid w) (fun _ _ _ hh h => h.of_heap hh) ownC started (by kernel_rfl) Tryd.func5
    (ChangeSpec.witness_shaped (enc := enc) (C := Tryd.checked) (os := os) (X := fun w _ => laidMetH Tryd.prog Rows.fnExactTraceTextRow.laid w) false (World.doorLaid Tryd.prog 42 os) #[.slice none 0 0] 8 rfl (World.shaped_of_RefB (by kernel_rfl) (by kernel_rfl)) (by kernel_rfl) (by kernel_rfl) (by kernel_rfl) (door_met os _)) ?_
  intro W base args ds gs before hval0 hW _ _ hL _
  have hval : ∀ (j : Nat) t v, Tryd.f5.params[j]? = some t → args[j]? = some v → Value.okWide Tryd.prog W .any base t v := hval0
  have hW' := hW
  obtain ⟨p, q, hA0, hV, rfl, hfz, hnd⟩ := hW
  have hA : DataW.TrodAll enc Tryd.prog W 0 (fun _ => true) true Tryd.f5.params.toList args.toList ds p := hA0
  rw [Tryd.params5] at hA hval
  obtain ⟨v0, d0, hargs, rfl, h0⟩ := trodAll_one hA
  obtain rfl : args = #[v0] := by cases args; simp_all
  obtain ⟨rfl, rfl⟩ := trodVars_none hV
  have k0 := h0
  have lt0 : ∀ x ∈ p, x.block < W.heap.size := by obtain ⟨m, hm⟩ := k0; exact DataW.trod_lt m _ _ _ hm
  obtain ⟨s, c, l, rfl, hm, hr, hb⟩ := open_notes (hval 0 35 v0 rfl rfl) h0
  clear hA0 hval0
  refine (walkTraceText s c l W hr hm hb (env_of_laid hL)).mono fun e W' ⟨he, bel⟩ => ?_
  subst he
  exact ⟨_, rfl, _, _, _, [], _, [], hW', trodAll_mk1 (shut_bool Tryd.underlying4 _), trodAll_mk1 (Below.trod laidOutC (by kernel_rfl) (of_decide_eq_true (by kernel_rfl)) k0 bel lt0), rfl, bel.frame _, fun h => by cases h⟩

theorem fnExactTraceText_row : Rows.FnExactTraceTextSaid :=
  OpenClaim.holds_of_wide 5 Tryd.f5 rfl rfl rfl rfl rfl rfl rfl ⟨rfl, rfl, rfl, rfl, rfl⟩ rfl rfl rfl rfl rfl (by kernel_rfl) Tryd.func5 (by kernel_rfl)
    (of_decide_eq_true (by kernel_rfl)) (by unfold Func.isWrapper; first | (rw [if_pos (by decide +kernel)]; kernel_rfl) | (rw [if_neg (by decide +kernel)]; exact ⟨rfl, rfl⟩))
    (fun os started H enc _ => liftedTraceText os started H enc)

theorem fnExactTraceText_card : Rows.FnExactTraceTextCardSaid :=
  Claim7.holds_tied_plain_at .later [] [.data, .data, .data] true _ _
    fnExactTraceText_row (fun _ h => by cases h) (by kernel_rfl) (fun _ h => by cases h) fnExactTraceText_row_tie rfl ⟨rfl, rfl⟩ (by kernel_rfl) rfl
    (fun f fn hf hfn => by
      obtain rfl : f = 5 := Option.some.inj ((show Tryd.prog.funcNamed Rows.fnExactTraceTextRow.func = some 5 by kernel_rfl).symm.trans hf) |>.symm
      obtain rfl : fn = Tryd.f5 := (Option.some.inj (Tryd.func5.symm.trans hfn)).symm
      exact ⟨by kernel_rfl, fun j t ht => by
        rw [Tryd.params5] at ht
        have hm : t ∈ [35] := by simpa using Array.mem_of_getElem? ht
        have hall : ([35].all fun u => !Tryd.prog.wantsStandIn u) = true := by kernel_rfl
        exact (show Tryd.prog.wantsStandIn t = false by simpa using List.all_eq_true.1 hall t hm)⟩)
    (by kernel_rfl)
#print axioms fnExactTraceText_card
end Go.Proofs.YthgefddocenjmaaDoor
