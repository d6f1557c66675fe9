/- The law FnExactProgText of the given statements: at every program ProgText of the program answers as the specification's, and writes into none. Condition: the card's own (the listed tables hold what the program's text lays). -/
import Derived.Test.YtfhhlahfldddfahDoorFrameProg
import Derived.Test.YtfhhlahfldddfahDoorPText3
import Derived.Test.YtfhhlahfldddfahDoorCards
import Derived.Test.YtfhhlahfldddfahDoorTie
import Derived.SevenTiedAt
import Derived.OpenVars
namespace Go.Proofs.YtfhhlahfldddfahDoor
set_option linter.unusedSimpArgs false
set_option linter.unusedVariables false
set_option maxRecDepth 100000
open Go.ChangeShapes Go.WideShapes Go.ChangeAt Go.RowKit Go.Deep

set_option maxHeartbeats 1000000 in
theorem walkProgText (s s' : Option Addr) (c c' : Nat) (p : PD) (w : World) (h : ProgR w 0 w.heap.size s s' p) (hn : p.caps.length ≤ maxLen) (hn' : p.bods.length ≤ maxLen) (hls : ∀ i, i < p.bods.length → (p.bods.getD i []).length ≤ maxLen) (hE : Env w w.heap.size) :
    Calls Tryd.prog 5 #[.agg #[.slice s p.caps.length c, .slice s' p.bods.length c']] w fun e w' => e = .returned (.bool true) ∧ Below w.heap.size w w' := by
  have HP : Hid (ProgR w 0 w.heap.size s s' p) := h
  have HLS : Hid (∀ i, i < p.bods.length → (p.bods.getD i []).length ≤ maxLen) := hls
  have HE : Hid (Env w w.heap.size) := hE
  clear h hls hE
  have ka : Below w.heap.size w (w.alloc (.cells #[.slice s p.caps.length c, .slice s' p.bods.length c'] 35)) := (Below.refl _ _).alloc (Nat.le_refl _) _
  have KA : Hid (Below w.heap.size w (w.alloc (.cells #[.slice s p.caps.length c, .slice s' p.bods.length c'] 35))) := ka
  clear ka
  go_enter Tryd.func5, Tryd.ntmps5
  go_wp2_with fail
  refine (szProg_any s s' c c' 0 w.heap.size p _ (HP.out.keep (Keep.of_below KA.out (Nat.le_refl _))) (by simp) hn hn' HLS.out).mono ?_
  rintro e w1 ⟨⟨v, rfl, hv⟩, hb1⟩
  obtain ⟨a0, a1, hz1⟩ := boxed2 hb1
  have K1 : Hid (Below w.heap.size w w1) := KA.out.trans (hb1.mono (by simp))
  clear hb1
  rcases hv with hv | ⟨hv, hf⟩
  · go_wp2
    go_ret
    exact ⟨rfl, K1.out⟩
  · have hv' : ¬ v < 0 := by omega
    have HF : Hid (Fits p) := hf
    clear hf
    go_wp2_with fail
    refine (toProg_new s s' c c' 0 w.heap.size p w1 (HP.out.keep (Keep.of_below K1.out (Nat.le_refl _))) (by omega) HF.out).mono ?_
    rintro e w2 ⟨t, t', rfl, hb2, hz2, hp2⟩
    go_wp2_with fail
    refine (specProgText_any t t' _ _ _ _ p w2 hp2 (Nat.le_refl _) HF.out).mono ?_
    rintro e w3 ⟨rfl, hb3⟩
    have hz3 := hb3.size
    have K3 : Hid (Below w.heap.size w w3) := (K1.out.trans (hb2.mono (by omega))).trans (hb3.mono (by omega))
    obtain ⟨b0, b1⟩ := carry2 (hb2.trans (hb3.mono (by omega))) hz1 a0 a1
    clear a0 a1 hp2 hb2 hb3
    go_wp2_with fail
    refine (toProg_new s s' c c' 0 w.heap.size p w3 (HP.out.keep (Keep.of_below K3.out (Nat.le_refl _))) (by omega) HF.out).mono ?_
    rintro e w4 ⟨u, u', rfl, hb4, hz4, hp4⟩
    have HP4 : Hid (ProgR w4 w3.heap.size w4.heap.size u u' p) := hp4
    have K4 : Hid (Below w.heap.size w w4) := K3.out.trans (hb4.mono (by omega))
    obtain ⟨a0, a1⟩ := carry2 hb4 (by omega) b0 b1
    clear b0 b1 hb4 hp4
    have kx : Below w4.heap.size w4 (w4.alloc (.cells #[.slice u p.caps.length p.caps.length, .slice u' p.bods.length p.bods.length] 40)) := (Below.refl _ _).alloc (Nat.le_refl _) _
    have KX : Hid (Below w4.heap.size w4 (w4.alloc (.cells #[.slice u p.caps.length p.caps.length, .slice u' p.bods.length p.bods.length] 40))) := kx
    clear kx
    go_wp2_with fail
    have EX : Hid (Env (w4.alloc (.cells #[.slice u p.caps.length p.caps.length, .slice u' p.bods.length p.bods.length] 40)) (w4.alloc (.cells #[.slice u p.caps.length p.caps.length, .slice u' p.bods.length p.bods.length] 40)).heap.size) := (HE.out.keep (K4.out.trans (KX.out.mono (by omega)))).mono (by simp; omega)
    refine (implProgText_any u u' _ _ w3.heap.size w4.heap.size p _ (HP4.out.keep (Keep.of_below KX.out (Nat.le_refl _))) (by simp) HF.out EX.out).mono ?_
    rintro e w5 ⟨rfl, hb5⟩
    obtain ⟨x0, x1, hz5⟩ := boxed2 hb5
    have K45 : Hid (Below w4.heap.size w4 w5) := KX.out.trans (hb5.mono (by simp))
    obtain ⟨b0, b1⟩ := carry2 K45.out (by omega) a0 a1
    clear a0 a1 hb5
    have K5 : Hid (Below w.heap.size w w5) := K4.out.trans (K45.out.mono (by omega))
    go_wp2_with fail
    first | go_region_with (first | (go_at_call 14; refine (toProg_new s s' c c' 0 w.heap.size p w5.drew (HP.out.keep (Keep.of_below (Below.drew K5.out) (Nat.le_refl _))) (by simp; omega) HF.out).mono ?_; rintro e w6 ⟨y, y', rfl, hb6, hz6, hp6⟩; obtain ⟨z0, z1⟩ := carry2 (w1 := w5.drew) hb6 (by simp; omega) x0 x1) | (go_at_call 16; refine (eqProg_same u u' y y' _ _ _ _ w3.heap.size w4.heap.size w5.heap.size w6.heap.size p w6 ((HP4.out.keep (Keep.of_below (Below.drew K45.out) (Nat.le_refl _))).keep (Keep.of_below hb6 (by simp; omega))) hp6 (by simp at hz6; omega) (Nat.le_refl _) HF.out).mono ?_; rintro e w7 ⟨rfl, hb7⟩)) | fail
    all_goals
      have hz6' : w5.heap.size < w6.heap.size := by simpa using hz6
      have K7 : Hid (Below w.heap.size w w7) := ((Below.drew K5.out).trans (hb6.mono (by simp; omega))).trans (hb7.mono (by omega))
      clear hb6 hb7 hp6
      go_wp2
      go_ret
      exact ⟨rfl, K7.out⟩

set_option maxRecDepth 100000 in
theorem liftedProgText (os : Os) (started : os.Started) (H : Type) (enc : TypeId × Value → H) :
    ReturnsInHanded {} Tryd.checked os 5 .any (fun w args => (Rows.fnExactProgTextSpec.pre enc Tryd.prog Tryd.f5 [] false w args ∧ laidMetH Tryd.prog Rows.fnExactInsTextRow.laid w) ∧ sizedMet enc Tryd.prog Tryd.f5 (OpenSpec.ofChange Rows.fnExactProgTextSpec) false w args)
      (Rows.fnExactProgTextSpec.post enc Tryd.prog Tryd.f5 false true false false) := by
  refine returnsInHanded_of_change_and (C := Tryd.checked) (X := fun w _ => laidMetH Tryd.prog Rows.fnExactInsTextRow.laid w) (fun _ _ _ hh h => h.of_heap hh) ownD started (by kernel_rfl) Tryd.func5
    (ChangeSpec.witness_shaped (enc := enc) (C := Tryd.checked) (os := os) (X := fun w _ => laidMetH Tryd.prog Rows.fnExactInsTextRow.laid w) false (World.doorLaid Tryd.prog 42 os) #[.agg #[.slice none 0 0, .slice none 0 0]] 8 rfl (World.shaped_of_RefB (by kernel_rfl) (by kernel_rfl)) (by kernel_rfl) (by kernel_rfl) (by kernel_rfl) (door_met os _)) ?_
  intro W base args ds gs before hval0 hW _ _ hL _
  have hval : ∀ (j : Nat) t v, Tryd.f5.params[j]? = some t → args[j]? = some v → Value.okWide Tryd.prog W .any base t v := hval0
  have hW' := hW
  obtain ⟨p, q, hA0, hV, rfl, hfz, hnd⟩ := hW
  have hA : DataW.TrodAll enc Tryd.prog W 0 (fun _ => true) true Tryd.f5.params.toList args.toList ds p := hA0
  rw [Tryd.params5] at hA hval
  obtain ⟨v0, d0, hargs, rfl, h0⟩ := trodAll_one hA
  obtain rfl : args = #[v0] := by cases args; simp_all
  have hVk := hV
  obtain ⟨g9, t9, cs9, fuel9, d9, p9, rfl, -⟩ := trodVars_one hV
  have k0 := h0
  have lt0 : ∀ x ∈ p, x.block < W.heap.size := by obtain ⟨m, hm⟩ := k0; exact DataW.trod_lt m _ _ _ hm
  obtain ⟨s, s', c, c', pd, rfl, m1, m2, m3, hP⟩ := open_prog (hval 0 35 v0 rfl rfl) h0
  clear hA0 hval0
  refine (walkProgText s s' c c' pd W hP m1 m2 m3 (env_of_laid hL)).mono fun e W' ⟨he, bel⟩ => ?_
  subst he
  exact ⟨_, rfl, _, _, _, [], _, _, hW', trodAll_mk1 (shut_bool Tryd.underlying4 _), trodAll_mk1 (Below.trod laidOutD (by kernel_rfl) (of_decide_eq_true (by kernel_rfl)) k0 bel lt0), Below.trodVars laidOutD bel (by kernel_rfl) hVk, bel.frame _, fun h => by cases h⟩

theorem fnExactProgText_row : Rows.FnExactProgTextSaid :=
  OpenClaim.holds_of_wide 5 Tryd.f5 rfl rfl rfl rfl rfl rfl rfl ⟨rfl, rfl, rfl, rfl, rfl⟩ rfl rfl rfl rfl rfl (by kernel_rfl) Tryd.func5 (by kernel_rfl)
    (of_decide_eq_true (by kernel_rfl)) (by unfold Func.isWrapper; first | (rw [if_pos (by decide +kernel)]; kernel_rfl) | (rw [if_neg (by decide +kernel)]; exact ⟨rfl, rfl⟩))
    (fun os started H enc _ => liftedProgText os started H enc)

theorem fnExactProgText_card : Rows.FnExactProgTextCardSaid :=
  Claim7.holds_tied_plain_at .later [] [.data, .data, .data, .data] true _ _
    fnExactProgText_row (fun _ h => by cases h) (by kernel_rfl) (fun _ h => by cases h) fnExactProgText_row_tie rfl ⟨rfl, rfl⟩ (by kernel_rfl) rfl
    (fun f fn hf hfn => by
      obtain rfl : f = 5 := Option.some.inj ((show Tryd.prog.funcNamed Rows.fnExactProgTextRow.func = some 5 by kernel_rfl).symm.trans hf) |>.symm
      obtain rfl : fn = Tryd.f5 := (Option.some.inj (Tryd.func5.symm.trans hfn)).symm
      exact ⟨by kernel_rfl, fun j t ht => by
        rw [Tryd.params5] at ht
        have hm : t ∈ [35] := by simpa using Array.mem_of_getElem? ht
        have hall : ([35].all fun u => !Tryd.prog.wantsStandIn u) = true := by kernel_rfl
        exact (show Tryd.prog.wantsStandIn t = false by simpa using List.all_eq_true.1 hall t hm)⟩)
    (by kernel_rfl)
#print axioms fnExactProgText_card
end Go.Proofs.YtfhhlahfldddfahDoor
