/- The law FnExactStepText of the given statements: at every argument StepText of the program answers as the specification's, and writes into none. Condition: the card's own (the listed tables hold what the program's text lays). -/
import Derived.Test.YthgefddocenjmaaDoorT16Fr
import Derived.Test.YthgefddocenjmaaDoorT16Tx
import Derived.Test.YthgefddocenjmaaDoorT16Sp
import Derived.Test.YthgefddocenjmaaDoorFrameStp
import Derived.Test.YthgefddocenjmaaDoorToStep
import Derived.Test.YthgefddocenjmaaDoorCards
import Derived.Test.YthgefddocenjmaaDoorTie
import Derived.SevenTiedAt
import Derived.OpenVars
namespace Go.Proofs.YthgefddocenjmaaDoor
set_option linter.unusedSimpArgs false
set_option linter.unusedVariables false
set_option maxRecDepth 100000
open Go.ChangeShapes Go.WideShapes Go.ChangeAt Go.RowKit Go.Deep

set_option maxHeartbeats 2000000 in
theorem walkStepText (o r a b n : Int) (w : World) (hE : Env w w.heap.size) : Calls Tryd.prog 3 #[.agg #[.int .i64 o, .int .i64 r, .int .i64 a, .int .i64 b, .int .i64 n]] w fun e w' => e = .returned (.bool true) ∧ Below w.heap.size w w' := by
  obtain ⟨W, hW⟩ : ∃ W, w.alloc (.cells #[.int .i64 o, .int .i64 r, .int .i64 a, .int .i64 b, .int .i64 n] 23) = W := ⟨_, rfl⟩
  have kW : Below w.heap.size w W := by subst hW; exact (Below.refl _ _).alloc (Nat.le_refl _) _
  have sW : w.heap.size < W.heap.size := by subst hW; simp
  have x0 : W.cell? ⟨w.heap.size, 0, none⟩ = some (.int .i64 o) := by subst hW; simp [go_sem]
  have x1 : W.cell? ⟨w.heap.size, 1, none⟩ = some (.int .i64 r) := by subst hW; simp [go_sem]
  have x2 : W.cell? ⟨w.heap.size, 2, none⟩ = some (.int .i64 a) := by subst hW; simp [go_sem]
  have x3 : W.cell? ⟨w.heap.size, 3, none⟩ = some (.int .i64 b) := by subst hW; simp [go_sem]
  have x4 : W.cell? ⟨w.heap.size, 4, none⟩ = some (.int .i64 n) := by subst hW; simp [go_sem]
  have KW := hidT kW
  have HE := hidT hE
  clear kW hE
  go_enter Tryd.func3, Tryd.ntmps3
  go_wp2_with fail
  try rw [hW]
  clear hW
  refine (toStep_any o r a b n W).mono ?_
  rintro e w1 ⟨rfl, b1⟩
  have K1 := hidT (KW.out.trans (b1.mono (Nat.le_of_lt sW)))
  have s1 : w.heap.size < w1.heap.size := by have := b1.size; omega
  have y0 := (b1.cell (p := ⟨w.heap.size, 0, none⟩) sW).trans x0
  have y1 := (b1.cell (p := ⟨w.heap.size, 1, none⟩) sW).trans x1
  have y2 := (b1.cell (p := ⟨w.heap.size, 2, none⟩) sW).trans x2
  have y3 := (b1.cell (p := ⟨w.heap.size, 3, none⟩) sW).trans x3
  have y4 := (b1.cell (p := ⟨w.heap.size, 4, none⟩) sW).trans x4
  clear b1 x0 x1 x2 x3 x4
  go_wp2_with fail
  refine (specStepText_any o r a b n w1).mono ?_
  rintro e w2 ⟨rfl, b2⟩
  have K2 := hidT (K1.out.trans (b2.mono (Nat.le_of_lt s1)))
  have s2 : w.heap.size < w2.heap.size := by have := b2.size; omega
  have x0 := (b2.cell (p := ⟨w.heap.size, 0, none⟩) s1).trans y0
  have x1 := (b2.cell (p := ⟨w.heap.size, 1, none⟩) s1).trans y1
  have x2 := (b2.cell (p := ⟨w.heap.size, 2, none⟩) s1).trans y2
  have x3 := (b2.cell (p := ⟨w.heap.size, 3, none⟩) s1).trans y3
  have x4 := (b2.cell (p := ⟨w.heap.size, 4, none⟩) s1).trans y4
  clear b2 y0 y1 y2 y3 y4
  go_wp2_with fail
  refine (toStep_any o r a b n w2).mono ?_
  rintro e w3 ⟨rfl, b3⟩
  have K3 := hidT (K2.out.trans (b3.mono (Nat.le_of_lt s2)))
  have s3 : w.heap.size < w3.heap.size := by have := b3.size; omega
  clear b3 x0 x1 x2 x3 x4
  go_wp2_with fail
  refine (implStepText_any o r a b n w3 ((HE.out.keep K3.out).mono (Nat.le_of_lt s3))).mono ?_
  rintro e w4 ⟨rfl, b4⟩
  have K4 := hidT (K3.out.trans (b4.mono (Nat.le_of_lt s3)))
  clear b4
  go_wp2
  go_ret
  exact ⟨rfl, K4.out⟩

set_option maxRecDepth 100000 in
theorem liftedStepText (os : Os) (started : os.Started) (H : Type) (enc : TypeId × Value → H) :
    ReturnsInHanded {} Tryd.checked os 3 .any (fun w args => (Rows.fnExactStepTextSpec.pre enc Tryd.prog Tryd.f3 [] false w args ∧ laidMetH Tryd.prog Rows.fnExactStepTextRow.laid w) ∧ sizedMet enc Tryd.prog Tryd.f3 (OpenSpec.ofChange Rows.fnExactStepTextSpec) false w args)
      (Rows.fnExactStepTextSpec.post enc Tryd.prog Tryd.f3 false true false false) := by
  refine returnsInHanded_of_change_and (C := Tryd.checked) (X := fun w _ => laidMetH Tryd.prog Rows.fnExactStepTextRow.laid w) (fun _ _ _ hh h => h.of_heap hh) ownC started (by kernel_rfl) Tryd.func3
    (ChangeSpec.witness_shaped (enc := enc) (C := Tryd.checked) (os := os) (X := fun w _ => laidMetH Tryd.prog Rows.fnExactStepTextRow.laid w) false (World.doorLaid Tryd.prog 42 os) #[.agg #[.int .i64 0, .int .i64 0, .int .i64 0, .int .i64 0, .int .i64 0]] 8 rfl (World.shaped_of_RefB (by kernel_rfl) (by kernel_rfl)) (by kernel_rfl) (by kernel_rfl) (by kernel_rfl) (door_met os _)) ?_
  intro W base args ds gs before hval0 hW _ _ hL _
  have hval : ∀ (j : Nat) t v, Tryd.f3.params[j]? = some t → args[j]? = some v → Value.okWide Tryd.prog W .any base t v := hval0
  have hW' := hW
  obtain ⟨p, q, hA0, hV, rfl, hfz, hnd⟩ := hW
  have hA : DataW.TrodAll enc Tryd.prog W 0 (fun _ => true) true Tryd.f3.params.toList args.toList ds p := hA0
  rw [Tryd.params3] at hA hval
  obtain ⟨v0, d0, hargs, rfl, h0⟩ := trodAll_one hA
  obtain rfl : args = #[v0] := by cases args; simp_all
  obtain ⟨rfl, rfl⟩ := trodVars_none hV
  have k0 := h0
  have lt0 : ∀ x ∈ p, x.block < W.heap.size := by obtain ⟨m, hm⟩ := k0; exact DataW.trod_lt m _ _ _ hm
  obtain ⟨o, r, a, b, n, rfl, w0⟩ := open_step (hval 0 23 v0 rfl rfl) h0
  clear hA0 hval0
  refine (walkStepText o r a b n W (env_of_laid hL)).mono fun e W' ⟨he, bel⟩ => ?_
  subst he
  exact ⟨_, rfl, _, _, _, [], _, [], hW', trodAll_mk1 (shut_bool Tryd.underlying4 _), trodAll_mk1 (Below.trod laidOutC (by kernel_rfl) (of_decide_eq_true (by kernel_rfl)) k0 bel lt0), rfl, bel.frame _, fun h => by cases h⟩

theorem fnExactStepText_row : Rows.FnExactStepTextSaid :=
  OpenClaim.holds_of_wide 3 Tryd.f3 rfl rfl rfl rfl rfl rfl rfl ⟨rfl, rfl, rfl, rfl, rfl⟩ rfl rfl rfl rfl rfl (by kernel_rfl) Tryd.func3 (by kernel_rfl)
    (of_decide_eq_true (by kernel_rfl)) (by unfold Func.isWrapper; first | (rw [if_pos (by decide +kernel)]; kernel_rfl) | (rw [if_neg (by decide +kernel)]; exact ⟨rfl, rfl⟩))
    (fun os started H enc _ => liftedStepText os started H enc)

theorem fnExactStepText_card : Rows.FnExactStepTextCardSaid :=
  Claim7.holds_tied_plain_at .later [] [.data, .data, .data] true _ _
    fnExactStepText_row (fun _ h => by cases h) (by kernel_rfl) (fun _ h => by cases h) fnExactStepText_row_tie rfl ⟨rfl, rfl⟩ (by kernel_rfl) rfl
    (fun f fn hf hfn => by
      obtain rfl : f = 3 := Option.some.inj ((show Tryd.prog.funcNamed Rows.fnExactStepTextRow.func = some 3 by kernel_rfl).symm.trans hf) |>.symm
      obtain rfl : fn = Tryd.f3 := (Option.some.inj (Tryd.func3.symm.trans hfn)).symm
      exact ⟨by kernel_rfl, fun j t ht => by
        rw [Tryd.params3] at ht
        have hm : t ∈ [23] := by simpa using Array.mem_of_getElem? ht
        have hall : ([23].all fun u => !Tryd.prog.wantsStandIn u) = true := by kernel_rfl
        exact (show Tryd.prog.wantsStandIn t = false by simpa using List.all_eq_true.1 hall t hm)⟩)
    (by kernel_rfl)
#print axioms fnExactStepText_card
end Go.Proofs.YthgefddocenjmaaDoor
