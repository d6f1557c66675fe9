/- The law FnExactInsRead of the given statements: at every line InsRead of the program answers as the specification's. Condition: the card's own (the listed tables hold what the program's text lays). -/
import Derived.Test.YtfhhlahfldddfahDoorFrameD
import Derived.Test.YtfhhlahfldddfahDoorBody
import Derived.Test.YtfhhlahfldddfahDoorRead5
import Derived.Test.YtfhhlahfldddfahDoorSRead5
import Derived.Test.YtfhhlahfldddfahDoorCards
import Derived.Test.YtfhhlahfldddfahDoorTie
import Derived.SevenTiedAt
import Derived.OpenVars
import Derived.ChangeMaps5
namespace Go.Proofs.YtfhhlahfldddfahDoor
set_option linter.unusedSimpArgs false
set_option linter.unusedVariables false
set_option maxRecDepth 100000
open Go.ChangeShapes Go.WideShapes Go.ChangeAt Go.RowKit Go.ChangeMaps

theorem readV_form (x : Option R5) : ∃ (o r a b n : Int) (t : Bool), readV x = .tuple #[.agg #[.int .i64 o, .int .i64 r, .int .i64 a, .int .i64 b, .int .i64 n], .bool t] := by
  cases x with
  | none => exact ⟨0, 0, 0, 0, 0, false, rfl⟩
  | some x => exact ⟨x.o, x.r, x.a, x.b, x.n, true, rfl⟩

set_option maxHeartbeats 2000000 in
theorem walkInsRead (l : List UInt8) (w : World) (hE : Env w w.heap.size) (hn : l.length ≤ maxLen) : Calls Tryd.prog 4 #[.string ⟨l.toArray⟩] w fun e w' => e = .returned (.bool true) ∧ Below w.heap.size w w' := by
  have HE : Hid (Env w w.heap.size) := hE
  clear hE
  by_cases hbig : 1048576 < l.length
  · have hb : (1048576 : Int) < (l.length : Int) := by omega
    go_enter Tryd.func4, Tryd.ntmps4
    go_wp2
    go_ret
    exact ⟨rfl, Below.refl _ _⟩
  · have hb : ¬ (1048576 : Int) < (l.length : Int) := by omega
    obtain ⟨o, r, a, b, n, t, hrv⟩ := readV_form (readL l)
    have HRV : Hid (readV (readL l) = .tuple #[.agg #[.int .i64 o, .int .i64 r, .int .i64 a, .int .i64 b, .int .i64 n], .bool t]) := hrv
    clear hrv
    go_enter Tryd.func4, Tryd.ntmps4
    go_wp2_with fail
    refine (specInsRead_any l (by omega) _).mono ?_
    rintro e w1 ⟨rfl, hb1⟩
    rw [HRV.out]
    have K1 : Hid (Below w.heap.size w w1) := hb1
    have z1 : w.heap.size ≤ w1.heap.size := hb1.size
    have KA : Hid (Below w.heap.size w (w1.alloc (box5 o r a b n))) := K1.out.alloc z1 _
    have EA : Hid (Env (w1.alloc (box5 o r a b n)) (w1.alloc (box5 o r a b n)).heap.size) := (HE.out.keep KA.out).mono (by simp; omega)
    have XA : Hid ((w1.alloc (box5 o r a b n)).heap[w1.heap.size]? = some (box5 o r a b n)) := push_last _ _
    clear hb1
    go_wp2_with fail
    refine (implInsRead_any l (by omega) _ EA.out).mono ?_
    rintro e w2 ⟨rfl, hb2⟩
    rw [HRV.out]
    have K2 : Hid (Below w.heap.size w w2) := KA.out.trans (hb2.mono (by simp; omega))
    have z2 : w1.heap.size < w2.heap.size := by have := hb2.size; simp at this; omega
    have hx2 := (hb2.block w1.heap.size (by simp)).trans XA.out
    obtain ⟨c0, c1, c2, c3, c4⟩ := box5_cells hx2
    clear hb2 hx2 KA EA XA
    have KB : Hid (Below w.heap.size w (w2.alloc (box5 o r a b n))) := K2.out.alloc (by omega) _
    go_wp2_with fail
    refine (eqIns_same o r a b n _).mono ?_
    rintro e w3 ⟨rfl, hb3⟩
    have K3 : Hid (Below w.heap.size w w3) := KB.out.trans (hb3.mono (by simp; omega))
    clear hb3 c0 c1 c2 c3 c4
    cases t
    · go_wp2
      go_ret
      exact ⟨rfl, K3.out⟩
    · go_wp2
      go_ret
      exact ⟨rfl, K3.out⟩

set_option maxRecDepth 100000 in
theorem liftedInsRead (os : Os) (started : os.Started) (H : Type) (enc : TypeId × Value → H) :
    ReturnsInHanded {} Tryd.checked os 4 .any (fun w args => (Rows.fnExactInsReadSpec.pre enc Tryd.prog Tryd.f4 [] false w args ∧ laidMetH Tryd.prog Rows.fnExactInsTextRow.laid w) ∧ sizedMet enc Tryd.prog Tryd.f4 (OpenSpec.ofChange Rows.fnExactInsReadSpec) false w args)
      (Rows.fnExactInsReadSpec.post enc Tryd.prog Tryd.f4 false true false false) := by
  refine returnsInHanded_of_change_and (C := Tryd.checked) (X := fun w _ => laidMetH Tryd.prog Rows.fnExactInsTextRow.laid w) (fun _ _ _ hh h => h.of_heap hh) ownD started (by kernel_rfl) Tryd.func4
    (ChangeSpec.witness_shaped (enc := enc) (C := Tryd.checked) (os := os) (X := fun w _ => laidMetH Tryd.prog Rows.fnExactInsTextRow.laid w) false (World.doorLaid Tryd.prog 42 os) #[.string ⟨#[]⟩] 8 rfl (World.shaped_of_RefB (by kernel_rfl) (by kernel_rfl)) (by kernel_rfl) (by kernel_rfl) (by kernel_rfl) (door_met os _)) ?_
  intro W base args ds gs before hval0 hW _ _ hL _
  have hval : ∀ (j : Nat) t v, Tryd.f4.params[j]? = some t → args[j]? = some v → Value.okWide Tryd.prog W .any base t v := hval0
  have hW' := hW
  obtain ⟨p, q, hA0, hV, rfl, hfz, hnd⟩ := hW
  have hA : DataW.TrodAll enc Tryd.prog W 0 (fun _ => true) true Tryd.f4.params.toList args.toList ds p := hA0
  rw [Tryd.params4] at hA hval
  obtain ⟨v0, d0, hargs, rfl, h0⟩ := trodAll_one hA
  obtain rfl : args = #[v0] := by cases args; simp_all
  have hVk := hV
  obtain ⟨g9, t9, cs9, fuel9, d9, p9, rfl, -⟩ := trodVars_one hV
  have k0 := h0
  have lt0 : ∀ x ∈ p, x.block < W.heap.size := by obtain ⟨m, hm⟩ := k0; exact DataW.trod_lt m _ _ _ hm
  obtain ⟨s, rfl, rfl, rfl, ws⟩ := open_string Tryd.underlying9 (hval 0 9 v0 rfl rfl) h0
  clear hA0 hval0
  refine (walkInsRead s.data.toList W (env_of_laid hL) ws).mono fun e W' ⟨he, bel⟩ => ?_
  subst he
  exact ⟨_, rfl, _, _, _, [], _, _, hW', trodAll_mk1 (shut_bool Tryd.underlying4 _), trodAll_mk1 (Below.trod laidOutD (by kernel_rfl) (of_decide_eq_true (by kernel_rfl)) k0 bel lt0), Below.trodVars laidOutD bel (by kernel_rfl) hVk, bel.frame _, fun h => by cases h⟩

theorem fnExactInsRead_row : Rows.FnExactInsReadSaid :=
  OpenClaim.holds_of_wide 4 Tryd.f4 rfl rfl rfl rfl rfl rfl rfl ⟨rfl, rfl, rfl, rfl, rfl⟩ rfl rfl rfl rfl rfl (by kernel_rfl) Tryd.func4 (by kernel_rfl)
    (of_decide_eq_true (by kernel_rfl)) (by unfold Func.isWrapper; first | (rw [if_pos (by decide +kernel)]; kernel_rfl) | (rw [if_neg (by decide +kernel)]; exact ⟨rfl, rfl⟩))
    (fun os started H enc _ => liftedInsRead os started H enc)

theorem fnExactInsRead_card : Rows.FnExactInsReadCardSaid :=
  Claim7.holds_tied_plain_at .later [] [.data, .data, .data, .data] true _ _
    fnExactInsRead_row (fun _ h => by cases h) (by kernel_rfl) (fun _ h => by cases h) fnExactInsRead_row_tie rfl ⟨rfl, rfl⟩ (by kernel_rfl) rfl
    (fun f fn hf hfn => by
      obtain rfl : f = 4 := Option.some.inj ((show Tryd.prog.funcNamed Rows.fnExactInsReadRow.func = some 4 by kernel_rfl).symm.trans hf) |>.symm
      obtain rfl : fn = Tryd.f4 := (Option.some.inj (Tryd.func4.symm.trans hfn)).symm
      exact ⟨by kernel_rfl, fun j t ht => by
        rw [Tryd.params4] at ht
        have hm : t ∈ [9] := by simpa using Array.mem_of_getElem? ht
        have hall : ([9].all fun u => !Tryd.prog.wantsStandIn u) = true := by kernel_rfl
        exact (show Tryd.prog.wantsStandIn t = false by simpa using List.all_eq_true.1 hall t hm)⟩)
    (by kernel_rfl)
#print axioms fnExactInsRead_card
end Go.Proofs.YtfhhlahfldddfahDoor
