/- The law FnExactChanText of the given statements: at every argument ChanText of the program answers as the specification's, and writes into none. Condition: the card's own (the listed tables hold what the program's text lays). -/
import Derived.Test.YthgefddocenjmaaDoorT16Fr
import Derived.Test.YthgefddocenjmaaDoorCards
import Derived.Test.YthgefddocenjmaaDoorTie
import Derived.SevenTiedAt
import Derived.OpenVars
namespace Go.Proofs.YthgefddocenjmaaDoor
set_option linter.unusedSimpArgs false
set_option linter.unusedVariables false
set_option maxRecDepth 100000
open Go.ChangeShapes Go.WideShapes Go.ChangeAt Go.RowKit Go.Deep

set_option maxHeartbeats 2000000 in
theorem walkChanText (cap : Int) (s : Option Addr) (l : List Int) (c : Nat) (cl : Bool) (w : World) (hr : RowI w w.heap.size s l) (hm : l.length ≤ maxLen) (hn : IB l) (hE : Env w w.heap.size) : Calls Tryd.prog 6 #[.agg #[.int .i64 cap, .slice s l.length c, .bool cl]] w fun e w' => e = .returned (.bool true) ∧ Below w.heap.size w w' := by
  by_cases hbig : (1048576 : Int) - (l.length : Int) < 0
  · have HL : Hid (leftI 1048576 l.length = -1) := leftI_neg hbig
    clear hbig
    go_enter Tryd.func6, Tryd.ntmps6
    go_wp2_with (go_at_call 20; refine (szChan_any cap s l.length c cl 1048576 _ hm (by omega) (by omega)).mono ?_; rintro e w1 ⟨rfl, hb1⟩; rw [HL.out]; have K1 := ((Below.refl w.heap.size w).alloc (Nat.le_refl _) (.cells #[.int .i64 cap, .slice s l.length c, .bool cl] 44)).trans (hb1.mono (by simp)); clear hb1)
    go_ret
    exact ⟨rfl, K1⟩
  have hp : 0 ≤ leftI 1048576 l.length := by rw [leftI_pos hbig]; omega
  have hl : l.length ≤ 1048576 := by omega
  have HIB := hidT hn
  have HEV := hidT hE
  clear hn hE
  clear hbig
  go_enter Tryd.func6, Tryd.ntmps6
  go_wp2_with fail
  obtain ⟨W0, hW0, bx0, kb0, sz0⟩ := box1 w (.int .i64 cap) (.slice s l.length c) (.bool cl) 44
  rw [hW0]
  clear hW0
  have HK : Hid (Below w.heap.size w W0) := kb0
  have HA : Hid (Box1 w.heap.size W0 (.int .i64 cap) (.slice s l.length c) (.bool cl)) := bx0
  have HR : Hid (RowI W0 w.heap.size s l) := hr.below kb0
  clear bx0 kb0
  refine (szChan_any cap s l.length c cl 1048576 W0 hm (by omega) (by omega)).mono ?_
  rintro e w1 ⟨rfl, hb1⟩
  have z1 := hb1.size
  have JK : Hid (Below w.heap.size w w1) := HK.out.trans (hb1.mono (by omega))
  have JA : Hid (Box1 w.heap.size w1 (.int .i64 cap) (.slice s l.length c) (.bool cl)) := HA.out.keep (hb1.block _ HA.out.z) hb1.size
  have JR : Hid (RowI w1 w.heap.size s l) := HR.out.keep (fun k hk => hb1.block k (by omega))
  clear HK
  have HK := JK
  clear JK
  clear HA
  have HA := JA
  clear JA
  clear HR
  have HR := JR
  clear JR
  clear hb1
  obtain ⟨A0, A1, A2, Af, Az⟩ := HA.out
  go_wp2_with fail
  refine (toChan_any cap s l c w.heap.size cl w1 HR.out (by omega) hl).mono ?_
  rintro e w2 ⟨s2, rfl, hb2, z2, n2⟩
  clear A0 A1 A2 Af Az
  have JK : Hid (Below w.heap.size w w2) := HK.out.trans (hb2.mono (by omega))
  have JA : Hid (Box1 w.heap.size w2 (.int .i64 cap) (.slice s l.length c) (.bool cl)) := HA.out.keep (hb2.block _ HA.out.z) hb2.size
  have JR : Hid (RowI w2 w.heap.size s l) := HR.out.keep (fun k hk => hb2.block k (by omega))
  clear HK
  have HK := JK
  clear JK
  clear HA
  have HA := JA
  clear JA
  clear HR
  have HR := JR
  clear JR
  have HT2 : Hid (NewI w2 w1.heap.size w2.heap.size s2 l) := n2
  clear hb2 n2
  obtain ⟨A0, A1, A2, Af, Az⟩ := HA.out
  go_wp2_with fail
  refine (specChT_any cap s2 l.length _ l cl w2 HT2.out.row (Nat.le_refl _) hl HIB.out).mono ?_
  rintro e w3 ⟨rfl, hb3⟩
  have z3 := hb3.size
  clear A0 A1 A2 Af Az
  have JK : Hid (Below w.heap.size w w3) := HK.out.trans (hb3.mono (by omega))
  have JA : Hid (Box1 w.heap.size w3 (.int .i64 cap) (.slice s l.length c) (.bool cl)) := HA.out.keep (hb3.block _ HA.out.z) hb3.size
  have JR : Hid (RowI w3 w.heap.size s l) := HR.out.keep (fun k hk => hb3.block k (by omega))
  have JT2 : Hid (NewI w3 w1.heap.size w2.heap.size s2 l) := HT2.out.keep (fun k h1 h2 => hb3.block k (by omega))
  clear HK
  have HK := JK
  clear JK
  clear HA
  have HA := JA
  clear JA
  clear HR
  have HR := JR
  clear JR
  clear HT2
  have HT2 := JT2
  clear JT2
  clear hb3
  obtain ⟨A0, A1, A2, Af, Az⟩ := HA.out
  go_wp2_with fail
  clear HT2
  refine (toChan_any cap s l c w.heap.size cl w3 HR.out (by omega) hl).mono ?_
  rintro e w4 ⟨s4, rfl, hb4, z4, n4⟩
  clear A0 A1 A2 Af Az
  have JK : Hid (Below w.heap.size w w4) := HK.out.trans (hb4.mono (by omega))
  have JA : Hid (Box1 w.heap.size w4 (.int .i64 cap) (.slice s l.length c) (.bool cl)) := HA.out.keep (hb4.block _ HA.out.z) hb4.size
  have JR : Hid (RowI w4 w.heap.size s l) := HR.out.keep (fun k hk => hb4.block k (by omega))
  clear HK
  have HK := JK
  clear JK
  clear HA
  have HA := JA
  clear JA
  clear HR
  have HR := JR
  clear JR
  have HN : Hid (NewI w4 w3.heap.size w4.heap.size s4 l) := n4
  clear hb4 n4
  obtain ⟨A0, A1, A2, Af, Az⟩ := HA.out
  go_wp2_with fail
  clear A0 A1 A2 Af Az
  obtain ⟨W4, hW4, bx4, kb4, sz4⟩ := box1 w4 (.int .i64 cap) (.slice s4 l.length l.length) (.bool cl) 47
  rw [hW4]
  clear hW4
  have JK : Hid (Below w.heap.size w W4) := HK.out.trans (kb4.mono (by omega))
  have JA : Hid (Box1 w.heap.size W4 (.int .i64 cap) (.slice s l.length c) (.bool cl)) := HA.out.keep (kb4.block _ HA.out.z) kb4.size
  have JR : Hid (RowI W4 w.heap.size s l) := HR.out.keep (fun k hk => kb4.block k (by omega))
  have JN : Hid (NewI W4 w3.heap.size w4.heap.size s4 l) := HN.out.keep (fun k h1 h2 => kb4.block k (by omega))
  clear HK
  have HK := JK
  clear JK
  clear HA
  have HA := JA
  clear JA
  clear HR
  have HR := JR
  clear JR
  clear HN
  have HN := JN
  clear JN
  have HX : Hid (Box1 w4.heap.size W4 (.int .i64 cap) (.slice s4 l.length l.length) (.bool cl)) := bx4
  clear bx4 kb4
  obtain ⟨A0, A1, A2, Af, Az⟩ := HA.out
  obtain ⟨X0, X1, X2, Xf, Xz⟩ := HX.out
  refine (implChT_any cap s4 l.length _ l cl W4 HN.out.row (by omega) hl HIB.out ((HEV.out.keep HK.out).mono (by omega))).mono ?_
  rintro e w5 ⟨rfl, hb5⟩
  have z5 := hb5.size
  clear A0 A1 A2 Af Az
  clear X0 X1 X2 Xf Xz
  have JK : Hid (Below w.heap.size w w5) := HK.out.trans (hb5.mono (by omega))
  have JA : Hid (Box1 w.heap.size w5 (.int .i64 cap) (.slice s l.length c) (.bool cl)) := HA.out.keep (hb5.block _ HA.out.z) hb5.size
  have JR : Hid (RowI w5 w.heap.size s l) := HR.out.keep (fun k hk => hb5.block k (by omega))
  have JN : Hid (NewI w5 w3.heap.size w4.heap.size s4 l) := HN.out.keep (fun k h1 h2 => hb5.block k (by omega))
  have JX : Hid (Box1 w4.heap.size w5 (.int .i64 cap) (.slice s4 l.length l.length) (.bool cl)) := HX.out.keep (hb5.block _ HX.out.z) hb5.size
  clear HK
  have HK := JK
  clear JK
  clear HA
  have HA := JA
  clear JA
  clear HR
  have HR := JR
  clear JR
  clear HN
  have HN := JN
  clear JN
  clear HX
  have HX := JX
  clear JX
  clear hb5
  obtain ⟨A0, A1, A2, Af, Az⟩ := HA.out
  obtain ⟨X0, X1, X2, Xf, Xz⟩ := HX.out
  go_wp2_with fail
  go_region_held3 (fun w' => w'.cell? ⟨w4.heap.size, 0, none⟩ = some (.int .i64 cap) ∧ w'.cell? ⟨w4.heap.size, 1, none⟩ = some (.slice s4 l.length l.length) ∧ w'.cell? ⟨w4.heap.size, 2, none⟩ = some (.bool cl) ∧ w'.cell? ⟨w.heap.size, 0, none⟩ = some (.int .i64 cap) ∧ w'.cell? ⟨w.heap.size, 1, none⟩ = some (.slice s l.length c) ∧ w'.cell? ⟨w.heap.size, 2, none⟩ = some (.bool cl)) (go_keep) (first | (go_at_call 22; refine (toChan_any cap s l c w.heap.size cl w5.drew (HR.out.keep (w' := w5.drew) (fun _ _ => rfl)) (by show _ ≤ w5.heap.size; omega) hl).mono ?_; rintro e w6 ⟨s6, rfl, hb6, z6, n6⟩; have kx : Below w5.heap.size w5 w6 := (Below.drew (Below.refl _ _)).trans hb6; have XX := HX.out.keep (kx.block _ HX.out.z) kx.size; have AA := HA.out.keep (kx.block _ HA.out.z) kx.size; have x0' := XX.c0; have x1' := XX.c1; have x2' := XX.c2; have y0' := AA.c0; have y1' := AA.c1; have y2' := AA.c2) | (go_at_call 24; refine (eqChan_same cap s4 s6 l l.length l.length w4.heap.size w6.heap.size cl w6 (HN.out.row.keep (fun k hk => kx.block k (by omega))) n6.row (by have := kx.size; omega) (Nat.le_refl _) (by omega)).mono ?_; rintro e w7 ⟨rfl, hb7, z7⟩; have XY := XX.keep (hb7.block _ XX.z) hb7.size; have AY := AA.keep (hb7.block _ AA.z) hb7.size; have x0'' := XY.c0; have x1'' := XY.c1; have x2'' := XY.c2; have y0'' := AY.c0; have y1'' := AY.c1; have y2'' := AY.c2))
  have zk := kx.size
  have hq : Below w5.heap.size w5 w7 := kx.trans (hb7.mono (by omega))
  have zq := hq.size
  clear x0' x1' x2' y0' y1' y2' x0'' x1'' x2'' y0'' y1'' y2'' XX AA XY AY kx n6 hb6 hb7
  clear A0 A1 A2 Af Az
  clear X0 X1 X2 Xf Xz
  have JK : Hid (Below w.heap.size w w7) := HK.out.trans (hq.mono (by omega))
  have JA : Hid (Box1 w.heap.size w7 (.int .i64 cap) (.slice s l.length c) (.bool cl)) := HA.out.keep (hq.block _ HA.out.z) hq.size
  have JR : Hid (RowI w7 w.heap.size s l) := HR.out.keep (fun k hk => hq.block k (by omega))
  have JN : Hid (NewI w7 w3.heap.size w4.heap.size s4 l) := HN.out.keep (fun k h1 h2 => hq.block k (by omega))
  have JX : Hid (Box1 w4.heap.size w7 (.int .i64 cap) (.slice s4 l.length l.length) (.bool cl)) := HX.out.keep (hq.block _ HX.out.z) hq.size
  clear HK
  have HK := JK
  clear JK
  clear HA
  have HA := JA
  clear JA
  clear HR
  have HR := JR
  clear JR
  clear HN
  have HN := JN
  clear JN
  clear HX
  have HX := JX
  clear JX
  clear hq
  obtain ⟨A0, A1, A2, Af, Az⟩ := HA.out
  obtain ⟨X0, X1, X2, Xf, Xz⟩ := HX.out
  go_wp2
  go_ret
  exact ⟨rfl, HK.out⟩


set_option maxRecDepth 100000 in
theorem liftedChanText (os : Os) (started : os.Started) (H : Type) (enc : TypeId × Value → H) :
    ReturnsInHanded {} Tryd.checked os 6 .any (fun w args => (Rows.fnExactChanTextSpec.pre enc Tryd.prog Tryd.f6 [] false w args ∧ laidMetH Tryd.prog Rows.fnExactChanTextRow.laid w) ∧ sizedMet enc Tryd.prog Tryd.f6 (OpenSpec.ofChange Rows.fnExactChanTextSpec) false w args)
      (Rows.fnExactChanTextSpec.post enc Tryd.prog Tryd.f6 false true false false) := by
  refine returnsInHanded_of_change_and (C := Tryd.checked) (X := fun w _ => laidMetH Tryd.prog Rows.fnExactChanTextRow.laid w) (fun _ _ _ hh h => h.of_heap hh) ownC started (by kernel_rfl) Tryd.func6
    (ChangeSpec.witness_shaped (enc := enc) (C := Tryd.checked) (os := os) (X := fun w _ => laidMetH Tryd.prog Rows.fnExactChanTextRow.laid w) false (World.doorLaid Tryd.prog 42 os) #[.agg #[.int .i64 0, .slice none 0 0, .bool false]] 8 rfl (World.shaped_of_RefB (by kernel_rfl) (by kernel_rfl)) (by kernel_rfl) (by kernel_rfl) (by kernel_rfl) (door_met os _)) ?_
  intro W base args ds gs before hval0 hW _ _ hL _
  have hval : ∀ (j : Nat) t v, Tryd.f6.params[j]? = some t → args[j]? = some v → Value.okWide Tryd.prog W .any base t v := hval0
  have hW' := hW
  obtain ⟨p, q, hA0, hV, rfl, hfz, hnd⟩ := hW
  have hA : DataW.TrodAll enc Tryd.prog W 0 (fun _ => true) true Tryd.f6.params.toList args.toList ds p := hA0
  rw [Tryd.params6] at hA hval
  obtain ⟨v0, d0, hargs, rfl, h0⟩ := trodAll_one hA
  obtain rfl : args = #[v0] := by cases args; simp_all
  obtain ⟨rfl, rfl⟩ := trodVars_none hV
  have k0 := h0
  have lt0 : ∀ x ∈ p, x.block < W.heap.size := by obtain ⟨m, hm⟩ := k0; exact DataW.trod_lt m _ _ _ hm
  obtain ⟨cap, s, l, c, cl, rfl, hm, hr, hb⟩ := open_chanB (hval 0 44 v0 rfl rfl) h0
  clear hA0 hval0
  refine (walkChanText cap s l c cl W hr hm hb (env_of_laid hL)).mono fun e W' ⟨he, bel⟩ => ?_
  subst he
  exact ⟨_, rfl, _, _, _, [], _, [], hW', trodAll_mk1 (shut_bool Tryd.underlying4 _), trodAll_mk1 (Below.trod laidOutC (by kernel_rfl) (of_decide_eq_true (by kernel_rfl)) k0 bel lt0), rfl, bel.frame _, fun h => by cases h⟩

theorem fnExactChanText_row : Rows.FnExactChanTextSaid :=
  OpenClaim.holds_of_wide 6 Tryd.f6 rfl rfl rfl rfl rfl rfl rfl ⟨rfl, rfl, rfl, rfl, rfl⟩ rfl rfl rfl rfl rfl (by kernel_rfl) Tryd.func6 (by kernel_rfl)
    (of_decide_eq_true (by kernel_rfl)) (by unfold Func.isWrapper; first | (rw [if_pos (by decide +kernel)]; kernel_rfl) | (rw [if_neg (by decide +kernel)]; exact ⟨rfl, rfl⟩))
    (fun os started H enc _ => liftedChanText os started H enc)

theorem fnExactChanText_card : Rows.FnExactChanTextCardSaid :=
  Claim7.holds_tied_plain_at .later [] [.data, .data, .data] true _ _
    fnExactChanText_row (fun _ h => by cases h) (by kernel_rfl) (fun _ h => by cases h) fnExactChanText_row_tie rfl ⟨rfl, rfl⟩ (by kernel_rfl) rfl
    (fun f fn hf hfn => by
      obtain rfl : f = 6 := Option.some.inj ((show Tryd.prog.funcNamed Rows.fnExactChanTextRow.func = some 6 by kernel_rfl).symm.trans hf) |>.symm
      obtain rfl : fn = Tryd.f6 := (Option.some.inj (Tryd.func6.symm.trans hfn)).symm
      exact ⟨by kernel_rfl, fun j t ht => by
        rw [Tryd.params6] at ht
        have hm : t ∈ [44] := by simpa using Array.mem_of_getElem? ht
        have hall : ([44].all fun u => !Tryd.prog.wantsStandIn u) = true := by kernel_rfl
        exact (show Tryd.prog.wantsStandIn t = false by simpa using List.all_eq_true.1 hall t hm)⟩)
    (by kernel_rfl)
#print axioms fnExactChanText_card
end Go.Proofs.YthgefddocenjmaaDoor
