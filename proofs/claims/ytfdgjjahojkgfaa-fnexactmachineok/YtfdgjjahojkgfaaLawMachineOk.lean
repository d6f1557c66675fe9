/- The law FnExactMachineOk of the given statements: at every argument MachineOk of the program answers as the specification's and writes into no argument. No condition. -/
import Derived.Test.YtfdgjjahojkgfaaKFrame
import Derived.Test.YtfdgjjahojkgfaaKKit
import Derived.Test.YtfdgjjahojkgfaaKEq
import Derived.Test.YtfdgjjahojkgfaaKOkI
import Derived.Test.YtfdgjjahojkgfaaKOkS
import Derived.Deep.RegionHeld3
namespace Go.Proofs.Ytfdgjjahojkgfaa
set_option linter.unusedSimpArgs false
set_option linter.unusedVariables false
set_option maxRecDepth 100000
open Go.ChangeShapes Go.WideShapes Go.ChangeAt Go.RowKit Go.Deep

set_option maxRecDepth 100000 in
set_option maxHeartbeats 8000000 in
theorem walkExactMachineOk (s1 s2 s3 s4 : Option Addr) (c1 c2 c3 c4 : Nat) (d : MD) (w : World) (h0 : MaR w 0 w.heap.size s1 s2 s3 s4 d) (m0 : MaLens d) :
    Calls Try.prog 3 #[.agg #[.slice s1 d.codes.length c1, .slice s2 d.cores.length c2, .slice s3 d.mem.length c3, .slice s4 d.tr.length c4]] w fun e w' => e = .returned (.bool true) ∧ Below w.heap.size w w' := by
  have HA0 : Hid (MaR w 0 w.heap.size s1 s2 s3 s4 d) := h0
  have HM0 : Hid (MaLens d) := m0
  clear h0 m0
  go_enter Try.func3, Try.ntmps3
  go_wp2_with fail
  have HK : Hid (Below w.heap.size w w) := Below.refl _ _
  obtain ⟨V1, hV1, bx1, kb1, zb1⟩ := Bo4.new w (.slice s1 d.codes.length c1) (.slice s2 d.cores.length c2) (.slice s3 d.mem.length c3) (.slice s4 d.tr.length c4) 29
  rw [hV1]
  clear hV1
  have JK : Hid (Below w.heap.size w V1) := HK.out.trans (kb1.mono (by omega))
  clear HK
  have HK := JK
  clear JK
  have HA : Hid (Bo4 w.heap.size V1 (.slice s1 d.codes.length c1) (.slice s2 d.cores.length c2) (.slice s3 d.mem.length c3) (.slice s4 d.tr.length c4)) := bx1
  clear bx1 kb1
  refine (szMachine_any s1 s2 s3 s4 c1 c2 c3 c4 0 w.heap.size d V1 (HA0.out.keep (Keep.of_below HK.out (Nat.le_refl _))) (by omega) HM0.out).mono ?_
  rintro e w2 ⟨⟨u, rfl, hu⟩, hb2⟩
  have z2 := hb2.size
  have JK : Hid (Below w.heap.size w w2) := HK.out.trans (hb2.mono (by omega))
  have JA : Hid (Bo4 w.heap.size w2 (.slice s1 d.codes.length c1) (.slice s2 d.cores.length c2) (.slice s3 d.mem.length c3) (.slice s4 d.tr.length c4)) := HA.out.keep (Keep.of_below hb2 (by omega))
  clear HK
  have HK := JK
  clear JK
  clear HA
  have HA := JA
  clear JA
  clear hb2
  obtain ⟨Ac0, Ac1, Ac2, Ac3⟩ := HA.out
  have Az : w.heap.size < w2.heap.size := by omega
  rcases hu with hu | ⟨hu, hf⟩
  · go_wp2
    go_ret
    exact ⟨rfl, HK.out⟩
  have hun : ¬ u < 0 := by omega
  have FK : Hid (MaSz d ≤ 1048576) := hf
  clear hf
  go_wp2_with fail
  refine (toMachine_own s1 s2 s3 s4 c1 c2 c3 c4 0 w.heap.size d w2 (HA0.out.keep (Keep.of_below HK.out (Nat.le_refl _))) (by omega) FK.out).mono ?_
  rintro e w3 ⟨xa, rfl, ho3, hb3, z3⟩
  clear Ac0 Ac1 Ac2 Ac3 Az
  have JK : Hid (Below w.heap.size w w3) := HK.out.trans (hb3.mono (by omega))
  have JA : Hid (Bo4 w.heap.size w3 (.slice s1 d.codes.length c1) (.slice s2 d.cores.length c2) (.slice s3 d.mem.length c3) (.slice s4 d.tr.length c4)) := HA.out.keep (Keep.of_below hb3 (by omega))
  clear HK
  have HK := JK
  clear JK
  clear HA
  have HA := JA
  clear JA
  have HRa : Hid (MaR w3 w2.heap.size w3.heap.size xa.s1 xa.s2 xa.s3 xa.s4 d) := ho3.ma
  clear hb3 ho3
  obtain ⟨Ac0, Ac1, Ac2, Ac3⟩ := HA.out
  have Az : w.heap.size < w3.heap.size := by omega
  go_wp2_with fail
  refine (specMachineOk_any _ _ _ _ _ _ _ _ _ _ d w3 HRa.out (by omega) FK.out).mono ?_
  rintro e w4 ⟨rfl, hb4⟩
  have z4 := hb4.size
  clear Ac0 Ac1 Ac2 Ac3 Az
  have JK : Hid (Below w.heap.size w w4) := HK.out.trans (hb4.mono (by omega))
  have JA : Hid (Bo4 w.heap.size w4 (.slice s1 d.codes.length c1) (.slice s2 d.cores.length c2) (.slice s3 d.mem.length c3) (.slice s4 d.tr.length c4)) := HA.out.keep (Keep.of_below hb4 (by omega))
  have JRa : Hid (MaR w4 w2.heap.size w3.heap.size xa.s1 xa.s2 xa.s3 xa.s4 d) := HRa.out.keep (Keep.of_below hb4 (by omega))
  clear HK
  have HK := JK
  clear JK
  clear HA
  have HA := JA
  clear JA
  clear HRa
  have HRa := JRa
  clear JRa
  clear hb4
  obtain ⟨bb, hbb⟩ : ∃ b, machB d = b := ⟨_, rfl⟩
  have HBB : Hid (machB d = bb) := hbb
  rw [hbb]
  clear hbb
  have hbn : (bb != bb) = false := by simp
  clear HRa
  obtain ⟨Ac0, Ac1, Ac2, Ac3⟩ := HA.out
  have Az : w.heap.size < w4.heap.size := by omega
  go_wp2_with fail
  refine (toMachine_own s1 s2 s3 s4 c1 c2 c3 c4 0 w.heap.size d w4 (HA0.out.keep (Keep.of_below HK.out (Nat.le_refl _))) (by omega) FK.out).mono ?_
  rintro e w5 ⟨xx, rfl, ho5, hb5, z5⟩
  clear Ac0 Ac1 Ac2 Ac3 Az
  have JK : Hid (Below w.heap.size w w5) := HK.out.trans (hb5.mono (by omega))
  have JA : Hid (Bo4 w.heap.size w5 (.slice s1 d.codes.length c1) (.slice s2 d.cores.length c2) (.slice s3 d.mem.length c3) (.slice s4 d.tr.length c4)) := HA.out.keep (Keep.of_below hb5 (by omega))
  clear HK
  have HK := JK
  clear JK
  clear HA
  have HA := JA
  clear JA
  have HRx : Hid (MaR w5 w4.heap.size w5.heap.size xx.s1 xx.s2 xx.s3 xx.s4 d) := ho5.ma
  clear hb5 ho5
  obtain ⟨Ac0, Ac1, Ac2, Ac3⟩ := HA.out
  have Az : w.heap.size < w5.heap.size := by omega
  go_wp2_with fail
  obtain ⟨V6, hV6, bx6, kb6, zb6⟩ := Bo4.new w5 (.slice xx.s1 d.codes.length xx.c1) (.slice xx.s2 d.cores.length xx.c2) (.slice xx.s3 d.mem.length xx.c3) (.slice xx.s4 d.tr.length xx.c4) 39
  rw [hV6]
  clear hV6
  clear Ac0 Ac1 Ac2 Ac3 Az
  have JK : Hid (Below w.heap.size w V6) := HK.out.trans (kb6.mono (by omega))
  have JA : Hid (Bo4 w.heap.size V6 (.slice s1 d.codes.length c1) (.slice s2 d.cores.length c2) (.slice s3 d.mem.length c3) (.slice s4 d.tr.length c4)) := HA.out.keep (Keep.of_below kb6 (by omega))
  have JRx : Hid (MaR V6 w4.heap.size w5.heap.size xx.s1 xx.s2 xx.s3 xx.s4 d) := HRx.out.keep (Keep.of_below kb6 (by omega))
  clear HK
  have HK := JK
  clear JK
  clear HA
  have HA := JA
  clear JA
  clear HRx
  have HRx := JRx
  clear JRx
  have HXx : Hid (Bo4 w5.heap.size V6 (.slice xx.s1 d.codes.length xx.c1) (.slice xx.s2 d.cores.length xx.c2) (.slice xx.s3 d.mem.length xx.c3) (.slice xx.s4 d.tr.length xx.c4)) := bx6
  clear bx6 kb6
  obtain ⟨Ac0, Ac1, Ac2, Ac3⟩ := HA.out
  have Az : w.heap.size < V6.heap.size := by omega
  obtain ⟨Xxc0, Xxc1, Xxc2, Xxc3⟩ := HXx.out
  have Xxz : w5.heap.size < V6.heap.size := by omega
  refine (implMachineOk_any _ _ _ _ _ _ _ _ _ _ d V6 HRx.out (by omega) FK.out).mono ?_
  rintro e w7 ⟨rfl, hb7⟩
  have z7 := hb7.size
  clear Ac0 Ac1 Ac2 Ac3 Az
  clear Xxc0 Xxc1 Xxc2 Xxc3 Xxz
  have JK : Hid (Below w.heap.size w w7) := HK.out.trans (hb7.mono (by omega))
  have JA : Hid (Bo4 w.heap.size w7 (.slice s1 d.codes.length c1) (.slice s2 d.cores.length c2) (.slice s3 d.mem.length c3) (.slice s4 d.tr.length c4)) := HA.out.keep (Keep.of_below hb7 (by omega))
  have JRx : Hid (MaR w7 w4.heap.size w5.heap.size xx.s1 xx.s2 xx.s3 xx.s4 d) := HRx.out.keep (Keep.of_below hb7 (by omega))
  have JXx : Hid (Bo4 w5.heap.size w7 (.slice xx.s1 d.codes.length xx.c1) (.slice xx.s2 d.cores.length xx.c2) (.slice xx.s3 d.mem.length xx.c3) (.slice xx.s4 d.tr.length xx.c4)) := HXx.out.keep (Keep.of_below hb7 (by omega))
  clear HK
  have HK := JK
  clear JK
  clear HA
  have HA := JA
  clear JA
  clear HRx
  have HRx := JRx
  clear JRx
  clear HXx
  have HXx := JXx
  clear JXx
  clear hb7
  rw [HBB.out]
  obtain ⟨Ac0, Ac1, Ac2, Ac3⟩ := HA.out
  have Az : w.heap.size < w7.heap.size := by omega
  obtain ⟨Xxc0, Xxc1, Xxc2, Xxc3⟩ := HXx.out
  have Xxz : w5.heap.size < w7.heap.size := by omega
  go_wp2_with fail
  go_region_held3 (fun w' => w'.cell? ⟨w5.heap.size, 0, none⟩ = some (.slice xx.s1 d.codes.length xx.c1) ∧ w'.cell? ⟨w5.heap.size, 1, none⟩ = some (.slice xx.s2 d.cores.length xx.c2) ∧ w'.cell? ⟨w5.heap.size, 2, none⟩ = some (.slice xx.s3 d.mem.length xx.c3) ∧ w'.cell? ⟨w5.heap.size, 3, none⟩ = some (.slice xx.s4 d.tr.length xx.c4) ∧ w'.cell? ⟨w.heap.size, 0, none⟩ = some (.slice s1 d.codes.length c1) ∧ w'.cell? ⟨w.heap.size, 1, none⟩ = some (.slice s2 d.cores.length c2) ∧ w'.cell? ⟨w.heap.size, 2, none⟩ = some (.slice s3 d.mem.length c3) ∧ w'.cell? ⟨w.heap.size, 3, none⟩ = some (.slice s4 d.tr.length c4)) (go_keep) (first | (go_at_call 7; refine (toMachine_own s1 s2 s3 s4 c1 c2 c3 c4 0 w.heap.size d w7.drew (HA0.out.keep (Keep.of_below HK.out.drew (Nat.le_refl _))) (by show w.heap.size ≤ w7.heap.size; omega) FK.out).mono ?_; rintro e w8 ⟨xq, rfl, ho8, hb8, hz8⟩; have kx : Below w7.heap.size w7 w8 := (Below.drew (Below.refl _ _)).trans hb8; have kz := kx.size; have XX := HXx.out.keep (Keep.of_below kx (by omega)); have AA := HA.out.keep (Keep.of_below kx (by omega)); have t0 := XX.c0; have t1 := XX.c1; have t2 := XX.c2; have t3 := XX.c3; have t4 := AA.c0; have t5 := AA.c1; have t6 := AA.c2; have t7 := AA.c3) | (go_at_call 9; refine (eqMachine_alike xx.s1 xx.s2 xx.s3 xx.s4 xq.s1 xq.s2 xq.s3 xq.s4 _ _ _ _ _ _ _ _ w4.heap.size w5.heap.size w7.heap.size w8.heap.size d w8 (HRx.out.keep (Keep.of_below kx (by omega))) (ho8.ma) (by omega) (Nat.le_refl _) FK.out).mono ?_; rintro e w9 ⟨rfl, hb9⟩; have ky : Below w7.heap.size w7 w9 := kx.trans (hb9.mono (by omega)); have XY := XX.keep (Keep.of_below hb9 (by omega)); have AY := AA.keep (Keep.of_below hb9 (by omega)); have u0 := XY.c0; have u1 := XY.c1; have u2 := XY.c2; have u3 := XY.c3; have u4 := AY.c0; have u5 := AY.c1; have u6 := AY.c2; have u7 := AY.c3))
  have z9 := ky.size
  clear t0 u0 t1 u1 t2 u2 t3 u3 t4 u4 t5 u5 t6 u6 t7 u7 XX AA XY AY hb8 hb9 ho8 hz8 kx kz
  clear Ac0 Ac1 Ac2 Ac3 Az
  clear Xxc0 Xxc1 Xxc2 Xxc3 Xxz
  have JK : Hid (Below w.heap.size w w9) := HK.out.trans (ky.mono (by omega))
  have JA : Hid (Bo4 w.heap.size w9 (.slice s1 d.codes.length c1) (.slice s2 d.cores.length c2) (.slice s3 d.mem.length c3) (.slice s4 d.tr.length c4)) := HA.out.keep (Keep.of_below ky (by omega))
  have JRx : Hid (MaR w9 w4.heap.size w5.heap.size xx.s1 xx.s2 xx.s3 xx.s4 d) := HRx.out.keep (Keep.of_below ky (by omega))
  have JXx : Hid (Bo4 w5.heap.size w9 (.slice xx.s1 d.codes.length xx.c1) (.slice xx.s2 d.cores.length xx.c2) (.slice xx.s3 d.mem.length xx.c3) (.slice xx.s4 d.tr.length xx.c4)) := HXx.out.keep (Keep.of_below ky (by omega))
  clear HK
  have HK := JK
  clear JK
  clear HA
  have HA := JA
  clear JA
  clear HRx
  have HRx := JRx
  clear JRx
  clear HXx
  have HXx := JXx
  clear JXx
  clear ky
  obtain ⟨Ac0, Ac1, Ac2, Ac3⟩ := HA.out
  have Az : w.heap.size < w9.heap.size := by omega
  obtain ⟨Xxc0, Xxc1, Xxc2, Xxc3⟩ := HXx.out
  have Xxz : w5.heap.size < w9.heap.size := by omega
  go_wp2
  go_ret
  exact ⟨rfl, HK.out⟩

set_option maxRecDepth 100000 in
theorem liftedExactMachineOk (os : Os) (started : os.Started) (H : Type) (enc : TypeId × Value → H) :
    ReturnsInHanded {} Try.checked os 3 .any (Rows.fnExactMachineOkSpec.pre6 enc Try.prog Try.f3 Rows.fnExactMachineOkRow.domain false) (Rows.fnExactMachineOkSpec.post enc Try.prog Try.f3 false true false false) := by
  refine returnsInHanded_of_change (C := Try.checked) ownP started (by kernel_rfl) Try.func3
    (ChangeSpec.witness6 (enc := enc) (C := Try.checked) false ⟨#[], #[.agg #[.slice none 0 0, .slice none 0 0, .slice none 0 0, .slice none 0 0]], []⟩ 8 (by kernel_rfl) (by kernel_rfl) (by kernel_rfl) (by kernel_rfl)) ?_
  intro W base args ds gs before hval0 hW hcnd _
  have hval : ∀ (j : Nat) t v, Try.f3.params[j]? = some t → args[j]? = some v → Value.okWide Try.prog W .any base t v := hval0
  have hW' := hW
  obtain ⟨p, q, hA0, hV, rfl, hfz, hnd⟩ := hW
  have hA : DataW.TrodAll enc Try.prog W 0 (fun _ => true) true Try.f3.params.toList args.toList ds p := hA0
  rw [Try.params3] at hA hval
  obtain ⟨v0, d0, hargs, rfl, h0⟩ := trodAll_one hA
  obtain rfl : args = #[v0] := by cases args; simp_all
  obtain ⟨rfl, rfl⟩ := trodVars_none hV
  have k0 := h0
  have lt0 : ∀ x ∈ p, x.block < W.heap.size := by obtain ⟨m, hm⟩ := k0; exact DataW.trod_lt m _ _ _ hm
  obtain ⟨s1, s2, s3, s4, c1, c2, c3, c4, pd, rfl, m0, hR⟩ := open_machine (hval 0 29 v0 rfl rfl) h0
  clear hA0 hval0
  refine (walkExactMachineOk s1 s2 s3 s4 c1 c2 c3 c4 pd W hR m0).mono fun e W' ⟨he, bel⟩ => ?_
  subst he
  exact ⟨_, rfl, _, _, _, [], _, [], hW', trodAll_mk1 (shut_bool Try.underlying4 _), trodAll_mk1 (Below.trod laidOutP (by kernel_rfl) (of_decide_eq_true (by kernel_rfl)) k0 bel lt0), rfl, bel.frame _, fun h => by cases h⟩

theorem fnExactMachineOk_holds : Rows.FnExactMachineOkSaid :=
  OpenClaim.holds_of_wide 3 Try.f3 rfl rfl rfl rfl rfl rfl rfl ⟨rfl, rfl, rfl, rfl, rfl⟩ rfl rfl rfl rfl rfl (by kernel_rfl) Try.func3 (by kernel_rfl)
    (of_decide_eq_true (by kernel_rfl)) (by unfold Func.isWrapper; first | (rw [if_pos (by decide +kernel)]; kernel_rfl) | (rw [if_neg (by decide +kernel)]; exact ⟨rfl, rfl⟩))
    (fun os started H enc _ => liftedExactMachineOk os started H enc)
#print axioms fnExactMachineOk_holds

end Go.Proofs.Ytfdgjjahojkgfaa
