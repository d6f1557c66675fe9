/- The law FnExactMemoryOk of the given statements: at every argument MemoryOk of the program answers as the specification's and writes into no argument. No condition. -/
import Derived.Test.YtopopoahmkfdkaaMemFrame
import Derived.Test.YtopopoahmkfdkaaMemSz
import Derived.Test.YtopopoahmkfdkaaMemEq
import Derived.Test.YtopopoahmkfdkaaMemCopy
import Derived.Test.YtopopoahmkfdkaaMemOk
import Derived.Deep.RegionHeld3
namespace Go.Proofs.Ytopopoahmkfdkaa
set_option linter.unusedSimpArgs false
set_option linter.unusedVariables false
set_option maxRecDepth 100000
open Go.ChangeShapes Go.WideShapes Go.ChangeAt Go.RowKit Go.Deep

set_option maxRecDepth 100000 in
set_option maxHeartbeats 8000000 in
theorem walkExactMemoryOk (s0 : Option Addr) (c0 : Nat) (l0 : List (List WD)) (w : World) (h0 : MemR w 0 w.heap.size s0 l0) (m0 : MLens l0) :
    Calls Try.prog 4 #[.agg #[.slice s0 l0.length c0]] w fun e w' => e = .returned (.bool true) ∧ Below w.heap.size w w' := by
  have HA0 : Hid (MemR w 0 w.heap.size s0 l0) := h0
  have HM0 : Hid (MLens l0) := m0
  clear h0 m0
  go_enter Try.func4, Try.ntmps4
  go_wp2_with fail
  have HK : Hid (Below w.heap.size w w) := Below.refl _ _
  obtain ⟨V1, hV1, bx1, kb1, zb1⟩ := Bo1.new w (.slice s0 l0.length c0) 24
  rw [hV1]
  clear hV1
  have JK : Hid (Below w.heap.size w V1) := HK.out.trans (kb1.mono (by omega))
  clear HK
  have HK := JK
  clear JK
  have HA : Hid (Bo1 w.heap.size V1 (.slice s0 l0.length c0)) := bx1
  clear bx1 kb1
  refine (szMemory_any s0 c0 0 w.heap.size l0 V1 (HA0.out.keep (Keep.of_below HK.out (Nat.le_refl _))) (by omega) HM0.out).mono ?_
  rintro e w2 ⟨⟨u, rfl, hu⟩, hb2⟩
  have z2 := hb2.size
  have JK : Hid (Below w.heap.size w w2) := HK.out.trans (hb2.mono (by omega))
  have JA : Hid (Bo1 w.heap.size w2 (.slice s0 l0.length c0)) := HA.out.keep (Keep.of_below hb2 (by omega))
  clear HK
  have HK := JK
  clear JK
  clear HA
  have HA := JA
  clear JA
  clear hb2
  obtain ⟨Ac0⟩ := HA.out
  have Az : w.heap.size < w2.heap.size := by omega
  rcases hu with hu | ⟨hu, hf⟩
  · go_wp2
    go_ret
    exact ⟨rfl, HK.out⟩
  have hun : ¬ u < 0 := by omega
  have FM0 : Hid (MFits l0) := hf
  have F1 : Hid (l0.length + szR l0 ≤ 1048676) := by show l0.length + szR l0 ≤ 1048676; have := hf; unfold MFits at this; omega
  clear hf
  go_wp2_with fail
  refine (toMemory_own s0 c0 0 w.heap.size l0 w2 (HA0.out.keep (Keep.of_below HK.out (Nat.le_refl _))) (by omega) FM0.out).mono ?_
  rintro e w3 ⟨xa, Sa, rfl, ho3, hb3, z3⟩
  clear Ac0 Az
  have JK : Hid (Below w.heap.size w w3) := HK.out.trans (hb3.mono (by omega))
  have JA : Hid (Bo1 w.heap.size w3 (.slice s0 l0.length c0)) := HA.out.keep (Keep.of_below hb3 (by omega))
  clear HK
  have HK := JK
  clear JK
  clear HA
  have HA := JA
  clear JA
  have HRa : Hid (MemR w3 w2.heap.size w3.heap.size (some ⟨xa, 0, none⟩) l0) := ho3.mem
  clear hb3 ho3
  obtain ⟨Ac0⟩ := HA.out
  have Az : w.heap.size < w3.heap.size := by omega
  go_wp2_with fail
  refine (specMemoryOk_any _ _ _ _ l0 w3 HRa.out (by omega) F1.out).mono ?_
  rintro e w4 ⟨rfl, hb4⟩
  have z4 := hb4.size
  clear Ac0 Az
  have JK : Hid (Below w.heap.size w w4) := HK.out.trans (hb4.mono (by omega))
  have JA : Hid (Bo1 w.heap.size w4 (.slice s0 l0.length c0)) := HA.out.keep (Keep.of_below hb4 (by omega))
  have JRa : Hid (MemR w4 w2.heap.size w3.heap.size (some ⟨xa, 0, none⟩) l0) := HRa.out.keep (Keep.of_below hb4 (by omega))
  clear HK
  have HK := JK
  clear JK
  clear HA
  have HA := JA
  clear JA
  clear HRa
  have HRa := JRa
  clear JRa
  clear hb4
  obtain ⟨bb, hbb⟩ : ∃ b, memB l0 = b := ⟨_, rfl⟩
  have HBB : Hid (memB l0 = bb) := hbb
  rw [hbb]
  clear hbb
  have hbn : (bb != bb) = false := by simp
  clear HRa
  obtain ⟨Ac0⟩ := HA.out
  have Az : w.heap.size < w4.heap.size := by omega
  go_wp2_with fail
  refine (toMemory_own s0 c0 0 w.heap.size l0 w4 (HA0.out.keep (Keep.of_below HK.out (Nat.le_refl _))) (by omega) FM0.out).mono ?_
  rintro e w5 ⟨xx, Sx, rfl, ho5, hb5, z5⟩
  clear Ac0 Az
  have JK : Hid (Below w.heap.size w w5) := HK.out.trans (hb5.mono (by omega))
  have JA : Hid (Bo1 w.heap.size w5 (.slice s0 l0.length c0)) := HA.out.keep (Keep.of_below hb5 (by omega))
  clear HK
  have HK := JK
  clear JK
  clear HA
  have HA := JA
  clear JA
  have HRx : Hid (MemR w5 w4.heap.size w5.heap.size (some ⟨xx, 0, none⟩) l0) := ho5.mem
  clear hb5 ho5
  obtain ⟨Ac0⟩ := HA.out
  have Az : w.heap.size < w5.heap.size := by omega
  go_wp2_with fail
  obtain ⟨V6, hV6, bx6, kb6, zb6⟩ := Bo1.new w5 (.slice (some ⟨xx, 0, none⟩) l0.length l0.length) 30
  rw [hV6]
  clear hV6
  clear Ac0 Az
  have JK : Hid (Below w.heap.size w V6) := HK.out.trans (kb6.mono (by omega))
  have JA : Hid (Bo1 w.heap.size V6 (.slice s0 l0.length c0)) := HA.out.keep (Keep.of_below kb6 (by omega))
  have JRx : Hid (MemR V6 w4.heap.size w5.heap.size (some ⟨xx, 0, none⟩) l0) := HRx.out.keep (Keep.of_below kb6 (by omega))
  clear HK
  have HK := JK
  clear JK
  clear HA
  have HA := JA
  clear JA
  clear HRx
  have HRx := JRx
  clear JRx
  have HXx : Hid (Bo1 w5.heap.size V6 (.slice (some ⟨xx, 0, none⟩) l0.length l0.length)) := bx6
  clear bx6 kb6
  obtain ⟨Ac0⟩ := HA.out
  have Az : w.heap.size < V6.heap.size := by omega
  obtain ⟨Xxc0⟩ := HXx.out
  have Xxz : w5.heap.size < V6.heap.size := by omega
  refine (implMemoryOk_any _ _ _ _ l0 V6 HRx.out (by omega) F1.out).mono ?_
  rintro e w7 ⟨rfl, hb7⟩
  have z7 := hb7.size
  clear Ac0 Az
  clear Xxc0 Xxz
  have JK : Hid (Below w.heap.size w w7) := HK.out.trans (hb7.mono (by omega))
  have JA : Hid (Bo1 w.heap.size w7 (.slice s0 l0.length c0)) := HA.out.keep (Keep.of_below hb7 (by omega))
  have JRx : Hid (MemR w7 w4.heap.size w5.heap.size (some ⟨xx, 0, none⟩) l0) := HRx.out.keep (Keep.of_below hb7 (by omega))
  have JXx : Hid (Bo1 w5.heap.size w7 (.slice (some ⟨xx, 0, none⟩) l0.length l0.length)) := HXx.out.keep (Keep.of_below hb7 (by omega))
  clear HK
  have HK := JK
  clear JK
  clear HA
  have HA := JA
  clear JA
  clear HRx
  have HRx := JRx
  clear JRx
  clear HXx
  have HXx := JXx
  clear JXx
  clear hb7
  rw [HBB.out]
  obtain ⟨Ac0⟩ := HA.out
  have Az : w.heap.size < w7.heap.size := by omega
  obtain ⟨Xxc0⟩ := HXx.out
  have Xxz : w5.heap.size < w7.heap.size := by omega
  go_wp2_with fail
  go_region_held3 (fun w' => w'.cell? ⟨w5.heap.size, 0, none⟩ = some (.slice (some ⟨xx, 0, none⟩) l0.length l0.length) ∧ w'.cell? ⟨w.heap.size, 0, none⟩ = some (.slice s0 l0.length c0)) (go_keep) (first | (go_at_call 11; refine (toMemory_own s0 c0 0 w.heap.size l0 w7.drew (HA0.out.keep (Keep.of_below HK.out.drew (Nat.le_refl _))) (by show w.heap.size ≤ w7.heap.size; omega) FM0.out).mono ?_; rintro e w8 ⟨xq, Sq, rfl, ho8, hb8, hz8⟩; have kx : Below w7.heap.size w7 w8 := (Below.drew (Below.refl _ _)).trans hb8; have kz := kx.size; have XX := HXx.out.keep (Keep.of_below kx (by omega)); have AA := HA.out.keep (Keep.of_below kx (by omega)); have t0 := XX.c0; have t1 := AA.c0) | (go_at_call 14; refine (eqMemory_alike (some ⟨xx, 0, none⟩) (some ⟨xq, 0, none⟩) _ _ w4.heap.size w5.heap.size w7.heap.size w8.heap.size l0 w8 (HRx.out.keep (Keep.of_below kx (by omega))) (ho8.mem) (by omega) (Nat.le_refl _) F1.out).mono ?_; rintro e w9 ⟨rfl, hb9⟩; have ky : Below w7.heap.size w7 w9 := kx.trans (hb9.mono (by omega)); have XY := XX.keep (Keep.of_below hb9 (by omega)); have AY := AA.keep (Keep.of_below hb9 (by omega)); have u0 := XY.c0; have u1 := AY.c0))
  have z9 := ky.size
  clear t0 t1 u0 u1 XX AA XY AY hb8 hb9 ho8 hz8 kx kz
  clear Ac0 Az
  clear Xxc0 Xxz
  have JK : Hid (Below w.heap.size w w9) := HK.out.trans (ky.mono (by omega))
  have JA : Hid (Bo1 w.heap.size w9 (.slice s0 l0.length c0)) := HA.out.keep (Keep.of_below ky (by omega))
  have JRx : Hid (MemR w9 w4.heap.size w5.heap.size (some ⟨xx, 0, none⟩) l0) := HRx.out.keep (Keep.of_below ky (by omega))
  have JXx : Hid (Bo1 w5.heap.size w9 (.slice (some ⟨xx, 0, none⟩) l0.length l0.length)) := HXx.out.keep (Keep.of_below ky (by omega))
  clear HK
  have HK := JK
  clear JK
  clear HA
  have HA := JA
  clear JA
  clear HRx
  have HRx := JRx
  clear JRx
  clear HXx
  have HXx := JXx
  clear JXx
  clear ky
  obtain ⟨Ac0⟩ := HA.out
  have Az : w.heap.size < w9.heap.size := by omega
  obtain ⟨Xxc0⟩ := HXx.out
  have Xxz : w5.heap.size < w9.heap.size := by omega
  go_wp2
  go_ret
  exact ⟨rfl, HK.out⟩

set_option maxRecDepth 100000 in
theorem liftedExactMemoryOk (os : Os) (started : os.Started) (H : Type) (enc : TypeId × Value → H) :
    ReturnsInHanded {} Try.checked os 4 .any (Rows.fnExactMemoryOkSpec.pre6 enc Try.prog Try.f4 Rows.fnExactMemoryOkRow.domain false) (Rows.fnExactMemoryOkSpec.post enc Try.prog Try.f4 false true false false) := by
  refine returnsInHanded_of_change (C := Try.checked) ownP started (by kernel_rfl) Try.func4
    (ChangeSpec.witness6 (enc := enc) (C := Try.checked) false ⟨#[], #[.agg #[.slice none 0 0]], []⟩ 8 (by kernel_rfl) (by kernel_rfl) (by kernel_rfl) (by kernel_rfl)) ?_
  intro W base args ds gs before hval0 hW hcnd _
  have hval : ∀ (j : Nat) t v, Try.f4.params[j]? = some t → args[j]? = some v → Value.okWide Try.prog W .any base t v := hval0
  have hW' := hW
  obtain ⟨p, q, hA0, hV, rfl, hfz, hnd⟩ := hW
  have hA : DataW.TrodAll enc Try.prog W 0 (fun _ => true) true Try.f4.params.toList args.toList ds p := hA0
  rw [Try.params4] at hA hval
  obtain ⟨v0, d0, hargs, rfl, h0⟩ := trodAll_one hA
  obtain rfl : args = #[v0] := by cases args; simp_all
  obtain ⟨rfl, rfl⟩ := trodVars_none hV
  have k0 := h0
  have lt0 : ∀ x ∈ p, x.block < W.heap.size := by obtain ⟨m, hm⟩ := k0; exact DataW.trod_lt m _ _ _ hm
  obtain ⟨s0, c0, l0, rfl, m0, hR0⟩ := open_mem (hval 0 24 v0 rfl rfl) h0
  clear hA0 hval0
  refine (walkExactMemoryOk s0 c0 l0 W hR0 m0).mono fun e W' ⟨he, bel⟩ => ?_
  subst he
  exact ⟨_, rfl, _, _, _, [], _, [], hW', trodAll_mk1 (shut_bool Try.underlying4 _), trodAll_mk1 (Below.trod laidOutP (by kernel_rfl) (of_decide_eq_true (by kernel_rfl)) k0 bel lt0), rfl, bel.frame _, fun h => by cases h⟩

theorem fnExactMemoryOk_holds : Rows.FnExactMemoryOkSaid :=
  OpenClaim.holds_of_wide 4 Try.f4 rfl rfl rfl rfl rfl rfl rfl ⟨rfl, rfl, rfl, rfl, rfl⟩ rfl rfl rfl rfl rfl (by kernel_rfl) Try.func4 (by kernel_rfl)
    (of_decide_eq_true (by kernel_rfl)) (by unfold Func.isWrapper; first | (rw [if_pos (by decide +kernel)]; kernel_rfl) | (rw [if_neg (by decide +kernel)]; exact ⟨rfl, rfl⟩))
    (fun os started H enc _ => liftedExactMemoryOk os started H enc)
#print axioms fnExactMemoryOk_holds

end Go.Proofs.Ytopopoahmkfdkaa
