/- The law FnExactLocked of the given statements: at every argument Locked of the program answers as the specification's and writes into no argument. No condition. -/
import Derived.Test.YtpcmplckklmeoaaMemFrame
import Derived.Test.YtpcmplckklmeoaaMemSz
import Derived.Test.YtpcmplckklmeoaaMemEq
import Derived.Test.YtpcmplckklmeoaaMemCopy
import Derived.Test.YtpcmplckklmeoaaN9Lock
import Derived.Deep.RegionHeld3
namespace Go.Proofs.Ytpcmplckklmeoaa
set_option linter.unusedSimpArgs false
set_option linter.unusedVariables false
set_option maxRecDepth 100000
open Go.ChangeShapes Go.WideShapes Go.ChangeAt Go.RowKit Go.Deep

theorem wf_le {n : Int} (h : (Lit.int .i64 n).wf = true) : n ≤ 9223372036854775807 := by
  have hmax : IntKind.i64.max = 9223372036854775807 := rfl
  simp only [Lit.wf, Bool.and_eq_true, decide_eq_true_eq] at h
  omega
set_option maxRecDepth 100000 in
set_option maxHeartbeats 8000000 in
theorem walkExactLocked (s0 : Option Addr) (c0 : Nat) (l0 : List (List WD)) (s1 : Option Addr) (c1 : Nat) (l1 : List Int) (l2 : Int) (w : World) (h0 : MemR w 0 w.heap.size s0 l0) (m0 : MLens l0) (h1 : IntsR w 0 w.heap.size s1 l1) (m1 : l1.length ≤ maxLen) (hw2 : (Lit.int .i64 l2).wf = true) :
    Calls Try.prog 5 #[.agg #[.slice s0 l0.length c0], .slice s1 l1.length c1, .int .i64 l2] w fun e w' => e = .returned (.bool true) ∧ Below w.heap.size w w' := by
  have HA0 : Hid (MemR w 0 w.heap.size s0 l0) := h0
  have HM0 : Hid (MLens l0) := m0
  clear h0 m0
  have HA1 : Hid (IntsR w 0 w.heap.size s1 l1) := h1
  clear h1
  unfold maxLen at m1
  have hb2 := wf_le hw2
  clear hw2
  by_cases b1 : (l1.length : Int) > 1048576
  · go_enter Try.func5, Try.ntmps5
    go_wp2
    go_ret
    exact ⟨rfl, by first | exact Below.refl _ _ | exact (Below.refl _ _).alloc (Nat.le_refl _) _⟩
  have n1 : l1.length ≤ 1048576 := by omega
  go_enter Try.func5, Try.ntmps5
  go_wp2_with fail
  have HK : Hid (Below w.heap.size w w) := Below.refl _ _
  obtain ⟨V1, hV1, bx1, kb1, zb1⟩ := Bo1.new w (.slice s0 l0.length c0) 29
  rw [hV1]
  clear hV1
  have JK : Hid (Below w.heap.size w V1) := HK.out.trans (kb1.mono (by omega))
  clear HK
  have HK := JK
  clear JK
  have HA : Hid (Bo1 w.heap.size V1 (.slice s0 l0.length c0)) := bx1
  clear bx1 kb1
  refine (szMemory_any s0 c0 0 w.heap.size l0 V1 (HA0.out.keep (Keep.of_below HK.out (Nat.le_refl _))) (by omega) HM0.out).mono ?_
  rintro e w2 ⟨⟨u, rfl, hu⟩, hb2⟩
  have z2 := hb2.size
  have JK : Hid (Below w.heap.size w w2) := HK.out.trans (hb2.mono (by omega))
  have JA : Hid (Bo1 w.heap.size w2 (.slice s0 l0.length c0)) := HA.out.keep (Keep.of_below hb2 (by omega))
  clear HK
  have HK := JK
  clear JK
  clear HA
  have HA := JA
  clear JA
  clear hb2
  obtain ⟨Ac0⟩ := HA.out
  have Az : w.heap.size < w2.heap.size := by omega
  rcases hu with hu | ⟨hu, hf⟩
  · go_wp2
    go_ret
    exact ⟨rfl, HK.out⟩
  have hun : ¬ u < 0 := by omega
  have FM0 : Hid (MFits l0) := hf
  have F1 : Hid (l0.length + szR l0 ≤ 1048676) := by show l0.length + szR l0 ≤ 1048676; have := hf; unfold MFits at this; omega
  clear hf
  go_wp2_with fail
  refine (toMemory_own s0 c0 0 w.heap.size l0 w2 (HA0.out.keep (Keep.of_below HK.out (Nat.le_refl _))) (by omega) FM0.out).mono ?_
  rintro e w3 ⟨xa, Sa, rfl, ho3, hb3, z3⟩
  clear Ac0 Az
  have JK : Hid (Below w.heap.size w w3) := HK.out.trans (hb3.mono (by omega))
  have JA : Hid (Bo1 w.heap.size w3 (.slice s0 l0.length c0)) := HA.out.keep (Keep.of_below hb3 (by omega))
  clear HK
  have HK := JK
  clear JK
  clear HA
  have HA := JA
  clear JA
  have HRa : Hid (MemR w3 w2.heap.size w3.heap.size (some ⟨xa, 0, none⟩) l0) := ho3.mem
  clear hb3 ho3
  obtain ⟨Ac0⟩ := HA.out
  have Az : w.heap.size < w3.heap.size := by omega
  go_wp2_with fail
  clear Ac0 Az
  refine (toIntS_ex s1 c1 0 w.heap.size l1 w3 (HA1.out.keep (Keep.of_below HK.out (Nat.le_refl _))) (by omega) n1).mono ?_
  rintro e w4 ⟨xb, rfl, ho4, hb4, z4⟩
  have zz4 := hb4.size
  have JK : Hid (Below w.heap.size w w4) := HK.out.trans (hb4.mono (by omega))
  have JA : Hid (Bo1 w.heap.size w4 (.slice s0 l0.length c0)) := HA.out.keep (Keep.of_below hb4 (by omega))
  have JRa : Hid (MemR w4 w2.heap.size w3.heap.size (some ⟨xa, 0, none⟩) l0) := HRa.out.keep (Keep.of_below hb4 (by omega))
  clear HK
  have HK := JK
  clear JK
  clear HA
  have HA := JA
  clear JA
  clear HRa
  have HRa := JRa
  clear JRa
  have HRb : Hid (IntsR w4 w3.heap.size w4.heap.size (some ⟨xb, 0, none⟩) l1) := ownN_intsR ho4
  clear hb4 ho4
  obtain ⟨Ac0⟩ := HA.out
  have Az : w.heap.size < w4.heap.size := by omega
  go_wp2_with fail
  refine (specLocked_any _ _ _ _ _ _ _ _ l0 l1 l2 w4 HRa.out HRb.out (by omega) (by omega) (by omega) (by have := F1.out; omega)).mono ?_
  rintro e w5 ⟨rfl, hb5⟩
  have z5 := hb5.size
  clear Ac0 Az
  have JK : Hid (Below w.heap.size w w5) := HK.out.trans (hb5.mono (by omega))
  have JA : Hid (Bo1 w.heap.size w5 (.slice s0 l0.length c0)) := HA.out.keep (Keep.of_below hb5 (by omega))
  have JRa : Hid (MemR w5 w2.heap.size w3.heap.size (some ⟨xa, 0, none⟩) l0) := HRa.out.keep (Keep.of_below hb5 (by omega))
  have JRb : Hid (IntsR w5 w3.heap.size w4.heap.size (some ⟨xb, 0, none⟩) l1) := HRb.out.keep (Keep.of_below hb5 (by omega))
  clear HK
  have HK := JK
  clear JK
  clear HA
  have HA := JA
  clear JA
  clear HRa
  have HRa := JRa
  clear JRa
  clear HRb
  have HRb := JRb
  clear JRb
  clear hb5
  obtain ⟨bb, hbb⟩ : ∃ b, lockB l0 l1 l2 = b := ⟨_, rfl⟩
  have HBB : Hid (lockB l0 l1 l2 = bb) := hbb
  rw [hbb]
  clear hbb
  have hbn : (bb != bb) = false := by simp
  clear HRa
  clear HRb
  obtain ⟨Ac0⟩ := HA.out
  have Az : w.heap.size < w5.heap.size := by omega
  go_wp2_with fail
  refine (toMemory_own s0 c0 0 w.heap.size l0 w5 (HA0.out.keep (Keep.of_below HK.out (Nat.le_refl _))) (by omega) FM0.out).mono ?_
  rintro e w6 ⟨xx, Sx, rfl, ho6, hb6, z6⟩
  clear Ac0 Az
  have JK : Hid (Below w.heap.size w w6) := HK.out.trans (hb6.mono (by omega))
  have JA : Hid (Bo1 w.heap.size w6 (.slice s0 l0.length c0)) := HA.out.keep (Keep.of_below hb6 (by omega))
  clear HK
  have HK := JK
  clear JK
  clear HA
  have HA := JA
  clear JA
  have HRx : Hid (MemR w6 w5.heap.size w6.heap.size (some ⟨xx, 0, none⟩) l0) := ho6.mem
  clear hb6 ho6
  obtain ⟨Ac0⟩ := HA.out
  have Az : w.heap.size < w6.heap.size := by omega
  go_wp2_with fail
  obtain ⟨V7, hV7, bx7, kb7, zb7⟩ := Bo1.new w6 (.slice (some ⟨xx, 0, none⟩) l0.length l0.length) 37
  rw [hV7]
  clear hV7
  clear Ac0 Az
  have JK : Hid (Below w.heap.size w V7) := HK.out.trans (kb7.mono (by omega))
  have JA : Hid (Bo1 w.heap.size V7 (.slice s0 l0.length c0)) := HA.out.keep (Keep.of_below kb7 (by omega))
  have JRx : Hid (MemR V7 w5.heap.size w6.heap.size (some ⟨xx, 0, none⟩) l0) := HRx.out.keep (Keep.of_below kb7 (by omega))
  clear HK
  have HK := JK
  clear JK
  clear HA
  have HA := JA
  clear JA
  clear HRx
  have HRx := JRx
  clear JRx
  have HXx : Hid (Bo1 w6.heap.size V7 (.slice (some ⟨xx, 0, none⟩) l0.length l0.length)) := bx7
  clear bx7 kb7
  obtain ⟨Ac0⟩ := HA.out
  have Az : w.heap.size < V7.heap.size := by omega
  obtain ⟨Xxc0⟩ := HXx.out
  have Xxz : w6.heap.size < V7.heap.size := by omega
  clear Ac0 Az
  clear Xxc0 Xxz
  refine (toIntS_ex s1 c1 0 w.heap.size l1 V7 (HA1.out.keep (Keep.of_below HK.out (Nat.le_refl _))) (by omega) n1).mono ?_
  rintro e w8 ⟨xy, rfl, ho8, hb8, z8⟩
  have zz8 := hb8.size
  have JK : Hid (Below w.heap.size w w8) := HK.out.trans (hb8.mono (by omega))
  have JA : Hid (Bo1 w.heap.size w8 (.slice s0 l0.length c0)) := HA.out.keep (Keep.of_below hb8 (by omega))
  have JRx : Hid (MemR w8 w5.heap.size w6.heap.size (some ⟨xx, 0, none⟩) l0) := HRx.out.keep (Keep.of_below hb8 (by omega))
  have JXx : Hid (Bo1 w6.heap.size w8 (.slice (some ⟨xx, 0, none⟩) l0.length l0.length)) := HXx.out.keep (Keep.of_below hb8 (by omega))
  clear HK
  have HK := JK
  clear JK
  clear HA
  have HA := JA
  clear JA
  clear HRx
  have HRx := JRx
  clear JRx
  clear HXx
  have HXx := JXx
  clear JXx
  have HRy : Hid (IntsR w8 V7.heap.size w8.heap.size (some ⟨xy, 0, none⟩) l1) := ownN_intsR ho8
  clear hb8 ho8
  obtain ⟨Ac0⟩ := HA.out
  have Az : w.heap.size < w8.heap.size := by omega
  obtain ⟨Xxc0⟩ := HXx.out
  have Xxz : w6.heap.size < w8.heap.size := by omega
  go_wp2_with fail
  refine (implLocked_any _ _ _ _ _ _ _ _ l0 l1 l2 w8 HRx.out HRy.out (by omega) (by omega) (by omega) (by have := F1.out; omega)).mono ?_
  rintro e w9 ⟨rfl, hb9⟩
  have z9 := hb9.size
  clear Ac0 Az
  clear Xxc0 Xxz
  have JK : Hid (Below w.heap.size w w9) := HK.out.trans (hb9.mono (by omega))
  have JA : Hid (Bo1 w.heap.size w9 (.slice s0 l0.length c0)) := HA.out.keep (Keep.of_below hb9 (by omega))
  have JRx : Hid (MemR w9 w5.heap.size w6.heap.size (some ⟨xx, 0, none⟩) l0) := HRx.out.keep (Keep.of_below hb9 (by omega))
  have JXx : Hid (Bo1 w6.heap.size w9 (.slice (some ⟨xx, 0, none⟩) l0.length l0.length)) := HXx.out.keep (Keep.of_below hb9 (by omega))
  have JRy : Hid (IntsR w9 V7.heap.size w8.heap.size (some ⟨xy, 0, none⟩) l1) := HRy.out.keep (Keep.of_below hb9 (by omega))
  clear HK
  have HK := JK
  clear JK
  clear HA
  have HA := JA
  clear JA
  clear HRx
  have HRx := JRx
  clear JRx
  clear HXx
  have HXx := JXx
  clear JXx
  clear HRy
  have HRy := JRy
  clear JRy
  clear hb9
  rw [HBB.out]
  obtain ⟨Ac0⟩ := HA.out
  have Az : w.heap.size < w9.heap.size := by omega
  obtain ⟨Xxc0⟩ := HXx.out
  have Xxz : w6.heap.size < w9.heap.size := by omega
  go_wp2_with fail
  go_region_held3 (fun w' => w'.cell? ⟨w6.heap.size, 0, none⟩ = some (.slice (some ⟨xx, 0, none⟩) l0.length l0.length) ∧ w'.cell? ⟨w.heap.size, 0, none⟩ = some (.slice s0 l0.length c0)) (go_keep) (first | (go_at_call 12; refine (toMemory_own s0 c0 0 w.heap.size l0 w9.drew (HA0.out.keep (Keep.of_below HK.out.drew (Nat.le_refl _))) (by show w.heap.size ≤ w9.heap.size; omega) FM0.out).mono ?_; rintro e w10 ⟨xq, Sq, rfl, ho10, hb10, hz10⟩; have kx : Below w9.heap.size w9 w10 := (Below.drew (Below.refl _ _)).trans hb10; have kz := kx.size; have XX := HXx.out.keep (Keep.of_below kx (by omega)); have AA := HA.out.keep (Keep.of_below kx (by omega)); have t0 := XX.c0; have t1 := AA.c0) | (go_at_call 15; refine (eqMemory_alike (some ⟨xx, 0, none⟩) (some ⟨xq, 0, none⟩) _ _ w5.heap.size w6.heap.size w9.heap.size w10.heap.size l0 w10 (HRx.out.keep (Keep.of_below kx (by omega))) (ho10.mem) (by omega) (Nat.le_refl _) F1.out).mono ?_; rintro e w11 ⟨rfl, hb11⟩; have ky : Below w9.heap.size w9 w11 := kx.trans (hb11.mono (by omega)); have XY := XX.keep (Keep.of_below hb11 (by omega)); have AY := AA.keep (Keep.of_below hb11 (by omega)); have u0 := XY.c0; have u1 := AY.c0))
  have z11 := ky.size
  clear t0 t1 u0 u1 XX AA XY AY hb10 hb11 ho10 hz10 kx kz
  clear Ac0 Az
  clear Xxc0 Xxz
  have JK : Hid (Below w.heap.size w w11) := HK.out.trans (ky.mono (by omega))
  have JA : Hid (Bo1 w.heap.size w11 (.slice s0 l0.length c0)) := HA.out.keep (Keep.of_below ky (by omega))
  have JRx : Hid (MemR w11 w5.heap.size w6.heap.size (some ⟨xx, 0, none⟩) l0) := HRx.out.keep (Keep.of_below ky (by omega))
  have JXx : Hid (Bo1 w6.heap.size w11 (.slice (some ⟨xx, 0, none⟩) l0.length l0.length)) := HXx.out.keep (Keep.of_below ky (by omega))
  have JRy : Hid (IntsR w11 V7.heap.size w8.heap.size (some ⟨xy, 0, none⟩) l1) := HRy.out.keep (Keep.of_below ky (by omega))
  clear HK
  have HK := JK
  clear JK
  clear HA
  have HA := JA
  clear JA
  clear HRx
  have HRx := JRx
  clear JRx
  clear HXx
  have HXx := JXx
  clear JXx
  clear HRy
  have HRy := JRy
  clear JRy
  clear ky
  obtain ⟨Ac0⟩ := HA.out
  have Az : w.heap.size < w11.heap.size := by omega
  obtain ⟨Xxc0⟩ := HXx.out
  have Xxz : w6.heap.size < w11.heap.size := by omega
  go_wp2_with fail
  clear Ac0 Az
  clear Xxc0 Xxz
  refine (toIntS_ex s1 c1 0 w.heap.size l1 w11 (HA1.out.keep (Keep.of_below HK.out (Nat.le_refl _))) (by omega) n1).mono ?_
  rintro e w12 ⟨xd, rfl, ho12, hb12, z12⟩
  have zz12 := hb12.size
  have JK : Hid (Below w.heap.size w w12) := HK.out.trans (hb12.mono (by omega))
  have JA : Hid (Bo1 w.heap.size w12 (.slice s0 l0.length c0)) := HA.out.keep (Keep.of_below hb12 (by omega))
  have JRx : Hid (MemR w12 w5.heap.size w6.heap.size (some ⟨xx, 0, none⟩) l0) := HRx.out.keep (Keep.of_below hb12 (by omega))
  have JXx : Hid (Bo1 w6.heap.size w12 (.slice (some ⟨xx, 0, none⟩) l0.length l0.length)) := HXx.out.keep (Keep.of_below hb12 (by omega))
  have JRy : Hid (IntsR w12 V7.heap.size w8.heap.size (some ⟨xy, 0, none⟩) l1) := HRy.out.keep (Keep.of_below hb12 (by omega))
  clear HK
  have HK := JK
  clear JK
  clear HA
  have HA := JA
  clear JA
  clear HRx
  have HRx := JRx
  clear JRx
  clear HXx
  have HXx := JXx
  clear JXx
  clear HRy
  have HRy := JRy
  clear JRy
  have HRd : Hid (IntsR w12 w11.heap.size w12.heap.size (some ⟨xd, 0, none⟩) l1) := ownN_intsR ho12
  clear hb12 ho12
  obtain ⟨Ac0⟩ := HA.out
  have Az : w.heap.size < w12.heap.size := by omega
  obtain ⟨Xxc0⟩ := HXx.out
  have Xxz : w6.heap.size < w12.heap.size := by omega
  go_wp2_with fail
  refine (eqN_true _ _ HRy.out HRd.out (by omega) (by omega) (by omega)).mono ?_
  rintro e w13 ⟨rfl, hb13⟩
  have z13 := hb13.size
  clear Ac0 Az
  clear Xxc0 Xxz
  have JK : Hid (Below w.heap.size w w13) := HK.out.trans (hb13.mono (by omega))
  have JA : Hid (Bo1 w.heap.size w13 (.slice s0 l0.length c0)) := HA.out.keep (Keep.of_below hb13 (by omega))
  have JRx : Hid (MemR w13 w5.heap.size w6.heap.size (some ⟨xx, 0, none⟩) l0) := HRx.out.keep (Keep.of_below hb13 (by omega))
  have JXx : Hid (Bo1 w6.heap.size w13 (.slice (some ⟨xx, 0, none⟩) l0.length l0.length)) := HXx.out.keep (Keep.of_below hb13 (by omega))
  have JRy : Hid (IntsR w13 V7.heap.size w8.heap.size (some ⟨xy, 0, none⟩) l1) := HRy.out.keep (Keep.of_below hb13 (by omega))
  have JRd : Hid (IntsR w13 w11.heap.size w12.heap.size (some ⟨xd, 0, none⟩) l1) := HRd.out.keep (Keep.of_below hb13 (by omega))
  clear HK
  have HK := JK
  clear JK
  clear HA
  have HA := JA
  clear JA
  clear HRx
  have HRx := JRx
  clear JRx
  clear HXx
  have HXx := JXx
  clear JXx
  clear HRy
  have HRy := JRy
  clear JRy
  clear HRd
  have HRd := JRd
  clear JRd
  clear hb13
  obtain ⟨Ac0⟩ := HA.out
  have Az : w.heap.size < w13.heap.size := by omega
  obtain ⟨Xxc0⟩ := HXx.out
  have Xxz : w6.heap.size < w13.heap.size := by omega
  go_wp2
  go_ret
  exact ⟨rfl, HK.out⟩

set_option maxRecDepth 100000 in
theorem liftedExactLocked (os : Os) (started : os.Started) (H : Type) (enc : TypeId × Value → H) :
    ReturnsInHanded {} Try.checked os 5 .any (Rows.fnExactLockedSpec.pre6 enc Try.prog Try.f5 Rows.fnExactLockedRow.domain false) (Rows.fnExactLockedSpec.post enc Try.prog Try.f5 false true false false) := by
  refine returnsInHanded_of_change (C := Try.checked) ownP started (by kernel_rfl) Try.func5
    (ChangeSpec.witness6 (enc := enc) (C := Try.checked) false ⟨#[], #[.agg #[.slice none 0 0], .slice none 0 0, .int .i64 0], []⟩ 8 (by kernel_rfl) (by kernel_rfl) (by kernel_rfl) (by kernel_rfl)) ?_
  intro W base args ds gs before hval0 hW hcnd _
  have hval : ∀ (j : Nat) t v, Try.f5.params[j]? = some t → args[j]? = some v → Value.okWide Try.prog W .any base t v := hval0
  have hW' := hW
  obtain ⟨p, q, hA0, hV, rfl, hfz, hnd⟩ := hW
  have hA : DataW.TrodAll enc Try.prog W 0 (fun _ => true) true Try.f5.params.toList args.toList ds p := hA0
  rw [Try.params5] at hA hval
  obtain ⟨v0, v1, v2, d0, d1, d2, p0, p1, p2, hargs, rfl, rfl, h0, h1, h2⟩ := trodAll_three hA
  obtain rfl : args = #[v0, v1, v2] := by cases args; simp_all
  obtain ⟨rfl, rfl⟩ := trodVars_none hV
  have k0 := h0
  have lt0 : ∀ x ∈ p0, x.block < W.heap.size := by obtain ⟨m, hm⟩ := k0; exact DataW.trod_lt m _ _ _ hm
  have k1 := h1
  have lt1 : ∀ x ∈ p1, x.block < W.heap.size := by obtain ⟨m, hm⟩ := k1; exact DataW.trod_lt m _ _ _ hm
  have k2 := h2
  have lt2 : ∀ x ∈ p2, x.block < W.heap.size := by obtain ⟨m, hm⟩ := k2; exact DataW.trod_lt m _ _ _ hm
  obtain ⟨s0, c0, l0, rfl, m0, hR0⟩ := open_mem (hval 0 29 v0 rfl rfl) h0
  obtain ⟨s1, c1, l1, rfl, m1, hR1⟩ := open_intS (hval 1 22 v1 rfl rfl) h1
  obtain ⟨l2, rfl, -, -, hwf2⟩ := open_int Try.underlying3 (hval 2 3 v2 rfl rfl) h2
  clear hA0 hval0
  refine (walkExactLocked s0 c0 l0 s1 c1 l1 l2 W hR0 m0 hR1 m1 hwf2).mono fun e W' ⟨he, bel⟩ => ?_
  subst he
  exact ⟨_, rfl, _, _, _, [], _, [], hW', trodAll_mk1 (shut_bool Try.underlying4 _), trodAll_mk3 (Below.trod laidOutP (by kernel_rfl) (of_decide_eq_true (by kernel_rfl)) k0 bel lt0) (Below.trod laidOutP (by kernel_rfl) (of_decide_eq_true (by kernel_rfl)) k1 bel lt1) (Below.trod laidOutP (by kernel_rfl) (of_decide_eq_true (by kernel_rfl)) k2 bel lt2), rfl, bel.frame _, fun h => by cases h⟩

theorem fnExactLocked_holds : Rows.FnExactLockedSaid :=
  OpenClaim.holds_of_wide 5 Try.f5 rfl rfl rfl rfl rfl rfl rfl ⟨rfl, rfl, rfl, rfl, rfl⟩ rfl rfl rfl rfl rfl (by kernel_rfl) Try.func5 (by kernel_rfl)
    (of_decide_eq_true (by kernel_rfl)) (by unfold Func.isWrapper; first | (rw [if_pos (by decide +kernel)]; kernel_rfl) | (rw [if_neg (by decide +kernel)]; exact ⟨rfl, rfl⟩))
    (fun os started H enc _ => liftedExactLocked os started H enc)
#print axioms fnExactLocked_holds

end Go.Proofs.Ytpcmplckklmeoaa
