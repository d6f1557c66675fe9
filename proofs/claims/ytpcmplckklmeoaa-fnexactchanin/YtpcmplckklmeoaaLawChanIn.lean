/- The law FnExactChanIn of the given statements: at every argument ChanIn of the program answers as the specification's, writes into no argument, its answer owns its memory. No condition. -/
import Derived.Test.YtpcmplckklmeoaaMemFrame
import Derived.Test.YtpcmplckklmeoaaMemSz
import Derived.Test.YtpcmplckklmeoaaMemEq
import Derived.Test.YtpcmplckklmeoaaMemCopy
import Derived.Test.YtpcmplckklmeoaaMemMark
import Derived.Test.YtpcmplckklmeoaaN9ChW
import Derived.Deep.RegionHeld3
namespace Go.Proofs.Ytpcmplckklmeoaa
set_option linter.unusedSimpArgs false
set_option linter.unusedVariables false
set_option maxRecDepth 100000
open Go.ChangeShapes Go.WideShapes Go.ChangeAt Go.RowKit Go.Deep

theorem wf_le {n : Int} (h : (Lit.int .i64 n).wf = true) : n ≤ 9223372036854775807 := by
  have hmax : IntKind.i64.max = 9223372036854775807 := rfl
  simp only [Lit.wf, Bool.and_eq_true, decide_eq_true_eq] at h
  omega
set_option maxRecDepth 100000 in
set_option maxHeartbeats 8000000 in
theorem walkExactChanIn (s0 : Option Addr) (c0 : Nat) (l0 : List (List WD)) (s1 : Option Addr) (c1 : Nat) (l1 : List Int) (l2 : Int) (w : World) (h0 : MemR w 0 w.heap.size s0 l0) (m0 : MLens l0) (h1 : IntsR w 0 w.heap.size s1 l1) (m1 : l1.length ≤ maxLen) (hw2 : (Lit.int .i64 l2).wf = true) :
    Calls Try.prog 4 #[.agg #[.slice s0 l0.length c0], .slice s1 l1.length c1, .int .i64 l2] w fun e w' => e = .returned (.bool true) ∧ Below w.heap.size w w' := by
  have HA0 : Hid (MemR w 0 w.heap.size s0 l0) := h0
  have HM0 : Hid (MLens l0) := m0
  clear h0 m0
  have HA1 : Hid (IntsR w 0 w.heap.size s1 l1) := h1
  clear h1
  unfold maxLen at m1
  have hb2 := wf_le hw2
  clear hw2
  by_cases b1 : (l1.length : Int) > 1048576
  · go_enter Try.func4, Try.ntmps4
    go_wp2
    go_ret
    exact ⟨rfl, by first | exact Below.refl _ _ | exact (Below.refl _ _).alloc (Nat.le_refl _) _⟩
  have n1 : l1.length ≤ 1048576 := by omega
  go_enter Try.func4, Try.ntmps4
  go_wp2_with fail
  have HK : Hid (Below w.heap.size w w) := Below.refl _ _
  obtain ⟨V1, hV1, bx1, kb1, zb1⟩ := Bo1.new w (.slice s0 l0.length c0) 29
  rw [hV1]
  clear hV1
  have JK : Hid (Below w.heap.size w V1) := HK.out.trans (kb1.mono (by omega))
  clear HK
  have HK := JK
  clear JK
  have HA : Hid (Bo1 w.heap.size V1 (.slice s0 l0.length c0)) := bx1
  clear bx1 kb1
  refine (szMemory_any s0 c0 0 w.heap.size l0 V1 (HA0.out.keep (Keep.of_below HK.out (Nat.le_refl _))) (by omega) HM0.out).mono ?_
  rintro e w2 ⟨⟨u, rfl, hu⟩, hb2⟩
  have z2 := hb2.size
  have JK : Hid (Below w.heap.size w w2) := HK.out.trans (hb2.mono (by omega))
  have JA : Hid (Bo1 w.heap.size w2 (.slice s0 l0.length c0)) := HA.out.keep (Keep.of_below hb2 (by omega))
  clear HK
  have HK := JK
  clear JK
  clear HA
  have HA := JA
  clear JA
  clear hb2
  obtain ⟨Ac0⟩ := HA.out
  have Az : w.heap.size < w2.heap.size := by omega
  rcases hu with hu | ⟨hu, hf⟩
  · go_wp2
    go_ret
    exact ⟨rfl, HK.out⟩
  have hun : ¬ u < 0 := by omega
  have FM0 : Hid (MFits l0) := hf
  have F1 : Hid (l0.length + szR l0 ≤ 1048676) := by show l0.length + szR l0 ≤ 1048676; have := hf; unfold MFits at this; omega
  clear hf
  obtain ⟨⟨cap, ll, cl, ok⟩, hch⟩ : ∃ c, chanM l0 l1 l2 = c := ⟨_, rfl⟩
  have hL : ll.length ≤ 4 := by have := chan_len l0 l1 l2; rw [hch] at this; exact this
  have HCH : Hid (chanM l0 l1 l2 = ⟨cap, ll, cl, ok⟩) := hch
  clear hch
  have hzn : (ok != ok) = false := by simp
  have hq1 : ((1 : Int) + (ll.length : Int) != 1 + (ll.length : Int)) = false := by simp
  have hq2 : ¬ ((1 : Int) + (ll.length : Int) < 0) := by omega
  go_wp2_with fail
  refine (toMemory_own s0 c0 0 w.heap.size l0 w2 (HA0.out.keep (Keep.of_below HK.out (Nat.le_refl _))) (by omega) FM0.out).mono ?_
  rintro e w3 ⟨xa, Sa, rfl, ho3, hb3, z3⟩
  clear Ac0 Az
  have JK : Hid (Below w.heap.size w w3) := HK.out.trans (hb3.mono (by omega))
  have JA : Hid (Bo1 w.heap.size w3 (.slice s0 l0.length c0)) := HA.out.keep (Keep.of_below hb3 (by omega))
  clear HK
  have HK := JK
  clear JK
  clear HA
  have HA := JA
  clear JA
  have HRa : Hid (MemR w3 w2.heap.size w3.heap.size (some ⟨xa, 0, none⟩) l0) := ho3.mem
  clear hb3 ho3
  obtain ⟨Ac0⟩ := HA.out
  have Az : w.heap.size < w3.heap.size := by omega
  go_wp2_with fail
  clear Ac0 Az
  refine (toIntS_ex s1 c1 0 w.heap.size l1 w3 (HA1.out.keep (Keep.of_below HK.out (Nat.le_refl _))) (by omega) n1).mono ?_
  rintro e w4 ⟨xb, rfl, ho4, hb4, z4⟩
  have zz4 := hb4.size
  have JK : Hid (Below w.heap.size w w4) := HK.out.trans (hb4.mono (by omega))
  have JA : Hid (Bo1 w.heap.size w4 (.slice s0 l0.length c0)) := HA.out.keep (Keep.of_below hb4 (by omega))
  have JRa : Hid (MemR w4 w2.heap.size w3.heap.size (some ⟨xa, 0, none⟩) l0) := HRa.out.keep (Keep.of_below hb4 (by omega))
  clear HK
  have HK := JK
  clear JK
  clear HA
  have HA := JA
  clear JA
  clear HRa
  have HRa := JRa
  clear JRa
  have HRb : Hid (IntsR w4 w3.heap.size w4.heap.size (some ⟨xb, 0, none⟩) l1) := ownN_intsR ho4
  clear hb4 ho4
  obtain ⟨Ac0⟩ := HA.out
  have Az : w.heap.size < w4.heap.size := by omega
  go_wp2_with fail
  refine (specChanC _ _ _ _ _ _ _ _ l0 l1 l2 w4 cap ll cl ok HRa.out HRb.out (by omega) (by omega) (by omega) (by have := F1.out; omega) HCH.out).mono ?_
  rintro e w5 ⟨sw, cw, rfl, hi5, hn5, hb5⟩
  have z5 := hb5.size
  clear Ac0 Az
  have JK : Hid (Below w.heap.size w w5) := HK.out.trans (hb5.mono (by omega))
  have JA : Hid (Bo1 w.heap.size w5 (.slice s0 l0.length c0)) := HA.out.keep (Keep.of_below hb5 (by omega))
  have JRa : Hid (MemR w5 w2.heap.size w3.heap.size (some ⟨xa, 0, none⟩) l0) := HRa.out.keep (Keep.of_below hb5 (by omega))
  have JRb : Hid (IntsR w5 w3.heap.size w4.heap.size (some ⟨xb, 0, none⟩) l1) := HRb.out.keep (Keep.of_below hb5 (by omega))
  clear HK
  have HK := JK
  clear JK
  clear HA
  have HA := JA
  clear JA
  clear HRa
  have HRa := JRa
  clear JRa
  clear HRb
  have HRb := JRb
  clear JRb
  have HIw : Hid (IntsR w5 w4.heap.size w5.heap.size sw ll) := hi5
  clear hb5 hi5 hn5
  obtain ⟨Ac0⟩ := HA.out
  have Az : w.heap.size < w5.heap.size := by omega
  go_wp2_with fail
  obtain ⟨V6, hV6, bx6, kb6, zb6⟩ := Bo3.new w5 (.int .i64 cap) (.slice sw ll.length cw) (.bool cl) 32
  rw [hV6]
  clear hV6
  clear Ac0 Az
  have JK : Hid (Below w.heap.size w V6) := HK.out.trans (kb6.mono (by omega))
  have JA : Hid (Bo1 w.heap.size V6 (.slice s0 l0.length c0)) := HA.out.keep (Keep.of_below kb6 (by omega))
  have JRa : Hid (MemR V6 w2.heap.size w3.heap.size (some ⟨xa, 0, none⟩) l0) := HRa.out.keep (Keep.of_below kb6 (by omega))
  have JRb : Hid (IntsR V6 w3.heap.size w4.heap.size (some ⟨xb, 0, none⟩) l1) := HRb.out.keep (Keep.of_below kb6 (by omega))
  have JIw : Hid (IntsR V6 w4.heap.size w5.heap.size sw ll) := HIw.out.keep (Keep.of_below kb6 (by omega))
  clear HK
  have HK := JK
  clear JK
  clear HA
  have HA := JA
  clear JA
  clear HRa
  have HRa := JRa
  clear JRa
  clear HRb
  have HRb := JRb
  clear JRb
  clear HIw
  have HIw := JIw
  clear JIw
  have HFw : Hid (Bo3 w5.heap.size V6 (.int .i64 cap) (.slice sw ll.length cw) (.bool cl)) := bx6
  clear bx6 kb6
  obtain ⟨Ac0⟩ := HA.out
  have Az : w.heap.size < V6.heap.size := by omega
  obtain ⟨Fwc0, Fwc1, Fwc2⟩ := HFw.out
  have Fwz : w5.heap.size < V6.heap.size := by omega
  clear HRa
  clear HRb
  refine (toMemory_own s0 c0 0 w.heap.size l0 V6 (HA0.out.keep (Keep.of_below HK.out (Nat.le_refl _))) (by omega) FM0.out).mono ?_
  rintro e w7 ⟨xx, Sx, rfl, ho7, hb7, z7⟩
  clear Ac0 Az
  clear Fwc0 Fwc1 Fwc2 Fwz
  have JK : Hid (Below w.heap.size w w7) := HK.out.trans (hb7.mono (by omega))
  have JA : Hid (Bo1 w.heap.size w7 (.slice s0 l0.length c0)) := HA.out.keep (Keep.of_below hb7 (by omega))
  have JIw : Hid (IntsR w7 w4.heap.size w5.heap.size sw ll) := HIw.out.keep (Keep.of_below hb7 (by omega))
  have JFw : Hid (Bo3 w5.heap.size w7 (.int .i64 cap) (.slice sw ll.length cw) (.bool cl)) := HFw.out.keep (Keep.of_below hb7 (by omega))
  clear HK
  have HK := JK
  clear JK
  clear HA
  have HA := JA
  clear JA
  clear HIw
  have HIw := JIw
  clear JIw
  clear HFw
  have HFw := JFw
  clear JFw
  have HRx : Hid (MemR w7 V6.heap.size w7.heap.size (some ⟨xx, 0, none⟩) l0) := ho7.mem
  have HOx : Hid (MO w7 V6.heap.size w7.heap.size (some ⟨xx, 0, none⟩) Sx l0) := ho7
  clear hb7 ho7
  obtain ⟨Ac0⟩ := HA.out
  have Az : w.heap.size < w7.heap.size := by omega
  obtain ⟨Fwc0, Fwc1, Fwc2⟩ := HFw.out
  have Fwz : w5.heap.size < w7.heap.size := by omega
  go_wp2_with fail
  obtain ⟨V8, hV8, bx8, kb8, zb8⟩ := Bo1.new w7 (.slice (some ⟨xx, 0, none⟩) l0.length l0.length) 37
  rw [hV8]
  clear hV8
  clear Ac0 Az
  clear Fwc0 Fwc1 Fwc2 Fwz
  have JK : Hid (Below w.heap.size w V8) := HK.out.trans (kb8.mono (by omega))
  have JA : Hid (Bo1 w.heap.size V8 (.slice s0 l0.length c0)) := HA.out.keep (Keep.of_below kb8 (by omega))
  have JIw : Hid (IntsR V8 w4.heap.size w5.heap.size sw ll) := HIw.out.keep (Keep.of_below kb8 (by omega))
  have JFw : Hid (Bo3 w5.heap.size V8 (.int .i64 cap) (.slice sw ll.length cw) (.bool cl)) := HFw.out.keep (Keep.of_below kb8 (by omega))
  have JRx : Hid (MemR V8 V6.heap.size w7.heap.size (some ⟨xx, 0, none⟩) l0) := HRx.out.keep (Keep.of_below kb8 (by omega))
  have JOx : Hid (MO V8 V6.heap.size w7.heap.size (some ⟨xx, 0, none⟩) Sx l0) := HOx.out.keep (Keep.of_below kb8 (by omega))
  clear HK
  have HK := JK
  clear JK
  clear HA
  have HA := JA
  clear JA
  clear HIw
  have HIw := JIw
  clear JIw
  clear HFw
  have HFw := JFw
  clear JFw
  clear HRx
  have HRx := JRx
  clear JRx
  clear HOx
  have HOx := JOx
  clear JOx
  have HXx : Hid (Bo1 w7.heap.size V8 (.slice (some ⟨xx, 0, none⟩) l0.length l0.length)) := bx8
  clear bx8 kb8
  obtain ⟨Ac0⟩ := HA.out
  have Az : w.heap.size < V8.heap.size := by omega
  obtain ⟨Fwc0, Fwc1, Fwc2⟩ := HFw.out
  have Fwz : w5.heap.size < V8.heap.size := by omega
  obtain ⟨Xxc0⟩ := HXx.out
  have Xxz : w7.heap.size < V8.heap.size := by omega
  clear Ac0 Az
  clear Fwc0 Fwc1 Fwc2 Fwz
  clear Xxc0 Xxz
  refine (toIntS_ex s1 c1 0 w.heap.size l1 V8 (HA1.out.keep (Keep.of_below HK.out (Nat.le_refl _))) (by omega) n1).mono ?_
  rintro e w9 ⟨xy, rfl, ho9, hb9, z9⟩
  have zz9 := hb9.size
  have JK : Hid (Below w.heap.size w w9) := HK.out.trans (hb9.mono (by omega))
  have JA : Hid (Bo1 w.heap.size w9 (.slice s0 l0.length c0)) := HA.out.keep (Keep.of_below hb9 (by omega))
  have JIw : Hid (IntsR w9 w4.heap.size w5.heap.size sw ll) := HIw.out.keep (Keep.of_below hb9 (by omega))
  have JFw : Hid (Bo3 w5.heap.size w9 (.int .i64 cap) (.slice sw ll.length cw) (.bool cl)) := HFw.out.keep (Keep.of_below hb9 (by omega))
  have JRx : Hid (MemR w9 V6.heap.size w7.heap.size (some ⟨xx, 0, none⟩) l0) := HRx.out.keep (Keep.of_below hb9 (by omega))
  have JOx : Hid (MO w9 V6.heap.size w7.heap.size (some ⟨xx, 0, none⟩) Sx l0) := HOx.out.keep (Keep.of_below hb9 (by omega))
  have JXx : Hid (Bo1 w7.heap.size w9 (.slice (some ⟨xx, 0, none⟩) l0.length l0.length)) := HXx.out.keep (Keep.of_below hb9 (by omega))
  clear HK
  have HK := JK
  clear JK
  clear HA
  have HA := JA
  clear JA
  clear HIw
  have HIw := JIw
  clear JIw
  clear HFw
  have HFw := JFw
  clear JFw
  clear HRx
  have HRx := JRx
  clear JRx
  clear HOx
  have HOx := JOx
  clear JOx
  clear HXx
  have HXx := JXx
  clear JXx
  have HRy : Hid (IntsR w9 V8.heap.size w9.heap.size (some ⟨xy, 0, none⟩) l1) := ownN_intsR ho9
  have HOy : Hid (NB w9 V8.heap.size w9.heap.size (.slice (some ⟨xy, 0, none⟩) l1.length l1.length) l1) := NB.of ho9
  clear hb9 ho9
  obtain ⟨Ac0⟩ := HA.out
  have Az : w.heap.size < w9.heap.size := by omega
  obtain ⟨Fwc0, Fwc1, Fwc2⟩ := HFw.out
  have Fwz : w5.heap.size < w9.heap.size := by omega
  obtain ⟨Xxc0⟩ := HXx.out
  have Xxz : w7.heap.size < w9.heap.size := by omega
  go_wp2_with fail
  refine (implChanC _ _ _ _ _ _ _ _ l0 l1 l2 w9 cap ll cl ok HRx.out HRy.out (by omega) (by omega) (by omega) (by have := F1.out; omega) HCH.out).mono ?_
  rintro e w10 ⟨sg, cg, rfl, hi10, hn10, hb10⟩
  have z10 := hb10.size
  clear Ac0 Az
  clear Fwc0 Fwc1 Fwc2 Fwz
  clear Xxc0 Xxz
  have JK : Hid (Below w.heap.size w w10) := HK.out.trans (hb10.mono (by omega))
  have JA : Hid (Bo1 w.heap.size w10 (.slice s0 l0.length c0)) := HA.out.keep (Keep.of_below hb10 (by omega))
  have JIw : Hid (IntsR w10 w4.heap.size w5.heap.size sw ll) := HIw.out.keep (Keep.of_below hb10 (by omega))
  have JFw : Hid (Bo3 w5.heap.size w10 (.int .i64 cap) (.slice sw ll.length cw) (.bool cl)) := HFw.out.keep (Keep.of_below hb10 (by omega))
  have JRx : Hid (MemR w10 V6.heap.size w7.heap.size (some ⟨xx, 0, none⟩) l0) := HRx.out.keep (Keep.of_below hb10 (by omega))
  have JOx : Hid (MO w10 V6.heap.size w7.heap.size (some ⟨xx, 0, none⟩) Sx l0) := HOx.out.keep (Keep.of_below hb10 (by omega))
  have JXx : Hid (Bo1 w7.heap.size w10 (.slice (some ⟨xx, 0, none⟩) l0.length l0.length)) := HXx.out.keep (Keep.of_below hb10 (by omega))
  have JRy : Hid (IntsR w10 V8.heap.size w9.heap.size (some ⟨xy, 0, none⟩) l1) := HRy.out.keep (Keep.of_below hb10 (by omega))
  have JOy : Hid (NB w10 V8.heap.size w9.heap.size (.slice (some ⟨xy, 0, none⟩) l1.length l1.length) l1) := HOy.out.keep (Keep.of_below hb10 (by omega))
  clear HK
  have HK := JK
  clear JK
  clear HA
  have HA := JA
  clear JA
  clear HIw
  have HIw := JIw
  clear JIw
  clear HFw
  have HFw := JFw
  clear JFw
  clear HRx
  have HRx := JRx
  clear JRx
  clear HOx
  have HOx := JOx
  clear JOx
  clear HXx
  have HXx := JXx
  clear JXx
  clear HRy
  have HRy := JRy
  clear JRy
  clear HOy
  have HOy := JOy
  clear JOy
  have HIg : Hid (IntsR w10 w9.heap.size w10.heap.size sg ll) := hi10
  have HGg : Hid (NB w10 w9.heap.size w10.heap.size (.slice sg ll.length cg) ll) := hn10
  clear hb10 hi10 hn10
  obtain ⟨Ac0⟩ := HA.out
  have Az : w.heap.size < w10.heap.size := by omega
  obtain ⟨Fwc0, Fwc1, Fwc2⟩ := HFw.out
  have Fwz : w5.heap.size < w10.heap.size := by omega
  obtain ⟨Xxc0⟩ := HXx.out
  have Xxz : w7.heap.size < w10.heap.size := by omega
  go_wp2_with fail
  obtain ⟨V11, hV11, bx11, kb11, zb11⟩ := Bo3.new w10 (.int .i64 cap) (.slice sg ll.length cg) (.bool cl) 32
  rw [hV11]
  clear hV11
  clear Ac0 Az
  clear Fwc0 Fwc1 Fwc2 Fwz
  clear Xxc0 Xxz
  have JK : Hid (Below w.heap.size w V11) := HK.out.trans (kb11.mono (by omega))
  have JA : Hid (Bo1 w.heap.size V11 (.slice s0 l0.length c0)) := HA.out.keep (Keep.of_below kb11 (by omega))
  have JIw : Hid (IntsR V11 w4.heap.size w5.heap.size sw ll) := HIw.out.keep (Keep.of_below kb11 (by omega))
  have JFw : Hid (Bo3 w5.heap.size V11 (.int .i64 cap) (.slice sw ll.length cw) (.bool cl)) := HFw.out.keep (Keep.of_below kb11 (by omega))
  have JRx : Hid (MemR V11 V6.heap.size w7.heap.size (some ⟨xx, 0, none⟩) l0) := HRx.out.keep (Keep.of_below kb11 (by omega))
  have JOx : Hid (MO V11 V6.heap.size w7.heap.size (some ⟨xx, 0, none⟩) Sx l0) := HOx.out.keep (Keep.of_below kb11 (by omega))
  have JXx : Hid (Bo1 w7.heap.size V11 (.slice (some ⟨xx, 0, none⟩) l0.length l0.length)) := HXx.out.keep (Keep.of_below kb11 (by omega))
  have JRy : Hid (IntsR V11 V8.heap.size w9.heap.size (some ⟨xy, 0, none⟩) l1) := HRy.out.keep (Keep.of_below kb11 (by omega))
  have JOy : Hid (NB V11 V8.heap.size w9.heap.size (.slice (some ⟨xy, 0, none⟩) l1.length l1.length) l1) := HOy.out.keep (Keep.of_below kb11 (by omega))
  have JIg : Hid (IntsR V11 w9.heap.size w10.heap.size sg ll) := HIg.out.keep (Keep.of_below kb11 (by omega))
  have JGg : Hid (NB V11 w9.heap.size w10.heap.size (.slice sg ll.length cg) ll) := HGg.out.keep (Keep.of_below kb11 (by omega))
  clear HK
  have HK := JK
  clear JK
  clear HA
  have HA := JA
  clear JA
  clear HIw
  have HIw := JIw
  clear JIw
  clear HFw
  have HFw := JFw
  clear JFw
  clear HRx
  have HRx := JRx
  clear JRx
  clear HOx
  have HOx := JOx
  clear JOx
  clear HXx
  have HXx := JXx
  clear JXx
  clear HRy
  have HRy := JRy
  clear JRy
  clear HOy
  have HOy := JOy
  clear JOy
  clear HIg
  have HIg := JIg
  clear JIg
  clear HGg
  have HGg := JGg
  clear JGg
  have HFg : Hid (Bo3 w10.heap.size V11 (.int .i64 cap) (.slice sg ll.length cg) (.bool cl)) := bx11
  clear bx11 kb11
  obtain ⟨Ac0⟩ := HA.out
  have Az : w.heap.size < V11.heap.size := by omega
  obtain ⟨Fwc0, Fwc1, Fwc2⟩ := HFw.out
  have Fwz : w5.heap.size < V11.heap.size := by omega
  obtain ⟨Xxc0⟩ := HXx.out
  have Xxz : w7.heap.size < V11.heap.size := by omega
  obtain ⟨Fgc0, Fgc1, Fgc2⟩ := HFg.out
  have Fgz : w10.heap.size < V11.heap.size := by omega
  refine (eqChanN cap cl cg cw HIg.out HIw.out (by omega) (by omega) (by omega)).mono ?_
  rintro e w12 ⟨rfl, hb12⟩
  have z12 := hb12.size
  clear Ac0 Az
  clear Fwc0 Fwc1 Fwc2 Fwz
  clear Xxc0 Xxz
  clear Fgc0 Fgc1 Fgc2 Fgz
  have JK : Hid (Below w.heap.size w w12) := HK.out.trans (hb12.mono (by omega))
  have JA : Hid (Bo1 w.heap.size w12 (.slice s0 l0.length c0)) := HA.out.keep (Keep.of_below hb12 (by omega))
  have JIw : Hid (IntsR w12 w4.heap.size w5.heap.size sw ll) := HIw.out.keep (Keep.of_below hb12 (by omega))
  have JFw : Hid (Bo3 w5.heap.size w12 (.int .i64 cap) (.slice sw ll.length cw) (.bool cl)) := HFw.out.keep (Keep.of_below hb12 (by omega))
  have JRx : Hid (MemR w12 V6.heap.size w7.heap.size (some ⟨xx, 0, none⟩) l0) := HRx.out.keep (Keep.of_below hb12 (by omega))
  have JOx : Hid (MO w12 V6.heap.size w7.heap.size (some ⟨xx, 0, none⟩) Sx l0) := HOx.out.keep (Keep.of_below hb12 (by omega))
  have JXx : Hid (Bo1 w7.heap.size w12 (.slice (some ⟨xx, 0, none⟩) l0.length l0.length)) := HXx.out.keep (Keep.of_below hb12 (by omega))
  have JRy : Hid (IntsR w12 V8.heap.size w9.heap.size (some ⟨xy, 0, none⟩) l1) := HRy.out.keep (Keep.of_below hb12 (by omega))
  have JOy : Hid (NB w12 V8.heap.size w9.heap.size (.slice (some ⟨xy, 0, none⟩) l1.length l1.length) l1) := HOy.out.keep (Keep.of_below hb12 (by omega))
  have JIg : Hid (IntsR w12 w9.heap.size w10.heap.size sg ll) := HIg.out.keep (Keep.of_below hb12 (by omega))
  have JGg : Hid (NB w12 w9.heap.size w10.heap.size (.slice sg ll.length cg) ll) := HGg.out.keep (Keep.of_below hb12 (by omega))
  have JFg : Hid (Bo3 w10.heap.size w12 (.int .i64 cap) (.slice sg ll.length cg) (.bool cl)) := HFg.out.keep (Keep.of_below hb12 (by omega))
  clear HK
  have HK := JK
  clear JK
  clear HA
  have HA := JA
  clear JA
  clear HIw
  have HIw := JIw
  clear JIw
  clear HFw
  have HFw := JFw
  clear JFw
  clear HRx
  have HRx := JRx
  clear JRx
  clear HOx
  have HOx := JOx
  clear JOx
  clear HXx
  have HXx := JXx
  clear JXx
  clear HRy
  have HRy := JRy
  clear JRy
  clear HOy
  have HOy := JOy
  clear JOy
  clear HIg
  have HIg := JIg
  clear JIg
  clear HGg
  have HGg := JGg
  clear JGg
  clear HFg
  have HFg := JFg
  clear JFg
  clear hb12
  obtain ⟨Ac0⟩ := HA.out
  have Az : w.heap.size < w12.heap.size := by omega
  obtain ⟨Fwc0, Fwc1, Fwc2⟩ := HFw.out
  have Fwz : w5.heap.size < w12.heap.size := by omega
  obtain ⟨Xxc0⟩ := HXx.out
  have Xxz : w7.heap.size < w12.heap.size := by omega
  obtain ⟨Fgc0, Fgc1, Fgc2⟩ := HFg.out
  have Fgz : w10.heap.size < w12.heap.size := by omega
  go_wp2_with fail
  go_region_held3 (fun w' => w'.cell? ⟨w7.heap.size, 0, none⟩ = some (.slice (some ⟨xx, 0, none⟩) l0.length l0.length) ∧ w'.cell? ⟨w.heap.size, 0, none⟩ = some (.slice s0 l0.length c0)) (go_keep) (first | (go_at_call 12; refine (toMemory_own s0 c0 0 w.heap.size l0 w12.drew (HA0.out.keep (Keep.of_below HK.out.drew (Nat.le_refl _))) (by show w.heap.size ≤ w12.heap.size; omega) FM0.out).mono ?_; rintro e w13 ⟨xq, Sq, rfl, ho13, hb13, hz13⟩; have kx : Below w12.heap.size w12 w13 := (Below.drew (Below.refl _ _)).trans hb13; have kz := kx.size; have XX := HXx.out.keep (Keep.of_below kx (by omega)); have AA := HA.out.keep (Keep.of_below kx (by omega)); have t0 := XX.c0; have t1 := AA.c0) | (go_at_call 15; refine (eqMemory_alike (some ⟨xx, 0, none⟩) (some ⟨xq, 0, none⟩) _ _ V6.heap.size w7.heap.size w12.heap.size w13.heap.size l0 w13 (HRx.out.keep (Keep.of_below kx (by omega))) (ho13.mem) (by omega) (Nat.le_refl _) F1.out).mono ?_; rintro e w14 ⟨rfl, hb14⟩; have ky : Below w12.heap.size w12 w14 := kx.trans (hb14.mono (by omega)); have XY := XX.keep (Keep.of_below hb14 (by omega)); have AY := AA.keep (Keep.of_below hb14 (by omega)); have u0 := XY.c0; have u1 := AY.c0))
  have z14 := ky.size
  clear t0 t1 u0 u1 XX AA XY AY hb13 hb14 ho13 hz13 kx kz
  clear Ac0 Az
  clear Fwc0 Fwc1 Fwc2 Fwz
  clear Xxc0 Xxz
  clear Fgc0 Fgc1 Fgc2 Fgz
  have JK : Hid (Below w.heap.size w w14) := HK.out.trans (ky.mono (by omega))
  have JA : Hid (Bo1 w.heap.size w14 (.slice s0 l0.length c0)) := HA.out.keep (Keep.of_below ky (by omega))
  have JIw : Hid (IntsR w14 w4.heap.size w5.heap.size sw ll) := HIw.out.keep (Keep.of_below ky (by omega))
  have JFw : Hid (Bo3 w5.heap.size w14 (.int .i64 cap) (.slice sw ll.length cw) (.bool cl)) := HFw.out.keep (Keep.of_below ky (by omega))
  have JRx : Hid (MemR w14 V6.heap.size w7.heap.size (some ⟨xx, 0, none⟩) l0) := HRx.out.keep (Keep.of_below ky (by omega))
  have JOx : Hid (MO w14 V6.heap.size w7.heap.size (some ⟨xx, 0, none⟩) Sx l0) := HOx.out.keep (Keep.of_below ky (by omega))
  have JXx : Hid (Bo1 w7.heap.size w14 (.slice (some ⟨xx, 0, none⟩) l0.length l0.length)) := HXx.out.keep (Keep.of_below ky (by omega))
  have JRy : Hid (IntsR w14 V8.heap.size w9.heap.size (some ⟨xy, 0, none⟩) l1) := HRy.out.keep (Keep.of_below ky (by omega))
  have JOy : Hid (NB w14 V8.heap.size w9.heap.size (.slice (some ⟨xy, 0, none⟩) l1.length l1.length) l1) := HOy.out.keep (Keep.of_below ky (by omega))
  have JIg : Hid (IntsR w14 w9.heap.size w10.heap.size sg ll) := HIg.out.keep (Keep.of_below ky (by omega))
  have JGg : Hid (NB w14 w9.heap.size w10.heap.size (.slice sg ll.length cg) ll) := HGg.out.keep (Keep.of_below ky (by omega))
  have JFg : Hid (Bo3 w10.heap.size w14 (.int .i64 cap) (.slice sg ll.length cg) (.bool cl)) := HFg.out.keep (Keep.of_below ky (by omega))
  clear HK
  have HK := JK
  clear JK
  clear HA
  have HA := JA
  clear JA
  clear HIw
  have HIw := JIw
  clear JIw
  clear HFw
  have HFw := JFw
  clear JFw
  clear HRx
  have HRx := JRx
  clear JRx
  clear HOx
  have HOx := JOx
  clear JOx
  clear HXx
  have HXx := JXx
  clear JXx
  clear HRy
  have HRy := JRy
  clear JRy
  clear HOy
  have HOy := JOy
  clear JOy
  clear HIg
  have HIg := JIg
  clear JIg
  clear HGg
  have HGg := JGg
  clear JGg
  clear HFg
  have HFg := JFg
  clear JFg
  clear ky
  obtain ⟨Ac0⟩ := HA.out
  have Az : w.heap.size < w14.heap.size := by omega
  obtain ⟨Fwc0, Fwc1, Fwc2⟩ := HFw.out
  have Fwz : w5.heap.size < w14.heap.size := by omega
  obtain ⟨Xxc0⟩ := HXx.out
  have Xxz : w7.heap.size < w14.heap.size := by omega
  obtain ⟨Fgc0, Fgc1, Fgc2⟩ := HFg.out
  have Fgz : w10.heap.size < w14.heap.size := by omega
  go_wp2_with fail
  clear Ac0 Az
  clear Fwc0 Fwc1 Fwc2 Fwz
  clear Xxc0 Xxz
  clear Fgc0 Fgc1 Fgc2 Fgz
  refine (toIntS_ex s1 c1 0 w.heap.size l1 w14 (HA1.out.keep (Keep.of_below HK.out (Nat.le_refl _))) (by omega) n1).mono ?_
  rintro e w15 ⟨xd, rfl, ho15, hb15, z15⟩
  have zz15 := hb15.size
  have JK : Hid (Below w.heap.size w w15) := HK.out.trans (hb15.mono (by omega))
  have JA : Hid (Bo1 w.heap.size w15 (.slice s0 l0.length c0)) := HA.out.keep (Keep.of_below hb15 (by omega))
  have JIw : Hid (IntsR w15 w4.heap.size w5.heap.size sw ll) := HIw.out.keep (Keep.of_below hb15 (by omega))
  have JFw : Hid (Bo3 w5.heap.size w15 (.int .i64 cap) (.slice sw ll.length cw) (.bool cl)) := HFw.out.keep (Keep.of_below hb15 (by omega))
  have JRx : Hid (MemR w15 V6.heap.size w7.heap.size (some ⟨xx, 0, none⟩) l0) := HRx.out.keep (Keep.of_below hb15 (by omega))
  have JOx : Hid (MO w15 V6.heap.size w7.heap.size (some ⟨xx, 0, none⟩) Sx l0) := HOx.out.keep (Keep.of_below hb15 (by omega))
  have JXx : Hid (Bo1 w7.heap.size w15 (.slice (some ⟨xx, 0, none⟩) l0.length l0.length)) := HXx.out.keep (Keep.of_below hb15 (by omega))
  have JRy : Hid (IntsR w15 V8.heap.size w9.heap.size (some ⟨xy, 0, none⟩) l1) := HRy.out.keep (Keep.of_below hb15 (by omega))
  have JOy : Hid (NB w15 V8.heap.size w9.heap.size (.slice (some ⟨xy, 0, none⟩) l1.length l1.length) l1) := HOy.out.keep (Keep.of_below hb15 (by omega))
  have JIg : Hid (IntsR w15 w9.heap.size w10.heap.size sg ll) := HIg.out.keep (Keep.of_below hb15 (by omega))
  have JGg : Hid (NB w15 w9.heap.size w10.heap.size (.slice sg ll.length cg) ll) := HGg.out.keep (Keep.of_below hb15 (by omega))
  have JFg : Hid (Bo3 w10.heap.size w15 (.int .i64 cap) (.slice sg ll.length cg) (.bool cl)) := HFg.out.keep (Keep.of_below hb15 (by omega))
  clear HK
  have HK := JK
  clear JK
  clear HA
  have HA := JA
  clear JA
  clear HIw
  have HIw := JIw
  clear JIw
  clear HFw
  have HFw := JFw
  clear JFw
  clear HRx
  have HRx := JRx
  clear JRx
  clear HOx
  have HOx := JOx
  clear JOx
  clear HXx
  have HXx := JXx
  clear JXx
  clear HRy
  have HRy := JRy
  clear JRy
  clear HOy
  have HOy := JOy
  clear JOy
  clear HIg
  have HIg := JIg
  clear JIg
  clear HGg
  have HGg := JGg
  clear JGg
  clear HFg
  have HFg := JFg
  clear JFg
  have HRd : Hid (IntsR w15 w14.heap.size w15.heap.size (some ⟨xd, 0, none⟩) l1) := ownN_intsR ho15
  clear hb15 ho15
  obtain ⟨Ac0⟩ := HA.out
  have Az : w.heap.size < w15.heap.size := by omega
  obtain ⟨Fwc0, Fwc1, Fwc2⟩ := HFw.out
  have Fwz : w5.heap.size < w15.heap.size := by omega
  obtain ⟨Xxc0⟩ := HXx.out
  have Xxz : w7.heap.size < w15.heap.size := by omega
  obtain ⟨Fgc0, Fgc1, Fgc2⟩ := HFg.out
  have Fgz : w10.heap.size < w15.heap.size := by omega
  go_wp2_with fail
  refine (eqN_true _ _ HRy.out HRd.out (by omega) (by omega) (by omega)).mono ?_
  rintro e w16 ⟨rfl, hb16⟩
  have z16 := hb16.size
  clear Ac0 Az
  clear Fwc0 Fwc1 Fwc2 Fwz
  clear Xxc0 Xxz
  clear Fgc0 Fgc1 Fgc2 Fgz
  have JK : Hid (Below w.heap.size w w16) := HK.out.trans (hb16.mono (by omega))
  have JA : Hid (Bo1 w.heap.size w16 (.slice s0 l0.length c0)) := HA.out.keep (Keep.of_below hb16 (by omega))
  have JIw : Hid (IntsR w16 w4.heap.size w5.heap.size sw ll) := HIw.out.keep (Keep.of_below hb16 (by omega))
  have JFw : Hid (Bo3 w5.heap.size w16 (.int .i64 cap) (.slice sw ll.length cw) (.bool cl)) := HFw.out.keep (Keep.of_below hb16 (by omega))
  have JRx : Hid (MemR w16 V6.heap.size w7.heap.size (some ⟨xx, 0, none⟩) l0) := HRx.out.keep (Keep.of_below hb16 (by omega))
  have JOx : Hid (MO w16 V6.heap.size w7.heap.size (some ⟨xx, 0, none⟩) Sx l0) := HOx.out.keep (Keep.of_below hb16 (by omega))
  have JXx : Hid (Bo1 w7.heap.size w16 (.slice (some ⟨xx, 0, none⟩) l0.length l0.length)) := HXx.out.keep (Keep.of_below hb16 (by omega))
  have JRy : Hid (IntsR w16 V8.heap.size w9.heap.size (some ⟨xy, 0, none⟩) l1) := HRy.out.keep (Keep.of_below hb16 (by omega))
  have JOy : Hid (NB w16 V8.heap.size w9.heap.size (.slice (some ⟨xy, 0, none⟩) l1.length l1.length) l1) := HOy.out.keep (Keep.of_below hb16 (by omega))
  have JIg : Hid (IntsR w16 w9.heap.size w10.heap.size sg ll) := HIg.out.keep (Keep.of_below hb16 (by omega))
  have JGg : Hid (NB w16 w9.heap.size w10.heap.size (.slice sg ll.length cg) ll) := HGg.out.keep (Keep.of_below hb16 (by omega))
  have JFg : Hid (Bo3 w10.heap.size w16 (.int .i64 cap) (.slice sg ll.length cg) (.bool cl)) := HFg.out.keep (Keep.of_below hb16 (by omega))
  have JRd : Hid (IntsR w16 w14.heap.size w15.heap.size (some ⟨xd, 0, none⟩) l1) := HRd.out.keep (Keep.of_below hb16 (by omega))
  clear HK
  have HK := JK
  clear JK
  clear HA
  have HA := JA
  clear JA
  clear HIw
  have HIw := JIw
  clear JIw
  clear HFw
  have HFw := JFw
  clear JFw
  clear HRx
  have HRx := JRx
  clear JRx
  clear HOx
  have HOx := JOx
  clear JOx
  clear HXx
  have HXx := JXx
  clear JXx
  clear HRy
  have HRy := JRy
  clear JRy
  clear HOy
  have HOy := JOy
  clear JOy
  clear HIg
  have HIg := JIg
  clear JIg
  clear HGg
  have HGg := JGg
  clear JGg
  clear HFg
  have HFg := JFg
  clear JFg
  clear HRd
  have HRd := JRd
  clear JRd
  clear hb16
  obtain ⟨Ac0⟩ := HA.out
  have Az : w.heap.size < w16.heap.size := by omega
  obtain ⟨Fwc0, Fwc1, Fwc2⟩ := HFw.out
  have Fwz : w5.heap.size < w16.heap.size := by omega
  obtain ⟨Xxc0⟩ := HXx.out
  have Xxz : w7.heap.size < w16.heap.size := by omega
  obtain ⟨Fgc0, Fgc1, Fgc2⟩ := HFg.out
  have Fgz : w10.heap.size < w16.heap.size := by omega
  go_wp2_with fail
  clear HRd
  refine (markMemory_exc _ Sx l0 _ V6.heap.size w7.heap.size 1 w16 HOx.out (by omega) F1.out (by omega) (by omega)).mono ?_
  rintro e w17 ⟨rfl, -, ex17⟩
  have z17 := ex17.size
  clear Ac0 Az
  clear Fwc0 Fwc1 Fwc2 Fwz
  clear Xxc0 Xxz
  clear Fgc0 Fgc1 Fgc2 Fgz
  have JK : Hid (Below w.heap.size w w17) := HK.out.trans (ex17.below (by omega) (by omega))
  have JA : Hid (Bo1 w.heap.size w17 (.slice s0 l0.length c0)) := HA.out.keep (Keep.of_exc ex17 (by omega) (by omega))
  have JIw : Hid (IntsR w17 w4.heap.size w5.heap.size sw ll) := HIw.out.keep (Keep.of_exc ex17 (by omega) (by omega))
  have JFw : Hid (Bo3 w5.heap.size w17 (.int .i64 cap) (.slice sw ll.length cw) (.bool cl)) := HFw.out.keep (Keep.of_exc ex17 (by omega) (by omega))
  have JXx : Hid (Bo1 w7.heap.size w17 (.slice (some ⟨xx, 0, none⟩) l0.length l0.length)) := HXx.out.keep (Keep.of_exc ex17 (by omega) (by omega))
  have JRy : Hid (IntsR w17 V8.heap.size w9.heap.size (some ⟨xy, 0, none⟩) l1) := HRy.out.keep (Keep.of_exc ex17 (by omega) (by omega))
  have JOy : Hid (NB w17 V8.heap.size w9.heap.size (.slice (some ⟨xy, 0, none⟩) l1.length l1.length) l1) := HOy.out.keep (Keep.of_exc ex17 (by omega) (by omega))
  have JIg : Hid (IntsR w17 w9.heap.size w10.heap.size sg ll) := HIg.out.keep (Keep.of_exc ex17 (by omega) (by omega))
  have JGg : Hid (NB w17 w9.heap.size w10.heap.size (.slice sg ll.length cg) ll) := HGg.out.keep (Keep.of_exc ex17 (by omega) (by omega))
  have JFg : Hid (Bo3 w10.heap.size w17 (.int .i64 cap) (.slice sg ll.length cg) (.bool cl)) := HFg.out.keep (Keep.of_exc ex17 (by omega) (by omega))
  clear HK
  have HK := JK
  clear JK
  clear HA
  have HA := JA
  clear JA
  clear HIw
  have HIw := JIw
  clear JIw
  clear HFw
  have HFw := JFw
  clear JFw
  clear HRx
  clear HOx
  clear HXx
  have HXx := JXx
  clear JXx
  clear HRy
  have HRy := JRy
  clear JRy
  clear HOy
  have HOy := JOy
  clear JOy
  clear HIg
  have HIg := JIg
  clear JIg
  clear HGg
  have HGg := JGg
  clear JGg
  clear HFg
  have HFg := JFg
  clear JFg
  clear ex17
  obtain ⟨Ac0⟩ := HA.out
  have Az : w.heap.size < w17.heap.size := by omega
  obtain ⟨Fwc0, Fwc1, Fwc2⟩ := HFw.out
  have Fwz : w5.heap.size < w17.heap.size := by omega
  obtain ⟨Xxc0⟩ := HXx.out
  have Xxz : w7.heap.size < w17.heap.size := by omega
  obtain ⟨Fgc0, Fgc1, Fgc2⟩ := HFg.out
  have Fgz : w10.heap.size < w17.heap.size := by omega
  go_wp2_with fail
  refine (markN_exc (1 + (szR l0 : Int)) HOy.out (by omega) (by omega) (by have := F1.out; omega)).mono ?_
  rintro e w18 ⟨rfl, -, ex18⟩
  have z18 := ex18.size
  clear Ac0 Az
  clear Fwc0 Fwc1 Fwc2 Fwz
  clear Xxc0 Xxz
  clear Fgc0 Fgc1 Fgc2 Fgz
  have JK : Hid (Below w.heap.size w w18) := HK.out.trans (ex18.below (by omega) (by omega))
  have JA : Hid (Bo1 w.heap.size w18 (.slice s0 l0.length c0)) := HA.out.keep (Keep.of_exc ex18 (by omega) (by omega))
  have JIw : Hid (IntsR w18 w4.heap.size w5.heap.size sw ll) := HIw.out.keep (Keep.of_exc ex18 (by omega) (by omega))
  have JFw : Hid (Bo3 w5.heap.size w18 (.int .i64 cap) (.slice sw ll.length cw) (.bool cl)) := HFw.out.keep (Keep.of_exc ex18 (by omega) (by omega))
  have JXx : Hid (Bo1 w7.heap.size w18 (.slice (some ⟨xx, 0, none⟩) l0.length l0.length)) := HXx.out.keep (Keep.of_exc ex18 (by omega) (by omega))
  have JIg : Hid (IntsR w18 w9.heap.size w10.heap.size sg ll) := HIg.out.keep (Keep.of_exc ex18 (by omega) (by omega))
  have JGg : Hid (NB w18 w9.heap.size w10.heap.size (.slice sg ll.length cg) ll) := HGg.out.keep (Keep.of_exc ex18 (by omega) (by omega))
  have JFg : Hid (Bo3 w10.heap.size w18 (.int .i64 cap) (.slice sg ll.length cg) (.bool cl)) := HFg.out.keep (Keep.of_exc ex18 (by omega) (by omega))
  clear HK
  have HK := JK
  clear JK
  clear HA
  have HA := JA
  clear JA
  clear HIw
  have HIw := JIw
  clear JIw
  clear HFw
  have HFw := JFw
  clear JFw
  clear HXx
  have HXx := JXx
  clear JXx
  clear HRy
  clear HOy
  clear HIg
  have HIg := JIg
  clear JIg
  clear HGg
  have HGg := JGg
  clear JGg
  clear HFg
  have HFg := JFg
  clear JFg
  clear ex18
  obtain ⟨Ac0⟩ := HA.out
  have Az : w.heap.size < w18.heap.size := by omega
  obtain ⟨Fwc0, Fwc1, Fwc2⟩ := HFw.out
  have Fwz : w5.heap.size < w18.heap.size := by omega
  obtain ⟨Xxc0⟩ := HXx.out
  have Xxz : w7.heap.size < w18.heap.size := by omega
  obtain ⟨Fgc0, Fgc1, Fgc2⟩ := HFg.out
  have Fgz : w10.heap.size < w18.heap.size := by omega
  have hmk : ¬ (1 : Int) + (szR l0 : Int) + (l1.length : Int) < 0 := by omega
  go_wp2_with fail
  refine (eqChanN cap cl cg cw HIg.out HIw.out (by omega) (by omega) (by omega)).mono ?_
  rintro e w19 ⟨rfl, hb19⟩
  have z19 := hb19.size
  clear Ac0 Az
  clear Fwc0 Fwc1 Fwc2 Fwz
  clear Xxc0 Xxz
  clear Fgc0 Fgc1 Fgc2 Fgz
  have JK : Hid (Below w.heap.size w w19) := HK.out.trans (hb19.mono (by omega))
  have JA : Hid (Bo1 w.heap.size w19 (.slice s0 l0.length c0)) := HA.out.keep (Keep.of_below hb19 (by omega))
  have JIw : Hid (IntsR w19 w4.heap.size w5.heap.size sw ll) := HIw.out.keep (Keep.of_below hb19 (by omega))
  have JFw : Hid (Bo3 w5.heap.size w19 (.int .i64 cap) (.slice sw ll.length cw) (.bool cl)) := HFw.out.keep (Keep.of_below hb19 (by omega))
  have JXx : Hid (Bo1 w7.heap.size w19 (.slice (some ⟨xx, 0, none⟩) l0.length l0.length)) := HXx.out.keep (Keep.of_below hb19 (by omega))
  have JIg : Hid (IntsR w19 w9.heap.size w10.heap.size sg ll) := HIg.out.keep (Keep.of_below hb19 (by omega))
  have JGg : Hid (NB w19 w9.heap.size w10.heap.size (.slice sg ll.length cg) ll) := HGg.out.keep (Keep.of_below hb19 (by omega))
  have JFg : Hid (Bo3 w10.heap.size w19 (.int .i64 cap) (.slice sg ll.length cg) (.bool cl)) := HFg.out.keep (Keep.of_below hb19 (by omega))
  clear HK
  have HK := JK
  clear JK
  clear HA
  have HA := JA
  clear JA
  clear HIw
  have HIw := JIw
  clear JIw
  clear HFw
  have HFw := JFw
  clear JFw
  clear HXx
  have HXx := JXx
  clear JXx
  clear HIg
  have HIg := JIg
  clear JIg
  clear HGg
  have HGg := JGg
  clear JGg
  clear HFg
  have HFg := JFg
  clear JFg
  clear hb19
  obtain ⟨Ac0⟩ := HA.out
  have Az : w.heap.size < w19.heap.size := by omega
  obtain ⟨Fwc0, Fwc1, Fwc2⟩ := HFw.out
  have Fwz : w5.heap.size < w19.heap.size := by omega
  obtain ⟨Xxc0⟩ := HXx.out
  have Xxz : w7.heap.size < w19.heap.size := by omega
  obtain ⟨Fgc0, Fgc1, Fgc2⟩ := HFg.out
  have Fgz : w10.heap.size < w19.heap.size := by omega
  go_wp2_with fail
  refine (markChanN cap cl 1 HGg.out (by omega) (by omega) (by omega) (by omega)).mono ?_
  rintro e w20 ⟨rfl, hm20, ex20⟩
  have z20 := ex20.size
  clear Ac0 Az
  clear Fwc0 Fwc1 Fwc2 Fwz
  clear Xxc0 Xxz
  clear Fgc0 Fgc1 Fgc2 Fgz
  have JK : Hid (Below w.heap.size w w20) := HK.out.trans (ex20.below (by omega) (by omega))
  have JA : Hid (Bo1 w.heap.size w20 (.slice s0 l0.length c0)) := HA.out.keep (Keep.of_exc ex20 (by omega) (by omega))
  have JIw : Hid (IntsR w20 w4.heap.size w5.heap.size sw ll) := HIw.out.keep (Keep.of_exc ex20 (by omega) (by omega))
  have JFw : Hid (Bo3 w5.heap.size w20 (.int .i64 cap) (.slice sw ll.length cw) (.bool cl)) := HFw.out.keep (Keep.of_exc ex20 (by omega) (by omega))
  have JXx : Hid (Bo1 w7.heap.size w20 (.slice (some ⟨xx, 0, none⟩) l0.length l0.length)) := HXx.out.keep (Keep.of_exc ex20 (by omega) (by omega))
  have JFg : Hid (Bo3 w10.heap.size w20 (.int .i64 cap) (.slice sg ll.length cg) (.bool cl)) := HFg.out.keep (Keep.of_exc ex20 (by omega) (by omega))
  clear HK
  have HK := JK
  clear JK
  clear HA
  have HA := JA
  clear JA
  clear HIw
  have HIw := JIw
  clear JIw
  clear HFw
  have HFw := JFw
  clear JFw
  clear HXx
  have HXx := JXx
  clear JXx
  clear HIg
  clear HGg
  clear HFg
  have HFg := JFg
  clear JFg
  have HD : Hid (NB w20 w9.heap.size w10.heap.size (.slice sg ll.length cg) (relN 1 ll.length)) := hm20
  clear ex20 hm20
  obtain ⟨Ac0⟩ := HA.out
  have Az : w.heap.size < w20.heap.size := by omega
  obtain ⟨Fwc0, Fwc1, Fwc2⟩ := HFw.out
  have Fwz : w5.heap.size < w20.heap.size := by omega
  obtain ⟨Xxc0⟩ := HXx.out
  have Xxz : w7.heap.size < w20.heap.size := by omega
  obtain ⟨Fgc0, Fgc1, Fgc2⟩ := HFg.out
  have Fgz : w10.heap.size < w20.heap.size := by omega
  go_wp2_with fail
  refine (heldChanN cap cl 1 HD.out (by omega) (by omega) (by omega)).mono ?_
  rintro e w21 ⟨rfl, hb21⟩
  have z21 := hb21.size
  clear Ac0 Az
  clear Fwc0 Fwc1 Fwc2 Fwz
  clear Xxc0 Xxz
  clear Fgc0 Fgc1 Fgc2 Fgz
  have JK : Hid (Below w.heap.size w w21) := HK.out.trans (hb21.mono (by omega))
  have JA : Hid (Bo1 w.heap.size w21 (.slice s0 l0.length c0)) := HA.out.keep (Keep.of_below hb21 (by omega))
  have JIw : Hid (IntsR w21 w4.heap.size w5.heap.size sw ll) := HIw.out.keep (Keep.of_below hb21 (by omega))
  have JFw : Hid (Bo3 w5.heap.size w21 (.int .i64 cap) (.slice sw ll.length cw) (.bool cl)) := HFw.out.keep (Keep.of_below hb21 (by omega))
  have JXx : Hid (Bo1 w7.heap.size w21 (.slice (some ⟨xx, 0, none⟩) l0.length l0.length)) := HXx.out.keep (Keep.of_below hb21 (by omega))
  have JFg : Hid (Bo3 w10.heap.size w21 (.int .i64 cap) (.slice sg ll.length cg) (.bool cl)) := HFg.out.keep (Keep.of_below hb21 (by omega))
  have JD : Hid (NB w21 w9.heap.size w10.heap.size (.slice sg ll.length cg) (relN 1 ll.length)) := HD.out.keep (Keep.of_below hb21 (by omega))
  clear HK
  have HK := JK
  clear JK
  clear HA
  have HA := JA
  clear JA
  clear HIw
  have HIw := JIw
  clear JIw
  clear HFw
  have HFw := JFw
  clear JFw
  clear HXx
  have HXx := JXx
  clear JXx
  clear HFg
  have HFg := JFg
  clear JFg
  clear HD
  have HD := JD
  clear JD
  clear hb21
  obtain ⟨Ac0⟩ := HA.out
  have Az : w.heap.size < w21.heap.size := by omega
  obtain ⟨Fwc0, Fwc1, Fwc2⟩ := HFw.out
  have Fwz : w5.heap.size < w21.heap.size := by omega
  obtain ⟨Xxc0⟩ := HXx.out
  have Xxz : w7.heap.size < w21.heap.size := by omega
  obtain ⟨Fgc0, Fgc1, Fgc2⟩ := HFg.out
  have Fgz : w10.heap.size < w21.heap.size := by omega
  go_wp2_with fail
  refine (toMemory_own s0 c0 0 w.heap.size l0 w21 (HA0.out.keep (Keep.of_below HK.out (Nat.le_refl _))) (by omega) FM0.out).mono ?_
  rintro e w22 ⟨xe, Se, rfl, ho22, hb22, z22⟩
  clear Ac0 Az
  clear Fwc0 Fwc1 Fwc2 Fwz
  clear Xxc0 Xxz
  clear Fgc0 Fgc1 Fgc2 Fgz
  have JK : Hid (Below w.heap.size w w22) := HK.out.trans (hb22.mono (by omega))
  have JA : Hid (Bo1 w.heap.size w22 (.slice s0 l0.length c0)) := HA.out.keep (Keep.of_below hb22 (by omega))
  have JIw : Hid (IntsR w22 w4.heap.size w5.heap.size sw ll) := HIw.out.keep (Keep.of_below hb22 (by omega))
  have JFw : Hid (Bo3 w5.heap.size w22 (.int .i64 cap) (.slice sw ll.length cw) (.bool cl)) := HFw.out.keep (Keep.of_below hb22 (by omega))
  have JXx : Hid (Bo1 w7.heap.size w22 (.slice (some ⟨xx, 0, none⟩) l0.length l0.length)) := HXx.out.keep (Keep.of_below hb22 (by omega))
  have JFg : Hid (Bo3 w10.heap.size w22 (.int .i64 cap) (.slice sg ll.length cg) (.bool cl)) := HFg.out.keep (Keep.of_below hb22 (by omega))
  have JD : Hid (NB w22 w9.heap.size w10.heap.size (.slice sg ll.length cg) (relN 1 ll.length)) := HD.out.keep (Keep.of_below hb22 (by omega))
  clear HK
  have HK := JK
  clear JK
  clear HA
  have HA := JA
  clear JA
  clear HIw
  have HIw := JIw
  clear JIw
  clear HFw
  have HFw := JFw
  clear JFw
  clear HXx
  have HXx := JXx
  clear JXx
  clear HFg
  have HFg := JFg
  clear JFg
  clear HD
  have HD := JD
  clear JD
  have HRe : Hid (MemR w22 w21.heap.size w22.heap.size (some ⟨xe, 0, none⟩) l0) := ho22.mem
  clear hb22 ho22
  obtain ⟨Ac0⟩ := HA.out
  have Az : w.heap.size < w22.heap.size := by omega
  obtain ⟨Fwc0, Fwc1, Fwc2⟩ := HFw.out
  have Fwz : w5.heap.size < w22.heap.size := by omega
  obtain ⟨Xxc0⟩ := HXx.out
  have Xxz : w7.heap.size < w22.heap.size := by omega
  obtain ⟨Fgc0, Fgc1, Fgc2⟩ := HFg.out
  have Fgz : w10.heap.size < w22.heap.size := by omega
  go_wp2_with fail
  clear Ac0 Az
  clear Fwc0 Fwc1 Fwc2 Fwz
  clear Xxc0 Xxz
  clear Fgc0 Fgc1 Fgc2 Fgz
  refine (toIntS_ex s1 c1 0 w.heap.size l1 w22 (HA1.out.keep (Keep.of_below HK.out (Nat.le_refl _))) (by omega) n1).mono ?_
  rintro e w23 ⟨xf, rfl, ho23, hb23, z23⟩
  have zz23 := hb23.size
  have JK : Hid (Below w.heap.size w w23) := HK.out.trans (hb23.mono (by omega))
  have JA : Hid (Bo1 w.heap.size w23 (.slice s0 l0.length c0)) := HA.out.keep (Keep.of_below hb23 (by omega))
  have JIw : Hid (IntsR w23 w4.heap.size w5.heap.size sw ll) := HIw.out.keep (Keep.of_below hb23 (by omega))
  have JFw : Hid (Bo3 w5.heap.size w23 (.int .i64 cap) (.slice sw ll.length cw) (.bool cl)) := HFw.out.keep (Keep.of_below hb23 (by omega))
  have JXx : Hid (Bo1 w7.heap.size w23 (.slice (some ⟨xx, 0, none⟩) l0.length l0.length)) := HXx.out.keep (Keep.of_below hb23 (by omega))
  have JFg : Hid (Bo3 w10.heap.size w23 (.int .i64 cap) (.slice sg ll.length cg) (.bool cl)) := HFg.out.keep (Keep.of_below hb23 (by omega))
  have JD : Hid (NB w23 w9.heap.size w10.heap.size (.slice sg ll.length cg) (relN 1 ll.length)) := HD.out.keep (Keep.of_below hb23 (by omega))
  have JRe : Hid (MemR w23 w21.heap.size w22.heap.size (some ⟨xe, 0, none⟩) l0) := HRe.out.keep (Keep.of_below hb23 (by omega))
  clear HK
  have HK := JK
  clear JK
  clear HA
  have HA := JA
  clear JA
  clear HIw
  have HIw := JIw
  clear JIw
  clear HFw
  have HFw := JFw
  clear JFw
  clear HXx
  have HXx := JXx
  clear JXx
  clear HFg
  have HFg := JFg
  clear JFg
  clear HD
  have HD := JD
  clear JD
  clear HRe
  have HRe := JRe
  clear JRe
  have HRf : Hid (IntsR w23 w22.heap.size w23.heap.size (some ⟨xf, 0, none⟩) l1) := ownN_intsR ho23
  clear hb23 ho23
  obtain ⟨Ac0⟩ := HA.out
  have Az : w.heap.size < w23.heap.size := by omega
  obtain ⟨Fwc0, Fwc1, Fwc2⟩ := HFw.out
  have Fwz : w5.heap.size < w23.heap.size := by omega
  obtain ⟨Xxc0⟩ := HXx.out
  have Xxz : w7.heap.size < w23.heap.size := by omega
  obtain ⟨Fgc0, Fgc1, Fgc2⟩ := HFg.out
  have Fgz : w10.heap.size < w23.heap.size := by omega
  go_wp2_with fail
  refine (implChanC _ _ _ _ _ _ _ _ l0 l1 l2 w23 cap ll cl ok HRe.out HRf.out (by omega) (by omega) (by omega) (by have := F1.out; omega) HCH.out).mono ?_
  rintro e w24 ⟨sh, ch, rfl, hi24, hn24, hb24⟩
  have z24 := hb24.size
  clear Ac0 Az
  clear Fwc0 Fwc1 Fwc2 Fwz
  clear Xxc0 Xxz
  clear Fgc0 Fgc1 Fgc2 Fgz
  have JK : Hid (Below w.heap.size w w24) := HK.out.trans (hb24.mono (by omega))
  have JA : Hid (Bo1 w.heap.size w24 (.slice s0 l0.length c0)) := HA.out.keep (Keep.of_below hb24 (by omega))
  have JIw : Hid (IntsR w24 w4.heap.size w5.heap.size sw ll) := HIw.out.keep (Keep.of_below hb24 (by omega))
  have JFw : Hid (Bo3 w5.heap.size w24 (.int .i64 cap) (.slice sw ll.length cw) (.bool cl)) := HFw.out.keep (Keep.of_below hb24 (by omega))
  have JXx : Hid (Bo1 w7.heap.size w24 (.slice (some ⟨xx, 0, none⟩) l0.length l0.length)) := HXx.out.keep (Keep.of_below hb24 (by omega))
  have JFg : Hid (Bo3 w10.heap.size w24 (.int .i64 cap) (.slice sg ll.length cg) (.bool cl)) := HFg.out.keep (Keep.of_below hb24 (by omega))
  have JD : Hid (NB w24 w9.heap.size w10.heap.size (.slice sg ll.length cg) (relN 1 ll.length)) := HD.out.keep (Keep.of_below hb24 (by omega))
  have JRe : Hid (MemR w24 w21.heap.size w22.heap.size (some ⟨xe, 0, none⟩) l0) := HRe.out.keep (Keep.of_below hb24 (by omega))
  have JRf : Hid (IntsR w24 w22.heap.size w23.heap.size (some ⟨xf, 0, none⟩) l1) := HRf.out.keep (Keep.of_below hb24 (by omega))
  clear HK
  have HK := JK
  clear JK
  clear HA
  have HA := JA
  clear JA
  clear HIw
  have HIw := JIw
  clear JIw
  clear HFw
  have HFw := JFw
  clear JFw
  clear HXx
  have HXx := JXx
  clear JXx
  clear HFg
  have HFg := JFg
  clear JFg
  clear HD
  have HD := JD
  clear JD
  clear HRe
  have HRe := JRe
  clear JRe
  clear HRf
  have HRf := JRf
  clear JRf
  have HIh : Hid (IntsR w24 w23.heap.size w24.heap.size sh ll) := hi24
  clear hb24 hi24 hn24
  obtain ⟨Ac0⟩ := HA.out
  have Az : w.heap.size < w24.heap.size := by omega
  obtain ⟨Fwc0, Fwc1, Fwc2⟩ := HFw.out
  have Fwz : w5.heap.size < w24.heap.size := by omega
  obtain ⟨Xxc0⟩ := HXx.out
  have Xxz : w7.heap.size < w24.heap.size := by omega
  obtain ⟨Fgc0, Fgc1, Fgc2⟩ := HFg.out
  have Fgz : w10.heap.size < w24.heap.size := by omega
  go_wp2_with fail
  obtain ⟨V25, hV25, bx25, kb25, zb25⟩ := Bo3.new w24 (.int .i64 cap) (.slice sh ll.length ch) (.bool cl) 32
  rw [hV25]
  clear hV25
  clear Ac0 Az
  clear Fwc0 Fwc1 Fwc2 Fwz
  clear Xxc0 Xxz
  clear Fgc0 Fgc1 Fgc2 Fgz
  have JK : Hid (Below w.heap.size w V25) := HK.out.trans (kb25.mono (by omega))
  have JA : Hid (Bo1 w.heap.size V25 (.slice s0 l0.length c0)) := HA.out.keep (Keep.of_below kb25 (by omega))
  have JIw : Hid (IntsR V25 w4.heap.size w5.heap.size sw ll) := HIw.out.keep (Keep.of_below kb25 (by omega))
  have JFw : Hid (Bo3 w5.heap.size V25 (.int .i64 cap) (.slice sw ll.length cw) (.bool cl)) := HFw.out.keep (Keep.of_below kb25 (by omega))
  have JXx : Hid (Bo1 w7.heap.size V25 (.slice (some ⟨xx, 0, none⟩) l0.length l0.length)) := HXx.out.keep (Keep.of_below kb25 (by omega))
  have JFg : Hid (Bo3 w10.heap.size V25 (.int .i64 cap) (.slice sg ll.length cg) (.bool cl)) := HFg.out.keep (Keep.of_below kb25 (by omega))
  have JD : Hid (NB V25 w9.heap.size w10.heap.size (.slice sg ll.length cg) (relN 1 ll.length)) := HD.out.keep (Keep.of_below kb25 (by omega))
  have JRe : Hid (MemR V25 w21.heap.size w22.heap.size (some ⟨xe, 0, none⟩) l0) := HRe.out.keep (Keep.of_below kb25 (by omega))
  have JRf : Hid (IntsR V25 w22.heap.size w23.heap.size (some ⟨xf, 0, none⟩) l1) := HRf.out.keep (Keep.of_below kb25 (by omega))
  have JIh : Hid (IntsR V25 w23.heap.size w24.heap.size sh ll) := HIh.out.keep (Keep.of_below kb25 (by omega))
  clear HK
  have HK := JK
  clear JK
  clear HA
  have HA := JA
  clear JA
  clear HIw
  have HIw := JIw
  clear JIw
  clear HFw
  have HFw := JFw
  clear JFw
  clear HXx
  have HXx := JXx
  clear JXx
  clear HFg
  have HFg := JFg
  clear JFg
  clear HD
  have HD := JD
  clear JD
  clear HRe
  have HRe := JRe
  clear JRe
  clear HRf
  have HRf := JRf
  clear JRf
  clear HIh
  have HIh := JIh
  clear JIh
  have HFh : Hid (Bo3 w24.heap.size V25 (.int .i64 cap) (.slice sh ll.length ch) (.bool cl)) := bx25
  clear bx25 kb25
  obtain ⟨Ac0⟩ := HA.out
  have Az : w.heap.size < V25.heap.size := by omega
  obtain ⟨Fwc0, Fwc1, Fwc2⟩ := HFw.out
  have Fwz : w5.heap.size < V25.heap.size := by omega
  obtain ⟨Xxc0⟩ := HXx.out
  have Xxz : w7.heap.size < V25.heap.size := by omega
  obtain ⟨Fgc0, Fgc1, Fgc2⟩ := HFg.out
  have Fgz : w10.heap.size < V25.heap.size := by omega
  obtain ⟨Fhc0, Fhc1, Fhc2⟩ := HFh.out
  have Fhz : w24.heap.size < V25.heap.size := by omega
  refine (eqChanN cap cl ch cw HIh.out HIw.out (by omega) (by omega) (by omega)).mono ?_
  rintro e w26 ⟨rfl, hb26⟩
  have z26 := hb26.size
  clear Ac0 Az
  clear Fwc0 Fwc1 Fwc2 Fwz
  clear Xxc0 Xxz
  clear Fgc0 Fgc1 Fgc2 Fgz
  clear Fhc0 Fhc1 Fhc2 Fhz
  have JK : Hid (Below w.heap.size w w26) := HK.out.trans (hb26.mono (by omega))
  have JA : Hid (Bo1 w.heap.size w26 (.slice s0 l0.length c0)) := HA.out.keep (Keep.of_below hb26 (by omega))
  have JIw : Hid (IntsR w26 w4.heap.size w5.heap.size sw ll) := HIw.out.keep (Keep.of_below hb26 (by omega))
  have JFw : Hid (Bo3 w5.heap.size w26 (.int .i64 cap) (.slice sw ll.length cw) (.bool cl)) := HFw.out.keep (Keep.of_below hb26 (by omega))
  have JXx : Hid (Bo1 w7.heap.size w26 (.slice (some ⟨xx, 0, none⟩) l0.length l0.length)) := HXx.out.keep (Keep.of_below hb26 (by omega))
  have JFg : Hid (Bo3 w10.heap.size w26 (.int .i64 cap) (.slice sg ll.length cg) (.bool cl)) := HFg.out.keep (Keep.of_below hb26 (by omega))
  have JD : Hid (NB w26 w9.heap.size w10.heap.size (.slice sg ll.length cg) (relN 1 ll.length)) := HD.out.keep (Keep.of_below hb26 (by omega))
  have JRe : Hid (MemR w26 w21.heap.size w22.heap.size (some ⟨xe, 0, none⟩) l0) := HRe.out.keep (Keep.of_below hb26 (by omega))
  have JRf : Hid (IntsR w26 w22.heap.size w23.heap.size (some ⟨xf, 0, none⟩) l1) := HRf.out.keep (Keep.of_below hb26 (by omega))
  have JIh : Hid (IntsR w26 w23.heap.size w24.heap.size sh ll) := HIh.out.keep (Keep.of_below hb26 (by omega))
  have JFh : Hid (Bo3 w24.heap.size w26 (.int .i64 cap) (.slice sh ll.length ch) (.bool cl)) := HFh.out.keep (Keep.of_below hb26 (by omega))
  clear HK
  have HK := JK
  clear JK
  clear HA
  have HA := JA
  clear JA
  clear HIw
  have HIw := JIw
  clear JIw
  clear HFw
  have HFw := JFw
  clear JFw
  clear HXx
  have HXx := JXx
  clear JXx
  clear HFg
  have HFg := JFg
  clear JFg
  clear HD
  have HD := JD
  clear JD
  clear HRe
  have HRe := JRe
  clear JRe
  clear HRf
  have HRf := JRf
  clear JRf
  clear HIh
  have HIh := JIh
  clear JIh
  clear HFh
  have HFh := JFh
  clear JFh
  clear hb26
  obtain ⟨Ac0⟩ := HA.out
  have Az : w.heap.size < w26.heap.size := by omega
  obtain ⟨Fwc0, Fwc1, Fwc2⟩ := HFw.out
  have Fwz : w5.heap.size < w26.heap.size := by omega
  obtain ⟨Xxc0⟩ := HXx.out
  have Xxz : w7.heap.size < w26.heap.size := by omega
  obtain ⟨Fgc0, Fgc1, Fgc2⟩ := HFg.out
  have Fgz : w10.heap.size < w26.heap.size := by omega
  obtain ⟨Fhc0, Fhc1, Fhc2⟩ := HFh.out
  have Fhz : w24.heap.size < w26.heap.size := by omega
  go_wp2_with fail
  refine (heldChanN cap cl 1 HD.out (by omega) (by omega) (by omega)).mono ?_
  rintro e w27 ⟨rfl, hb27⟩
  have z27 := hb27.size
  clear Ac0 Az
  clear Fwc0 Fwc1 Fwc2 Fwz
  clear Xxc0 Xxz
  clear Fgc0 Fgc1 Fgc2 Fgz
  clear Fhc0 Fhc1 Fhc2 Fhz
  have JK : Hid (Below w.heap.size w w27) := HK.out.trans (hb27.mono (by omega))
  have JA : Hid (Bo1 w.heap.size w27 (.slice s0 l0.length c0)) := HA.out.keep (Keep.of_below hb27 (by omega))
  have JIw : Hid (IntsR w27 w4.heap.size w5.heap.size sw ll) := HIw.out.keep (Keep.of_below hb27 (by omega))
  have JFw : Hid (Bo3 w5.heap.size w27 (.int .i64 cap) (.slice sw ll.length cw) (.bool cl)) := HFw.out.keep (Keep.of_below hb27 (by omega))
  have JXx : Hid (Bo1 w7.heap.size w27 (.slice (some ⟨xx, 0, none⟩) l0.length l0.length)) := HXx.out.keep (Keep.of_below hb27 (by omega))
  have JFg : Hid (Bo3 w10.heap.size w27 (.int .i64 cap) (.slice sg ll.length cg) (.bool cl)) := HFg.out.keep (Keep.of_below hb27 (by omega))
  have JD : Hid (NB w27 w9.heap.size w10.heap.size (.slice sg ll.length cg) (relN 1 ll.length)) := HD.out.keep (Keep.of_below hb27 (by omega))
  have JRe : Hid (MemR w27 w21.heap.size w22.heap.size (some ⟨xe, 0, none⟩) l0) := HRe.out.keep (Keep.of_below hb27 (by omega))
  have JRf : Hid (IntsR w27 w22.heap.size w23.heap.size (some ⟨xf, 0, none⟩) l1) := HRf.out.keep (Keep.of_below hb27 (by omega))
  have JIh : Hid (IntsR w27 w23.heap.size w24.heap.size sh ll) := HIh.out.keep (Keep.of_below hb27 (by omega))
  have JFh : Hid (Bo3 w24.heap.size w27 (.int .i64 cap) (.slice sh ll.length ch) (.bool cl)) := HFh.out.keep (Keep.of_below hb27 (by omega))
  clear HK
  have HK := JK
  clear JK
  clear HA
  have HA := JA
  clear JA
  clear HIw
  have HIw := JIw
  clear JIw
  clear HFw
  have HFw := JFw
  clear JFw
  clear HXx
  have HXx := JXx
  clear JXx
  clear HFg
  have HFg := JFg
  clear JFg
  clear HD
  have HD := JD
  clear JD
  clear HRe
  have HRe := JRe
  clear JRe
  clear HRf
  have HRf := JRf
  clear JRf
  clear HIh
  have HIh := JIh
  clear JIh
  clear HFh
  have HFh := JFh
  clear JFh
  clear hb27
  obtain ⟨Ac0⟩ := HA.out
  have Az : w.heap.size < w27.heap.size := by omega
  obtain ⟨Fwc0, Fwc1, Fwc2⟩ := HFw.out
  have Fwz : w5.heap.size < w27.heap.size := by omega
  obtain ⟨Xxc0⟩ := HXx.out
  have Xxz : w7.heap.size < w27.heap.size := by omega
  obtain ⟨Fgc0, Fgc1, Fgc2⟩ := HFg.out
  have Fgz : w10.heap.size < w27.heap.size := by omega
  obtain ⟨Fhc0, Fhc1, Fhc2⟩ := HFh.out
  have Fhz : w24.heap.size < w27.heap.size := by omega
  go_wp2
  go_ret
  exact ⟨rfl, HK.out⟩

set_option maxRecDepth 100000 in
theorem liftedExactChanIn (os : Os) (started : os.Started) (H : Type) (enc : TypeId × Value → H) :
    ReturnsInHanded {} Try.checked os 4 .any (Rows.fnExactChanInSpec.pre6 enc Try.prog Try.f4 Rows.fnExactChanInRow.domain false) (Rows.fnExactChanInSpec.post enc Try.prog Try.f4 false true false false) := by
  refine returnsInHanded_of_change (C := Try.checked) ownP started (by kernel_rfl) Try.func4
    (ChangeSpec.witness6 (enc := enc) (C := Try.checked) false ⟨#[], #[.agg #[.slice none 0 0], .slice none 0 0, .int .i64 0], []⟩ 8 (by kernel_rfl) (by kernel_rfl) (by kernel_rfl) (by kernel_rfl)) ?_
  intro W base args ds gs before hval0 hW hcnd _
  have hval : ∀ (j : Nat) t v, Try.f4.params[j]? = some t → args[j]? = some v → Value.okWide Try.prog W .any base t v := hval0
  have hW' := hW
  obtain ⟨p, q, hA0, hV, rfl, hfz, hnd⟩ := hW
  have hA : DataW.TrodAll enc Try.prog W 0 (fun _ => true) true Try.f4.params.toList args.toList ds p := hA0
  rw [Try.params4] at hA hval
  obtain ⟨v0, v1, v2, d0, d1, d2, p0, p1, p2, hargs, rfl, rfl, h0, h1, h2⟩ := trodAll_three hA
  obtain rfl : args = #[v0, v1, v2] := by cases args; simp_all
  obtain ⟨rfl, rfl⟩ := trodVars_none hV
  have k0 := h0
  have lt0 : ∀ x ∈ p0, x.block < W.heap.size := by obtain ⟨m, hm⟩ := k0; exact DataW.trod_lt m _ _ _ hm
  have k1 := h1
  have lt1 : ∀ x ∈ p1, x.block < W.heap.size := by obtain ⟨m, hm⟩ := k1; exact DataW.trod_lt m _ _ _ hm
  have k2 := h2
  have lt2 : ∀ x ∈ p2, x.block < W.heap.size := by obtain ⟨m, hm⟩ := k2; exact DataW.trod_lt m _ _ _ hm
  obtain ⟨s0, c0, l0, rfl, m0, hR0⟩ := open_mem (hval 0 29 v0 rfl rfl) h0
  obtain ⟨s1, c1, l1, rfl, m1, hR1⟩ := open_intS (hval 1 22 v1 rfl rfl) h1
  obtain ⟨l2, rfl, -, -, hwf2⟩ := open_int Try.underlying3 (hval 2 3 v2 rfl rfl) h2
  clear hA0 hval0
  refine (walkExactChanIn s0 c0 l0 s1 c1 l1 l2 W hR0 m0 hR1 m1 hwf2).mono fun e W' ⟨he, bel⟩ => ?_
  subst he
  exact ⟨_, rfl, _, _, _, [], _, [], hW', trodAll_mk1 (shut_bool Try.underlying4 _), trodAll_mk3 (Below.trod laidOutP (by kernel_rfl) (of_decide_eq_true (by kernel_rfl)) k0 bel lt0) (Below.trod laidOutP (by kernel_rfl) (of_decide_eq_true (by kernel_rfl)) k1 bel lt1) (Below.trod laidOutP (by kernel_rfl) (of_decide_eq_true (by kernel_rfl)) k2 bel lt2), rfl, bel.frame _, fun h => by cases h⟩

theorem fnExactChanIn_holds : Rows.FnExactChanInSaid :=
  OpenClaim.holds_of_wide 4 Try.f4 rfl rfl rfl rfl rfl rfl rfl ⟨rfl, rfl, rfl, rfl, rfl⟩ rfl rfl rfl rfl rfl (by kernel_rfl) Try.func4 (by kernel_rfl)
    (of_decide_eq_true (by kernel_rfl)) (by unfold Func.isWrapper; first | (rw [if_pos (by decide +kernel)]; kernel_rfl) | (rw [if_neg (by decide +kernel)]; exact ⟨rfl, rfl⟩))
    (fun os started H enc _ => liftedExactChanIn os started H enc)
#print axioms fnExactChanIn_holds

end Go.Proofs.Ytpcmplckklmeoaa
