/- The law FnExactSwap of the given statements: at every argument Swap of the program answers as the specification's, writes into no argument, its answer owns its memory. No condition. -/
import Derived.Test.YtdggkpbnjcobfabMemFrame
import Derived.Test.YtdggkpbnjcobfabMemSz
import Derived.Test.YtdggkpbnjcobfabMemEq
import Derived.Test.YtdggkpbnjcobfabMemCopy
import Derived.Test.YtdggkpbnjcobfabMemPair
import Derived.Test.YtdggkpbnjcobfabMemSwI
import Derived.Test.YtdggkpbnjcobfabMemSwS
import Derived.Deep.RegionHeld3
namespace Go.Proofs.Ytdggkpbnjcobfab
set_option linter.unusedSimpArgs false
set_option linter.unusedVariables false
set_option maxRecDepth 100000
open Go.ChangeShapes Go.WideShapes Go.ChangeAt Go.RowKit Go.Deep

theorem wf_le {n : Int} (h : (Lit.int .i64 n).wf = true) : n ≤ 9223372036854775807 := by
  have hmax : IntKind.i64.max = 9223372036854775807 := rfl
  simp only [Lit.wf, Bool.and_eq_true, decide_eq_true_eq] at h
  omega
theorem szR_set : ∀ (m : List (List WD)) (k : Nat) (r : List WD) (y : WD), m[k]? = some r → szR (m.set k (r ++ [y])) = szR m + (1 + y.vw.length)
  | [], k, r, y, h => by simp at h
  | x :: t, 0, r, y, h => by
    simp at h
    subst h
    have : ∀ l : List WD, szV (l ++ [y]) = szV l + y.vw.length := fun l => by
      induction l with
      | nil => simp [szV]
      | cons a t ih => simp [szV, ih]; omega
    simp [szR, this]
    omega
  | x :: t, k + 1, r, y, h => by
    have := szR_set t k r y (by simpa using h)
    simp [szR, this]
    omega
theorem sw_sz (m : List (List WD)) (l : List Int) (cell z : Int) (h : m.length + szR m ≤ 1048576) : (swM m l cell z).length + szR (swM m l cell z) ≤ 1048676 := by
  by_cases hc : canB m l cell = true
  · have hr : rightB m l cell = true := by unfold canB at hc; rw [Bool.and_eq_true] at hc; exact hc.1
    obtain ⟨k, r, rfl, hrt⟩ := right_of hr
    have hn : r.length < 4000 := by unfold canB at hc; rw [Bool.and_eq_true, hrt.row, decide_eq_true_eq] at hc; exact hc.2
    obtain ⟨j, x, t1, t2, t3, t4, t5⟩ := hrt.at' 0
    rw [(sw_yes (v := z) hrt hr hn t1 t4).1, List.length_set, szR_set m k r _ hrt.hr]
    have : ((joinL (l.set k (j : Int)) x.vw).set k (r.length : Int)).length = 24 := by rw [List.length_set, join_len, List.length_set, hrt.hl, hrt.hw j x t3]; rfl
    simp only [this]
    omega
  · rw [(sw_no (by simpa using hc)).1]
    omega
theorem swW_len (m : List (List WD)) (l : List Int) (cell : Int) (h : l.length ≤ 1048577) : (swW m l cell).length ≤ 1048577 := by
  unfold swW
  split
  · rw [List.length_set]
    unfold swL loadW viewAt
    split
    · rw [if_pos rfl, join_len, List.length_set]; omega
    · exact h
  · exact h

set_option maxRecDepth 100000 in
set_option maxHeartbeats 8000000 in
theorem walkExactSwap (s0 : Option Addr) (c0 : Nat) (l0 : List (List WD)) (s1 : Option Addr) (c1 : Nat) (l1 : List Int) (l2 : Int) (l3 : Int) (w : World) (h0 : MemR w 0 w.heap.size s0 l0) (m0 : MLens l0) (h1 : IntsR w 0 w.heap.size s1 l1) (m1 : l1.length ≤ maxLen) (hw2 : (Lit.int .i64 l2).wf = true) (hw3 : (Lit.int .i64 l3).wf = true) :
    Calls Try.prog 3 #[.agg #[.slice s0 l0.length c0], .slice s1 l1.length c1, .int .i64 l2, .int .i64 l3] w fun e w' => e = .returned (.bool true) ∧ Below w.heap.size w w' := by
  have HA0 : Hid (MemR w 0 w.heap.size s0 l0) := h0
  have HM0 : Hid (MLens l0) := m0
  clear h0 m0
  have HA1 : Hid (IntsR w 0 w.heap.size s1 l1) := h1
  clear h1
  unfold maxLen at m1
  have hb2 := wf_le hw2
  clear hw2
  have hb3 := wf_le hw3
  clear hw3
  by_cases b1 : (l1.length : Int) > 1048576
  · go_enter Try.func3, Try.ntmps3
    go_wp2
    go_ret
    exact ⟨rfl, by first | exact Below.refl _ _ | exact (Below.refl _ _).alloc (Nat.le_refl _) _⟩
  have n1 : l1.length ≤ 1048576 := by omega
  go_enter Try.func3, Try.ntmps3
  go_wp2_with fail
  have HK : Hid (Below w.heap.size w w) := Below.refl _ _
  obtain ⟨V1, hV1, bx1, kb1, zb1⟩ := Bo1.new w (.slice s0 l0.length c0) 24
  rw [hV1]
  clear hV1
  have JK : Hid (Below w.heap.size w V1) := HK.out.trans (kb1.mono (by omega))
  clear HK
  have HK := JK
  clear JK
  have HA : Hid (Bo1 w.heap.size V1 (.slice s0 l0.length c0)) := bx1
  clear bx1 kb1
  refine (szMemory_any s0 c0 0 w.heap.size l0 V1 (HA0.out.keep (Keep.of_below HK.out (Nat.le_refl _))) (by omega) HM0.out).mono ?_
  rintro e w2 ⟨⟨u, rfl, hu⟩, hb2⟩
  have z2 := hb2.size
  have JK : Hid (Below w.heap.size w w2) := HK.out.trans (hb2.mono (by omega))
  have JA : Hid (Bo1 w.heap.size w2 (.slice s0 l0.length c0)) := HA.out.keep (Keep.of_below hb2 (by omega))
  clear HK
  have HK := JK
  clear JK
  clear HA
  have HA := JA
  clear JA
  clear hb2
  obtain ⟨Ac0⟩ := HA.out
  have Az : w.heap.size < w2.heap.size := by omega
  rcases hu with hu | ⟨hu, hf⟩
  · go_wp2
    go_ret
    exact ⟨rfl, HK.out⟩
  have hun : ¬ u < 0 := by omega
  have FM0 : Hid (MFits l0) := hf
  have F1 : Hid (l0.length + szR l0 ≤ 1048676) := by show l0.length + szR l0 ≤ 1048676; have := hf; unfold MFits at this; omega
  clear hf
  obtain ⟨ll, hll⟩ : ∃ ll, swW l0 l1 l2 = ll := ⟨_, rfl⟩
  obtain ⟨mm, hmm⟩ : ∃ mm, swM l0 l1 l2 l3 = mm := ⟨_, rfl⟩
  have hL : ll.length ≤ 1048577 := by rw [← hll]; exact swW_len _ _ _ (by omega)
  have F2 : Hid (mm.length + szR mm ≤ 1048676) := by show _ ≤ _; rw [← hmm]; exact sw_sz _ _ _ _ (by have := FM0.out; unfold MFits at this; omega)
  have HLL : Hid (swW l0 l1 l2 = ll) := hll
  have HMM : Hid (swM l0 l1 l2 l3 = mm) := hmm
  clear hll hmm
  obtain ⟨zz, hzz⟩ : ∃ z, swV l0 l1 l2 = z := ⟨_, rfl⟩
  have HZV : Hid (swV l0 l1 l2 = zz) := hzz
  clear hzz
  have hzn : (zz != zz) = false := by simp
  have hq1 : ((1 : Int) + (szR mm : Int) + (ll.length : Int) != 1 + (szR mm : Int) + (ll.length : Int)) = false := by simp
  have hq2 : ¬ ((1 : Int) + (szR mm : Int) + (ll.length : Int) < 0) := by omega
  have hq3 : ¬ ((1 : Int) + (szR mm : Int) < 0) := by omega
  go_wp2_with fail
  refine (toMemory_own s0 c0 0 w.heap.size l0 w2 (HA0.out.keep (Keep.of_below HK.out (Nat.le_refl _))) (by omega) FM0.out).mono ?_
  rintro e w3 ⟨xa, Sa, rfl, ho3, hb3, z3⟩
  clear Ac0 Az
  have JK : Hid (Below w.heap.size w w3) := HK.out.trans (hb3.mono (by omega))
  have JA : Hid (Bo1 w.heap.size w3 (.slice s0 l0.length c0)) := HA.out.keep (Keep.of_below hb3 (by omega))
  clear HK
  have HK := JK
  clear JK
  clear HA
  have HA := JA
  clear JA
  have HRa : Hid (MemR w3 w2.heap.size w3.heap.size (some ⟨xa, 0, none⟩) l0) := ho3.mem
  clear hb3 ho3
  obtain ⟨Ac0⟩ := HA.out
  have Az : w.heap.size < w3.heap.size := by omega
  go_wp2_with fail
  clear Ac0 Az
  refine (toIntS_ex s1 c1 0 w.heap.size l1 w3 (HA1.out.keep (Keep.of_below HK.out (Nat.le_refl _))) (by omega) n1).mono ?_
  rintro e w4 ⟨xb, rfl, ho4, hb4, z4⟩
  have zz4 := hb4.size
  have JK : Hid (Below w.heap.size w w4) := HK.out.trans (hb4.mono (by omega))
  have JA : Hid (Bo1 w.heap.size w4 (.slice s0 l0.length c0)) := HA.out.keep (Keep.of_below hb4 (by omega))
  have JRa : Hid (MemR w4 w2.heap.size w3.heap.size (some ⟨xa, 0, none⟩) l0) := HRa.out.keep (Keep.of_below hb4 (by omega))
  clear HK
  have HK := JK
  clear JK
  clear HA
  have HA := JA
  clear JA
  clear HRa
  have HRa := JRa
  clear JRa
  have HRb : Hid (IntsR w4 w3.heap.size w4.heap.size (some ⟨xb, 0, none⟩) l1) := ownN_intsR ho4
  clear hb4 ho4
  obtain ⟨Ac0⟩ := HA.out
  have Az : w.heap.size < w4.heap.size := by omega
  go_wp2_with fail
  refine (specSwap_any _ _ _ _ _ _ _ _ l0 l1 l2 l3 w4 HRa.out HRb.out (by omega) (by omega) (by omega) FM0.out).mono ?_
  rintro e w5 ⟨xw, yw, nw, u5, rfl, hn5, hm5, ho5, hb5⟩
  rw [HLL.out] at ho5
  rw [HMM.out] at hm5 hn5
  rw [HZV.out]
  subst hn5
  have z5 := hb5.size
  clear Ac0 Az
  have JK : Hid (Below w.heap.size w w5) := HK.out.trans (hb5.mono (by omega))
  have JA : Hid (Bo1 w.heap.size w5 (.slice s0 l0.length c0)) := HA.out.keep (Keep.of_below hb5 (by omega))
  have JRa : Hid (MemR w5 w2.heap.size w3.heap.size (some ⟨xa, 0, none⟩) l0) := HRa.out.keep (Keep.of_below hb5 (by omega))
  have JRb : Hid (IntsR w5 w3.heap.size w4.heap.size (some ⟨xb, 0, none⟩) l1) := HRb.out.keep (Keep.of_below hb5 (by omega))
  clear HK
  have HK := JK
  clear JK
  clear HA
  have HA := JA
  clear JA
  clear HRa
  have HRa := JRa
  clear JRa
  clear HRb
  have HRb := JRb
  clear JRb
  obtain ⟨sw, cw, rfl, hi5, -⟩ := NB.ints ho5
  have HIw : Hid (IntsR w5 w4.heap.size w5.heap.size sw ll) := hi5
  have HRw : Hid (MemR w5 w4.heap.size w5.heap.size xw mm) := hm5
  clear hb5 ho5 hi5 hm5
  clear HRa
  clear HRb
  obtain ⟨Ac0⟩ := HA.out
  have Az : w.heap.size < w5.heap.size := by omega
  go_wp2_with fail
  obtain ⟨V6, hV6, bx6, kb6, zb6⟩ := Bo1.new w5 (.slice xw mm.length yw) 29
  rw [hV6]
  clear hV6
  clear Ac0 Az
  have JK : Hid (Below w.heap.size w V6) := HK.out.trans (kb6.mono (by omega))
  have JA : Hid (Bo1 w.heap.size V6 (.slice s0 l0.length c0)) := HA.out.keep (Keep.of_below kb6 (by omega))
  have JIw : Hid (IntsR V6 w4.heap.size w5.heap.size sw ll) := HIw.out.keep (Keep.of_below kb6 (by omega))
  have JRw : Hid (MemR V6 w4.heap.size w5.heap.size xw mm) := HRw.out.keep (Keep.of_below kb6 (by omega))
  clear HK
  have HK := JK
  clear JK
  clear HA
  have HA := JA
  clear JA
  clear HIw
  have HIw := JIw
  clear JIw
  clear HRw
  have HRw := JRw
  clear JRw
  have HFw : Hid (Bo1 w5.heap.size V6 (.slice xw mm.length yw)) := bx6
  clear bx6 kb6
  obtain ⟨Ac0⟩ := HA.out
  have Az : w.heap.size < V6.heap.size := by omega
  obtain ⟨Fwc0⟩ := HFw.out
  have Fwz : w5.heap.size < V6.heap.size := by omega
  refine (toMemory_own s0 c0 0 w.heap.size l0 V6 (HA0.out.keep (Keep.of_below HK.out (Nat.le_refl _))) (by omega) FM0.out).mono ?_
  rintro e w7 ⟨xx, Sx, rfl, ho7, hb7, z7⟩
  clear Ac0 Az
  clear Fwc0 Fwz
  have JK : Hid (Below w.heap.size w w7) := HK.out.trans (hb7.mono (by omega))
  have JA : Hid (Bo1 w.heap.size w7 (.slice s0 l0.length c0)) := HA.out.keep (Keep.of_below hb7 (by omega))
  have JIw : Hid (IntsR w7 w4.heap.size w5.heap.size sw ll) := HIw.out.keep (Keep.of_below hb7 (by omega))
  have JRw : Hid (MemR w7 w4.heap.size w5.heap.size xw mm) := HRw.out.keep (Keep.of_below hb7 (by omega))
  have JFw : Hid (Bo1 w5.heap.size w7 (.slice xw mm.length yw)) := HFw.out.keep (Keep.of_below hb7 (by omega))
  clear HK
  have HK := JK
  clear JK
  clear HA
  have HA := JA
  clear JA
  clear HIw
  have HIw := JIw
  clear JIw
  clear HRw
  have HRw := JRw
  clear JRw
  clear HFw
  have HFw := JFw
  clear JFw
  have HRx : Hid (MemR w7 V6.heap.size w7.heap.size (some ⟨xx, 0, none⟩) l0) := ho7.mem
  have HOx : Hid (MO w7 V6.heap.size w7.heap.size (some ⟨xx, 0, none⟩) Sx l0) := ho7
  clear hb7 ho7
  obtain ⟨Ac0⟩ := HA.out
  have Az : w.heap.size < w7.heap.size := by omega
  obtain ⟨Fwc0⟩ := HFw.out
  have Fwz : w5.heap.size < w7.heap.size := by omega
  go_wp2_with fail
  obtain ⟨V8, hV8, bx8, kb8, zb8⟩ := Bo1.new w7 (.slice (some ⟨xx, 0, none⟩) l0.length l0.length) 29
  rw [hV8]
  clear hV8
  clear Ac0 Az
  clear Fwc0 Fwz
  have JK : Hid (Below w.heap.size w V8) := HK.out.trans (kb8.mono (by omega))
  have JA : Hid (Bo1 w.heap.size V8 (.slice s0 l0.length c0)) := HA.out.keep (Keep.of_below kb8 (by omega))
  have JIw : Hid (IntsR V8 w4.heap.size w5.heap.size sw ll) := HIw.out.keep (Keep.of_below kb8 (by omega))
  have JRw : Hid (MemR V8 w4.heap.size w5.heap.size xw mm) := HRw.out.keep (Keep.of_below kb8 (by omega))
  have JFw : Hid (Bo1 w5.heap.size V8 (.slice xw mm.length yw)) := HFw.out.keep (Keep.of_below kb8 (by omega))
  have JRx : Hid (MemR V8 V6.heap.size w7.heap.size (some ⟨xx, 0, none⟩) l0) := HRx.out.keep (Keep.of_below kb8 (by omega))
  have JOx : Hid (MO V8 V6.heap.size w7.heap.size (some ⟨xx, 0, none⟩) Sx l0) := HOx.out.keep (Keep.of_below kb8 (by omega))
  clear HK
  have HK := JK
  clear JK
  clear HA
  have HA := JA
  clear JA
  clear HIw
  have HIw := JIw
  clear JIw
  clear HRw
  have HRw := JRw
  clear JRw
  clear HFw
  have HFw := JFw
  clear JFw
  clear HRx
  have HRx := JRx
  clear JRx
  clear HOx
  have HOx := JOx
  clear JOx
  have HXx : Hid (Bo1 w7.heap.size V8 (.slice (some ⟨xx, 0, none⟩) l0.length l0.length)) := bx8
  clear bx8 kb8
  obtain ⟨Ac0⟩ := HA.out
  have Az : w.heap.size < V8.heap.size := by omega
  obtain ⟨Fwc0⟩ := HFw.out
  have Fwz : w5.heap.size < V8.heap.size := by omega
  obtain ⟨Xxc0⟩ := HXx.out
  have Xxz : w7.heap.size < V8.heap.size := by omega
  clear Ac0 Az
  clear Fwc0 Fwz
  clear Xxc0 Xxz
  refine (toIntS_ex s1 c1 0 w.heap.size l1 V8 (HA1.out.keep (Keep.of_below HK.out (Nat.le_refl _))) (by omega) n1).mono ?_
  rintro e w9 ⟨xy, rfl, ho9, hb9, z9⟩
  have zz9 := hb9.size
  have JK : Hid (Below w.heap.size w w9) := HK.out.trans (hb9.mono (by omega))
  have JA : Hid (Bo1 w.heap.size w9 (.slice s0 l0.length c0)) := HA.out.keep (Keep.of_below hb9 (by omega))
  have JIw : Hid (IntsR w9 w4.heap.size w5.heap.size sw ll) := HIw.out.keep (Keep.of_below hb9 (by omega))
  have JRw : Hid (MemR w9 w4.heap.size w5.heap.size xw mm) := HRw.out.keep (Keep.of_below hb9 (by omega))
  have JFw : Hid (Bo1 w5.heap.size w9 (.slice xw mm.length yw)) := HFw.out.keep (Keep.of_below hb9 (by omega))
  have JRx : Hid (MemR w9 V6.heap.size w7.heap.size (some ⟨xx, 0, none⟩) l0) := HRx.out.keep (Keep.of_below hb9 (by omega))
  have JOx : Hid (MO w9 V6.heap.size w7.heap.size (some ⟨xx, 0, none⟩) Sx l0) := HOx.out.keep (Keep.of_below hb9 (by omega))
  have JXx : Hid (Bo1 w7.heap.size w9 (.slice (some ⟨xx, 0, none⟩) l0.length l0.length)) := HXx.out.keep (Keep.of_below hb9 (by omega))
  clear HK
  have HK := JK
  clear JK
  clear HA
  have HA := JA
  clear JA
  clear HIw
  have HIw := JIw
  clear JIw
  clear HRw
  have HRw := JRw
  clear JRw
  clear HFw
  have HFw := JFw
  clear JFw
  clear HRx
  have HRx := JRx
  clear JRx
  clear HOx
  have HOx := JOx
  clear JOx
  clear HXx
  have HXx := JXx
  clear JXx
  have HRy : Hid (IntsR w9 V8.heap.size w9.heap.size (some ⟨xy, 0, none⟩) l1) := ownN_intsR ho9
  have HOy : Hid (NB w9 V8.heap.size w9.heap.size (.slice (some ⟨xy, 0, none⟩) l1.length l1.length) l1) := NB.of ho9
  clear hb9 ho9
  obtain ⟨Ac0⟩ := HA.out
  have Az : w.heap.size < w9.heap.size := by omega
  obtain ⟨Fwc0⟩ := HFw.out
  have Fwz : w5.heap.size < w9.heap.size := by omega
  obtain ⟨Xxc0⟩ := HXx.out
  have Xxz : w7.heap.size < w9.heap.size := by omega
  go_wp2_with fail
  refine (implSwap_any _ _ _ _ _ _ _ _ l0 l1 l2 l3 w9 HRx.out HRy.out (by omega) (by omega) (by omega) FM0.out).mono ?_
  rintro e w10 ⟨vm10, Sg, u10, rfl, hm10, ho10, hs10, hb10⟩
  rw [HLL.out] at ho10
  rw [HMM.out] at hm10
  rw [HZV.out]
  have z10 := hb10.size
  clear Ac0 Az
  clear Fwc0 Fwz
  clear Xxc0 Xxz
  have JK : Hid (Below w.heap.size w w10) := HK.out.trans (hb10.mono (by omega))
  have JA : Hid (Bo1 w.heap.size w10 (.slice s0 l0.length c0)) := HA.out.keep (Keep.of_below hb10 (by omega))
  have JIw : Hid (IntsR w10 w4.heap.size w5.heap.size sw ll) := HIw.out.keep (Keep.of_below hb10 (by omega))
  have JRw : Hid (MemR w10 w4.heap.size w5.heap.size xw mm) := HRw.out.keep (Keep.of_below hb10 (by omega))
  have JFw : Hid (Bo1 w5.heap.size w10 (.slice xw mm.length yw)) := HFw.out.keep (Keep.of_below hb10 (by omega))
  have JRx : Hid (MemR w10 V6.heap.size w7.heap.size (some ⟨xx, 0, none⟩) l0) := HRx.out.keep (Keep.of_below hb10 (by omega))
  have JOx : Hid (MO w10 V6.heap.size w7.heap.size (some ⟨xx, 0, none⟩) Sx l0) := HOx.out.keep (Keep.of_below hb10 (by omega))
  have JXx : Hid (Bo1 w7.heap.size w10 (.slice (some ⟨xx, 0, none⟩) l0.length l0.length)) := HXx.out.keep (Keep.of_below hb10 (by omega))
  have JRy : Hid (IntsR w10 V8.heap.size w9.heap.size (some ⟨xy, 0, none⟩) l1) := HRy.out.keep (Keep.of_below hb10 (by omega))
  have JOy : Hid (NB w10 V8.heap.size w9.heap.size (.slice (some ⟨xy, 0, none⟩) l1.length l1.length) l1) := HOy.out.keep (Keep.of_below hb10 (by omega))
  clear HK
  have HK := JK
  clear JK
  clear HA
  have HA := JA
  clear JA
  clear HIw
  have HIw := JIw
  clear JIw
  clear HRw
  have HRw := JRw
  clear JRw
  clear HFw
  have HFw := JFw
  clear JFw
  clear HRx
  have HRx := JRx
  clear JRx
  clear HOx
  have HOx := JOx
  clear JOx
  clear HXx
  have HXx := JXx
  clear JXx
  clear HRy
  have HRy := JRy
  clear JRy
  clear HOy
  have HOy := JOy
  clear JOy
  obtain ⟨mg, kg, rfl, hp10⟩ := pairOf hm10 ho10 hs10
  obtain ⟨sg, cg, rfl, hi10, -⟩ := NB.ints ho10
  have HIg : Hid (IntsR w10 w9.heap.size w10.heap.size sg ll) := hi10
  have HRg : Hid (MemR w10 w9.heap.size w10.heap.size mg mm) := hp10.mo.mem
  have HPg : Hid (PairO w10 w9.heap.size w10.heap.size mg Sg mm (.slice sg ll.length cg) ll) := hp10
  have HZZ : Hid ((mAs Sg).length = szR mm ∧ Sg.length = mm.length) := ⟨hp10.mo.sz, hp10.mo.n⟩
  clear hb10 ho10 hi10 hm10 hs10 hp10
  obtain ⟨Ac0⟩ := HA.out
  have Az : w.heap.size < w10.heap.size := by omega
  obtain ⟨Fwc0⟩ := HFw.out
  have Fwz : w5.heap.size < w10.heap.size := by omega
  obtain ⟨Xxc0⟩ := HXx.out
  have Xxz : w7.heap.size < w10.heap.size := by omega
  go_wp2_with fail
  obtain ⟨V11, hV11, bx11, kb11, zb11⟩ := Bo1.new w10 (.slice mg mm.length kg) 29
  rw [hV11]
  clear hV11
  clear Ac0 Az
  clear Fwc0 Fwz
  clear Xxc0 Xxz
  have JK : Hid (Below w.heap.size w V11) := HK.out.trans (kb11.mono (by omega))
  have JA : Hid (Bo1 w.heap.size V11 (.slice s0 l0.length c0)) := HA.out.keep (Keep.of_below kb11 (by omega))
  have JIw : Hid (IntsR V11 w4.heap.size w5.heap.size sw ll) := HIw.out.keep (Keep.of_below kb11 (by omega))
  have JRw : Hid (MemR V11 w4.heap.size w5.heap.size xw mm) := HRw.out.keep (Keep.of_below kb11 (by omega))
  have JFw : Hid (Bo1 w5.heap.size V11 (.slice xw mm.length yw)) := HFw.out.keep (Keep.of_below kb11 (by omega))
  have JRx : Hid (MemR V11 V6.heap.size w7.heap.size (some ⟨xx, 0, none⟩) l0) := HRx.out.keep (Keep.of_below kb11 (by omega))
  have JOx : Hid (MO V11 V6.heap.size w7.heap.size (some ⟨xx, 0, none⟩) Sx l0) := HOx.out.keep (Keep.of_below kb11 (by omega))
  have JXx : Hid (Bo1 w7.heap.size V11 (.slice (some ⟨xx, 0, none⟩) l0.length l0.length)) := HXx.out.keep (Keep.of_below kb11 (by omega))
  have JRy : Hid (IntsR V11 V8.heap.size w9.heap.size (some ⟨xy, 0, none⟩) l1) := HRy.out.keep (Keep.of_below kb11 (by omega))
  have JOy : Hid (NB V11 V8.heap.size w9.heap.size (.slice (some ⟨xy, 0, none⟩) l1.length l1.length) l1) := HOy.out.keep (Keep.of_below kb11 (by omega))
  have JIg : Hid (IntsR V11 w9.heap.size w10.heap.size sg ll) := HIg.out.keep (Keep.of_below kb11 (by omega))
  have JRg : Hid (MemR V11 w9.heap.size w10.heap.size mg mm) := HRg.out.keep (Keep.of_below kb11 (by omega))
  have JPg : Hid (PairO V11 w9.heap.size w10.heap.size mg Sg mm (.slice sg ll.length cg) ll) := HPg.out.keep (Keep.of_below kb11 (by omega))
  clear HK
  have HK := JK
  clear JK
  clear HA
  have HA := JA
  clear JA
  clear HIw
  have HIw := JIw
  clear JIw
  clear HRw
  have HRw := JRw
  clear JRw
  clear HFw
  have HFw := JFw
  clear JFw
  clear HRx
  have HRx := JRx
  clear JRx
  clear HOx
  have HOx := JOx
  clear JOx
  clear HXx
  have HXx := JXx
  clear JXx
  clear HRy
  have HRy := JRy
  clear JRy
  clear HOy
  have HOy := JOy
  clear JOy
  clear HIg
  have HIg := JIg
  clear JIg
  clear HRg
  have HRg := JRg
  clear JRg
  clear HPg
  have HPg := JPg
  clear JPg
  have HYg : Hid (Bo1 w10.heap.size V11 (.slice mg mm.length kg)) := bx11
  clear bx11 kb11
  obtain ⟨Ac0⟩ := HA.out
  have Az : w.heap.size < V11.heap.size := by omega
  obtain ⟨Fwc0⟩ := HFw.out
  have Fwz : w5.heap.size < V11.heap.size := by omega
  obtain ⟨Xxc0⟩ := HXx.out
  have Xxz : w7.heap.size < V11.heap.size := by omega
  obtain ⟨Ygc0⟩ := HYg.out
  have Ygz : w10.heap.size < V11.heap.size := by omega
  refine (eqMemory_alike mg xw _ _ _ _ _ _ mm V11 HRg.out HRw.out (by omega) (by omega) F2.out).mono ?_
  rintro e w12 ⟨rfl, hb12⟩
  have z12 := hb12.size
  clear Ac0 Az
  clear Fwc0 Fwz
  clear Xxc0 Xxz
  clear Ygc0 Ygz
  have JK : Hid (Below w.heap.size w w12) := HK.out.trans (hb12.mono (by omega))
  have JA : Hid (Bo1 w.heap.size w12 (.slice s0 l0.length c0)) := HA.out.keep (Keep.of_below hb12 (by omega))
  have JIw : Hid (IntsR w12 w4.heap.size w5.heap.size sw ll) := HIw.out.keep (Keep.of_below hb12 (by omega))
  have JRw : Hid (MemR w12 w4.heap.size w5.heap.size xw mm) := HRw.out.keep (Keep.of_below hb12 (by omega))
  have JFw : Hid (Bo1 w5.heap.size w12 (.slice xw mm.length yw)) := HFw.out.keep (Keep.of_below hb12 (by omega))
  have JRx : Hid (MemR w12 V6.heap.size w7.heap.size (some ⟨xx, 0, none⟩) l0) := HRx.out.keep (Keep.of_below hb12 (by omega))
  have JOx : Hid (MO w12 V6.heap.size w7.heap.size (some ⟨xx, 0, none⟩) Sx l0) := HOx.out.keep (Keep.of_below hb12 (by omega))
  have JXx : Hid (Bo1 w7.heap.size w12 (.slice (some ⟨xx, 0, none⟩) l0.length l0.length)) := HXx.out.keep (Keep.of_below hb12 (by omega))
  have JRy : Hid (IntsR w12 V8.heap.size w9.heap.size (some ⟨xy, 0, none⟩) l1) := HRy.out.keep (Keep.of_below hb12 (by omega))
  have JOy : Hid (NB w12 V8.heap.size w9.heap.size (.slice (some ⟨xy, 0, none⟩) l1.length l1.length) l1) := HOy.out.keep (Keep.of_below hb12 (by omega))
  have JIg : Hid (IntsR w12 w9.heap.size w10.heap.size sg ll) := HIg.out.keep (Keep.of_below hb12 (by omega))
  have JRg : Hid (MemR w12 w9.heap.size w10.heap.size mg mm) := HRg.out.keep (Keep.of_below hb12 (by omega))
  have JPg : Hid (PairO w12 w9.heap.size w10.heap.size mg Sg mm (.slice sg ll.length cg) ll) := HPg.out.keep (Keep.of_below hb12 (by omega))
  have JYg : Hid (Bo1 w10.heap.size w12 (.slice mg mm.length kg)) := HYg.out.keep (Keep.of_below hb12 (by omega))
  clear HK
  have HK := JK
  clear JK
  clear HA
  have HA := JA
  clear JA
  clear HIw
  have HIw := JIw
  clear JIw
  clear HRw
  have HRw := JRw
  clear JRw
  clear HFw
  have HFw := JFw
  clear JFw
  clear HRx
  have HRx := JRx
  clear JRx
  clear HOx
  have HOx := JOx
  clear JOx
  clear HXx
  have HXx := JXx
  clear JXx
  clear HRy
  have HRy := JRy
  clear JRy
  clear HOy
  have HOy := JOy
  clear JOy
  clear HIg
  have HIg := JIg
  clear JIg
  clear HRg
  have HRg := JRg
  clear JRg
  clear HPg
  have HPg := JPg
  clear JPg
  clear HYg
  have HYg := JYg
  clear JYg
  clear hb12
  obtain ⟨Ac0⟩ := HA.out
  have Az : w.heap.size < w12.heap.size := by omega
  obtain ⟨Fwc0⟩ := HFw.out
  have Fwz : w5.heap.size < w12.heap.size := by omega
  obtain ⟨Xxc0⟩ := HXx.out
  have Xxz : w7.heap.size < w12.heap.size := by omega
  obtain ⟨Ygc0⟩ := HYg.out
  have Ygz : w10.heap.size < w12.heap.size := by omega
  go_wp2_with fail
  refine (eqN_true cg cw HIg.out HIw.out (by omega) (by omega) hL).mono ?_
  rintro e w13 ⟨rfl, hb13⟩
  have z13 := hb13.size
  clear Ac0 Az
  clear Fwc0 Fwz
  clear Xxc0 Xxz
  clear Ygc0 Ygz
  have JK : Hid (Below w.heap.size w w13) := HK.out.trans (hb13.mono (by omega))
  have JA : Hid (Bo1 w.heap.size w13 (.slice s0 l0.length c0)) := HA.out.keep (Keep.of_below hb13 (by omega))
  have JIw : Hid (IntsR w13 w4.heap.size w5.heap.size sw ll) := HIw.out.keep (Keep.of_below hb13 (by omega))
  have JRw : Hid (MemR w13 w4.heap.size w5.heap.size xw mm) := HRw.out.keep (Keep.of_below hb13 (by omega))
  have JFw : Hid (Bo1 w5.heap.size w13 (.slice xw mm.length yw)) := HFw.out.keep (Keep.of_below hb13 (by omega))
  have JRx : Hid (MemR w13 V6.heap.size w7.heap.size (some ⟨xx, 0, none⟩) l0) := HRx.out.keep (Keep.of_below hb13 (by omega))
  have JOx : Hid (MO w13 V6.heap.size w7.heap.size (some ⟨xx, 0, none⟩) Sx l0) := HOx.out.keep (Keep.of_below hb13 (by omega))
  have JXx : Hid (Bo1 w7.heap.size w13 (.slice (some ⟨xx, 0, none⟩) l0.length l0.length)) := HXx.out.keep (Keep.of_below hb13 (by omega))
  have JRy : Hid (IntsR w13 V8.heap.size w9.heap.size (some ⟨xy, 0, none⟩) l1) := HRy.out.keep (Keep.of_below hb13 (by omega))
  have JOy : Hid (NB w13 V8.heap.size w9.heap.size (.slice (some ⟨xy, 0, none⟩) l1.length l1.length) l1) := HOy.out.keep (Keep.of_below hb13 (by omega))
  have JIg : Hid (IntsR w13 w9.heap.size w10.heap.size sg ll) := HIg.out.keep (Keep.of_below hb13 (by omega))
  have JRg : Hid (MemR w13 w9.heap.size w10.heap.size mg mm) := HRg.out.keep (Keep.of_below hb13 (by omega))
  have JPg : Hid (PairO w13 w9.heap.size w10.heap.size mg Sg mm (.slice sg ll.length cg) ll) := HPg.out.keep (Keep.of_below hb13 (by omega))
  have JYg : Hid (Bo1 w10.heap.size w13 (.slice mg mm.length kg)) := HYg.out.keep (Keep.of_below hb13 (by omega))
  clear HK
  have HK := JK
  clear JK
  clear HA
  have HA := JA
  clear JA
  clear HIw
  have HIw := JIw
  clear JIw
  clear HRw
  have HRw := JRw
  clear JRw
  clear HFw
  have HFw := JFw
  clear JFw
  clear HRx
  have HRx := JRx
  clear JRx
  clear HOx
  have HOx := JOx
  clear JOx
  clear HXx
  have HXx := JXx
  clear JXx
  clear HRy
  have HRy := JRy
  clear JRy
  clear HOy
  have HOy := JOy
  clear JOy
  clear HIg
  have HIg := JIg
  clear JIg
  clear HRg
  have HRg := JRg
  clear JRg
  clear HPg
  have HPg := JPg
  clear JPg
  clear HYg
  have HYg := JYg
  clear JYg
  clear hb13
  obtain ⟨Ac0⟩ := HA.out
  have Az : w.heap.size < w13.heap.size := by omega
  obtain ⟨Fwc0⟩ := HFw.out
  have Fwz : w5.heap.size < w13.heap.size := by omega
  obtain ⟨Xxc0⟩ := HXx.out
  have Xxz : w7.heap.size < w13.heap.size := by omega
  obtain ⟨Ygc0⟩ := HYg.out
  have Ygz : w10.heap.size < w13.heap.size := by omega
  go_wp2_with fail
  go_region_held3 (fun w' => w'.cell? ⟨w7.heap.size, 0, none⟩ = some (.slice (some ⟨xx, 0, none⟩) l0.length l0.length) ∧ w'.cell? ⟨w.heap.size, 0, none⟩ = some (.slice s0 l0.length c0)) (go_keep) (first | (go_at_call 6; refine (toMemory_own s0 c0 0 w.heap.size l0 w13.drew (HA0.out.keep (Keep.of_below HK.out.drew (Nat.le_refl _))) (by show w.heap.size ≤ w13.heap.size; omega) FM0.out).mono ?_; rintro e w14 ⟨xq, Sq, rfl, ho14, hb14, hz14⟩; have kx : Below w13.heap.size w13 w14 := (Below.drew (Below.refl _ _)).trans hb14; have kz := kx.size; have XX := HXx.out.keep (Keep.of_below kx (by omega)); have AA := HA.out.keep (Keep.of_below kx (by omega)); have t0 := XX.c0; have t1 := AA.c0) | (go_at_call 9; refine (eqMemory_alike (some ⟨xx, 0, none⟩) (some ⟨xq, 0, none⟩) _ _ V6.heap.size w7.heap.size w13.heap.size w14.heap.size l0 w14 (HRx.out.keep (Keep.of_below kx (by omega))) (ho14.mem) (by omega) (Nat.le_refl _) F1.out).mono ?_; rintro e w15 ⟨rfl, hb15⟩; have ky : Below w13.heap.size w13 w15 := kx.trans (hb15.mono (by omega)); have XY := XX.keep (Keep.of_below hb15 (by omega)); have AY := AA.keep (Keep.of_below hb15 (by omega)); have u0 := XY.c0; have u1 := AY.c0))
  have z15 := ky.size
  clear t0 t1 u0 u1 XX AA XY AY hb14 hb15 ho14 hz14 kx kz
  clear Ac0 Az
  clear Fwc0 Fwz
  clear Xxc0 Xxz
  clear Ygc0 Ygz
  have JK : Hid (Below w.heap.size w w15) := HK.out.trans (ky.mono (by omega))
  have JA : Hid (Bo1 w.heap.size w15 (.slice s0 l0.length c0)) := HA.out.keep (Keep.of_below ky (by omega))
  have JIw : Hid (IntsR w15 w4.heap.size w5.heap.size sw ll) := HIw.out.keep (Keep.of_below ky (by omega))
  have JRw : Hid (MemR w15 w4.heap.size w5.heap.size xw mm) := HRw.out.keep (Keep.of_below ky (by omega))
  have JFw : Hid (Bo1 w5.heap.size w15 (.slice xw mm.length yw)) := HFw.out.keep (Keep.of_below ky (by omega))
  have JRx : Hid (MemR w15 V6.heap.size w7.heap.size (some ⟨xx, 0, none⟩) l0) := HRx.out.keep (Keep.of_below ky (by omega))
  have JOx : Hid (MO w15 V6.heap.size w7.heap.size (some ⟨xx, 0, none⟩) Sx l0) := HOx.out.keep (Keep.of_below ky (by omega))
  have JXx : Hid (Bo1 w7.heap.size w15 (.slice (some ⟨xx, 0, none⟩) l0.length l0.length)) := HXx.out.keep (Keep.of_below ky (by omega))
  have JRy : Hid (IntsR w15 V8.heap.size w9.heap.size (some ⟨xy, 0, none⟩) l1) := HRy.out.keep (Keep.of_below ky (by omega))
  have JOy : Hid (NB w15 V8.heap.size w9.heap.size (.slice (some ⟨xy, 0, none⟩) l1.length l1.length) l1) := HOy.out.keep (Keep.of_below ky (by omega))
  have JIg : Hid (IntsR w15 w9.heap.size w10.heap.size sg ll) := HIg.out.keep (Keep.of_below ky (by omega))
  have JRg : Hid (MemR w15 w9.heap.size w10.heap.size mg mm) := HRg.out.keep (Keep.of_below ky (by omega))
  have JPg : Hid (PairO w15 w9.heap.size w10.heap.size mg Sg mm (.slice sg ll.length cg) ll) := HPg.out.keep (Keep.of_below ky (by omega))
  have JYg : Hid (Bo1 w10.heap.size w15 (.slice mg mm.length kg)) := HYg.out.keep (Keep.of_below ky (by omega))
  clear HK
  have HK := JK
  clear JK
  clear HA
  have HA := JA
  clear JA
  clear HIw
  have HIw := JIw
  clear JIw
  clear HRw
  have HRw := JRw
  clear JRw
  clear HFw
  have HFw := JFw
  clear JFw
  clear HRx
  have HRx := JRx
  clear JRx
  clear HOx
  have HOx := JOx
  clear JOx
  clear HXx
  have HXx := JXx
  clear JXx
  clear HRy
  have HRy := JRy
  clear JRy
  clear HOy
  have HOy := JOy
  clear JOy
  clear HIg
  have HIg := JIg
  clear JIg
  clear HRg
  have HRg := JRg
  clear JRg
  clear HPg
  have HPg := JPg
  clear JPg
  clear HYg
  have HYg := JYg
  clear JYg
  clear ky
  obtain ⟨Ac0⟩ := HA.out
  have Az : w.heap.size < w15.heap.size := by omega
  obtain ⟨Fwc0⟩ := HFw.out
  have Fwz : w5.heap.size < w15.heap.size := by omega
  obtain ⟨Xxc0⟩ := HXx.out
  have Xxz : w7.heap.size < w15.heap.size := by omega
  obtain ⟨Ygc0⟩ := HYg.out
  have Ygz : w10.heap.size < w15.heap.size := by omega
  go_wp2_with fail
  clear Ac0 Az
  clear Fwc0 Fwz
  clear Xxc0 Xxz
  clear Ygc0 Ygz
  refine (toIntS_ex s1 c1 0 w.heap.size l1 w15 (HA1.out.keep (Keep.of_below HK.out (Nat.le_refl _))) (by omega) n1).mono ?_
  rintro e w16 ⟨xd, rfl, ho16, hb16, z16⟩
  have zz16 := hb16.size
  have JK : Hid (Below w.heap.size w w16) := HK.out.trans (hb16.mono (by omega))
  have JA : Hid (Bo1 w.heap.size w16 (.slice s0 l0.length c0)) := HA.out.keep (Keep.of_below hb16 (by omega))
  have JIw : Hid (IntsR w16 w4.heap.size w5.heap.size sw ll) := HIw.out.keep (Keep.of_below hb16 (by omega))
  have JRw : Hid (MemR w16 w4.heap.size w5.heap.size xw mm) := HRw.out.keep (Keep.of_below hb16 (by omega))
  have JFw : Hid (Bo1 w5.heap.size w16 (.slice xw mm.length yw)) := HFw.out.keep (Keep.of_below hb16 (by omega))
  have JRx : Hid (MemR w16 V6.heap.size w7.heap.size (some ⟨xx, 0, none⟩) l0) := HRx.out.keep (Keep.of_below hb16 (by omega))
  have JOx : Hid (MO w16 V6.heap.size w7.heap.size (some ⟨xx, 0, none⟩) Sx l0) := HOx.out.keep (Keep.of_below hb16 (by omega))
  have JXx : Hid (Bo1 w7.heap.size w16 (.slice (some ⟨xx, 0, none⟩) l0.length l0.length)) := HXx.out.keep (Keep.of_below hb16 (by omega))
  have JRy : Hid (IntsR w16 V8.heap.size w9.heap.size (some ⟨xy, 0, none⟩) l1) := HRy.out.keep (Keep.of_below hb16 (by omega))
  have JOy : Hid (NB w16 V8.heap.size w9.heap.size (.slice (some ⟨xy, 0, none⟩) l1.length l1.length) l1) := HOy.out.keep (Keep.of_below hb16 (by omega))
  have JIg : Hid (IntsR w16 w9.heap.size w10.heap.size sg ll) := HIg.out.keep (Keep.of_below hb16 (by omega))
  have JRg : Hid (MemR w16 w9.heap.size w10.heap.size mg mm) := HRg.out.keep (Keep.of_below hb16 (by omega))
  have JPg : Hid (PairO w16 w9.heap.size w10.heap.size mg Sg mm (.slice sg ll.length cg) ll) := HPg.out.keep (Keep.of_below hb16 (by omega))
  have JYg : Hid (Bo1 w10.heap.size w16 (.slice mg mm.length kg)) := HYg.out.keep (Keep.of_below hb16 (by omega))
  clear HK
  have HK := JK
  clear JK
  clear HA
  have HA := JA
  clear JA
  clear HIw
  have HIw := JIw
  clear JIw
  clear HRw
  have HRw := JRw
  clear JRw
  clear HFw
  have HFw := JFw
  clear JFw
  clear HRx
  have HRx := JRx
  clear JRx
  clear HOx
  have HOx := JOx
  clear JOx
  clear HXx
  have HXx := JXx
  clear JXx
  clear HRy
  have HRy := JRy
  clear JRy
  clear HOy
  have HOy := JOy
  clear JOy
  clear HIg
  have HIg := JIg
  clear JIg
  clear HRg
  have HRg := JRg
  clear JRg
  clear HPg
  have HPg := JPg
  clear JPg
  clear HYg
  have HYg := JYg
  clear JYg
  have HRd : Hid (IntsR w16 w15.heap.size w16.heap.size (some ⟨xd, 0, none⟩) l1) := ownN_intsR ho16
  clear hb16 ho16
  obtain ⟨Ac0⟩ := HA.out
  have Az : w.heap.size < w16.heap.size := by omega
  obtain ⟨Fwc0⟩ := HFw.out
  have Fwz : w5.heap.size < w16.heap.size := by omega
  obtain ⟨Xxc0⟩ := HXx.out
  have Xxz : w7.heap.size < w16.heap.size := by omega
  obtain ⟨Ygc0⟩ := HYg.out
  have Ygz : w10.heap.size < w16.heap.size := by omega
  go_wp2_with fail
  refine (eqN_true _ _ HRy.out HRd.out (by omega) (by omega) (by omega)).mono ?_
  rintro e w17 ⟨rfl, hb17⟩
  have z17 := hb17.size
  clear Ac0 Az
  clear Fwc0 Fwz
  clear Xxc0 Xxz
  clear Ygc0 Ygz
  have JK : Hid (Below w.heap.size w w17) := HK.out.trans (hb17.mono (by omega))
  have JA : Hid (Bo1 w.heap.size w17 (.slice s0 l0.length c0)) := HA.out.keep (Keep.of_below hb17 (by omega))
  have JIw : Hid (IntsR w17 w4.heap.size w5.heap.size sw ll) := HIw.out.keep (Keep.of_below hb17 (by omega))
  have JRw : Hid (MemR w17 w4.heap.size w5.heap.size xw mm) := HRw.out.keep (Keep.of_below hb17 (by omega))
  have JFw : Hid (Bo1 w5.heap.size w17 (.slice xw mm.length yw)) := HFw.out.keep (Keep.of_below hb17 (by omega))
  have JRx : Hid (MemR w17 V6.heap.size w7.heap.size (some ⟨xx, 0, none⟩) l0) := HRx.out.keep (Keep.of_below hb17 (by omega))
  have JOx : Hid (MO w17 V6.heap.size w7.heap.size (some ⟨xx, 0, none⟩) Sx l0) := HOx.out.keep (Keep.of_below hb17 (by omega))
  have JXx : Hid (Bo1 w7.heap.size w17 (.slice (some ⟨xx, 0, none⟩) l0.length l0.length)) := HXx.out.keep (Keep.of_below hb17 (by omega))
  have JRy : Hid (IntsR w17 V8.heap.size w9.heap.size (some ⟨xy, 0, none⟩) l1) := HRy.out.keep (Keep.of_below hb17 (by omega))
  have JOy : Hid (NB w17 V8.heap.size w9.heap.size (.slice (some ⟨xy, 0, none⟩) l1.length l1.length) l1) := HOy.out.keep (Keep.of_below hb17 (by omega))
  have JIg : Hid (IntsR w17 w9.heap.size w10.heap.size sg ll) := HIg.out.keep (Keep.of_below hb17 (by omega))
  have JRg : Hid (MemR w17 w9.heap.size w10.heap.size mg mm) := HRg.out.keep (Keep.of_below hb17 (by omega))
  have JPg : Hid (PairO w17 w9.heap.size w10.heap.size mg Sg mm (.slice sg ll.length cg) ll) := HPg.out.keep (Keep.of_below hb17 (by omega))
  have JYg : Hid (Bo1 w10.heap.size w17 (.slice mg mm.length kg)) := HYg.out.keep (Keep.of_below hb17 (by omega))
  have JRd : Hid (IntsR w17 w15.heap.size w16.heap.size (some ⟨xd, 0, none⟩) l1) := HRd.out.keep (Keep.of_below hb17 (by omega))
  clear HK
  have HK := JK
  clear JK
  clear HA
  have HA := JA
  clear JA
  clear HIw
  have HIw := JIw
  clear JIw
  clear HRw
  have HRw := JRw
  clear JRw
  clear HFw
  have HFw := JFw
  clear JFw
  clear HRx
  have HRx := JRx
  clear JRx
  clear HOx
  have HOx := JOx
  clear JOx
  clear HXx
  have HXx := JXx
  clear JXx
  clear HRy
  have HRy := JRy
  clear JRy
  clear HOy
  have HOy := JOy
  clear JOy
  clear HIg
  have HIg := JIg
  clear JIg
  clear HRg
  have HRg := JRg
  clear JRg
  clear HPg
  have HPg := JPg
  clear JPg
  clear HYg
  have HYg := JYg
  clear JYg
  clear HRd
  have HRd := JRd
  clear JRd
  clear hb17
  obtain ⟨Ac0⟩ := HA.out
  have Az : w.heap.size < w17.heap.size := by omega
  obtain ⟨Fwc0⟩ := HFw.out
  have Fwz : w5.heap.size < w17.heap.size := by omega
  obtain ⟨Xxc0⟩ := HXx.out
  have Xxz : w7.heap.size < w17.heap.size := by omega
  obtain ⟨Ygc0⟩ := HYg.out
  have Ygz : w10.heap.size < w17.heap.size := by omega
  go_wp2_with fail
  clear HRd
  refine (markMemory_exc _ Sx l0 _ V6.heap.size w7.heap.size 1 w17 HOx.out (by omega) F1.out (by omega) (by omega)).mono ?_
  rintro e w18 ⟨rfl, -, ex18⟩
  have z18 := ex18.size
  clear Ac0 Az
  clear Fwc0 Fwz
  clear Xxc0 Xxz
  clear Ygc0 Ygz
  have JK : Hid (Below w.heap.size w w18) := HK.out.trans (ex18.below (by omega) (by omega))
  have JA : Hid (Bo1 w.heap.size w18 (.slice s0 l0.length c0)) := HA.out.keep (Keep.of_exc ex18 (by omega) (by omega))
  have JIw : Hid (IntsR w18 w4.heap.size w5.heap.size sw ll) := HIw.out.keep (Keep.of_exc ex18 (by omega) (by omega))
  have JRw : Hid (MemR w18 w4.heap.size w5.heap.size xw mm) := HRw.out.keep (Keep.of_exc ex18 (by omega) (by omega))
  have JFw : Hid (Bo1 w5.heap.size w18 (.slice xw mm.length yw)) := HFw.out.keep (Keep.of_exc ex18 (by omega) (by omega))
  have JXx : Hid (Bo1 w7.heap.size w18 (.slice (some ⟨xx, 0, none⟩) l0.length l0.length)) := HXx.out.keep (Keep.of_exc ex18 (by omega) (by omega))
  have JRy : Hid (IntsR w18 V8.heap.size w9.heap.size (some ⟨xy, 0, none⟩) l1) := HRy.out.keep (Keep.of_exc ex18 (by omega) (by omega))
  have JOy : Hid (NB w18 V8.heap.size w9.heap.size (.slice (some ⟨xy, 0, none⟩) l1.length l1.length) l1) := HOy.out.keep (Keep.of_exc ex18 (by omega) (by omega))
  have JIg : Hid (IntsR w18 w9.heap.size w10.heap.size sg ll) := HIg.out.keep (Keep.of_exc ex18 (by omega) (by omega))
  have JRg : Hid (MemR w18 w9.heap.size w10.heap.size mg mm) := HRg.out.keep (Keep.of_exc ex18 (by omega) (by omega))
  have JPg : Hid (PairO w18 w9.heap.size w10.heap.size mg Sg mm (.slice sg ll.length cg) ll) := HPg.out.keep (Keep.of_exc ex18 (by omega) (by omega))
  have JYg : Hid (Bo1 w10.heap.size w18 (.slice mg mm.length kg)) := HYg.out.keep (Keep.of_exc ex18 (by omega) (by omega))
  clear HK
  have HK := JK
  clear JK
  clear HA
  have HA := JA
  clear JA
  clear HIw
  have HIw := JIw
  clear JIw
  clear HRw
  have HRw := JRw
  clear JRw
  clear HFw
  have HFw := JFw
  clear JFw
  clear HRx
  clear HOx
  clear HXx
  have HXx := JXx
  clear JXx
  clear HRy
  have HRy := JRy
  clear JRy
  clear HOy
  have HOy := JOy
  clear JOy
  clear HIg
  have HIg := JIg
  clear JIg
  clear HRg
  have HRg := JRg
  clear JRg
  clear HPg
  have HPg := JPg
  clear JPg
  clear HYg
  have HYg := JYg
  clear JYg
  clear ex18
  obtain ⟨Ac0⟩ := HA.out
  have Az : w.heap.size < w18.heap.size := by omega
  obtain ⟨Fwc0⟩ := HFw.out
  have Fwz : w5.heap.size < w18.heap.size := by omega
  obtain ⟨Xxc0⟩ := HXx.out
  have Xxz : w7.heap.size < w18.heap.size := by omega
  obtain ⟨Ygc0⟩ := HYg.out
  have Ygz : w10.heap.size < w18.heap.size := by omega
  go_wp2_with fail
  refine (markN_exc (1 + (szR l0 : Int)) HOy.out (by omega) (by omega) (by have := F1.out; omega)).mono ?_
  rintro e w19 ⟨rfl, -, ex19⟩
  have z19 := ex19.size
  clear Ac0 Az
  clear Fwc0 Fwz
  clear Xxc0 Xxz
  clear Ygc0 Ygz
  have JK : Hid (Below w.heap.size w w19) := HK.out.trans (ex19.below (by omega) (by omega))
  have JA : Hid (Bo1 w.heap.size w19 (.slice s0 l0.length c0)) := HA.out.keep (Keep.of_exc ex19 (by omega) (by omega))
  have JIw : Hid (IntsR w19 w4.heap.size w5.heap.size sw ll) := HIw.out.keep (Keep.of_exc ex19 (by omega) (by omega))
  have JRw : Hid (MemR w19 w4.heap.size w5.heap.size xw mm) := HRw.out.keep (Keep.of_exc ex19 (by omega) (by omega))
  have JFw : Hid (Bo1 w5.heap.size w19 (.slice xw mm.length yw)) := HFw.out.keep (Keep.of_exc ex19 (by omega) (by omega))
  have JXx : Hid (Bo1 w7.heap.size w19 (.slice (some ⟨xx, 0, none⟩) l0.length l0.length)) := HXx.out.keep (Keep.of_exc ex19 (by omega) (by omega))
  have JIg : Hid (IntsR w19 w9.heap.size w10.heap.size sg ll) := HIg.out.keep (Keep.of_exc ex19 (by omega) (by omega))
  have JRg : Hid (MemR w19 w9.heap.size w10.heap.size mg mm) := HRg.out.keep (Keep.of_exc ex19 (by omega) (by omega))
  have JPg : Hid (PairO w19 w9.heap.size w10.heap.size mg Sg mm (.slice sg ll.length cg) ll) := HPg.out.keep (Keep.of_exc ex19 (by omega) (by omega))
  have JYg : Hid (Bo1 w10.heap.size w19 (.slice mg mm.length kg)) := HYg.out.keep (Keep.of_exc ex19 (by omega) (by omega))
  clear HK
  have HK := JK
  clear JK
  clear HA
  have HA := JA
  clear JA
  clear HIw
  have HIw := JIw
  clear JIw
  clear HRw
  have HRw := JRw
  clear JRw
  clear HFw
  have HFw := JFw
  clear JFw
  clear HXx
  have HXx := JXx
  clear JXx
  clear HRy
  clear HOy
  clear HIg
  have HIg := JIg
  clear JIg
  clear HRg
  have HRg := JRg
  clear JRg
  clear HPg
  have HPg := JPg
  clear JPg
  clear HYg
  have HYg := JYg
  clear JYg
  clear ex19
  obtain ⟨Ac0⟩ := HA.out
  have Az : w.heap.size < w19.heap.size := by omega
  obtain ⟨Fwc0⟩ := HFw.out
  have Fwz : w5.heap.size < w19.heap.size := by omega
  obtain ⟨Xxc0⟩ := HXx.out
  have Xxz : w7.heap.size < w19.heap.size := by omega
  obtain ⟨Ygc0⟩ := HYg.out
  have Ygz : w10.heap.size < w19.heap.size := by omega
  have hmk : ¬ (1 : Int) + (szR l0 : Int) + (l1.length : Int) < 0 := by omega
  go_wp2_with fail
  refine (eqMemory_alike mg xw _ _ _ _ _ _ mm w19 HRg.out HRw.out (by omega) (by omega) F2.out).mono ?_
  rintro e w20 ⟨rfl, hb20⟩
  have z20 := hb20.size
  clear Ac0 Az
  clear Fwc0 Fwz
  clear Xxc0 Xxz
  clear Ygc0 Ygz
  have JK : Hid (Below w.heap.size w w20) := HK.out.trans (hb20.mono (by omega))
  have JA : Hid (Bo1 w.heap.size w20 (.slice s0 l0.length c0)) := HA.out.keep (Keep.of_below hb20 (by omega))
  have JIw : Hid (IntsR w20 w4.heap.size w5.heap.size sw ll) := HIw.out.keep (Keep.of_below hb20 (by omega))
  have JRw : Hid (MemR w20 w4.heap.size w5.heap.size xw mm) := HRw.out.keep (Keep.of_below hb20 (by omega))
  have JFw : Hid (Bo1 w5.heap.size w20 (.slice xw mm.length yw)) := HFw.out.keep (Keep.of_below hb20 (by omega))
  have JXx : Hid (Bo1 w7.heap.size w20 (.slice (some ⟨xx, 0, none⟩) l0.length l0.length)) := HXx.out.keep (Keep.of_below hb20 (by omega))
  have JIg : Hid (IntsR w20 w9.heap.size w10.heap.size sg ll) := HIg.out.keep (Keep.of_below hb20 (by omega))
  have JRg : Hid (MemR w20 w9.heap.size w10.heap.size mg mm) := HRg.out.keep (Keep.of_below hb20 (by omega))
  have JPg : Hid (PairO w20 w9.heap.size w10.heap.size mg Sg mm (.slice sg ll.length cg) ll) := HPg.out.keep (Keep.of_below hb20 (by omega))
  have JYg : Hid (Bo1 w10.heap.size w20 (.slice mg mm.length kg)) := HYg.out.keep (Keep.of_below hb20 (by omega))
  clear HK
  have HK := JK
  clear JK
  clear HA
  have HA := JA
  clear JA
  clear HIw
  have HIw := JIw
  clear JIw
  clear HRw
  have HRw := JRw
  clear JRw
  clear HFw
  have HFw := JFw
  clear JFw
  clear HXx
  have HXx := JXx
  clear JXx
  clear HIg
  have HIg := JIg
  clear JIg
  clear HRg
  have HRg := JRg
  clear JRg
  clear HPg
  have HPg := JPg
  clear JPg
  clear HYg
  have HYg := JYg
  clear JYg
  clear hb20
  obtain ⟨Ac0⟩ := HA.out
  have Az : w.heap.size < w20.heap.size := by omega
  obtain ⟨Fwc0⟩ := HFw.out
  have Fwz : w5.heap.size < w20.heap.size := by omega
  obtain ⟨Xxc0⟩ := HXx.out
  have Xxz : w7.heap.size < w20.heap.size := by omega
  obtain ⟨Ygc0⟩ := HYg.out
  have Ygz : w10.heap.size < w20.heap.size := by omega
  go_wp2_with fail
  refine (eqN_true cg cw HIg.out HIw.out (by omega) (by omega) hL).mono ?_
  rintro e w21 ⟨rfl, hb21⟩
  have z21 := hb21.size
  clear Ac0 Az
  clear Fwc0 Fwz
  clear Xxc0 Xxz
  clear Ygc0 Ygz
  have JK : Hid (Below w.heap.size w w21) := HK.out.trans (hb21.mono (by omega))
  have JA : Hid (Bo1 w.heap.size w21 (.slice s0 l0.length c0)) := HA.out.keep (Keep.of_below hb21 (by omega))
  have JIw : Hid (IntsR w21 w4.heap.size w5.heap.size sw ll) := HIw.out.keep (Keep.of_below hb21 (by omega))
  have JRw : Hid (MemR w21 w4.heap.size w5.heap.size xw mm) := HRw.out.keep (Keep.of_below hb21 (by omega))
  have JFw : Hid (Bo1 w5.heap.size w21 (.slice xw mm.length yw)) := HFw.out.keep (Keep.of_below hb21 (by omega))
  have JXx : Hid (Bo1 w7.heap.size w21 (.slice (some ⟨xx, 0, none⟩) l0.length l0.length)) := HXx.out.keep (Keep.of_below hb21 (by omega))
  have JIg : Hid (IntsR w21 w9.heap.size w10.heap.size sg ll) := HIg.out.keep (Keep.of_below hb21 (by omega))
  have JRg : Hid (MemR w21 w9.heap.size w10.heap.size mg mm) := HRg.out.keep (Keep.of_below hb21 (by omega))
  have JPg : Hid (PairO w21 w9.heap.size w10.heap.size mg Sg mm (.slice sg ll.length cg) ll) := HPg.out.keep (Keep.of_below hb21 (by omega))
  have JYg : Hid (Bo1 w10.heap.size w21 (.slice mg mm.length kg)) := HYg.out.keep (Keep.of_below hb21 (by omega))
  clear HK
  have HK := JK
  clear JK
  clear HA
  have HA := JA
  clear JA
  clear HIw
  have HIw := JIw
  clear JIw
  clear HRw
  have HRw := JRw
  clear JRw
  clear HFw
  have HFw := JFw
  clear JFw
  clear HXx
  have HXx := JXx
  clear JXx
  clear HIg
  have HIg := JIg
  clear JIg
  clear HRg
  have HRg := JRg
  clear JRg
  clear HPg
  have HPg := JPg
  clear JPg
  clear HYg
  have HYg := JYg
  clear JYg
  clear hb21
  obtain ⟨Ac0⟩ := HA.out
  have Az : w.heap.size < w21.heap.size := by omega
  obtain ⟨Fwc0⟩ := HFw.out
  have Fwz : w5.heap.size < w21.heap.size := by omega
  obtain ⟨Xxc0⟩ := HXx.out
  have Xxz : w7.heap.size < w21.heap.size := by omega
  obtain ⟨Ygc0⟩ := HYg.out
  have Ygz : w10.heap.size < w21.heap.size := by omega
  go_wp2_with fail
  refine (markMemory_pair mg Sg mm kg w9.heap.size w10.heap.size _ ll w21 HPg.out (by omega) F2.out).mono ?_
  have P0 := HPg.out
  have HP0 := (show Hid _ from P0)
  clear P0
  rintro e w22 ⟨rfl, hm22, ex22⟩
  have z22 := ex22.size
  clear Ac0 Az
  clear Fwc0 Fwz
  clear Xxc0 Xxz
  clear Ygc0 Ygz
  have JK : Hid (Below w.heap.size w w22) := HK.out.trans (ex22.below (by omega) (by omega))
  have JA : Hid (Bo1 w.heap.size w22 (.slice s0 l0.length c0)) := HA.out.keep (Keep.of_exc ex22 (by omega) (by omega))
  have JIw : Hid (IntsR w22 w4.heap.size w5.heap.size sw ll) := HIw.out.keep (Keep.of_exc ex22 (by omega) (by omega))
  have JRw : Hid (MemR w22 w4.heap.size w5.heap.size xw mm) := HRw.out.keep (Keep.of_exc ex22 (by omega) (by omega))
  have JFw : Hid (Bo1 w5.heap.size w22 (.slice xw mm.length yw)) := HFw.out.keep (Keep.of_exc ex22 (by omega) (by omega))
  have JXx : Hid (Bo1 w7.heap.size w22 (.slice (some ⟨xx, 0, none⟩) l0.length l0.length)) := HXx.out.keep (Keep.of_exc ex22 (by omega) (by omega))
  have JYg : Hid (Bo1 w10.heap.size w22 (.slice mg mm.length kg)) := HYg.out.keep (Keep.of_exc ex22 (by omega) (by omega))
  clear HK
  have HK := JK
  clear JK
  clear HA
  have HA := JA
  clear JA
  clear HIw
  have HIw := JIw
  clear JIw
  clear HRw
  have HRw := JRw
  clear JRw
  clear HFw
  have HFw := JFw
  clear JFw
  clear HXx
  have HXx := JXx
  clear JXx
  clear HIg
  clear HRg
  clear HPg
  clear HYg
  have HYg := JYg
  clear JYg
  have HQ2 := (show Hid _ from hm22)
  clear ex22 hm22
  obtain ⟨Ac0⟩ := HA.out
  have Az : w.heap.size < w22.heap.size := by omega
  obtain ⟨Fwc0⟩ := HFw.out
  have Fwz : w5.heap.size < w22.heap.size := by omega
  obtain ⟨Xxc0⟩ := HXx.out
  have Xxz : w7.heap.size < w22.heap.size := by omega
  obtain ⟨Ygc0⟩ := HYg.out
  have Ygz : w10.heap.size < w22.heap.size := by omega
  go_wp2_with fail
  refine (markN_pair (1 + (szR mm : Int)) HP0.out HQ2.out hL (by omega) (by have := F2.out; omega)).mono ?_
  rintro e w23 ⟨rfl, hm23, ex23⟩
  have z23 := ex23.size
  clear Ac0 Az
  clear Fwc0 Fwz
  clear Xxc0 Xxz
  clear Ygc0 Ygz
  have JK : Hid (Below w.heap.size w w23) := HK.out.trans (ex23.below (by omega) (by omega))
  have JA : Hid (Bo1 w.heap.size w23 (.slice s0 l0.length c0)) := HA.out.keep (Keep.of_exc ex23 (by omega) (by omega))
  have JIw : Hid (IntsR w23 w4.heap.size w5.heap.size sw ll) := HIw.out.keep (Keep.of_exc ex23 (by omega) (by omega))
  have JRw : Hid (MemR w23 w4.heap.size w5.heap.size xw mm) := HRw.out.keep (Keep.of_exc ex23 (by omega) (by omega))
  have JFw : Hid (Bo1 w5.heap.size w23 (.slice xw mm.length yw)) := HFw.out.keep (Keep.of_exc ex23 (by omega) (by omega))
  have JXx : Hid (Bo1 w7.heap.size w23 (.slice (some ⟨xx, 0, none⟩) l0.length l0.length)) := HXx.out.keep (Keep.of_exc ex23 (by omega) (by omega))
  have JYg : Hid (Bo1 w10.heap.size w23 (.slice mg mm.length kg)) := HYg.out.keep (Keep.of_exc ex23 (by omega) (by omega))
  clear HK
  have HK := JK
  clear JK
  clear HA
  have HA := JA
  clear JA
  clear HIw
  have HIw := JIw
  clear JIw
  clear HRw
  have HRw := JRw
  clear JRw
  clear HFw
  have HFw := JFw
  clear JFw
  clear HXx
  have HXx := JXx
  clear JXx
  clear HYg
  have HYg := JYg
  clear JYg
  have HD : Hid (PairM w23 w9.heap.size w10.heap.size mg Sg (.slice sg ll.length cg) (relN (1 + (szR mm : Int)) ll.length)) := hm23
  clear ex23 hm23 HQ2 HP0
  obtain ⟨Ac0⟩ := HA.out
  have Az : w.heap.size < w23.heap.size := by omega
  obtain ⟨Fwc0⟩ := HFw.out
  have Fwz : w5.heap.size < w23.heap.size := by omega
  obtain ⟨Xxc0⟩ := HXx.out
  have Xxz : w7.heap.size < w23.heap.size := by omega
  obtain ⟨Ygc0⟩ := HYg.out
  have Ygz : w10.heap.size < w23.heap.size := by omega
  go_wp2_with fail
  refine (heldMemory_any mg Sg mm kg w9.heap.size w10.heap.size 1 w23 HD.out.m1 (by omega) HZZ.out.1 HZZ.out.2 F2.out (by omega) (by omega)).mono ?_
  rintro e w24 ⟨rfl, hb24⟩
  have z24 := hb24.size
  clear Ac0 Az
  clear Fwc0 Fwz
  clear Xxc0 Xxz
  clear Ygc0 Ygz
  have JK : Hid (Below w.heap.size w w24) := HK.out.trans (hb24.mono (by omega))
  have JA : Hid (Bo1 w.heap.size w24 (.slice s0 l0.length c0)) := HA.out.keep (Keep.of_below hb24 (by omega))
  have JIw : Hid (IntsR w24 w4.heap.size w5.heap.size sw ll) := HIw.out.keep (Keep.of_below hb24 (by omega))
  have JRw : Hid (MemR w24 w4.heap.size w5.heap.size xw mm) := HRw.out.keep (Keep.of_below hb24 (by omega))
  have JFw : Hid (Bo1 w5.heap.size w24 (.slice xw mm.length yw)) := HFw.out.keep (Keep.of_below hb24 (by omega))
  have JXx : Hid (Bo1 w7.heap.size w24 (.slice (some ⟨xx, 0, none⟩) l0.length l0.length)) := HXx.out.keep (Keep.of_below hb24 (by omega))
  have JYg : Hid (Bo1 w10.heap.size w24 (.slice mg mm.length kg)) := HYg.out.keep (Keep.of_below hb24 (by omega))
  have JD : Hid (PairM w24 w9.heap.size w10.heap.size mg Sg (.slice sg ll.length cg) (relN (1 + (szR mm : Int)) ll.length)) := HD.out.keep (Keep.of_below hb24 (by omega))
  clear HK
  have HK := JK
  clear JK
  clear HA
  have HA := JA
  clear JA
  clear HIw
  have HIw := JIw
  clear JIw
  clear HRw
  have HRw := JRw
  clear JRw
  clear HFw
  have HFw := JFw
  clear JFw
  clear HXx
  have HXx := JXx
  clear JXx
  clear HYg
  have HYg := JYg
  clear JYg
  clear HD
  have HD := JD
  clear JD
  clear hb24
  obtain ⟨Ac0⟩ := HA.out
  have Az : w.heap.size < w24.heap.size := by omega
  obtain ⟨Fwc0⟩ := HFw.out
  have Fwz : w5.heap.size < w24.heap.size := by omega
  obtain ⟨Xxc0⟩ := HXx.out
  have Xxz : w7.heap.size < w24.heap.size := by omega
  obtain ⟨Ygc0⟩ := HYg.out
  have Ygz : w10.heap.size < w24.heap.size := by omega
  go_wp2_with fail
  refine (heldN_any w9.heap.size _ _ (1 + (szR mm : Int)) w24 HD.out.nb.o hL (by omega) (by have := F2.out; omega)).mono ?_
  rintro e w25 ⟨rfl, hw25⟩
  subst w25
  go_wp2_with fail
  refine (toMemory_own s0 c0 0 w.heap.size l0 w24 (HA0.out.keep (Keep.of_below HK.out (Nat.le_refl _))) (by omega) FM0.out).mono ?_
  rintro e w26 ⟨xe, Se, rfl, ho26, hb26, z26⟩
  clear Ac0 Az
  clear Fwc0 Fwz
  clear Xxc0 Xxz
  clear Ygc0 Ygz
  have JK : Hid (Below w.heap.size w w26) := HK.out.trans (hb26.mono (by omega))
  have JA : Hid (Bo1 w.heap.size w26 (.slice s0 l0.length c0)) := HA.out.keep (Keep.of_below hb26 (by omega))
  have JIw : Hid (IntsR w26 w4.heap.size w5.heap.size sw ll) := HIw.out.keep (Keep.of_below hb26 (by omega))
  have JRw : Hid (MemR w26 w4.heap.size w5.heap.size xw mm) := HRw.out.keep (Keep.of_below hb26 (by omega))
  have JFw : Hid (Bo1 w5.heap.size w26 (.slice xw mm.length yw)) := HFw.out.keep (Keep.of_below hb26 (by omega))
  have JXx : Hid (Bo1 w7.heap.size w26 (.slice (some ⟨xx, 0, none⟩) l0.length l0.length)) := HXx.out.keep (Keep.of_below hb26 (by omega))
  have JYg : Hid (Bo1 w10.heap.size w26 (.slice mg mm.length kg)) := HYg.out.keep (Keep.of_below hb26 (by omega))
  have JD : Hid (PairM w26 w9.heap.size w10.heap.size mg Sg (.slice sg ll.length cg) (relN (1 + (szR mm : Int)) ll.length)) := HD.out.keep (Keep.of_below hb26 (by omega))
  clear HK
  have HK := JK
  clear JK
  clear HA
  have HA := JA
  clear JA
  clear HIw
  have HIw := JIw
  clear JIw
  clear HRw
  have HRw := JRw
  clear JRw
  clear HFw
  have HFw := JFw
  clear JFw
  clear HXx
  have HXx := JXx
  clear JXx
  clear HYg
  have HYg := JYg
  clear JYg
  clear HD
  have HD := JD
  clear JD
  have HRe : Hid (MemR w26 w24.heap.size w26.heap.size (some ⟨xe, 0, none⟩) l0) := ho26.mem
  clear hb26 ho26
  obtain ⟨Ac0⟩ := HA.out
  have Az : w.heap.size < w26.heap.size := by omega
  obtain ⟨Fwc0⟩ := HFw.out
  have Fwz : w5.heap.size < w26.heap.size := by omega
  obtain ⟨Xxc0⟩ := HXx.out
  have Xxz : w7.heap.size < w26.heap.size := by omega
  obtain ⟨Ygc0⟩ := HYg.out
  have Ygz : w10.heap.size < w26.heap.size := by omega
  go_wp2_with fail
  clear Ac0 Az
  clear Fwc0 Fwz
  clear Xxc0 Xxz
  clear Ygc0 Ygz
  refine (toIntS_ex s1 c1 0 w.heap.size l1 w26 (HA1.out.keep (Keep.of_below HK.out (Nat.le_refl _))) (by omega) n1).mono ?_
  rintro e w27 ⟨xf, rfl, ho27, hb27, z27⟩
  have zz27 := hb27.size
  have JK : Hid (Below w.heap.size w w27) := HK.out.trans (hb27.mono (by omega))
  have JA : Hid (Bo1 w.heap.size w27 (.slice s0 l0.length c0)) := HA.out.keep (Keep.of_below hb27 (by omega))
  have JIw : Hid (IntsR w27 w4.heap.size w5.heap.size sw ll) := HIw.out.keep (Keep.of_below hb27 (by omega))
  have JRw : Hid (MemR w27 w4.heap.size w5.heap.size xw mm) := HRw.out.keep (Keep.of_below hb27 (by omega))
  have JFw : Hid (Bo1 w5.heap.size w27 (.slice xw mm.length yw)) := HFw.out.keep (Keep.of_below hb27 (by omega))
  have JXx : Hid (Bo1 w7.heap.size w27 (.slice (some ⟨xx, 0, none⟩) l0.length l0.length)) := HXx.out.keep (Keep.of_below hb27 (by omega))
  have JYg : Hid (Bo1 w10.heap.size w27 (.slice mg mm.length kg)) := HYg.out.keep (Keep.of_below hb27 (by omega))
  have JD : Hid (PairM w27 w9.heap.size w10.heap.size mg Sg (.slice sg ll.length cg) (relN (1 + (szR mm : Int)) ll.length)) := HD.out.keep (Keep.of_below hb27 (by omega))
  have JRe : Hid (MemR w27 w24.heap.size w26.heap.size (some ⟨xe, 0, none⟩) l0) := HRe.out.keep (Keep.of_below hb27 (by omega))
  clear HK
  have HK := JK
  clear JK
  clear HA
  have HA := JA
  clear JA
  clear HIw
  have HIw := JIw
  clear JIw
  clear HRw
  have HRw := JRw
  clear JRw
  clear HFw
  have HFw := JFw
  clear JFw
  clear HXx
  have HXx := JXx
  clear JXx
  clear HYg
  have HYg := JYg
  clear JYg
  clear HD
  have HD := JD
  clear JD
  clear HRe
  have HRe := JRe
  clear JRe
  have HRf : Hid (IntsR w27 w26.heap.size w27.heap.size (some ⟨xf, 0, none⟩) l1) := ownN_intsR ho27
  clear hb27 ho27
  obtain ⟨Ac0⟩ := HA.out
  have Az : w.heap.size < w27.heap.size := by omega
  obtain ⟨Fwc0⟩ := HFw.out
  have Fwz : w5.heap.size < w27.heap.size := by omega
  obtain ⟨Xxc0⟩ := HXx.out
  have Xxz : w7.heap.size < w27.heap.size := by omega
  obtain ⟨Ygc0⟩ := HYg.out
  have Ygz : w10.heap.size < w27.heap.size := by omega
  go_wp2_with fail
  refine (implSwap_any _ _ _ _ _ _ _ _ l0 l1 l2 l3 w27 HRe.out HRf.out (by omega) (by omega) (by omega) FM0.out).mono ?_
  rintro e w28 ⟨vm28, Sh, u28, rfl, hm28, ho28, hs28, hb28⟩
  rw [HLL.out] at ho28
  rw [HMM.out] at hm28
  rw [HZV.out]
  have z28 := hb28.size
  clear Ac0 Az
  clear Fwc0 Fwz
  clear Xxc0 Xxz
  clear Ygc0 Ygz
  have JK : Hid (Below w.heap.size w w28) := HK.out.trans (hb28.mono (by omega))
  have JA : Hid (Bo1 w.heap.size w28 (.slice s0 l0.length c0)) := HA.out.keep (Keep.of_below hb28 (by omega))
  have JIw : Hid (IntsR w28 w4.heap.size w5.heap.size sw ll) := HIw.out.keep (Keep.of_below hb28 (by omega))
  have JRw : Hid (MemR w28 w4.heap.size w5.heap.size xw mm) := HRw.out.keep (Keep.of_below hb28 (by omega))
  have JFw : Hid (Bo1 w5.heap.size w28 (.slice xw mm.length yw)) := HFw.out.keep (Keep.of_below hb28 (by omega))
  have JXx : Hid (Bo1 w7.heap.size w28 (.slice (some ⟨xx, 0, none⟩) l0.length l0.length)) := HXx.out.keep (Keep.of_below hb28 (by omega))
  have JYg : Hid (Bo1 w10.heap.size w28 (.slice mg mm.length kg)) := HYg.out.keep (Keep.of_below hb28 (by omega))
  have JD : Hid (PairM w28 w9.heap.size w10.heap.size mg Sg (.slice sg ll.length cg) (relN (1 + (szR mm : Int)) ll.length)) := HD.out.keep (Keep.of_below hb28 (by omega))
  have JRe : Hid (MemR w28 w24.heap.size w26.heap.size (some ⟨xe, 0, none⟩) l0) := HRe.out.keep (Keep.of_below hb28 (by omega))
  have JRf : Hid (IntsR w28 w26.heap.size w27.heap.size (some ⟨xf, 0, none⟩) l1) := HRf.out.keep (Keep.of_below hb28 (by omega))
  clear HK
  have HK := JK
  clear JK
  clear HA
  have HA := JA
  clear JA
  clear HIw
  have HIw := JIw
  clear JIw
  clear HRw
  have HRw := JRw
  clear JRw
  clear HFw
  have HFw := JFw
  clear JFw
  clear HXx
  have HXx := JXx
  clear JXx
  clear HYg
  have HYg := JYg
  clear JYg
  clear HD
  have HD := JD
  clear JD
  clear HRe
  have HRe := JRe
  clear JRe
  clear HRf
  have HRf := JRf
  clear JRf
  obtain ⟨mh, kh, rfl, hp28⟩ := pairOf hm28 ho28 hs28
  obtain ⟨sh, ch, rfl, hi28, -⟩ := NB.ints ho28
  have HIh : Hid (IntsR w28 w27.heap.size w28.heap.size sh ll) := hi28
  have HRh : Hid (MemR w28 w27.heap.size w28.heap.size mh mm) := hp28.mo.mem
  clear hb28 ho28 hi28 hm28 hs28 hp28
  obtain ⟨Ac0⟩ := HA.out
  have Az : w.heap.size < w28.heap.size := by omega
  obtain ⟨Fwc0⟩ := HFw.out
  have Fwz : w5.heap.size < w28.heap.size := by omega
  obtain ⟨Xxc0⟩ := HXx.out
  have Xxz : w7.heap.size < w28.heap.size := by omega
  obtain ⟨Ygc0⟩ := HYg.out
  have Ygz : w10.heap.size < w28.heap.size := by omega
  go_wp2_with fail
  obtain ⟨V29, hV29, bx29, kb29, zb29⟩ := Bo1.new w28 (.slice mh mm.length kh) 29
  rw [hV29]
  clear hV29
  clear Ac0 Az
  clear Fwc0 Fwz
  clear Xxc0 Xxz
  clear Ygc0 Ygz
  have JK : Hid (Below w.heap.size w V29) := HK.out.trans (kb29.mono (by omega))
  have JA : Hid (Bo1 w.heap.size V29 (.slice s0 l0.length c0)) := HA.out.keep (Keep.of_below kb29 (by omega))
  have JIw : Hid (IntsR V29 w4.heap.size w5.heap.size sw ll) := HIw.out.keep (Keep.of_below kb29 (by omega))
  have JRw : Hid (MemR V29 w4.heap.size w5.heap.size xw mm) := HRw.out.keep (Keep.of_below kb29 (by omega))
  have JFw : Hid (Bo1 w5.heap.size V29 (.slice xw mm.length yw)) := HFw.out.keep (Keep.of_below kb29 (by omega))
  have JXx : Hid (Bo1 w7.heap.size V29 (.slice (some ⟨xx, 0, none⟩) l0.length l0.length)) := HXx.out.keep (Keep.of_below kb29 (by omega))
  have JYg : Hid (Bo1 w10.heap.size V29 (.slice mg mm.length kg)) := HYg.out.keep (Keep.of_below kb29 (by omega))
  have JD : Hid (PairM V29 w9.heap.size w10.heap.size mg Sg (.slice sg ll.length cg) (relN (1 + (szR mm : Int)) ll.length)) := HD.out.keep (Keep.of_below kb29 (by omega))
  have JRe : Hid (MemR V29 w24.heap.size w26.heap.size (some ⟨xe, 0, none⟩) l0) := HRe.out.keep (Keep.of_below kb29 (by omega))
  have JRf : Hid (IntsR V29 w26.heap.size w27.heap.size (some ⟨xf, 0, none⟩) l1) := HRf.out.keep (Keep.of_below kb29 (by omega))
  have JIh : Hid (IntsR V29 w27.heap.size w28.heap.size sh ll) := HIh.out.keep (Keep.of_below kb29 (by omega))
  have JRh : Hid (MemR V29 w27.heap.size w28.heap.size mh mm) := HRh.out.keep (Keep.of_below kb29 (by omega))
  clear HK
  have HK := JK
  clear JK
  clear HA
  have HA := JA
  clear JA
  clear HIw
  have HIw := JIw
  clear JIw
  clear HRw
  have HRw := JRw
  clear JRw
  clear HFw
  have HFw := JFw
  clear JFw
  clear HXx
  have HXx := JXx
  clear JXx
  clear HYg
  have HYg := JYg
  clear JYg
  clear HD
  have HD := JD
  clear JD
  clear HRe
  have HRe := JRe
  clear JRe
  clear HRf
  have HRf := JRf
  clear JRf
  clear HIh
  have HIh := JIh
  clear JIh
  clear HRh
  have HRh := JRh
  clear JRh
  have HYh : Hid (Bo1 w28.heap.size V29 (.slice mh mm.length kh)) := bx29
  clear bx29 kb29
  obtain ⟨Ac0⟩ := HA.out
  have Az : w.heap.size < V29.heap.size := by omega
  obtain ⟨Fwc0⟩ := HFw.out
  have Fwz : w5.heap.size < V29.heap.size := by omega
  obtain ⟨Xxc0⟩ := HXx.out
  have Xxz : w7.heap.size < V29.heap.size := by omega
  obtain ⟨Ygc0⟩ := HYg.out
  have Ygz : w10.heap.size < V29.heap.size := by omega
  obtain ⟨Yhc0⟩ := HYh.out
  have Yhz : w28.heap.size < V29.heap.size := by omega
  refine (eqMemory_alike mh xw _ _ _ _ _ _ mm V29 HRh.out HRw.out (by omega) (by omega) F2.out).mono ?_
  rintro e w30 ⟨rfl, hb30⟩
  have z30 := hb30.size
  clear Ac0 Az
  clear Fwc0 Fwz
  clear Xxc0 Xxz
  clear Ygc0 Ygz
  clear Yhc0 Yhz
  have JK : Hid (Below w.heap.size w w30) := HK.out.trans (hb30.mono (by omega))
  have JA : Hid (Bo1 w.heap.size w30 (.slice s0 l0.length c0)) := HA.out.keep (Keep.of_below hb30 (by omega))
  have JIw : Hid (IntsR w30 w4.heap.size w5.heap.size sw ll) := HIw.out.keep (Keep.of_below hb30 (by omega))
  have JRw : Hid (MemR w30 w4.heap.size w5.heap.size xw mm) := HRw.out.keep (Keep.of_below hb30 (by omega))
  have JFw : Hid (Bo1 w5.heap.size w30 (.slice xw mm.length yw)) := HFw.out.keep (Keep.of_below hb30 (by omega))
  have JXx : Hid (Bo1 w7.heap.size w30 (.slice (some ⟨xx, 0, none⟩) l0.length l0.length)) := HXx.out.keep (Keep.of_below hb30 (by omega))
  have JYg : Hid (Bo1 w10.heap.size w30 (.slice mg mm.length kg)) := HYg.out.keep (Keep.of_below hb30 (by omega))
  have JD : Hid (PairM w30 w9.heap.size w10.heap.size mg Sg (.slice sg ll.length cg) (relN (1 + (szR mm : Int)) ll.length)) := HD.out.keep (Keep.of_below hb30 (by omega))
  have JRe : Hid (MemR w30 w24.heap.size w26.heap.size (some ⟨xe, 0, none⟩) l0) := HRe.out.keep (Keep.of_below hb30 (by omega))
  have JRf : Hid (IntsR w30 w26.heap.size w27.heap.size (some ⟨xf, 0, none⟩) l1) := HRf.out.keep (Keep.of_below hb30 (by omega))
  have JIh : Hid (IntsR w30 w27.heap.size w28.heap.size sh ll) := HIh.out.keep (Keep.of_below hb30 (by omega))
  have JRh : Hid (MemR w30 w27.heap.size w28.heap.size mh mm) := HRh.out.keep (Keep.of_below hb30 (by omega))
  have JYh : Hid (Bo1 w28.heap.size w30 (.slice mh mm.length kh)) := HYh.out.keep (Keep.of_below hb30 (by omega))
  clear HK
  have HK := JK
  clear JK
  clear HA
  have HA := JA
  clear JA
  clear HIw
  have HIw := JIw
  clear JIw
  clear HRw
  have HRw := JRw
  clear JRw
  clear HFw
  have HFw := JFw
  clear JFw
  clear HXx
  have HXx := JXx
  clear JXx
  clear HYg
  have HYg := JYg
  clear JYg
  clear HD
  have HD := JD
  clear JD
  clear HRe
  have HRe := JRe
  clear JRe
  clear HRf
  have HRf := JRf
  clear JRf
  clear HIh
  have HIh := JIh
  clear JIh
  clear HRh
  have HRh := JRh
  clear JRh
  clear HYh
  have HYh := JYh
  clear JYh
  clear hb30
  obtain ⟨Ac0⟩ := HA.out
  have Az : w.heap.size < w30.heap.size := by omega
  obtain ⟨Fwc0⟩ := HFw.out
  have Fwz : w5.heap.size < w30.heap.size := by omega
  obtain ⟨Xxc0⟩ := HXx.out
  have Xxz : w7.heap.size < w30.heap.size := by omega
  obtain ⟨Ygc0⟩ := HYg.out
  have Ygz : w10.heap.size < w30.heap.size := by omega
  obtain ⟨Yhc0⟩ := HYh.out
  have Yhz : w28.heap.size < w30.heap.size := by omega
  go_wp2_with fail
  refine (eqN_true ch cw HIh.out HIw.out (by omega) (by omega) hL).mono ?_
  rintro e w31 ⟨rfl, hb31⟩
  have z31 := hb31.size
  clear Ac0 Az
  clear Fwc0 Fwz
  clear Xxc0 Xxz
  clear Ygc0 Ygz
  clear Yhc0 Yhz
  have JK : Hid (Below w.heap.size w w31) := HK.out.trans (hb31.mono (by omega))
  have JA : Hid (Bo1 w.heap.size w31 (.slice s0 l0.length c0)) := HA.out.keep (Keep.of_below hb31 (by omega))
  have JIw : Hid (IntsR w31 w4.heap.size w5.heap.size sw ll) := HIw.out.keep (Keep.of_below hb31 (by omega))
  have JRw : Hid (MemR w31 w4.heap.size w5.heap.size xw mm) := HRw.out.keep (Keep.of_below hb31 (by omega))
  have JFw : Hid (Bo1 w5.heap.size w31 (.slice xw mm.length yw)) := HFw.out.keep (Keep.of_below hb31 (by omega))
  have JXx : Hid (Bo1 w7.heap.size w31 (.slice (some ⟨xx, 0, none⟩) l0.length l0.length)) := HXx.out.keep (Keep.of_below hb31 (by omega))
  have JYg : Hid (Bo1 w10.heap.size w31 (.slice mg mm.length kg)) := HYg.out.keep (Keep.of_below hb31 (by omega))
  have JD : Hid (PairM w31 w9.heap.size w10.heap.size mg Sg (.slice sg ll.length cg) (relN (1 + (szR mm : Int)) ll.length)) := HD.out.keep (Keep.of_below hb31 (by omega))
  have JRe : Hid (MemR w31 w24.heap.size w26.heap.size (some ⟨xe, 0, none⟩) l0) := HRe.out.keep (Keep.of_below hb31 (by omega))
  have JRf : Hid (IntsR w31 w26.heap.size w27.heap.size (some ⟨xf, 0, none⟩) l1) := HRf.out.keep (Keep.of_below hb31 (by omega))
  have JIh : Hid (IntsR w31 w27.heap.size w28.heap.size sh ll) := HIh.out.keep (Keep.of_below hb31 (by omega))
  have JRh : Hid (MemR w31 w27.heap.size w28.heap.size mh mm) := HRh.out.keep (Keep.of_below hb31 (by omega))
  have JYh : Hid (Bo1 w28.heap.size w31 (.slice mh mm.length kh)) := HYh.out.keep (Keep.of_below hb31 (by omega))
  clear HK
  have HK := JK
  clear JK
  clear HA
  have HA := JA
  clear JA
  clear HIw
  have HIw := JIw
  clear JIw
  clear HRw
  have HRw := JRw
  clear JRw
  clear HFw
  have HFw := JFw
  clear JFw
  clear HXx
  have HXx := JXx
  clear JXx
  clear HYg
  have HYg := JYg
  clear JYg
  clear HD
  have HD := JD
  clear JD
  clear HRe
  have HRe := JRe
  clear JRe
  clear HRf
  have HRf := JRf
  clear JRf
  clear HIh
  have HIh := JIh
  clear JIh
  clear HRh
  have HRh := JRh
  clear JRh
  clear HYh
  have HYh := JYh
  clear JYh
  clear hb31
  obtain ⟨Ac0⟩ := HA.out
  have Az : w.heap.size < w31.heap.size := by omega
  obtain ⟨Fwc0⟩ := HFw.out
  have Fwz : w5.heap.size < w31.heap.size := by omega
  obtain ⟨Xxc0⟩ := HXx.out
  have Xxz : w7.heap.size < w31.heap.size := by omega
  obtain ⟨Ygc0⟩ := HYg.out
  have Ygz : w10.heap.size < w31.heap.size := by omega
  obtain ⟨Yhc0⟩ := HYh.out
  have Yhz : w28.heap.size < w31.heap.size := by omega
  go_wp2_with fail
  refine (heldMemory_any mg Sg mm kg w9.heap.size w10.heap.size 1 w31 HD.out.m1 (by omega) HZZ.out.1 HZZ.out.2 F2.out (by omega) (by omega)).mono ?_
  rintro e w32 ⟨rfl, hb32⟩
  have z32 := hb32.size
  clear Ac0 Az
  clear Fwc0 Fwz
  clear Xxc0 Xxz
  clear Ygc0 Ygz
  clear Yhc0 Yhz
  have JK : Hid (Below w.heap.size w w32) := HK.out.trans (hb32.mono (by omega))
  have JA : Hid (Bo1 w.heap.size w32 (.slice s0 l0.length c0)) := HA.out.keep (Keep.of_below hb32 (by omega))
  have JIw : Hid (IntsR w32 w4.heap.size w5.heap.size sw ll) := HIw.out.keep (Keep.of_below hb32 (by omega))
  have JRw : Hid (MemR w32 w4.heap.size w5.heap.size xw mm) := HRw.out.keep (Keep.of_below hb32 (by omega))
  have JFw : Hid (Bo1 w5.heap.size w32 (.slice xw mm.length yw)) := HFw.out.keep (Keep.of_below hb32 (by omega))
  have JXx : Hid (Bo1 w7.heap.size w32 (.slice (some ⟨xx, 0, none⟩) l0.length l0.length)) := HXx.out.keep (Keep.of_below hb32 (by omega))
  have JYg : Hid (Bo1 w10.heap.size w32 (.slice mg mm.length kg)) := HYg.out.keep (Keep.of_below hb32 (by omega))
  have JD : Hid (PairM w32 w9.heap.size w10.heap.size mg Sg (.slice sg ll.length cg) (relN (1 + (szR mm : Int)) ll.length)) := HD.out.keep (Keep.of_below hb32 (by omega))
  have JRe : Hid (MemR w32 w24.heap.size w26.heap.size (some ⟨xe, 0, none⟩) l0) := HRe.out.keep (Keep.of_below hb32 (by omega))
  have JRf : Hid (IntsR w32 w26.heap.size w27.heap.size (some ⟨xf, 0, none⟩) l1) := HRf.out.keep (Keep.of_below hb32 (by omega))
  have JIh : Hid (IntsR w32 w27.heap.size w28.heap.size sh ll) := HIh.out.keep (Keep.of_below hb32 (by omega))
  have JRh : Hid (MemR w32 w27.heap.size w28.heap.size mh mm) := HRh.out.keep (Keep.of_below hb32 (by omega))
  have JYh : Hid (Bo1 w28.heap.size w32 (.slice mh mm.length kh)) := HYh.out.keep (Keep.of_below hb32 (by omega))
  clear HK
  have HK := JK
  clear JK
  clear HA
  have HA := JA
  clear JA
  clear HIw
  have HIw := JIw
  clear JIw
  clear HRw
  have HRw := JRw
  clear JRw
  clear HFw
  have HFw := JFw
  clear JFw
  clear HXx
  have HXx := JXx
  clear JXx
  clear HYg
  have HYg := JYg
  clear JYg
  clear HD
  have HD := JD
  clear JD
  clear HRe
  have HRe := JRe
  clear JRe
  clear HRf
  have HRf := JRf
  clear JRf
  clear HIh
  have HIh := JIh
  clear JIh
  clear HRh
  have HRh := JRh
  clear JRh
  clear HYh
  have HYh := JYh
  clear JYh
  clear hb32
  obtain ⟨Ac0⟩ := HA.out
  have Az : w.heap.size < w32.heap.size := by omega
  obtain ⟨Fwc0⟩ := HFw.out
  have Fwz : w5.heap.size < w32.heap.size := by omega
  obtain ⟨Xxc0⟩ := HXx.out
  have Xxz : w7.heap.size < w32.heap.size := by omega
  obtain ⟨Ygc0⟩ := HYg.out
  have Ygz : w10.heap.size < w32.heap.size := by omega
  obtain ⟨Yhc0⟩ := HYh.out
  have Yhz : w28.heap.size < w32.heap.size := by omega
  go_wp2_with fail
  refine (heldN_any w9.heap.size _ _ (1 + (szR mm : Int)) w32 HD.out.nb.o hL (by omega) (by have := F2.out; omega)).mono ?_
  rintro e w33 ⟨rfl, hw33⟩
  subst w33
  go_wp2
  go_ret
  exact ⟨rfl, HK.out⟩

set_option maxRecDepth 100000 in
theorem liftedExactSwap (os : Os) (started : os.Started) (H : Type) (enc : TypeId × Value → H) :
    ReturnsInHanded {} Try.checked os 3 .any (Rows.fnExactSwapSpec.pre6 enc Try.prog Try.f3 Rows.fnExactSwapRow.domain false) (Rows.fnExactSwapSpec.post enc Try.prog Try.f3 false true false false) := by
  refine returnsInHanded_of_change (C := Try.checked) ownP started (by kernel_rfl) Try.func3
    (ChangeSpec.witness6 (enc := enc) (C := Try.checked) false ⟨#[], #[.agg #[.slice none 0 0], .slice none 0 0, .int .i64 0, .int .i64 0], []⟩ 8 (by kernel_rfl) (by kernel_rfl) (by kernel_rfl) (by kernel_rfl)) ?_
  intro W base args ds gs before hval0 hW hcnd _
  have hval : ∀ (j : Nat) t v, Try.f3.params[j]? = some t → args[j]? = some v → Value.okWide Try.prog W .any base t v := hval0
  have hW' := hW
  obtain ⟨p, q, hA0, hV, rfl, hfz, hnd⟩ := hW
  have hA : DataW.TrodAll enc Try.prog W 0 (fun _ => true) true Try.f3.params.toList args.toList ds p := hA0
  rw [Try.params3] at hA hval
  obtain ⟨v0, v1, v2, v3, d0, d1, d2, d3, p0, p1, p2, p3, hargs, rfl, rfl, h0, h1, h2, h3⟩ := trodAll_four hA
  obtain rfl : args = #[v0, v1, v2, v3] := by cases args; simp_all
  obtain ⟨rfl, rfl⟩ := trodVars_none hV
  have k0 := h0
  have lt0 : ∀ x ∈ p0, x.block < W.heap.size := by obtain ⟨m, hm⟩ := k0; exact DataW.trod_lt m _ _ _ hm
  have k1 := h1
  have lt1 : ∀ x ∈ p1, x.block < W.heap.size := by obtain ⟨m, hm⟩ := k1; exact DataW.trod_lt m _ _ _ hm
  have k2 := h2
  have lt2 : ∀ x ∈ p2, x.block < W.heap.size := by obtain ⟨m, hm⟩ := k2; exact DataW.trod_lt m _ _ _ hm
  have k3 := h3
  have lt3 : ∀ x ∈ p3, x.block < W.heap.size := by obtain ⟨m, hm⟩ := k3; exact DataW.trod_lt m _ _ _ hm
  obtain ⟨s0, c0, l0, rfl, m0, hR0⟩ := open_mem (hval 0 24 v0 rfl rfl) h0
  obtain ⟨s1, c1, l1, rfl, m1, hR1⟩ := open_intS (hval 1 25 v1 rfl rfl) h1
  obtain ⟨l2, rfl, -, -, hwf2⟩ := open_int Try.underlying3 (hval 2 3 v2 rfl rfl) h2
  obtain ⟨l3, rfl, -, -, hwf3⟩ := open_int Try.underlying3 (hval 3 3 v3 rfl rfl) h3
  clear hA0 hval0
  refine (walkExactSwap s0 c0 l0 s1 c1 l1 l2 l3 W hR0 m0 hR1 m1 hwf2 hwf3).mono fun e W' ⟨he, bel⟩ => ?_
  subst he
  exact ⟨_, rfl, _, _, _, [], _, [], hW', trodAll_mk1 (shut_bool Try.underlying4 _), trodAll_mk4 (Below.trod laidOutP (by kernel_rfl) (of_decide_eq_true (by kernel_rfl)) k0 bel lt0) (Below.trod laidOutP (by kernel_rfl) (of_decide_eq_true (by kernel_rfl)) k1 bel lt1) (Below.trod laidOutP (by kernel_rfl) (of_decide_eq_true (by kernel_rfl)) k2 bel lt2) (Below.trod laidOutP (by kernel_rfl) (of_decide_eq_true (by kernel_rfl)) k3 bel lt3), rfl, bel.frame _, fun h => by cases h⟩

theorem fnExactSwap_holds : Rows.FnExactSwapSaid :=
  OpenClaim.holds_of_wide 3 Try.f3 rfl rfl rfl rfl rfl rfl rfl ⟨rfl, rfl, rfl, rfl, rfl⟩ rfl rfl rfl rfl rfl (by kernel_rfl) Try.func3 (by kernel_rfl)
    (of_decide_eq_true (by kernel_rfl)) (by unfold Func.isWrapper; first | (rw [if_pos (by decide +kernel)]; kernel_rfl) | (rw [if_neg (by decide +kernel)]; exact ⟨rfl, rfl⟩))
    (fun os started H enc _ => liftedExactSwap os started H enc)
#print axioms fnExactSwap_holds

end Go.Proofs.Ytdggkpbnjcobfab
