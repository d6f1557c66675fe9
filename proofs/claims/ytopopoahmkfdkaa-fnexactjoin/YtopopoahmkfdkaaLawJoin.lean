/- The law FnExactJoin of the given statements: at every argument Join of the program answers as the specification's, writes into no argument, its answer owns its memory. No condition. -/
import Derived.Test.YtopopoahmkfdkaaFrameN
import Derived.Test.YtopopoahmkfdkaaViews
import Derived.Deep.RegionHeld3
namespace Go.Proofs.Ytopopoahmkfdkaa
set_option linter.unusedSimpArgs false
set_option linter.unusedVariables false
set_option maxRecDepth 100000
open Go.ChangeShapes Go.WideShapes Go.ChangeAt Go.RowKit Go.Deep

set_option maxRecDepth 100000 in
set_option maxHeartbeats 8000000 in
theorem walkExactJoin (s0 : Option Addr) (c0 : Nat) (l0 : List Int) (s1 : Option Addr) (c1 : Nat) (l1 : List Int) (w : World) (h0 : IntsR w 0 w.heap.size s0 l0) (m0 : l0.length ≤ maxLen) (h1 : IntsR w 0 w.heap.size s1 l1) (m1 : l1.length ≤ maxLen) :
    Calls Try.prog 6 #[.slice s0 l0.length c0, .slice s1 l1.length c1] w fun e w' => e = .returned (.bool true) ∧ Below w.heap.size w w' := by
  have HA0 : Hid (IntsR w 0 w.heap.size s0 l0) := h0
  clear h0
  unfold maxLen at m0
  have HA1 : Hid (IntsR w 0 w.heap.size s1 l1) := h1
  clear h1
  unfold maxLen at m1
  by_cases b0 : (l0.length : Int) > 1048576
  · go_enter Try.func6, Try.ntmps6
    go_wp2
    go_ret
    exact ⟨rfl, Below.refl _ _⟩
  have n0 : l0.length ≤ 1048576 := by omega
  by_cases b1 : (l1.length : Int) > 1048576
  · go_enter Try.func6, Try.ntmps6
    go_wp2
    go_ret
    exact ⟨rfl, Below.refl _ _⟩
  have n1 : l1.length ≤ 1048576 := by omega
  go_enter Try.func6, Try.ntmps6
  go_wp2_with fail
  have HK : Hid (Below w.heap.size w w) := Below.refl _ _
  have hL : (joinL l0 l1).length ≤ 1048577 := by rw [join_len]; omega
  have hq1 : ((1 : Int) + ((joinL l0 l1).length : Int) != 1 + ((joinL l0 l1).length : Int)) = false := by simp
  have hq2 : ¬ ((1 : Int) + ((joinL l0 l1).length : Int) < 0) := by omega
  refine (toIntS_own s0 c0 0 w.heap.size l0 w (HA0.out.keep (Keep.of_below HK.out (Nat.le_refl _))) (by omega) n0).mono ?_
  rintro e w1 ⟨rfl, ho1, hb1, z1⟩
  have zz1 := hb1.size
  have JK : Hid (Below w.heap.size w w1) := HK.out.trans (hb1.mono (by omega))
  clear HK
  have HK := JK
  clear JK
  have HRa : Hid (IntsR w1 w.heap.size w1.heap.size (some ⟨w.heap.size, 0, none⟩) l0) := ownN_intsR ho1
  clear hb1 ho1
  go_wp2_with fail
  refine (toIntS_own s1 c1 0 w.heap.size l1 w1 (HA1.out.keep (Keep.of_below HK.out (Nat.le_refl _))) (by omega) n1).mono ?_
  rintro e w2 ⟨rfl, ho2, hb2, z2⟩
  have zz2 := hb2.size
  have JK : Hid (Below w.heap.size w w2) := HK.out.trans (hb2.mono (by omega))
  have JRa : Hid (IntsR w2 w.heap.size w1.heap.size (some ⟨w.heap.size, 0, none⟩) l0) := HRa.out.keep (Keep.of_below hb2 (by omega))
  clear HK
  have HK := JK
  clear JK
  clear HRa
  have HRa := JRa
  clear JRa
  have HRb : Hid (IntsR w2 w1.heap.size w2.heap.size (some ⟨w1.heap.size, 0, none⟩) l1) := ownN_intsR ho2
  clear hb2 ho2
  go_wp2_with fail
  refine (specJoin_any _ _ _ _ _ _ _ _ l0 l1 w2 HRa.out HRb.out (by omega) (by omega) (by omega) (by omega)).mono ?_
  rintro e w3 ⟨u3, rfl, ho3, hb3⟩
  have z3 := hb3.size
  have JK : Hid (Below w.heap.size w w3) := HK.out.trans (hb3.mono (by omega))
  have JRa : Hid (IntsR w3 w.heap.size w1.heap.size (some ⟨w.heap.size, 0, none⟩) l0) := HRa.out.keep (Keep.of_below hb3 (by omega))
  have JRb : Hid (IntsR w3 w1.heap.size w2.heap.size (some ⟨w1.heap.size, 0, none⟩) l1) := HRb.out.keep (Keep.of_below hb3 (by omega))
  clear HK
  have HK := JK
  clear JK
  clear HRa
  have HRa := JRa
  clear JRa
  clear HRb
  have HRb := JRb
  clear JRb
  obtain ⟨sw, cw, rfl, hi3, hn3⟩ := NB.ints ho3
  have HIw : Hid (IntsR w3 w2.heap.size w3.heap.size sw (joinL l0 l1)) := hi3
  clear hb3 ho3 hi3 hn3
  clear HRa
  clear HRb
  go_wp2_with fail
  refine (toIntS_own s0 c0 0 w.heap.size l0 w3 (HA0.out.keep (Keep.of_below HK.out (Nat.le_refl _))) (by omega) n0).mono ?_
  rintro e w4 ⟨rfl, ho4, hb4, z4⟩
  have zz4 := hb4.size
  have JK : Hid (Below w.heap.size w w4) := HK.out.trans (hb4.mono (by omega))
  have JIw : Hid (IntsR w4 w2.heap.size w3.heap.size sw (joinL l0 l1)) := HIw.out.keep (Keep.of_below hb4 (by omega))
  clear HK
  have HK := JK
  clear JK
  clear HIw
  have HIw := JIw
  clear JIw
  have HRx : Hid (IntsR w4 w3.heap.size w4.heap.size (some ⟨w3.heap.size, 0, none⟩) l0) := ownN_intsR ho4
  have HOx : Hid (NB w4 w3.heap.size w4.heap.size (.slice (some ⟨w3.heap.size, 0, none⟩) l0.length l0.length) l0) := NB.of ho4
  clear hb4 ho4
  go_wp2_with fail
  refine (toIntS_own s1 c1 0 w.heap.size l1 w4 (HA1.out.keep (Keep.of_below HK.out (Nat.le_refl _))) (by omega) n1).mono ?_
  rintro e w5 ⟨rfl, ho5, hb5, z5⟩
  have zz5 := hb5.size
  have JK : Hid (Below w.heap.size w w5) := HK.out.trans (hb5.mono (by omega))
  have JIw : Hid (IntsR w5 w2.heap.size w3.heap.size sw (joinL l0 l1)) := HIw.out.keep (Keep.of_below hb5 (by omega))
  have JRx : Hid (IntsR w5 w3.heap.size w4.heap.size (some ⟨w3.heap.size, 0, none⟩) l0) := HRx.out.keep (Keep.of_below hb5 (by omega))
  have JOx : Hid (NB w5 w3.heap.size w4.heap.size (.slice (some ⟨w3.heap.size, 0, none⟩) l0.length l0.length) l0) := HOx.out.keep (Keep.of_below hb5 (by omega))
  clear HK
  have HK := JK
  clear JK
  clear HIw
  have HIw := JIw
  clear JIw
  clear HRx
  have HRx := JRx
  clear JRx
  clear HOx
  have HOx := JOx
  clear JOx
  have HRy : Hid (IntsR w5 w4.heap.size w5.heap.size (some ⟨w4.heap.size, 0, none⟩) l1) := ownN_intsR ho5
  have HOy : Hid (NB w5 w4.heap.size w5.heap.size (.slice (some ⟨w4.heap.size, 0, none⟩) l1.length l1.length) l1) := NB.of ho5
  clear hb5 ho5
  go_wp2_with fail
  refine (implJoin_any _ _ _ _ _ _ _ _ l0 l1 w5 HRx.out HRy.out (by omega) (by omega) (by omega) (by omega) (Nat.le_refl _)).mono ?_
  rintro e w6 ⟨u6, rfl, ho6, hb6⟩
  have z6 := hb6.size
  have JK : Hid (Below w.heap.size w w6) := HK.out.trans (hb6.mono (by omega))
  have JIw : Hid (IntsR w6 w2.heap.size w3.heap.size sw (joinL l0 l1)) := HIw.out.keep (Keep.of_below hb6 (by omega))
  have JRx : Hid (IntsR w6 w3.heap.size w4.heap.size (some ⟨w3.heap.size, 0, none⟩) l0) := HRx.out.keep (Keep.of_below hb6 (by omega))
  have JOx : Hid (NB w6 w3.heap.size w4.heap.size (.slice (some ⟨w3.heap.size, 0, none⟩) l0.length l0.length) l0) := HOx.out.keep (Keep.of_below hb6 (by omega))
  have JRy : Hid (IntsR w6 w4.heap.size w5.heap.size (some ⟨w4.heap.size, 0, none⟩) l1) := HRy.out.keep (Keep.of_below hb6 (by omega))
  have JOy : Hid (NB w6 w4.heap.size w5.heap.size (.slice (some ⟨w4.heap.size, 0, none⟩) l1.length l1.length) l1) := HOy.out.keep (Keep.of_below hb6 (by omega))
  clear HK
  have HK := JK
  clear JK
  clear HIw
  have HIw := JIw
  clear JIw
  clear HRx
  have HRx := JRx
  clear JRx
  clear HOx
  have HOx := JOx
  clear JOx
  clear HRy
  have HRy := JRy
  clear JRy
  clear HOy
  have HOy := JOy
  clear JOy
  obtain ⟨sg, cg, rfl, hi6, hn6⟩ := NB.ints ho6
  have HIg : Hid (IntsR w6 w5.heap.size w6.heap.size sg (joinL l0 l1)) := hi6
  have HGg : Hid (NB w6 w5.heap.size w6.heap.size (.slice sg (joinL l0 l1).length cg) (joinL l0 l1)) := hn6
  clear hb6 ho6 hi6 hn6
  go_wp2_with fail
  refine (eqN_true cg cw HIg.out HIw.out (by omega) (by omega) hL).mono ?_
  rintro e w7 ⟨rfl, hb7⟩
  have z7 := hb7.size
  have JK : Hid (Below w.heap.size w w7) := HK.out.trans (hb7.mono (by omega))
  have JIw : Hid (IntsR w7 w2.heap.size w3.heap.size sw (joinL l0 l1)) := HIw.out.keep (Keep.of_below hb7 (by omega))
  have JRx : Hid (IntsR w7 w3.heap.size w4.heap.size (some ⟨w3.heap.size, 0, none⟩) l0) := HRx.out.keep (Keep.of_below hb7 (by omega))
  have JOx : Hid (NB w7 w3.heap.size w4.heap.size (.slice (some ⟨w3.heap.size, 0, none⟩) l0.length l0.length) l0) := HOx.out.keep (Keep.of_below hb7 (by omega))
  have JRy : Hid (IntsR w7 w4.heap.size w5.heap.size (some ⟨w4.heap.size, 0, none⟩) l1) := HRy.out.keep (Keep.of_below hb7 (by omega))
  have JOy : Hid (NB w7 w4.heap.size w5.heap.size (.slice (some ⟨w4.heap.size, 0, none⟩) l1.length l1.length) l1) := HOy.out.keep (Keep.of_below hb7 (by omega))
  have JIg : Hid (IntsR w7 w5.heap.size w6.heap.size sg (joinL l0 l1)) := HIg.out.keep (Keep.of_below hb7 (by omega))
  have JGg : Hid (NB w7 w5.heap.size w6.heap.size (.slice sg (joinL l0 l1).length cg) (joinL l0 l1)) := HGg.out.keep (Keep.of_below hb7 (by omega))
  clear HK
  have HK := JK
  clear JK
  clear HIw
  have HIw := JIw
  clear JIw
  clear HRx
  have HRx := JRx
  clear JRx
  clear HOx
  have HOx := JOx
  clear JOx
  clear HRy
  have HRy := JRy
  clear JRy
  clear HOy
  have HOy := JOy
  clear JOy
  clear HIg
  have HIg := JIg
  clear JIg
  clear HGg
  have HGg := JGg
  clear JGg
  clear hb7
  go_wp2_with fail
  refine (toIntS_own s0 c0 0 w.heap.size l0 w7 (HA0.out.keep (Keep.of_below HK.out (Nat.le_refl _))) (by omega) n0).mono ?_
  rintro e w8 ⟨rfl, ho8, hb8, z8⟩
  have zz8 := hb8.size
  have JK : Hid (Below w.heap.size w w8) := HK.out.trans (hb8.mono (by omega))
  have JIw : Hid (IntsR w8 w2.heap.size w3.heap.size sw (joinL l0 l1)) := HIw.out.keep (Keep.of_below hb8 (by omega))
  have JRx : Hid (IntsR w8 w3.heap.size w4.heap.size (some ⟨w3.heap.size, 0, none⟩) l0) := HRx.out.keep (Keep.of_below hb8 (by omega))
  have JOx : Hid (NB w8 w3.heap.size w4.heap.size (.slice (some ⟨w3.heap.size, 0, none⟩) l0.length l0.length) l0) := HOx.out.keep (Keep.of_below hb8 (by omega))
  have JRy : Hid (IntsR w8 w4.heap.size w5.heap.size (some ⟨w4.heap.size, 0, none⟩) l1) := HRy.out.keep (Keep.of_below hb8 (by omega))
  have JOy : Hid (NB w8 w4.heap.size w5.heap.size (.slice (some ⟨w4.heap.size, 0, none⟩) l1.length l1.length) l1) := HOy.out.keep (Keep.of_below hb8 (by omega))
  have JIg : Hid (IntsR w8 w5.heap.size w6.heap.size sg (joinL l0 l1)) := HIg.out.keep (Keep.of_below hb8 (by omega))
  have JGg : Hid (NB w8 w5.heap.size w6.heap.size (.slice sg (joinL l0 l1).length cg) (joinL l0 l1)) := HGg.out.keep (Keep.of_below hb8 (by omega))
  clear HK
  have HK := JK
  clear JK
  clear HIw
  have HIw := JIw
  clear JIw
  clear HRx
  have HRx := JRx
  clear JRx
  clear HOx
  have HOx := JOx
  clear JOx
  clear HRy
  have HRy := JRy
  clear JRy
  clear HOy
  have HOy := JOy
  clear JOy
  clear HIg
  have HIg := JIg
  clear JIg
  clear HGg
  have HGg := JGg
  clear JGg
  have HRc : Hid (IntsR w8 w7.heap.size w8.heap.size (some ⟨w7.heap.size, 0, none⟩) l0) := ownN_intsR ho8
  clear hb8 ho8
  go_wp2_with fail
  refine (eqN_true _ _ HRx.out HRc.out (by omega) (by omega) (by omega)).mono ?_
  rintro e w9 ⟨rfl, hb9⟩
  have z9 := hb9.size
  have JK : Hid (Below w.heap.size w w9) := HK.out.trans (hb9.mono (by omega))
  have JIw : Hid (IntsR w9 w2.heap.size w3.heap.size sw (joinL l0 l1)) := HIw.out.keep (Keep.of_below hb9 (by omega))
  have JRx : Hid (IntsR w9 w3.heap.size w4.heap.size (some ⟨w3.heap.size, 0, none⟩) l0) := HRx.out.keep (Keep.of_below hb9 (by omega))
  have JOx : Hid (NB w9 w3.heap.size w4.heap.size (.slice (some ⟨w3.heap.size, 0, none⟩) l0.length l0.length) l0) := HOx.out.keep (Keep.of_below hb9 (by omega))
  have JRy : Hid (IntsR w9 w4.heap.size w5.heap.size (some ⟨w4.heap.size, 0, none⟩) l1) := HRy.out.keep (Keep.of_below hb9 (by omega))
  have JOy : Hid (NB w9 w4.heap.size w5.heap.size (.slice (some ⟨w4.heap.size, 0, none⟩) l1.length l1.length) l1) := HOy.out.keep (Keep.of_below hb9 (by omega))
  have JIg : Hid (IntsR w9 w5.heap.size w6.heap.size sg (joinL l0 l1)) := HIg.out.keep (Keep.of_below hb9 (by omega))
  have JGg : Hid (NB w9 w5.heap.size w6.heap.size (.slice sg (joinL l0 l1).length cg) (joinL l0 l1)) := HGg.out.keep (Keep.of_below hb9 (by omega))
  have JRc : Hid (IntsR w9 w7.heap.size w8.heap.size (some ⟨w7.heap.size, 0, none⟩) l0) := HRc.out.keep (Keep.of_below hb9 (by omega))
  clear HK
  have HK := JK
  clear JK
  clear HIw
  have HIw := JIw
  clear JIw
  clear HRx
  have HRx := JRx
  clear JRx
  clear HOx
  have HOx := JOx
  clear JOx
  clear HRy
  have HRy := JRy
  clear JRy
  clear HOy
  have HOy := JOy
  clear JOy
  clear HIg
  have HIg := JIg
  clear JIg
  clear HGg
  have HGg := JGg
  clear JGg
  clear HRc
  have HRc := JRc
  clear JRc
  clear hb9
  go_wp2_with fail
  refine (toIntS_own s1 c1 0 w.heap.size l1 w9 (HA1.out.keep (Keep.of_below HK.out (Nat.le_refl _))) (by omega) n1).mono ?_
  rintro e w10 ⟨rfl, ho10, hb10, z10⟩
  have zz10 := hb10.size
  have JK : Hid (Below w.heap.size w w10) := HK.out.trans (hb10.mono (by omega))
  have JIw : Hid (IntsR w10 w2.heap.size w3.heap.size sw (joinL l0 l1)) := HIw.out.keep (Keep.of_below hb10 (by omega))
  have JRx : Hid (IntsR w10 w3.heap.size w4.heap.size (some ⟨w3.heap.size, 0, none⟩) l0) := HRx.out.keep (Keep.of_below hb10 (by omega))
  have JOx : Hid (NB w10 w3.heap.size w4.heap.size (.slice (some ⟨w3.heap.size, 0, none⟩) l0.length l0.length) l0) := HOx.out.keep (Keep.of_below hb10 (by omega))
  have JRy : Hid (IntsR w10 w4.heap.size w5.heap.size (some ⟨w4.heap.size, 0, none⟩) l1) := HRy.out.keep (Keep.of_below hb10 (by omega))
  have JOy : Hid (NB w10 w4.heap.size w5.heap.size (.slice (some ⟨w4.heap.size, 0, none⟩) l1.length l1.length) l1) := HOy.out.keep (Keep.of_below hb10 (by omega))
  have JIg : Hid (IntsR w10 w5.heap.size w6.heap.size sg (joinL l0 l1)) := HIg.out.keep (Keep.of_below hb10 (by omega))
  have JGg : Hid (NB w10 w5.heap.size w6.heap.size (.slice sg (joinL l0 l1).length cg) (joinL l0 l1)) := HGg.out.keep (Keep.of_below hb10 (by omega))
  have JRc : Hid (IntsR w10 w7.heap.size w8.heap.size (some ⟨w7.heap.size, 0, none⟩) l0) := HRc.out.keep (Keep.of_below hb10 (by omega))
  clear HK
  have HK := JK
  clear JK
  clear HIw
  have HIw := JIw
  clear JIw
  clear HRx
  have HRx := JRx
  clear JRx
  clear HOx
  have HOx := JOx
  clear JOx
  clear HRy
  have HRy := JRy
  clear JRy
  clear HOy
  have HOy := JOy
  clear JOy
  clear HIg
  have HIg := JIg
  clear JIg
  clear HGg
  have HGg := JGg
  clear JGg
  clear HRc
  have HRc := JRc
  clear JRc
  have HRd : Hid (IntsR w10 w9.heap.size w10.heap.size (some ⟨w9.heap.size, 0, none⟩) l1) := ownN_intsR ho10
  clear hb10 ho10
  go_wp2_with fail
  refine (eqN_true _ _ HRy.out HRd.out (by omega) (by omega) (by omega)).mono ?_
  rintro e w11 ⟨rfl, hb11⟩
  have z11 := hb11.size
  have JK : Hid (Below w.heap.size w w11) := HK.out.trans (hb11.mono (by omega))
  have JIw : Hid (IntsR w11 w2.heap.size w3.heap.size sw (joinL l0 l1)) := HIw.out.keep (Keep.of_below hb11 (by omega))
  have JRx : Hid (IntsR w11 w3.heap.size w4.heap.size (some ⟨w3.heap.size, 0, none⟩) l0) := HRx.out.keep (Keep.of_below hb11 (by omega))
  have JOx : Hid (NB w11 w3.heap.size w4.heap.size (.slice (some ⟨w3.heap.size, 0, none⟩) l0.length l0.length) l0) := HOx.out.keep (Keep.of_below hb11 (by omega))
  have JRy : Hid (IntsR w11 w4.heap.size w5.heap.size (some ⟨w4.heap.size, 0, none⟩) l1) := HRy.out.keep (Keep.of_below hb11 (by omega))
  have JOy : Hid (NB w11 w4.heap.size w5.heap.size (.slice (some ⟨w4.heap.size, 0, none⟩) l1.length l1.length) l1) := HOy.out.keep (Keep.of_below hb11 (by omega))
  have JIg : Hid (IntsR w11 w5.heap.size w6.heap.size sg (joinL l0 l1)) := HIg.out.keep (Keep.of_below hb11 (by omega))
  have JGg : Hid (NB w11 w5.heap.size w6.heap.size (.slice sg (joinL l0 l1).length cg) (joinL l0 l1)) := HGg.out.keep (Keep.of_below hb11 (by omega))
  have JRc : Hid (IntsR w11 w7.heap.size w8.heap.size (some ⟨w7.heap.size, 0, none⟩) l0) := HRc.out.keep (Keep.of_below hb11 (by omega))
  have JRd : Hid (IntsR w11 w9.heap.size w10.heap.size (some ⟨w9.heap.size, 0, none⟩) l1) := HRd.out.keep (Keep.of_below hb11 (by omega))
  clear HK
  have HK := JK
  clear JK
  clear HIw
  have HIw := JIw
  clear JIw
  clear HRx
  have HRx := JRx
  clear JRx
  clear HOx
  have HOx := JOx
  clear JOx
  clear HRy
  have HRy := JRy
  clear JRy
  clear HOy
  have HOy := JOy
  clear JOy
  clear HIg
  have HIg := JIg
  clear JIg
  clear HGg
  have HGg := JGg
  clear JGg
  clear HRc
  have HRc := JRc
  clear JRc
  clear HRd
  have HRd := JRd
  clear JRd
  clear hb11
  go_wp2_with fail
  clear HRc
  clear HRd
  refine (markN_exc (1) HOx.out (by omega) (by omega) (by omega)).mono ?_
  rintro e w12 ⟨rfl, hm12, ex12⟩
  have z12 := ex12.size
  have JK : Hid (Below w.heap.size w w12) := HK.out.trans (ex12.below (by omega) (by omega))
  have JIw : Hid (IntsR w12 w2.heap.size w3.heap.size sw (joinL l0 l1)) := HIw.out.keep (Keep.of_exc ex12 (by omega) (by omega))
  have JRy : Hid (IntsR w12 w4.heap.size w5.heap.size (some ⟨w4.heap.size, 0, none⟩) l1) := HRy.out.keep (Keep.of_exc ex12 (by omega) (by omega))
  have JOy : Hid (NB w12 w4.heap.size w5.heap.size (.slice (some ⟨w4.heap.size, 0, none⟩) l1.length l1.length) l1) := HOy.out.keep (Keep.of_exc ex12 (by omega) (by omega))
  have JIg : Hid (IntsR w12 w5.heap.size w6.heap.size sg (joinL l0 l1)) := HIg.out.keep (Keep.of_exc ex12 (by omega) (by omega))
  have JGg : Hid (NB w12 w5.heap.size w6.heap.size (.slice sg (joinL l0 l1).length cg) (joinL l0 l1)) := HGg.out.keep (Keep.of_exc ex12 (by omega) (by omega))
  clear HK
  have HK := JK
  clear JK
  clear HIw
  have HIw := JIw
  clear JIw
  clear HRx
  clear HOx
  clear HRy
  have HRy := JRy
  clear JRy
  clear HOy
  have HOy := JOy
  clear JOy
  clear HIg
  have HIg := JIg
  clear JIg
  clear HGg
  have HGg := JGg
  clear JGg
  clear ex12 hm12
  go_wp2_with fail
  refine (markN_exc (1 + (l0.length : Int)) HOy.out (by omega) (by omega) (by omega)).mono ?_
  rintro e w13 ⟨rfl, hm13, ex13⟩
  have z13 := ex13.size
  have JK : Hid (Below w.heap.size w w13) := HK.out.trans (ex13.below (by omega) (by omega))
  have JIw : Hid (IntsR w13 w2.heap.size w3.heap.size sw (joinL l0 l1)) := HIw.out.keep (Keep.of_exc ex13 (by omega) (by omega))
  have JIg : Hid (IntsR w13 w5.heap.size w6.heap.size sg (joinL l0 l1)) := HIg.out.keep (Keep.of_exc ex13 (by omega) (by omega))
  have JGg : Hid (NB w13 w5.heap.size w6.heap.size (.slice sg (joinL l0 l1).length cg) (joinL l0 l1)) := HGg.out.keep (Keep.of_exc ex13 (by omega) (by omega))
  clear HK
  have HK := JK
  clear JK
  clear HIw
  have HIw := JIw
  clear JIw
  clear HRy
  clear HOy
  clear HIg
  have HIg := JIg
  clear JIg
  clear HGg
  have HGg := JGg
  clear JGg
  clear ex13 hm13
  have hmk : ¬ (1 : Int) + (l0.length : Int) + (l1.length : Int) < 0 := by omega
  go_wp2_with fail
  refine (eqN_true cg cw HIg.out HIw.out (by omega) (by omega) hL).mono ?_
  rintro e w14 ⟨rfl, hb14⟩
  have z14 := hb14.size
  have JK : Hid (Below w.heap.size w w14) := HK.out.trans (hb14.mono (by omega))
  have JIw : Hid (IntsR w14 w2.heap.size w3.heap.size sw (joinL l0 l1)) := HIw.out.keep (Keep.of_below hb14 (by omega))
  have JIg : Hid (IntsR w14 w5.heap.size w6.heap.size sg (joinL l0 l1)) := HIg.out.keep (Keep.of_below hb14 (by omega))
  have JGg : Hid (NB w14 w5.heap.size w6.heap.size (.slice sg (joinL l0 l1).length cg) (joinL l0 l1)) := HGg.out.keep (Keep.of_below hb14 (by omega))
  clear HK
  have HK := JK
  clear JK
  clear HIw
  have HIw := JIw
  clear JIw
  clear HIg
  have HIg := JIg
  clear JIg
  clear HGg
  have HGg := JGg
  clear JGg
  clear hb14
  go_wp2_with fail
  refine (markN_exc (1) HGg.out hL (by omega) (by omega)).mono ?_
  rintro e w15 ⟨rfl, hm15, ex15⟩
  have z15 := ex15.size
  have JK : Hid (Below w.heap.size w w15) := HK.out.trans (ex15.below (by omega) (by omega))
  have JIw : Hid (IntsR w15 w2.heap.size w3.heap.size sw (joinL l0 l1)) := HIw.out.keep (Keep.of_exc ex15 (by omega) (by omega))
  clear HK
  have HK := JK
  clear JK
  clear HIw
  have HIw := JIw
  clear JIw
  clear HIg
  clear HGg
  have HD : Hid (NB w15 w5.heap.size w6.heap.size (.slice sg (joinL l0 l1).length cg) (relN 1 (joinL l0 l1).length)) := hm15
  clear ex15 hm15
  go_wp2_with fail
  refine (heldN_any w5.heap.size _ _ 1 w15 HD.out.o hL (by omega) (by omega)).mono ?_
  rintro e w16 ⟨rfl, hw16⟩
  subst w16
  go_wp2_with fail
  refine (toIntS_own s0 c0 0 w.heap.size l0 w15 (HA0.out.keep (Keep.of_below HK.out (Nat.le_refl _))) (by omega) n0).mono ?_
  rintro e w17 ⟨rfl, ho17, hb17, z17⟩
  have zz17 := hb17.size
  have JK : Hid (Below w.heap.size w w17) := HK.out.trans (hb17.mono (by omega))
  have JIw : Hid (IntsR w17 w2.heap.size w3.heap.size sw (joinL l0 l1)) := HIw.out.keep (Keep.of_below hb17 (by omega))
  have JD : Hid (NB w17 w5.heap.size w6.heap.size (.slice sg (joinL l0 l1).length cg) (relN 1 (joinL l0 l1).length)) := HD.out.keep (Keep.of_below hb17 (by omega))
  clear HK
  have HK := JK
  clear JK
  clear HIw
  have HIw := JIw
  clear JIw
  clear HD
  have HD := JD
  clear JD
  have HRe : Hid (IntsR w17 w15.heap.size w17.heap.size (some ⟨w15.heap.size, 0, none⟩) l0) := ownN_intsR ho17
  clear hb17 ho17
  go_wp2_with fail
  refine (toIntS_own s1 c1 0 w.heap.size l1 w17 (HA1.out.keep (Keep.of_below HK.out (Nat.le_refl _))) (by omega) n1).mono ?_
  rintro e w18 ⟨rfl, ho18, hb18, z18⟩
  have zz18 := hb18.size
  have JK : Hid (Below w.heap.size w w18) := HK.out.trans (hb18.mono (by omega))
  have JIw : Hid (IntsR w18 w2.heap.size w3.heap.size sw (joinL l0 l1)) := HIw.out.keep (Keep.of_below hb18 (by omega))
  have JD : Hid (NB w18 w5.heap.size w6.heap.size (.slice sg (joinL l0 l1).length cg) (relN 1 (joinL l0 l1).length)) := HD.out.keep (Keep.of_below hb18 (by omega))
  have JRe : Hid (IntsR w18 w15.heap.size w17.heap.size (some ⟨w15.heap.size, 0, none⟩) l0) := HRe.out.keep (Keep.of_below hb18 (by omega))
  clear HK
  have HK := JK
  clear JK
  clear HIw
  have HIw := JIw
  clear JIw
  clear HD
  have HD := JD
  clear JD
  clear HRe
  have HRe := JRe
  clear JRe
  have HRf : Hid (IntsR w18 w17.heap.size w18.heap.size (some ⟨w17.heap.size, 0, none⟩) l1) := ownN_intsR ho18
  clear hb18 ho18
  go_wp2_with fail
  refine (implJoin_any _ _ _ _ _ _ _ _ l0 l1 w18 HRe.out HRf.out (by omega) (by omega) (by omega) (by omega) (Nat.le_refl _)).mono ?_
  rintro e w19 ⟨u19, rfl, ho19, hb19⟩
  have z19 := hb19.size
  have JK : Hid (Below w.heap.size w w19) := HK.out.trans (hb19.mono (by omega))
  have JIw : Hid (IntsR w19 w2.heap.size w3.heap.size sw (joinL l0 l1)) := HIw.out.keep (Keep.of_below hb19 (by omega))
  have JD : Hid (NB w19 w5.heap.size w6.heap.size (.slice sg (joinL l0 l1).length cg) (relN 1 (joinL l0 l1).length)) := HD.out.keep (Keep.of_below hb19 (by omega))
  have JRe : Hid (IntsR w19 w15.heap.size w17.heap.size (some ⟨w15.heap.size, 0, none⟩) l0) := HRe.out.keep (Keep.of_below hb19 (by omega))
  have JRf : Hid (IntsR w19 w17.heap.size w18.heap.size (some ⟨w17.heap.size, 0, none⟩) l1) := HRf.out.keep (Keep.of_below hb19 (by omega))
  clear HK
  have HK := JK
  clear JK
  clear HIw
  have HIw := JIw
  clear JIw
  clear HD
  have HD := JD
  clear JD
  clear HRe
  have HRe := JRe
  clear JRe
  clear HRf
  have HRf := JRf
  clear JRf
  obtain ⟨sh, ch, rfl, hi19, hn19⟩ := NB.ints ho19
  have HIh : Hid (IntsR w19 w18.heap.size w19.heap.size sh (joinL l0 l1)) := hi19
  clear hb19 ho19 hi19 hn19
  go_wp2_with fail
  refine (eqN_true ch cw HIh.out HIw.out (by omega) (by omega) hL).mono ?_
  rintro e w20 ⟨rfl, hb20⟩
  have z20 := hb20.size
  have JK : Hid (Below w.heap.size w w20) := HK.out.trans (hb20.mono (by omega))
  have JIw : Hid (IntsR w20 w2.heap.size w3.heap.size sw (joinL l0 l1)) := HIw.out.keep (Keep.of_below hb20 (by omega))
  have JD : Hid (NB w20 w5.heap.size w6.heap.size (.slice sg (joinL l0 l1).length cg) (relN 1 (joinL l0 l1).length)) := HD.out.keep (Keep.of_below hb20 (by omega))
  have JRe : Hid (IntsR w20 w15.heap.size w17.heap.size (some ⟨w15.heap.size, 0, none⟩) l0) := HRe.out.keep (Keep.of_below hb20 (by omega))
  have JRf : Hid (IntsR w20 w17.heap.size w18.heap.size (some ⟨w17.heap.size, 0, none⟩) l1) := HRf.out.keep (Keep.of_below hb20 (by omega))
  have JIh : Hid (IntsR w20 w18.heap.size w19.heap.size sh (joinL l0 l1)) := HIh.out.keep (Keep.of_below hb20 (by omega))
  clear HK
  have HK := JK
  clear JK
  clear HIw
  have HIw := JIw
  clear JIw
  clear HD
  have HD := JD
  clear JD
  clear HRe
  have HRe := JRe
  clear JRe
  clear HRf
  have HRf := JRf
  clear JRf
  clear HIh
  have HIh := JIh
  clear JIh
  clear hb20
  go_wp2_with fail
  refine (heldN_any w5.heap.size _ _ 1 w20 HD.out.o hL (by omega) (by omega)).mono ?_
  rintro e w21 ⟨rfl, hw21⟩
  subst w21
  go_wp2
  go_ret
  exact ⟨rfl, HK.out⟩

set_option maxRecDepth 100000 in
theorem liftedExactJoin (os : Os) (started : os.Started) (H : Type) (enc : TypeId × Value → H) :
    ReturnsInHanded {} Try.checked os 6 .any (Rows.fnExactJoinSpec.pre6 enc Try.prog Try.f6 Rows.fnExactJoinRow.domain false) (Rows.fnExactJoinSpec.post enc Try.prog Try.f6 false true false false) := by
  refine returnsInHanded_of_change (C := Try.checked) ownP started (by kernel_rfl) Try.func6
    (ChangeSpec.witness6 (enc := enc) (C := Try.checked) false ⟨#[], #[.slice none 0 0, .slice none 0 0], []⟩ 8 (by kernel_rfl) (by kernel_rfl) (by kernel_rfl) (by kernel_rfl)) ?_
  intro W base args ds gs before hval0 hW hcnd _
  have hval : ∀ (j : Nat) t v, Try.f6.params[j]? = some t → args[j]? = some v → Value.okWide Try.prog W .any base t v := hval0
  have hW' := hW
  obtain ⟨p, q, hA0, hV, rfl, hfz, hnd⟩ := hW
  have hA : DataW.TrodAll enc Try.prog W 0 (fun _ => true) true Try.f6.params.toList args.toList ds p := hA0
  rw [Try.params6] at hA hval
  obtain ⟨v0, v1, d0, d1, p0, p1, hargs, rfl, rfl, h0, h1⟩ := trodAll_two hA
  obtain rfl : args = #[v0, v1] := by cases args; simp_all
  obtain ⟨rfl, rfl⟩ := trodVars_none hV
  have k0 := h0
  have lt0 : ∀ x ∈ p0, x.block < W.heap.size := by obtain ⟨m, hm⟩ := k0; exact DataW.trod_lt m _ _ _ hm
  have k1 := h1
  have lt1 : ∀ x ∈ p1, x.block < W.heap.size := by obtain ⟨m, hm⟩ := k1; exact DataW.trod_lt m _ _ _ hm
  obtain ⟨s0, c0, l0, rfl, m0, hR0⟩ := open_intS (hval 0 25 v0 rfl rfl) h0
  obtain ⟨s1, c1, l1, rfl, m1, hR1⟩ := open_intS (hval 1 25 v1 rfl rfl) h1
  clear hA0 hval0
  refine (walkExactJoin s0 c0 l0 s1 c1 l1 W hR0 m0 hR1 m1).mono fun e W' ⟨he, bel⟩ => ?_
  subst he
  exact ⟨_, rfl, _, _, _, [], _, [], hW', trodAll_mk1 (shut_bool Try.underlying4 _), trodAll_mk2 (Below.trod laidOutP (by kernel_rfl) (of_decide_eq_true (by kernel_rfl)) k0 bel lt0) (Below.trod laidOutP (by kernel_rfl) (of_decide_eq_true (by kernel_rfl)) k1 bel lt1), rfl, bel.frame _, fun h => by cases h⟩

theorem fnExactJoin_holds : Rows.FnExactJoinSaid :=
  OpenClaim.holds_of_wide 6 Try.f6 rfl rfl rfl rfl rfl rfl rfl ⟨rfl, rfl, rfl, rfl, rfl⟩ rfl rfl rfl rfl rfl (by kernel_rfl) Try.func6 (by kernel_rfl)
    (of_decide_eq_true (by kernel_rfl)) (by unfold Func.isWrapper; first | (rw [if_pos (by decide +kernel)]; kernel_rfl) | (rw [if_neg (by decide +kernel)]; exact ⟨rfl, rfl⟩))
    (fun os started H enc _ => liftedExactJoin os started H enc)
#print axioms fnExactJoin_holds

end Go.Proofs.Ytopopoahmkfdkaa
