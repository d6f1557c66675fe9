/- The law FnExactSaid of the given statements: at every argument Said of the program answers as the specification's, writes into no argument, its answer owns its memory. No condition. -/
import Derived.Test.YtpjlljhcnlhelabSrcFrameS
import Derived.Test.YtpjlljhcnlhelabSrcCopy2
import Derived.Test.YtpjlljhcnlhelabSrcEq
import Derived.Test.YtpjlljhcnlhelabSaidFns
import Derived.Test.YtpjlljhcnlhelabLawKit
import Derived.Deep.RegionHeld3
namespace Go.Proofs.Ytpjlljhcnlhelab
set_option linter.unusedSimpArgs false
set_option linter.unusedVariables false
set_option maxRecDepth 100000
open Go.ChangeShapes Go.WideShapes Go.ChangeAt Go.RowKit Go.Deep

set_option maxRecDepth 100000 in
set_option maxHeartbeats 8000000 in
theorem walkSaid (s1 s2 s3 : Option Addr) (c1 c2 c3 : Nat) (d : SD) (who : Int) (w : World) (h : SrcR w 0 w.heap.size s1 s2 s3 d) (hn : SLens d) :
    Calls Try.prog 3 #[.agg #[.slice s1 d.ths.length c1, .slice s2 d.chs.length c2, .slice s3 d.tr.length c3], .int .i64 who] w fun e w' => e = .returned (.bool true) ∧ Below w.heap.size w w' := by
  have HS : Hid (SrcR w 0 w.heap.size s1 s2 s3 d) := h
  have HN : Hid (SLens d) := hn
  clear h hn
  go_enter Try.func3, Try.ntmps3
  go_wp2_with fail
  have HK : Hid (Below w.heap.size w w) := Below.refl _ _
  obtain ⟨V1, hV1, bx1, kb1, zb1⟩ := Bo3.new w (.slice s1 d.ths.length c1) (.slice s2 d.chs.length c2) (.slice s3 d.tr.length c3) 26
  rw [hV1]
  clear hV1
  have JK : Hid (Below w.heap.size w V1) := HK.out.trans (kb1.mono (by omega))
  clear HK
  have HK := JK
  clear JK
  have HA : Hid (Bo3 w.heap.size V1 (.slice s1 d.ths.length c1) (.slice s2 d.chs.length c2) (.slice s3 d.tr.length c3)) := bx1
  clear bx1 kb1
  refine (szSource_any s1 s2 s3 c1 c2 c3 0 w.heap.size d 1048576 V1 (HS.out.keep (Keep.of_below HK.out (Nat.le_refl _))) (by omega) HN.out (by omega) (by omega)).mono ?_
  rintro e w2 ⟨⟨u, rfl, hu⟩, hb2⟩
  have z2 := hb2.size
  have JK : Hid (Below w.heap.size w w2) := HK.out.trans (hb2.mono (by omega))
  have JA : Hid (Bo3 w.heap.size w2 (.slice s1 d.ths.length c1) (.slice s2 d.chs.length c2) (.slice s3 d.tr.length c3)) := HA.out.keep (Keep.of_below hb2 (by omega))
  clear HK
  have HK := JK
  clear JK
  clear HA
  have HA := JA
  clear JA
  clear hb2
  obtain ⟨Ac0, Ac1, Ac2⟩ := HA.out
  rcases hu with hu | ⟨hu, hf⟩
  · go_wp2
    go_ret
    exact ⟨rfl, HK.out⟩
  have hun : ¬ u < 0 := by omega
  have FS : Hid (SFits d) := hf
  have F3 : d.tr.length ≤ 1048576 := hf.2.2
  clear hf
  have hL : (said who d.tr).length ≤ 1048577 := by have := said_len who d.tr; omega
  have hq1 : ((1 : Int) + ((said who d.tr).length : Int) != 1 + ((said who d.tr).length : Int)) = false := by simp
  have hq2 : ¬ ((1 : Int) + ((said who d.tr).length : Int) < 0) := by omega
  go_wp2_with fail
  refine (toSource_own s1 s2 s3 c1 c2 c3 0 w.heap.size d w2 (HS.out.keep (Keep.of_below HK.out (Nat.le_refl _))) (by omega) FS.out).mono ?_
  rintro e w3 ⟨va3, vb3, vc3, Laa, Lba, rfl, ho3, hb3, z3⟩
  obtain ⟨xa1, ya1, xa2, ya2, xa3, ya3, rfl, rfl, rfl, hs3⟩ := ho3.src
  clear Ac0 Ac1 Ac2
  have JK : Hid (Below w.heap.size w w3) := HK.out.trans (hb3.mono (by omega))
  have JA : Hid (Bo3 w.heap.size w3 (.slice s1 d.ths.length c1) (.slice s2 d.chs.length c2) (.slice s3 d.tr.length c3)) := HA.out.keep (Keep.of_below hb3 (by omega))
  clear HK
  have HK := JK
  clear JK
  clear HA
  have HA := JA
  clear JA
  have HRa : Hid (SrcR w3 w2.heap.size w3.heap.size xa1 xa2 xa3 d) := hs3
  clear hb3 hs3 ho3
  obtain ⟨Ac0, Ac1, Ac2⟩ := HA.out
  go_wp2_with fail
  refine (specSaid_any _ _ xa3 ya3 _ _ d.tr who w3 HRa.out.2.2 (by omega) F3).mono ?_
  rintro e w4 ⟨u4, rfl, ho4, hb4⟩
  have z4 := hb4.size
  clear HRa
  clear Ac0 Ac1 Ac2
  have JK : Hid (Below w.heap.size w w4) := HK.out.trans (hb4.mono (by omega))
  have JA : Hid (Bo3 w.heap.size w4 (.slice s1 d.ths.length c1) (.slice s2 d.chs.length c2) (.slice s3 d.tr.length c3)) := HA.out.keep (Keep.of_below hb4 (by omega))
  clear HK
  have HK := JK
  clear JK
  clear HA
  have HA := JA
  clear JA
  obtain ⟨sw, cw, rfl, hi4, -⟩ := NB.ints ho4
  have HQ : Hid (IntsR w4 w3.heap.size w4.heap.size sw (said who d.tr)) := hi4
  clear hb4 ho4 hi4
  obtain ⟨Ac0, Ac1, Ac2⟩ := HA.out
  go_wp2_with fail
  refine (toSource_own s1 s2 s3 c1 c2 c3 0 w.heap.size d w4 (HS.out.keep (Keep.of_below HK.out (Nat.le_refl _))) (by omega) FS.out).mono ?_
  rintro e w5 ⟨va5, vb5, vc5, Lax, Lbx, rfl, ho5, hb5, z5⟩
  obtain ⟨xx1, yx1, xx2, yx2, xx3, yx3, rfl, rfl, rfl, hs5⟩ := ho5.src
  clear Ac0 Ac1 Ac2
  have JK : Hid (Below w.heap.size w w5) := HK.out.trans (hb5.mono (by omega))
  have JA : Hid (Bo3 w.heap.size w5 (.slice s1 d.ths.length c1) (.slice s2 d.chs.length c2) (.slice s3 d.tr.length c3)) := HA.out.keep (Keep.of_below hb5 (by omega))
  have JQ : Hid (IntsR w5 w3.heap.size w4.heap.size sw (said who d.tr)) := HQ.out.keep (Keep.of_below hb5 (by omega))
  clear HK
  have HK := JK
  clear JK
  clear HA
  have HA := JA
  clear JA
  clear HQ
  have HQ := JQ
  clear JQ
  have HRx : Hid (SrcR w5 w4.heap.size w5.heap.size xx1 xx2 xx3 d) := hs5
  have HOx : Hid (SB w5 w4.heap.size w5.heap.size (.slice xx1 d.ths.length yx1) (.slice xx2 d.chs.length yx2) (.slice xx3 d.tr.length yx3) Lax Lbx d) := SB.of ho5
  clear hb5 hs5 ho5
  obtain ⟨Ac0, Ac1, Ac2⟩ := HA.out
  go_wp2_with fail
  obtain ⟨V6, hV6, bx6, kb6, zb6⟩ := Bo3.new w5 (.slice xx1 d.ths.length yx1) (.slice xx2 d.chs.length yx2) (.slice xx3 d.tr.length yx3) 34
  rw [hV6]
  clear hV6
  clear Ac0 Ac1 Ac2
  have JK : Hid (Below w.heap.size w V6) := HK.out.trans (kb6.mono (by omega))
  have JA : Hid (Bo3 w.heap.size V6 (.slice s1 d.ths.length c1) (.slice s2 d.chs.length c2) (.slice s3 d.tr.length c3)) := HA.out.keep (Keep.of_below kb6 (by omega))
  have JQ : Hid (IntsR V6 w3.heap.size w4.heap.size sw (said who d.tr)) := HQ.out.keep (Keep.of_below kb6 (by omega))
  have JRx : Hid (SrcR V6 w4.heap.size w5.heap.size xx1 xx2 xx3 d) := HRx.out.keep (Keep.of_below kb6 (by omega))
  have JOx : Hid (SB V6 w4.heap.size w5.heap.size (.slice xx1 d.ths.length yx1) (.slice xx2 d.chs.length yx2) (.slice xx3 d.tr.length yx3) Lax Lbx d) := HOx.out.keep (Keep.of_below kb6 (by omega))
  clear HK
  have HK := JK
  clear JK
  clear HA
  have HA := JA
  clear JA
  clear HQ
  have HQ := JQ
  clear JQ
  clear HRx
  have HRx := JRx
  clear JRx
  clear HOx
  have HOx := JOx
  clear JOx
  have HXx : Hid (Bo3 w5.heap.size V6 (.slice xx1 d.ths.length yx1) (.slice xx2 d.chs.length yx2) (.slice xx3 d.tr.length yx3)) := bx6
  clear bx6 kb6
  obtain ⟨Ac0, Ac1, Ac2⟩ := HA.out
  obtain ⟨Xxc0, Xxc1, Xxc2⟩ := HXx.out
  refine (implSaid_any _ _ xx3 yx3 _ _ d.tr who V6 HRx.out.2.2 (by omega) F3).mono ?_
  rintro e w7 ⟨u7, rfl, ho7, hb7⟩
  have z7 := hb7.size
  clear Ac0 Ac1 Ac2
  clear Xxc0 Xxc1 Xxc2
  have JK : Hid (Below w.heap.size w w7) := HK.out.trans (hb7.mono (by omega))
  have JA : Hid (Bo3 w.heap.size w7 (.slice s1 d.ths.length c1) (.slice s2 d.chs.length c2) (.slice s3 d.tr.length c3)) := HA.out.keep (Keep.of_below hb7 (by omega))
  have JQ : Hid (IntsR w7 w3.heap.size w4.heap.size sw (said who d.tr)) := HQ.out.keep (Keep.of_below hb7 (by omega))
  have JRx : Hid (SrcR w7 w4.heap.size w5.heap.size xx1 xx2 xx3 d) := HRx.out.keep (Keep.of_below hb7 (by omega))
  have JOx : Hid (SB w7 w4.heap.size w5.heap.size (.slice xx1 d.ths.length yx1) (.slice xx2 d.chs.length yx2) (.slice xx3 d.tr.length yx3) Lax Lbx d) := HOx.out.keep (Keep.of_below hb7 (by omega))
  have JXx : Hid (Bo3 w5.heap.size w7 (.slice xx1 d.ths.length yx1) (.slice xx2 d.chs.length yx2) (.slice xx3 d.tr.length yx3)) := HXx.out.keep (Keep.of_below hb7 (by omega))
  clear HK
  have HK := JK
  clear JK
  clear HA
  have HA := JA
  clear JA
  clear HQ
  have HQ := JQ
  clear JQ
  clear HRx
  have HRx := JRx
  clear JRx
  clear HOx
  have HOx := JOx
  clear JOx
  clear HXx
  have HXx := JXx
  clear JXx
  obtain ⟨sg, cg, rfl, hi7, hn7⟩ := NB.ints ho7
  have HI : Hid (IntsR w7 V6.heap.size w7.heap.size sg (said who d.tr)) := hi7
  have HG : Hid (NB w7 V6.heap.size w7.heap.size (.slice sg (said who d.tr).length cg) (said who d.tr)) := hn7
  clear hb7 ho7 hi7 hn7
  obtain ⟨Ac0, Ac1, Ac2⟩ := HA.out
  obtain ⟨Xxc0, Xxc1, Xxc2⟩ := HXx.out
  go_wp2_with fail
  refine (eqN_true cg cw HI.out HQ.out (by omega) (by omega) hL).mono ?_
  rintro e w8 ⟨rfl, hb8⟩
  have z8 := hb8.size
  clear Ac0 Ac1 Ac2
  clear Xxc0 Xxc1 Xxc2
  have JK : Hid (Below w.heap.size w w8) := HK.out.trans (hb8.mono (by omega))
  have JA : Hid (Bo3 w.heap.size w8 (.slice s1 d.ths.length c1) (.slice s2 d.chs.length c2) (.slice s3 d.tr.length c3)) := HA.out.keep (Keep.of_below hb8 (by omega))
  have JQ : Hid (IntsR w8 w3.heap.size w4.heap.size sw (said who d.tr)) := HQ.out.keep (Keep.of_below hb8 (by omega))
  have JRx : Hid (SrcR w8 w4.heap.size w5.heap.size xx1 xx2 xx3 d) := HRx.out.keep (Keep.of_below hb8 (by omega))
  have JOx : Hid (SB w8 w4.heap.size w5.heap.size (.slice xx1 d.ths.length yx1) (.slice xx2 d.chs.length yx2) (.slice xx3 d.tr.length yx3) Lax Lbx d) := HOx.out.keep (Keep.of_below hb8 (by omega))
  have JXx : Hid (Bo3 w5.heap.size w8 (.slice xx1 d.ths.length yx1) (.slice xx2 d.chs.length yx2) (.slice xx3 d.tr.length yx3)) := HXx.out.keep (Keep.of_below hb8 (by omega))
  have JI : Hid (IntsR w8 V6.heap.size w7.heap.size sg (said who d.tr)) := HI.out.keep (Keep.of_below hb8 (by omega))
  have JG : Hid (NB w8 V6.heap.size w7.heap.size (.slice sg (said who d.tr).length cg) (said who d.tr)) := HG.out.keep (Keep.of_below hb8 (by omega))
  clear HK
  have HK := JK
  clear JK
  clear HA
  have HA := JA
  clear JA
  clear HQ
  have HQ := JQ
  clear JQ
  clear HRx
  have HRx := JRx
  clear JRx
  clear HOx
  have HOx := JOx
  clear JOx
  clear HXx
  have HXx := JXx
  clear JXx
  clear HI
  have HI := JI
  clear JI
  clear HG
  have HG := JG
  clear JG
  clear hb8
  obtain ⟨Ac0, Ac1, Ac2⟩ := HA.out
  obtain ⟨Xxc0, Xxc1, Xxc2⟩ := HXx.out
  go_wp2_with fail
  go_region_held3 (fun w' => w'.cell? ⟨w5.heap.size, 0, none⟩ = some (.slice xx1 d.ths.length yx1) ∧ w'.cell? ⟨w5.heap.size, 1, none⟩ = some (.slice xx2 d.chs.length yx2) ∧ w'.cell? ⟨w5.heap.size, 2, none⟩ = some (.slice xx3 d.tr.length yx3) ∧ w'.cell? ⟨w.heap.size, 0, none⟩ = some (.slice s1 d.ths.length c1) ∧ w'.cell? ⟨w.heap.size, 1, none⟩ = some (.slice s2 d.chs.length c2) ∧ w'.cell? ⟨w.heap.size, 2, none⟩ = some (.slice s3 d.tr.length c3)) (go_keep) (first | (go_at_call 6; refine (toSource_own s1 s2 s3 c1 c2 c3 0 w.heap.size d w8.drew (HS.out.keep (Keep.of_below HK.out.drew (Nat.le_refl _))) (by show w.heap.size ≤ w8.heap.size; omega) FS.out).mono ?_; rintro e w9 ⟨va9, vb9, vc9, Ma9, Mb9, rfl, ho9, hb9, hz9⟩; obtain ⟨f1, h1, f2, h2, f3, h3, rfl, rfl, rfl, hs9⟩ := ho9.src; have kx : Below w8.heap.size w8 w9 := (Below.drew (Below.refl _ _)).trans hb9; have kz := kx.size; have XX := HXx.out.keep (Keep.of_below kx (by omega)); have AA := HA.out.keep (Keep.of_below kx (by omega)); have t0 := XX.c0; have t1 := XX.c1; have t2 := XX.c2; have t3 := AA.c0; have t4 := AA.c1; have t5 := AA.c2) | (go_at_call 9; refine (eqSource_alike xx1 xx2 xx3 f1 f2 f3 _ _ _ _ _ _ w4.heap.size w5.heap.size w8.heap.size w9.heap.size d w9 (HRx.out.keep (Keep.of_below kx (by omega))) hs9 (by omega) (Nat.le_refl _) FS.out).mono ?_; rintro e w10 ⟨rfl, hb10⟩; have ky : Below w8.heap.size w8 w10 := kx.trans (hb10.mono (by omega)); have XY := XX.keep (Keep.of_below hb10 (by omega)); have AY := AA.keep (Keep.of_below hb10 (by omega)); have u0 := XY.c0; have u1 := XY.c1; have u2 := XY.c2; have u3 := AY.c0; have u4 := AY.c1; have u5 := AY.c2))
  have z10 := ky.size
  clear t0 t1 t2 t3 t4 t5 u0 u1 u2 u3 u4 u5 XX AA XY AY hb9 hb10 hs9 ho9 hz9 kx kz
  clear Ac0 Ac1 Ac2
  clear Xxc0 Xxc1 Xxc2
  have JK : Hid (Below w.heap.size w w10) := HK.out.trans (ky.mono (by omega))
  have JA : Hid (Bo3 w.heap.size w10 (.slice s1 d.ths.length c1) (.slice s2 d.chs.length c2) (.slice s3 d.tr.length c3)) := HA.out.keep (Keep.of_below ky (by omega))
  have JQ : Hid (IntsR w10 w3.heap.size w4.heap.size sw (said who d.tr)) := HQ.out.keep (Keep.of_below ky (by omega))
  have JRx : Hid (SrcR w10 w4.heap.size w5.heap.size xx1 xx2 xx3 d) := HRx.out.keep (Keep.of_below ky (by omega))
  have JOx : Hid (SB w10 w4.heap.size w5.heap.size (.slice xx1 d.ths.length yx1) (.slice xx2 d.chs.length yx2) (.slice xx3 d.tr.length yx3) Lax Lbx d) := HOx.out.keep (Keep.of_below ky (by omega))
  have JXx : Hid (Bo3 w5.heap.size w10 (.slice xx1 d.ths.length yx1) (.slice xx2 d.chs.length yx2) (.slice xx3 d.tr.length yx3)) := HXx.out.keep (Keep.of_below ky (by omega))
  have JI : Hid (IntsR w10 V6.heap.size w7.heap.size sg (said who d.tr)) := HI.out.keep (Keep.of_below ky (by omega))
  have JG : Hid (NB w10 V6.heap.size w7.heap.size (.slice sg (said who d.tr).length cg) (said who d.tr)) := HG.out.keep (Keep.of_below ky (by omega))
  clear HK
  have HK := JK
  clear JK
  clear HA
  have HA := JA
  clear JA
  clear HQ
  have HQ := JQ
  clear JQ
  clear HRx
  have HRx := JRx
  clear JRx
  clear HOx
  have HOx := JOx
  clear JOx
  clear HXx
  have HXx := JXx
  clear JXx
  clear HI
  have HI := JI
  clear JI
  clear HG
  have HG := JG
  clear JG
  clear ky
  obtain ⟨Ac0, Ac1, Ac2⟩ := HA.out
  obtain ⟨Xxc0, Xxc1, Xxc2⟩ := HXx.out
  go_wp2_with fail
  refine (markSource_exc 1 HOx.out FS.out (by omega) (by omega)).mono ?_
  rintro e w11 ⟨rfl, -, ex11⟩
  have z11 := ex11.size
  have hmk : ¬ (1 : Int) + (sumQ Lax : Int) + sumQ Lbx + 2 * d.tr.length < 0 := by omega
  clear Ac0 Ac1 Ac2
  clear Xxc0 Xxc1 Xxc2
  have JK : Hid (Below w.heap.size w w11) := HK.out.trans (ex11.below (by omega) (by omega))
  have JA : Hid (Bo3 w.heap.size w11 (.slice s1 d.ths.length c1) (.slice s2 d.chs.length c2) (.slice s3 d.tr.length c3)) := HA.out.keep (Keep.of_exc ex11 (by omega) (by omega))
  have JQ : Hid (IntsR w11 w3.heap.size w4.heap.size sw (said who d.tr)) := HQ.out.keep (Keep.of_exc ex11 (by omega) (by omega))
  have JXx : Hid (Bo3 w5.heap.size w11 (.slice xx1 d.ths.length yx1) (.slice xx2 d.chs.length yx2) (.slice xx3 d.tr.length yx3)) := HXx.out.keep (Keep.of_exc ex11 (by omega) (by omega))
  have JI : Hid (IntsR w11 V6.heap.size w7.heap.size sg (said who d.tr)) := HI.out.keep (Keep.of_exc ex11 (by omega) (by omega))
  have JG : Hid (NB w11 V6.heap.size w7.heap.size (.slice sg (said who d.tr).length cg) (said who d.tr)) := HG.out.keep (Keep.of_exc ex11 (by omega) (by omega))
  clear HK
  have HK := JK
  clear JK
  clear HA
  have HA := JA
  clear JA
  clear HQ
  have HQ := JQ
  clear JQ
  clear HRx
  clear HOx
  clear HXx
  have HXx := JXx
  clear JXx
  clear HI
  have HI := JI
  clear JI
  clear HG
  have HG := JG
  clear JG
  clear ex11
  obtain ⟨Ac0, Ac1, Ac2⟩ := HA.out
  obtain ⟨Xxc0, Xxc1, Xxc2⟩ := HXx.out
  go_wp2_with fail
  refine (eqN_true cg cw HI.out HQ.out (by omega) (by omega) hL).mono ?_
  rintro e w12 ⟨rfl, hb12⟩
  have z12 := hb12.size
  clear Ac0 Ac1 Ac2
  clear Xxc0 Xxc1 Xxc2
  have JK : Hid (Below w.heap.size w w12) := HK.out.trans (hb12.mono (by omega))
  have JA : Hid (Bo3 w.heap.size w12 (.slice s1 d.ths.length c1) (.slice s2 d.chs.length c2) (.slice s3 d.tr.length c3)) := HA.out.keep (Keep.of_below hb12 (by omega))
  have JQ : Hid (IntsR w12 w3.heap.size w4.heap.size sw (said who d.tr)) := HQ.out.keep (Keep.of_below hb12 (by omega))
  have JXx : Hid (Bo3 w5.heap.size w12 (.slice xx1 d.ths.length yx1) (.slice xx2 d.chs.length yx2) (.slice xx3 d.tr.length yx3)) := HXx.out.keep (Keep.of_below hb12 (by omega))
  have JI : Hid (IntsR w12 V6.heap.size w7.heap.size sg (said who d.tr)) := HI.out.keep (Keep.of_below hb12 (by omega))
  have JG : Hid (NB w12 V6.heap.size w7.heap.size (.slice sg (said who d.tr).length cg) (said who d.tr)) := HG.out.keep (Keep.of_below hb12 (by omega))
  clear HK
  have HK := JK
  clear JK
  clear HA
  have HA := JA
  clear JA
  clear HQ
  have HQ := JQ
  clear JQ
  clear HXx
  have HXx := JXx
  clear JXx
  clear HI
  have HI := JI
  clear JI
  clear HG
  have HG := JG
  clear JG
  clear hb12
  obtain ⟨Ac0, Ac1, Ac2⟩ := HA.out
  obtain ⟨Xxc0, Xxc1, Xxc2⟩ := HXx.out
  go_wp2_with fail
  refine (markN_exc 1 HG.out hL (by omega) (by omega)).mono ?_
  rintro e w13 ⟨rfl, hm13, ex13⟩
  have z13 := ex13.size
  clear Ac0 Ac1 Ac2
  clear Xxc0 Xxc1 Xxc2
  have JK : Hid (Below w.heap.size w w13) := HK.out.trans (ex13.below (by omega) (by omega))
  have JA : Hid (Bo3 w.heap.size w13 (.slice s1 d.ths.length c1) (.slice s2 d.chs.length c2) (.slice s3 d.tr.length c3)) := HA.out.keep (Keep.of_exc ex13 (by omega) (by omega))
  have JQ : Hid (IntsR w13 w3.heap.size w4.heap.size sw (said who d.tr)) := HQ.out.keep (Keep.of_exc ex13 (by omega) (by omega))
  have JXx : Hid (Bo3 w5.heap.size w13 (.slice xx1 d.ths.length yx1) (.slice xx2 d.chs.length yx2) (.slice xx3 d.tr.length yx3)) := HXx.out.keep (Keep.of_exc ex13 (by omega) (by omega))
  clear HK
  have HK := JK
  clear JK
  clear HA
  have HA := JA
  clear JA
  clear HQ
  have HQ := JQ
  clear JQ
  clear HXx
  have HXx := JXx
  clear JXx
  clear HI
  clear HG
  have HD : Hid (NB w13 V6.heap.size w7.heap.size (.slice sg (said who d.tr).length cg) (relN 1 (said who d.tr).length)) := hm13
  clear ex13 hm13
  obtain ⟨Ac0, Ac1, Ac2⟩ := HA.out
  obtain ⟨Xxc0, Xxc1, Xxc2⟩ := HXx.out
  go_wp2_with fail
  refine (heldN_any V6.heap.size _ _ 1 w13 HD.out.o hL (by omega) (by omega)).mono ?_
  rintro e w14 ⟨rfl, hw14⟩
  rw [hw14]
  clear hw14 w14
  go_wp2_with fail
  refine (toSource_own s1 s2 s3 c1 c2 c3 0 w.heap.size d w13 (HS.out.keep (Keep.of_below HK.out (Nat.le_refl _))) (by omega) FS.out).mono ?_
  rintro e w15 ⟨va15, vb15, vc15, Lah, Lbh, rfl, ho15, hb15, z15⟩
  obtain ⟨xh1, yh1, xh2, yh2, xh3, yh3, rfl, rfl, rfl, hs15⟩ := ho15.src
  clear Ac0 Ac1 Ac2
  clear Xxc0 Xxc1 Xxc2
  have JK : Hid (Below w.heap.size w w15) := HK.out.trans (hb15.mono (by omega))
  have JA : Hid (Bo3 w.heap.size w15 (.slice s1 d.ths.length c1) (.slice s2 d.chs.length c2) (.slice s3 d.tr.length c3)) := HA.out.keep (Keep.of_below hb15 (by omega))
  have JQ : Hid (IntsR w15 w3.heap.size w4.heap.size sw (said who d.tr)) := HQ.out.keep (Keep.of_below hb15 (by omega))
  have JXx : Hid (Bo3 w5.heap.size w15 (.slice xx1 d.ths.length yx1) (.slice xx2 d.chs.length yx2) (.slice xx3 d.tr.length yx3)) := HXx.out.keep (Keep.of_below hb15 (by omega))
  have JD : Hid (NB w15 V6.heap.size w7.heap.size (.slice sg (said who d.tr).length cg) (relN 1 (said who d.tr).length)) := HD.out.keep (Keep.of_below hb15 (by omega))
  clear HK
  have HK := JK
  clear JK
  clear HA
  have HA := JA
  clear JA
  clear HQ
  have HQ := JQ
  clear JQ
  clear HXx
  have HXx := JXx
  clear JXx
  clear HD
  have HD := JD
  clear JD
  have HRh : Hid (SrcR w15 w13.heap.size w15.heap.size xh1 xh2 xh3 d) := hs15
  clear hb15 hs15 ho15
  obtain ⟨Ac0, Ac1, Ac2⟩ := HA.out
  obtain ⟨Xxc0, Xxc1, Xxc2⟩ := HXx.out
  go_wp2_with fail
  refine (implSaid_any _ _ xh3 yh3 _ _ d.tr who w15 HRh.out.2.2 (by omega) F3).mono ?_
  rintro e w16 ⟨u16, rfl, ho16, hb16⟩
  have z16 := hb16.size
  clear HRh
  clear Ac0 Ac1 Ac2
  clear Xxc0 Xxc1 Xxc2
  have JK : Hid (Below w.heap.size w w16) := HK.out.trans (hb16.mono (by omega))
  have JA : Hid (Bo3 w.heap.size w16 (.slice s1 d.ths.length c1) (.slice s2 d.chs.length c2) (.slice s3 d.tr.length c3)) := HA.out.keep (Keep.of_below hb16 (by omega))
  have JQ : Hid (IntsR w16 w3.heap.size w4.heap.size sw (said who d.tr)) := HQ.out.keep (Keep.of_below hb16 (by omega))
  have JXx : Hid (Bo3 w5.heap.size w16 (.slice xx1 d.ths.length yx1) (.slice xx2 d.chs.length yx2) (.slice xx3 d.tr.length yx3)) := HXx.out.keep (Keep.of_below hb16 (by omega))
  have JD : Hid (NB w16 V6.heap.size w7.heap.size (.slice sg (said who d.tr).length cg) (relN 1 (said who d.tr).length)) := HD.out.keep (Keep.of_below hb16 (by omega))
  clear HK
  have HK := JK
  clear JK
  clear HA
  have HA := JA
  clear JA
  clear HQ
  have HQ := JQ
  clear JQ
  clear HXx
  have HXx := JXx
  clear JXx
  clear HD
  have HD := JD
  clear JD
  obtain ⟨sh, ch, rfl, hi16, -⟩ := NB.ints ho16
  have HE : Hid (IntsR w16 w15.heap.size w16.heap.size sh (said who d.tr)) := hi16
  clear hb16 ho16 hi16
  obtain ⟨Ac0, Ac1, Ac2⟩ := HA.out
  obtain ⟨Xxc0, Xxc1, Xxc2⟩ := HXx.out
  go_wp2_with fail
  refine (eqN_true ch cw HE.out HQ.out (by omega) (by omega) hL).mono ?_
  rintro e w17 ⟨rfl, hb17⟩
  have z17 := hb17.size
  clear Ac0 Ac1 Ac2
  clear Xxc0 Xxc1 Xxc2
  have JK : Hid (Below w.heap.size w w17) := HK.out.trans (hb17.mono (by omega))
  have JA : Hid (Bo3 w.heap.size w17 (.slice s1 d.ths.length c1) (.slice s2 d.chs.length c2) (.slice s3 d.tr.length c3)) := HA.out.keep (Keep.of_below hb17 (by omega))
  have JQ : Hid (IntsR w17 w3.heap.size w4.heap.size sw (said who d.tr)) := HQ.out.keep (Keep.of_below hb17 (by omega))
  have JXx : Hid (Bo3 w5.heap.size w17 (.slice xx1 d.ths.length yx1) (.slice xx2 d.chs.length yx2) (.slice xx3 d.tr.length yx3)) := HXx.out.keep (Keep.of_below hb17 (by omega))
  have JD : Hid (NB w17 V6.heap.size w7.heap.size (.slice sg (said who d.tr).length cg) (relN 1 (said who d.tr).length)) := HD.out.keep (Keep.of_below hb17 (by omega))
  have JE : Hid (IntsR w17 w15.heap.size w16.heap.size sh (said who d.tr)) := HE.out.keep (Keep.of_below hb17 (by omega))
  clear HK
  have HK := JK
  clear JK
  clear HA
  have HA := JA
  clear JA
  clear HQ
  have HQ := JQ
  clear JQ
  clear HXx
  have HXx := JXx
  clear JXx
  clear HD
  have HD := JD
  clear JD
  clear HE
  have HE := JE
  clear JE
  clear hb17
  obtain ⟨Ac0, Ac1, Ac2⟩ := HA.out
  obtain ⟨Xxc0, Xxc1, Xxc2⟩ := HXx.out
  go_wp2_with fail
  refine (heldN_any V6.heap.size _ _ 1 w17 HD.out.o hL (by omega) (by omega)).mono ?_
  rintro e w18 ⟨rfl, hw18⟩
  rw [hw18]
  clear hw18 w18
  go_wp2
  go_ret
  exact ⟨rfl, HK.out⟩

set_option maxRecDepth 100000 in
theorem liftedExactSaid (os : Os) (started : os.Started) (H : Type) (enc : TypeId × Value → H) :
    ReturnsInHanded {} Try.checked os 3 .any (Rows.fnExactSaidSpec.pre6 enc Try.prog Try.f3 Rows.fnExactSaidRow.domain false) (Rows.fnExactSaidSpec.post enc Try.prog Try.f3 false true false false) := by
  refine returnsInHanded_of_change (C := Try.checked) ownP started (by kernel_rfl) Try.func3
    (ChangeSpec.witness6 (enc := enc) (C := Try.checked) false ⟨#[], #[.agg #[.slice none 0 0, .slice none 0 0, .slice none 0 0], .int .i64 0], []⟩ 8 (by kernel_rfl) (by kernel_rfl) (by kernel_rfl) (by kernel_rfl)) ?_
  intro W base args ds gs before hval0 hW hcnd _
  have hval : ∀ (j : Nat) t v, Try.f3.params[j]? = some t → args[j]? = some v → Value.okWide Try.prog W .any base t v := hval0
  have hW' := hW
  obtain ⟨p, q, hA0, hV, rfl, hfz, hnd⟩ := hW
  have hA : DataW.TrodAll enc Try.prog W 0 (fun _ => true) true Try.f3.params.toList args.toList ds p := hA0
  rw [Try.params3] at hA hval
  obtain ⟨v0, v1, d0, d1, p0, p1, hargs, rfl, rfl, h0, h1⟩ := trodAll_two hA
  obtain rfl : args = #[v0, v1] := by cases args; simp_all
  obtain ⟨rfl, rfl⟩ := trodVars_none hV
  have k0 := h0
  have lt0 : ∀ x ∈ p0, x.block < W.heap.size := by obtain ⟨m, hm⟩ := k0; exact DataW.trod_lt m _ _ _ hm
  have k1 := h1
  have lt1 : ∀ x ∈ p1, x.block < W.heap.size := by obtain ⟨m, hm⟩ := k1; exact DataW.trod_lt m _ _ _ hm
  obtain ⟨s1, s2, s3, c1, c2, c3, sd, rfl, hn, hS⟩ := open_source (hval 0 26 v0 rfl rfl) h0
  obtain ⟨who, rfl, hwf⟩ := open_int Try.underlying3 (hval 1 3 v1 rfl rfl) h1
  clear hA0 hval0
  refine (walkSaid s1 s2 s3 c1 c2 c3 sd who W hS hn).mono fun e W' ⟨he, bel⟩ => ?_
  subst he
  exact ⟨_, rfl, _, _, _, [], _, [], hW', trodAll_mk1 (shut_bool Try.underlying4 _), trodAll_mk2 (Below.trod laidOutP (by kernel_rfl) (of_decide_eq_true (by kernel_rfl)) k0 bel lt0) (Below.trod laidOutP (by kernel_rfl) (of_decide_eq_true (by kernel_rfl)) k1 bel lt1), rfl, bel.frame _, fun h => by cases h⟩

theorem fnExactSaid_holds : Rows.FnExactSaidSaid :=
  OpenClaim.holds_of_wide 3 Try.f3 rfl rfl rfl rfl rfl rfl rfl ⟨rfl, rfl, rfl, rfl, rfl⟩ rfl rfl rfl rfl rfl (by kernel_rfl) Try.func3 (by kernel_rfl)
    (of_decide_eq_true (by kernel_rfl)) (by unfold Func.isWrapper; first | (rw [if_pos (by decide +kernel)]; kernel_rfl) | (rw [if_neg (by decide +kernel)]; exact ⟨rfl, rfl⟩))
    (fun os started H enc _ => liftedExactSaid os started H enc)
#print axioms fnExactSaid_holds

end Go.Proofs.Ytpjlljhcnlhelab
