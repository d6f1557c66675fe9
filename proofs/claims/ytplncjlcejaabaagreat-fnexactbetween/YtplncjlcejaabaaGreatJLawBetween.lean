/- The law FnExactBetween of the given statements: at every argument Between of the program answers as the specification's, and writes into no argument. No condition. -/
import Derived.Test.YtplncjlcejaabaaGreatJA1
import Derived.Test.YtplncjlcejaabaaGreatJB13Be
import Derived.Test.YtplncjlcejaabaaGreatJProgOk2
import Derived.Test.YtplncjlcejaabaaGreatJA4
import Derived.Test.YtplncjlcejaabaaGreatJKMach
import Derived.Test.YtplncjlcejaabaaGreatJKEq
import Derived.Deep.RegionHeld3
namespace Go.Proofs.YtplncjlcejaabaaGreat
set_option linter.unusedSimpArgs false
set_option linter.unusedVariables false
set_option maxRecDepth 100000
open Go.ChangeShapes Go.WideShapes Go.ChangeAt Go.RowKit Go.Deep
def PR (w : World) (lo hi : Nat) (s s' : Option Addr) (p : PD) : Prop := ProgR w lo hi s s' p
theorem PR.keep {w w' : World} {lo hi : Nat} {s s' : Option Addr} {p : PD} (h : PR w lo hi s s' p) (hb : Keep lo hi w w') : PR w' lo hi s s' p := ProgR.keep' h hb
theorem PR.keep' {w w' : World} {lo hi : Nat} {s s' : Option Addr} {p : PD} (h : PR w lo hi s s' p) (hb : Keep lo hi w w') : ProgR w' lo hi s s' p := ProgR.keep' h hb
set_option maxRecDepth 100000 in
set_option maxHeartbeats 8000000 in
theorem walkBetween (p1 p2 s1 s2 s3 s4 : Option Addr) (a1 a2 c1 c2 c3 c4 : Nat) (p : PD) (d : MD) (who : Int) (w : World) (h : ProgR w 0 w.heap.size p1 p2 p) (m1 : p.caps.length ≤ maxLen) (m2 : p.bods.length ≤ maxLen) (m3 : ∀ i, i < p.bods.length → (p.bods.getD i []).length ≤ maxLen) (h0 : MaR w 0 w.heap.size s1 s2 s3 s4 d) (m0 : MaLens d) :
  Calls Tryz.prog 3 #[.agg #[.slice p1 p.caps.length a1, .slice p2 p.bods.length a2], .agg #[.slice s1 d.codes.length c1, .slice s2 d.cores.length c2, .slice s3 d.mem.length c3, .slice s4 d.tr.length c4], .int .i64 who] w fun e w' => e = .returned (.bool true) ∧ Below w.heap.size w w' := by
 have HP : Hid (ProgR w 0 w.heap.size p1 p2 p) := h
 have M3 : Hid (∀ i, i < p.bods.length → (p.bods.getD i []).length ≤ maxLen) := m3
 have HA0 := hidB h0
 have HM0 := hidB m0
 clear h m3 h0 m0
 go_enter Tryz.func3, Tryz.ntmps3
 go_wp2_with fail
 have HK : Hid (Below w.heap.size w w) := Below.refl _ _
 obtain ⟨V1, hV1, bx1, kb1, zb1⟩ := Bo2.new w (.slice p1 p.caps.length a1) (.slice p2 p.bods.length a2) 25
 rw [hV1]
 clear hV1
 have JK := hidB (HK.out.trans (kb1.mono (by omega)))
 clear HK
 have HK := JK
 clear JK
 have HAP : Hid (Bo2 w.heap.size V1 (.slice p1 p.caps.length a1) (.slice p2 p.bods.length a2)) := bx1
 clear bx1 kb1
 obtain ⟨V2, hV2, bx2, kb2, zb2⟩ := Bo4.new V1 (.slice s1 d.codes.length c1) (.slice s2 d.cores.length c2) (.slice s3 d.mem.length c3) (.slice s4 d.tr.length c4) 33
 rw [hV2]
 clear hV2
 have JK := hidB (HK.out.trans (kb2.mono (by omega)))
 have JAP := hidB (HAP.out.keep (Keep.of_below kb2 (by omega)))
 clear HK HAP
 have HK := JK
 have HAP := JAP
 clear JK JAP
 have HA : Hid (Bo4 V1.heap.size V2 (.slice s1 d.codes.length c1) (.slice s2 d.cores.length c2) (.slice s3 d.mem.length c3) (.slice s4 d.tr.length c4)) := bx2
 clear bx2 kb2
 have HA2 : Hid (Bo4 (w.heap.size + 1) V2 (.slice s1 d.codes.length c1) (.slice s2 d.cores.length c2) (.slice s3 d.mem.length c3) (.slice s4 d.tr.length c4)) := by have q := HA.out; rw [zb1] at q; exact q
 clear HA
 have HA := HA2
 clear HA2
 refine (szProg_le p1 p2 a1 a2 0 w.heap.size p V2 (HP.out.keep' (Keep.of_below HK.out (Nat.le_refl _))) (by omega) m1 m2 M3.out).mono ?_
 rintro e w3 ⟨⟨u, rfl, hu⟩, hb3⟩
 have z3 := hb3.size
 have JK := hidB (HK.out.trans (hb3.mono (by omega)))
 have JAP := hidB (HAP.out.keep (Keep.of_below hb3 (by omega)))
 have JA := hidB (HA.out.keep (Keep.of_below hb3 (by omega)))
 clear HK HAP HA
 have HK := JK
 have HAP := JAP
 have HA := JA
 clear JK JAP JA
 clear hb3
 obtain ⟨APc0, APc1⟩ := HAP.out
 have APz : w.heap.size < w3.heap.size := by omega
 obtain ⟨Ac0, Ac1, Ac2, Ac3⟩ := HA.out
 have Az : w.heap.size + 1 < w3.heap.size := by omega
 rcases hu with hu | ⟨hu, hu2, hf⟩
 ·go_wp2
  go_ret
  exact ⟨rfl, HK.out⟩
 have hun : ¬ u < 0 := by omega
 have FP := hidB hf
 clear hf
 go_wp2_with fail
 refine (szMachine_q s1 s2 s3 s4 c1 c2 c3 c4 0 w.heap.size d w3 (HA0.out.keep (Keep.of_below HK.out (Nat.le_refl _))) (by omega) HM0.out u hu hu2).mono ?_
 rintro e w4 ⟨⟨v, rfl, hv⟩, hb4⟩
 have z4 := hb4.size
 clear APc0 APc1 APz
 clear Ac0 Ac1 Ac2 Ac3 Az
 have JK := hidB (HK.out.trans (hb4.mono (by omega)))
 have JAP := hidB (HAP.out.keep (Keep.of_below hb4 (by omega)))
 have JA := hidB (HA.out.keep (Keep.of_below hb4 (by omega)))
 clear HK HAP HA
 have HK := JK
 have HAP := JAP
 have HA := JA
 clear JK JAP JA
 clear hb4
 obtain ⟨APc0, APc1⟩ := HAP.out
 have APz : w.heap.size < w4.heap.size := by omega
 obtain ⟨Ac0, Ac1, Ac2, Ac3⟩ := HA.out
 have Az : w.heap.size + 1 < w4.heap.size := by omega
 rcases hv with hv | ⟨hv, hf⟩
 ·go_wp2
  go_ret
  exact ⟨rfl, HK.out⟩
 have hvn : ¬ v < 0 := by omega
 have FK : Hid (MaSz d ≤ 1048576) := hf
 have FF := hidB (MaFits.of hf)
 have hkl : d.cores.length ≤ 1048576 := by unfold MaSz at hf; omega
 clear hf
 obtain ⟨bb, hbb⟩ : ∃ b, betV p d who = b := ⟨_, rfl⟩
 have HBB := hidB hbb
 clear hbb
 have hbn : (bb != bb) = false := by simp
 go_wp2_with fail
 go_region_held3 (fun w' => w'.cell? ⟨w.heap.size, 0, none⟩ = some (.slice p1 p.caps.length a1) ∧ w'.cell? ⟨w.heap.size, 1, none⟩ = some (.slice p2 p.bods.length a2) ∧ w'.cell? ⟨w.heap.size + 1, 0, none⟩ = some (.slice s1 d.codes.length c1) ∧ w'.cell? ⟨w.heap.size + 1, 1, none⟩ = some (.slice s2 d.cores.length c2) ∧ w'.cell? ⟨w.heap.size + 1, 2, none⟩ = some (.slice s3 d.mem.length c3) ∧ w'.cell? ⟨w.heap.size + 1, 3, none⟩ = some (.slice s4 d.tr.length c4)) (go_keep) (first | (go_at_call 8; refine (toProg_new p1 p2 a1 a2 0 w.heap.size p w4.drew (HP.out.keep' (Keep.of_below HK.out.drew (Nat.le_refl _))) (by show w.heap.size ≤ w4.heap.size; omega) FP.out).mono ?_; rintro e wA ⟨f1, f2, rfl, hbA, hzA, hoA⟩; have kA : Below w4.heap.size w4 wA := (Below.drew (Below.refl _ _)).trans hbA; have zA := kA.size; have taP := HAP.out.keep (Keep.of_below kA (by omega)); have taM := HA.out.keep (Keep.of_below kA (by omega)); have ta0 := taP.c0; have ta1 := taP.c1; have ta2 := taM.c0; have ta3 := taM.c1; have ta4 := taM.c2; have ta5 := taM.c3) | (go_at_call 9; refine (toMachine_own s1 s2 s3 s4 c1 c2 c3 c4 0 w.heap.size d wA (HA0.out.keep (Keep.of_below (HK.out.trans (kA.mono (by omega))) (Nat.le_refl _))) (by omega) FK.out).mono ?_; rintro e wB ⟨xB, rfl, hoB, hbB, hzB⟩; have kB : Below w4.heap.size w4 wB := kA.trans (hbB.mono (by omega)); have zB := kB.size; have tbP := HAP.out.keep (Keep.of_below kB (by omega)); have tbM := HA.out.keep (Keep.of_below kB (by omega)); have tb0 := tbP.c0; have tb1 := tbP.c1; have tb2 := tbM.c0; have tb3 := tbM.c1; have tb4 := tbM.c2; have tb5 := tbM.c3) | (go_at_call 7; refine (specBet_any f1 f2 xB.s1 xB.s2 xB.s3 xB.s4 _ _ _ _ _ _ _ _ _ _ p d who wB (ProgR.keep' hoA (Keep.of_below hbB (Nat.le_refl _))) hoB.ma.2.1 (by omega) (Nat.le_refl _) FP.out hkl).mono ?_; rintro e wC ⟨rfl, hbC⟩; have kC : Below w4.heap.size w4 wC := kB.trans (hbC.mono (by omega)); have tcP := HAP.out.keep (Keep.of_below kC (by omega)); have tcM := HA.out.keep (Keep.of_below kC (by omega)); have tc0 := tcP.c0; have tc1 := tcP.c1; have tc2 := tcM.c0; have tc3 := tcM.c1; have tc4 := tcM.c2; have tc5 := tcM.c3) | fail)
 have zC := kC.size
 clear taP taM ta0 ta1 ta2 ta3 ta4 ta5 tbP tbM tb0 tb1 tb2 tb3 tb4 tb5 tcP tcM tc0 tc1 tc2 tc3 tc4 tc5 hbA hbB hbC hoA hoB hzA hzB kA kB zA zB
 rw [HBB.out]
 clear APc0 APc1 APz
 clear Ac0 Ac1 Ac2 Ac3 Az
 have JK := hidB (HK.out.trans (kC.mono (by omega)))
 have JAP := hidB (HAP.out.keep (Keep.of_below kC (by omega)))
 have JA := hidB (HA.out.keep (Keep.of_below kC (by omega)))
 clear HK HAP HA
 have HK := JK
 have HAP := JAP
 have HA := JA
 clear JK JAP JA
 clear kC
 obtain ⟨APc0, APc1⟩ := HAP.out
 have APz : w.heap.size < wC.heap.size := by omega
 obtain ⟨Ac0, Ac1, Ac2, Ac3⟩ := HA.out
 have Az : w.heap.size + 1 < wC.heap.size := by omega
 go_wp2_with fail
 refine (toProg_new p1 p2 a1 a2 0 w.heap.size p wC (HP.out.keep' (Keep.of_below HK.out (Nat.le_refl _))) (by omega) FP.out).mono ?_
 rintro e w5 ⟨xx1, xx2, rfl, hb5, z5, ho5⟩
 clear APc0 APc1 APz
 clear Ac0 Ac1 Ac2 Ac3 Az
 have JK := hidB (HK.out.trans (hb5.mono (by omega)))
 have JAP := hidB (HAP.out.keep (Keep.of_below hb5 (by omega)))
 have JA := hidB (HA.out.keep (Keep.of_below hb5 (by omega)))
 clear HK HAP HA
 have HK := JK
 have HAP := JAP
 have HA := JA
 clear JK JAP JA
 have HRx : Hid (PR w5 wC.heap.size w5.heap.size xx1 xx2 p) := ho5
 clear hb5 ho5
 obtain ⟨APc0, APc1⟩ := HAP.out
 have APz : w.heap.size < w5.heap.size := by omega
 obtain ⟨Ac0, Ac1, Ac2, Ac3⟩ := HA.out
 have Az : w.heap.size + 1 < w5.heap.size := by omega
 go_wp2_with fail
 obtain ⟨V6, hV6, bx6, kb6, zb6⟩ := Bo2.new w5 (.slice xx1 p.caps.length p.caps.length) (.slice xx2 p.bods.length p.bods.length) 39
 rw [hV6]
 clear hV6
 clear APc0 APc1 APz
 clear Ac0 Ac1 Ac2 Ac3 Az
 have JK := hidB (HK.out.trans (kb6.mono (by omega)))
 have JAP := hidB (HAP.out.keep (Keep.of_below kb6 (by omega)))
 have JA := hidB (HA.out.keep (Keep.of_below kb6 (by omega)))
 have JRx := hidB (HRx.out.keep (Keep.of_below kb6 (by omega)))
 clear HK HAP HA HRx
 have HK := JK
 have HAP := JAP
 have HA := JA
 have HRx := JRx
 clear JK JAP JA JRx
 have HXx : Hid (Bo2 w5.heap.size V6 (.slice xx1 p.caps.length p.caps.length) (.slice xx2 p.bods.length p.bods.length)) := bx6
 clear bx6 kb6
 obtain ⟨APc0, APc1⟩ := HAP.out
 have APz : w.heap.size < V6.heap.size := by omega
 obtain ⟨Ac0, Ac1, Ac2, Ac3⟩ := HA.out
 have Az : w.heap.size + 1 < V6.heap.size := by omega
 obtain ⟨Xxc0, Xxc1⟩ := HXx.out
 have Xxz : w5.heap.size < V6.heap.size := by omega
 refine (toMachine_own s1 s2 s3 s4 c1 c2 c3 c4 0 w.heap.size d V6 (HA0.out.keep (Keep.of_below HK.out (Nat.le_refl _))) (by omega) FK.out).mono ?_
 rintro e w7 ⟨xm, rfl, ho7, hb7, z7⟩
 clear APc0 APc1 APz
 clear Ac0 Ac1 Ac2 Ac3 Az
 clear Xxc0 Xxc1 Xxz
 have JK := hidB (HK.out.trans (hb7.mono (by omega)))
 have JAP := hidB (HAP.out.keep (Keep.of_below hb7 (by omega)))
 have JA := hidB (HA.out.keep (Keep.of_below hb7 (by omega)))
 have JRx := hidB (HRx.out.keep (Keep.of_below hb7 (by omega)))
 have JXx := hidB (HXx.out.keep (Keep.of_below hb7 (by omega)))
 clear HK HAP HA HRx HXx
 have HK := JK
 have HAP := JAP
 have HA := JA
 have HRx := JRx
 have HXx := JXx
 clear JK JAP JA JRx JXx
 have HRm : Hid (MaR w7 V6.heap.size w7.heap.size xm.s1 xm.s2 xm.s3 xm.s4 d) := ho7.ma
 clear hb7 ho7
 obtain ⟨APc0, APc1⟩ := HAP.out
 have APz : w.heap.size < w7.heap.size := by omega
 obtain ⟨Ac0, Ac1, Ac2, Ac3⟩ := HA.out
 have Az : w.heap.size + 1 < w7.heap.size := by omega
 obtain ⟨Xxc0, Xxc1⟩ := HXx.out
 have Xxz : w5.heap.size < w7.heap.size := by omega
 go_wp2_with fail
 obtain ⟨V8, hV8, bx8, kb8, zb8⟩ := Bo4.new w7 (.slice xm.s1 d.codes.length xm.c1) (.slice xm.s2 d.cores.length xm.c2) (.slice xm.s3 d.mem.length xm.c3) (.slice xm.s4 d.tr.length xm.c4) 48
 rw [hV8]
 clear hV8
 clear APc0 APc1 APz
 clear Ac0 Ac1 Ac2 Ac3 Az
 clear Xxc0 Xxc1 Xxz
 have JK := hidB (HK.out.trans (kb8.mono (by omega)))
 have JAP := hidB (HAP.out.keep (Keep.of_below kb8 (by omega)))
 have JA := hidB (HA.out.keep (Keep.of_below kb8 (by omega)))
 have JRx := hidB (HRx.out.keep (Keep.of_below kb8 (by omega)))
 have JXx := hidB (HXx.out.keep (Keep.of_below kb8 (by omega)))
 have JRm := hidB (HRm.out.keep (Keep.of_below kb8 (by omega)))
 clear HK HAP HA HRx HXx HRm
 have HK := JK
 have HAP := JAP
 have HA := JA
 have HRx := JRx
 have HXx := JXx
 have HRm := JRm
 clear JK JAP JA JRx JXx JRm
 have HXm : Hid (Bo4 w7.heap.size V8 (.slice xm.s1 d.codes.length xm.c1) (.slice xm.s2 d.cores.length xm.c2) (.slice xm.s3 d.mem.length xm.c3) (.slice xm.s4 d.tr.length xm.c4)) := bx8
 clear bx8 kb8
 obtain ⟨APc0, APc1⟩ := HAP.out
 have APz : w.heap.size < V8.heap.size := by omega
 obtain ⟨Ac0, Ac1, Ac2, Ac3⟩ := HA.out
 have Az : w.heap.size + 1 < V8.heap.size := by omega
 obtain ⟨Xxc0, Xxc1⟩ := HXx.out
 have Xxz : w5.heap.size < V8.heap.size := by omega
 obtain ⟨Xmc0, Xmc1, Xmc2, Xmc3⟩ := HXm.out
 have Xmz : w7.heap.size < V8.heap.size := by omega
 refine (implBet_any xx1 xx2 xm.s1 xm.s2 xm.s3 xm.s4 _ _ _ _ _ _ _ _ _ _ p d who V8 HRx.out HRm.out.2.1 (by omega) (by omega) FP.out hkl).mono ?_
 rintro e w9 ⟨rfl, hb9⟩
 have z9 := hb9.size
 clear APc0 APc1 APz
 clear Ac0 Ac1 Ac2 Ac3 Az
 clear Xxc0 Xxc1 Xxz
 clear Xmc0 Xmc1 Xmc2 Xmc3 Xmz
 have JK := hidB (HK.out.trans (hb9.mono (by omega)))
 have JAP := hidB (HAP.out.keep (Keep.of_below hb9 (by omega)))
 have JA := hidB (HA.out.keep (Keep.of_below hb9 (by omega)))
 have JRx := hidB (HRx.out.keep (Keep.of_below hb9 (by omega)))
 have JXx := hidB (HXx.out.keep (Keep.of_below hb9 (by omega)))
 have JRm := hidB (HRm.out.keep (Keep.of_below hb9 (by omega)))
 have JXm := hidB (HXm.out.keep (Keep.of_below hb9 (by omega)))
 clear HK HAP HA HRx HXx HRm HXm
 have HK := JK
 have HAP := JAP
 have HA := JA
 have HRx := JRx
 have HXx := JXx
 have HRm := JRm
 have HXm := JXm
 clear JK JAP JA JRx JXx JRm JXm
 clear hb9
 rw [HBB.out]
 obtain ⟨APc0, APc1⟩ := HAP.out
 have APz : w.heap.size < w9.heap.size := by omega
 obtain ⟨Ac0, Ac1, Ac2, Ac3⟩ := HA.out
 have Az : w.heap.size + 1 < w9.heap.size := by omega
 obtain ⟨Xxc0, Xxc1⟩ := HXx.out
 have Xxz : w5.heap.size < w9.heap.size := by omega
 obtain ⟨Xmc0, Xmc1, Xmc2, Xmc3⟩ := HXm.out
 have Xmz : w7.heap.size < w9.heap.size := by omega
 go_wp2_with fail
 go_region_held3 (fun w' => w'.cell? ⟨w5.heap.size, 0, none⟩ = some (.slice xx1 p.caps.length p.caps.length) ∧ w'.cell? ⟨w5.heap.size, 1, none⟩ = some (.slice xx2 p.bods.length p.bods.length) ∧ w'.cell? ⟨w.heap.size, 0, none⟩ = some (.slice p1 p.caps.length a1) ∧ w'.cell? ⟨w.heap.size, 1, none⟩ = some (.slice p2 p.bods.length a2)) (go_keep) (first | (go_at_call 8; refine (toProg_new p1 p2 a1 a2 0 w.heap.size p w9.drew (HP.out.keep' (Keep.of_below HK.out.drew (Nat.le_refl _))) (by show w.heap.size ≤ w9.heap.size; omega) FP.out).mono ?_; rintro e w10 ⟨f1, f2, rfl, hb10, hz10, ho10⟩; have kx : Below w9.heap.size w9 w10 := (Below.drew (Below.refl _ _)).trans hb10; have kz := kx.size; have XX := HXx.out.keep (Keep.of_below kx (by omega)); have AA := HAP.out.keep (Keep.of_below kx (by omega)); have t0 := XX.c0; have t1 := XX.c1; have t3 := AA.c0; have t4 := AA.c1) | (go_at_call 11; refine (eqProg_same xx1 xx2 f1 f2 _ _ _ _ wC.heap.size w5.heap.size w9.heap.size w10.heap.size p w10 (HRx.out.keep' (Keep.of_below kx (by omega))) ho10 (by omega) (Nat.le_refl _) FP.out).mono ?_; rintro e w11 ⟨rfl, hb11⟩; have ky : Below w9.heap.size w9 w11 := kx.trans (hb11.mono (by omega)); have XY := HXx.out.keep (Keep.of_below ky (by omega)); have AY := HAP.out.keep (Keep.of_below ky (by omega)); have u0 := XY.c0; have u1 := XY.c1; have u3 := AY.c0; have u4 := AY.c1))
 have z11 := ky.size
 clear t0 t1 t3 t4 u0 u1 u3 u4 XX AA XY AY hb10 hb11 ho10 hz10 kx kz
 clear APc0 APc1 APz
 clear Ac0 Ac1 Ac2 Ac3 Az
 clear Xxc0 Xxc1 Xxz
 clear Xmc0 Xmc1 Xmc2 Xmc3 Xmz
 have JK := hidB (HK.out.trans (ky.mono (by omega)))
 have JAP := hidB (HAP.out.keep (Keep.of_below ky (by omega)))
 have JA := hidB (HA.out.keep (Keep.of_below ky (by omega)))
 have JRx := hidB (HRx.out.keep (Keep.of_below ky (by omega)))
 have JXx := hidB (HXx.out.keep (Keep.of_below ky (by omega)))
 have JRm := hidB (HRm.out.keep (Keep.of_below ky (by omega)))
 have JXm := hidB (HXm.out.keep (Keep.of_below ky (by omega)))
 clear HK HAP HA HRx HXx HRm HXm
 have HK := JK
 have HAP := JAP
 have HA := JA
 have HRx := JRx
 have HXx := JXx
 have HRm := JRm
 have HXm := JXm
 clear JK JAP JA JRx JXx JRm JXm
 clear ky
 obtain ⟨APc0, APc1⟩ := HAP.out
 have APz : w.heap.size < w11.heap.size := by omega
 obtain ⟨Ac0, Ac1, Ac2, Ac3⟩ := HA.out
 have Az : w.heap.size + 1 < w11.heap.size := by omega
 obtain ⟨Xxc0, Xxc1⟩ := HXx.out
 have Xxz : w5.heap.size < w11.heap.size := by omega
 obtain ⟨Xmc0, Xmc1, Xmc2, Xmc3⟩ := HXm.out
 have Xmz : w7.heap.size < w11.heap.size := by omega
 go_wp2_with fail
 go_region_held3 (fun w' => w'.cell? ⟨w7.heap.size, 0, none⟩ = some (.slice xm.s1 d.codes.length xm.c1) ∧ w'.cell? ⟨w7.heap.size, 1, none⟩ = some (.slice xm.s2 d.cores.length xm.c2) ∧ w'.cell? ⟨w7.heap.size, 2, none⟩ = some (.slice xm.s3 d.mem.length xm.c3) ∧ w'.cell? ⟨w7.heap.size, 3, none⟩ = some (.slice xm.s4 d.tr.length xm.c4) ∧ w'.cell? ⟨w.heap.size + 1, 0, none⟩ = some (.slice s1 d.codes.length c1) ∧ w'.cell? ⟨w.heap.size + 1, 1, none⟩ = some (.slice s2 d.cores.length c2) ∧ w'.cell? ⟨w.heap.size + 1, 2, none⟩ = some (.slice s3 d.mem.length c3) ∧ w'.cell? ⟨w.heap.size + 1, 3, none⟩ = some (.slice s4 d.tr.length c4)) (go_keep) (first | (go_at_call 9; refine (toMachine_own s1 s2 s3 s4 c1 c2 c3 c4 0 w.heap.size d w11.drew (HA0.out.keep (Keep.of_below HK.out.drew (Nat.le_refl _))) (by show w.heap.size ≤ w11.heap.size; omega) FK.out).mono ?_; rintro e w12 ⟨xq, rfl, ho12, hb12, hz12⟩; have kx : Below w11.heap.size w11 w12 := (Below.drew (Below.refl _ _)).trans hb12; have kz := kx.size; have XX := HXm.out.keep (Keep.of_below kx (by omega)); have AA := HA.out.keep (Keep.of_below kx (by omega)); have t0 := XX.c0; have t1 := XX.c1; have t2 := XX.c2; have t3 := XX.c3; have t4 := AA.c0; have t5 := AA.c1; have t6 := AA.c2; have t7 := AA.c3) | (go_at_call 12; refine (eqMachine_alike xm.s1 xm.s2 xm.s3 xm.s4 xq.s1 xq.s2 xq.s3 xq.s4 _ _ _ _ _ _ _ _ V6.heap.size w7.heap.size w11.heap.size w12.heap.size d w12 (HRm.out.keep (Keep.of_below kx (by omega))) (ho12.ma) (by omega) (Nat.le_refl _) FF.out).mono ?_; rintro e w13 ⟨rfl, hb13⟩; have ky : Below w11.heap.size w11 w13 := kx.trans (hb13.mono (by omega)); have XY := XX.keep (Keep.of_below hb13 (by omega)); have AY := AA.keep (Keep.of_below hb13 (by omega)); have u0 := XY.c0; have u1 := XY.c1; have u2 := XY.c2; have u3 := XY.c3; have u4 := AY.c0; have u5 := AY.c1; have u6 := AY.c2; have u7 := AY.c3) | fail)
 have z13 := ky.size
 clear t0 u0 t1 u1 t2 u2 t3 u3 t4 u4 t5 u5 t6 u6 t7 u7 XX AA XY AY hb12 hb13 ho12 hz12 kx kz
 clear APc0 APc1 APz
 clear Ac0 Ac1 Ac2 Ac3 Az
 clear Xxc0 Xxc1 Xxz
 clear Xmc0 Xmc1 Xmc2 Xmc3 Xmz
 have JK := hidB (HK.out.trans (ky.mono (by omega)))
 have JAP := hidB (HAP.out.keep (Keep.of_below ky (by omega)))
 have JA := hidB (HA.out.keep (Keep.of_below ky (by omega)))
 have JRx := hidB (HRx.out.keep (Keep.of_below ky (by omega)))
 have JXx := hidB (HXx.out.keep (Keep.of_below ky (by omega)))
 have JRm := hidB (HRm.out.keep (Keep.of_below ky (by omega)))
 have JXm := hidB (HXm.out.keep (Keep.of_below ky (by omega)))
 clear HK HAP HA HRx HXx HRm HXm
 have HK := JK
 have HAP := JAP
 have HA := JA
 have HRx := JRx
 have HXx := JXx
 have HRm := JRm
 have HXm := JXm
 clear JK JAP JA JRx JXx JRm JXm
 clear ky
 obtain ⟨APc0, APc1⟩ := HAP.out
 have APz : w.heap.size < w13.heap.size := by omega
 obtain ⟨Ac0, Ac1, Ac2, Ac3⟩ := HA.out
 have Az : w.heap.size + 1 < w13.heap.size := by omega
 obtain ⟨Xxc0, Xxc1⟩ := HXx.out
 have Xxz : w5.heap.size < w13.heap.size := by omega
 obtain ⟨Xmc0, Xmc1, Xmc2, Xmc3⟩ := HXm.out
 have Xmz : w7.heap.size < w13.heap.size := by omega
 go_wp2
 go_ret
 exact ⟨rfl, HK.out⟩
set_option maxRecDepth 100000 in
theorem liftedExactBetween (os : Os) (started : os.Started) (H : Type) (enc : TypeId × Value → H) :
  ReturnsInHanded {} Tryz.checked os 3 .any (Rows.fnExactBetweenSpec.pre6 enc Tryz.prog Tryz.f3 Rows.fnExactBetweenRow.domain false) (Rows.fnExactBetweenSpec.post enc Tryz.prog Tryz.f3 false true false false) := by
 refine returnsInHanded_of_change (C := Tryz.checked) ownP started (by kernel_rfl) Tryz.func3
  (ChangeSpec.witness6 (enc := enc) (C := Tryz.checked) false ⟨#[], #[.agg #[.slice none 0 0, .slice none 0 0], .agg #[.slice none 0 0, .slice none 0 0, .slice none 0 0, .slice none 0 0], .int .i64 0], []⟩ 8 (by kernel_rfl) (by kernel_rfl) (by kernel_rfl) (by kernel_rfl)) ?_
 intro W base args ds gs before hval0 hW hcnd _
 have hval : ∀ (j : Nat) t v, Tryz.f3.params[j]? = some t → args[j]? = some v → Value.okWide Tryz.prog W .any base t v := hval0
 have hW' := hW
 obtain ⟨p, q, hA0, hV, rfl, hfz, hnd⟩ := hW
 have hA : DataW.TrodAll enc Tryz.prog W 0 (fun _ => true) true Tryz.f3.params.toList args.toList ds p := hA0
 rw [Tryz.params3] at hA hval
 obtain ⟨v0, v1, v2, d0, d1, d2, p0, p1, p2, hargs, rfl, rfl, h0, h1, h2⟩ := trodAll_three hA
 obtain rfl : args = #[v0, v1, v2] := by cases args; simp_all
 obtain ⟨rfl, rfl⟩ := trodVars_none hV
 have k0 := h0
 have lt0 : ∀ x ∈ p0, x.block < W.heap.size := by obtain ⟨m, hm⟩ := k0; exact DataW.trod_lt m _ _ _ hm
 have k1 := h1
 have lt1 : ∀ x ∈ p1, x.block < W.heap.size := by obtain ⟨m, hm⟩ := k1; exact DataW.trod_lt m _ _ _ hm
 have k2 := h2
 have lt2 : ∀ x ∈ p2, x.block < W.heap.size := by obtain ⟨m, hm⟩ := k2; exact DataW.trod_lt m _ _ _ hm
 obtain ⟨p1, p2, a1, a2, pd, rfl, m1, m2, m3, hP⟩ := open_prog (hval 0 25 v0 rfl rfl) h0
 obtain ⟨s1, s2, s3, s4, c1, c2, c3, c4, md, rfl, m0, hM⟩ := open_machine (hval 1 33 v1 rfl rfl) h1
 obtain ⟨n2, rfl, hwf2⟩ := open_int Tryz.underlying3 (hval 2 3 v2 rfl rfl) h2
 clear hA0 hval0
 refine (walkBetween p1 p2 s1 s2 s3 s4 a1 a2 c1 c2 c3 c4 pd md n2 W hP m1 m2 m3 hM m0).mono fun e W' ⟨he, bel⟩ => ?_
 subst he
 exact ⟨_, rfl, _, _, _, [], _, [], hW', trodAll_mk1 (shut_bool Tryz.underlying4 _), trodAll_mk3 (Below.trod laidOutP (by kernel_rfl) (of_decide_eq_true (by kernel_rfl)) k0 bel lt0) (Below.trod laidOutP (by kernel_rfl) (of_decide_eq_true (by kernel_rfl)) k1 bel lt1) (Below.trod laidOutP (by kernel_rfl) (of_decide_eq_true (by kernel_rfl)) k2 bel lt2), rfl, bel.frame _, fun h => by cases h⟩
theorem fnExactBetween_holds : Rows.FnExactBetweenSaid :=
 OpenClaim.holds_of_wide 3 Tryz.f3 rfl rfl rfl rfl rfl rfl rfl ⟨rfl, rfl, rfl, rfl, rfl⟩ rfl rfl rfl rfl rfl (by kernel_rfl) Tryz.func3 (by kernel_rfl)
  (of_decide_eq_true (by kernel_rfl)) (by unfold Func.isWrapper; first | (rw [if_pos (by decide +kernel)]; kernel_rfl) | (rw [if_neg (by decide +kernel)]; exact ⟨rfl, rfl⟩))
  (fun os started H enc _ => liftedExactBetween os started H enc)
#print axioms fnExactBetween_holds
end Go.Proofs.YtplncjlcejaabaaGreat
