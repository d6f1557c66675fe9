/- The law FnExactSame of the given statements: at every argument Same of the program answers as the specification's, and writes into no argument. No condition. -/
import Derived.Test.YtcfehbfjillnoaaGreatJG02
import Derived.Test.YtcfehbfjillnoaaGreatJG17
import Derived.Test.YtcfehbfjillnoaaGreatJKMach
import Derived.Test.YtcfehbfjillnoaaGreatJKEq
import Derived.Test.YtcfehbfjillnoaaGreatJG18
import Derived.Test.YtcfehbfjillnoaaGreatJSrcEq
import Derived.Test.YtcfehbfjillnoaaGreatJG19
import Derived.Deep.RegionHeld3
namespace Go.Proofs.YtcfehbfjillnoaaGreat
set_option linter.unusedSimpArgs false
set_option linter.unusedVariables false
set_option maxRecDepth 100000
open Go.ChangeShapes Go.WideShapes Go.ChangeAt Go.RowKit Go.Deep
def PR (w : World) (lo hi : Nat) (s s' : Option Addr) (p : PD) : Prop := ProgR w lo hi s s' p
theorem PR.keep {w w' : World} {lo hi : Nat} {s s' : Option Addr} {p : PD} (h : PR w lo hi s s' p) (hb : Keep lo hi w w') : PR w' lo hi s s' p := ProgR.keep' h hb
theorem PR.keep' {w w' : World} {lo hi : Nat} {s s' : Option Addr} {p : PD} (h : PR w lo hi s s' p) (hb : Keep lo hi w w') : ProgR w' lo hi s s' p := ProgR.keep' h hb
structure Bo3 (G : Nat) (W : World) (a b c : Value) : Prop where
 c0 : W.cell? ⟨G, 0, none⟩ = some a
 c1 : W.cell? ⟨G, 1, none⟩ = some b
 c2 : W.cell? ⟨G, 2, none⟩ = some c
theorem Bo3.new (w : World) (a b c : Value) (T : TypeId) : ∃ W, w.alloc (.cells #[a, b, c] T) = W ∧ Bo3 w.heap.size W a b c ∧ Below w.heap.size w W ∧ W.heap.size = w.heap.size + 1 :=
 ⟨_, rfl, ⟨by simp [go_sem], by simp [go_sem], by simp [go_sem]⟩, (Below.refl _ _).alloc (Nat.le_refl _) _, by simp⟩
theorem Bo3.keep {G : Nat} {W W' : World} {a b c : Value} (h : Bo3 G W a b c) (hk : Keep G (G + 1) W W') : Bo3 G W' a b c := ⟨(hk.cell (p := ⟨G, 0, none⟩) (Nat.le_refl _) (Nat.lt_succ_self _)).trans h.c0, (hk.cell (p := ⟨G, 1, none⟩) (Nat.le_refl _) (Nat.lt_succ_self _)).trans h.c1, (hk.cell (p := ⟨G, 2, none⟩) (Nat.le_refl _) (Nat.lt_succ_self _)).trans h.c2⟩
theorem hidX {p : Prop} (h : p) : Hid p := h
set_option maxRecDepth 100000 in
set_option maxHeartbeats 8000000 in
theorem walkSame (p1 p2 s1 s2 s3 s4 r1 r2 r3 : Option Addr) (a1 a2 c1 c2 c3 c4 b1 b2 b3 : Nat) (p : PD) (d : MD) (sd : SD) (w : World) (h : ProgR w 0 w.heap.size p1 p2 p) (m1 : p.caps.length ≤ maxLen) (m2 : p.bods.length ≤ maxLen) (m3 : ∀ i, i < p.bods.length → (p.bods.getD i []).length ≤ maxLen) (h0 : MaR w 0 w.heap.size s1 s2 s3 s4 d) (m0 : MaLens d) (hs : SrcR w 0 w.heap.size r1 r2 r3 sd) (n0 : SLens sd) :
  Calls Tryz.prog 3 #[.agg #[.slice p1 p.caps.length a1, .slice p2 p.bods.length a2], .agg #[.slice s1 d.codes.length c1, .slice s2 d.cores.length c2, .slice s3 d.mem.length c3, .slice s4 d.tr.length c4], .agg #[.slice r1 sd.ths.length b1, .slice r2 sd.chs.length b2, .slice r3 sd.tr.length b3]] w fun e w' => e = .returned (.bool true) ∧ Below w.heap.size w w' := by
 have HP : Hid (ProgR w 0 w.heap.size p1 p2 p) := h
 have M3 : Hid (∀ i, i < p.bods.length → (p.bods.getD i []).length ≤ maxLen) := m3
 have HA0 := hidX h0
 have HM0 := hidX m0
 have HS := hidX hs
 have HN0 := hidX n0
 clear h m3 h0 m0 hs n0
 go_enter Tryz.func3, Tryz.ntmps3
 go_wp2_with fail
 have HK : Hid (Below w.heap.size w w) := Below.refl _ _
 obtain ⟨V1, hV1, bx1, kb1, zb1⟩ := Bo2.new w (.slice p1 p.caps.length a1) (.slice p2 p.bods.length a2) 25
 rw [hV1]
 clear hV1
 have JK := hidX (HK.out.trans (kb1.mono (by omega)))
 clear HK
 have HK := JK
 clear JK
 have HAP : Hid (Bo2 w.heap.size V1 (.slice p1 p.caps.length a1) (.slice p2 p.bods.length a2)) := bx1
 clear bx1 kb1
 obtain ⟨V2, hV2, bx2, kb2, zb2⟩ := Bo4.new V1 (.slice s1 d.codes.length c1) (.slice s2 d.cores.length c2) (.slice s3 d.mem.length c3) (.slice s4 d.tr.length c4) 33
 rw [hV2]
 clear hV2
 have JK := hidX (HK.out.trans (kb2.mono (by omega)))
 have JAP := hidX (HAP.out.keep (Keep.of_below kb2 (by omega)))
 clear HK HAP
 have HK := JK
 have HAP := JAP
 clear JK JAP
 have HA : Hid (Bo4 V1.heap.size V2 (.slice s1 d.codes.length c1) (.slice s2 d.cores.length c2) (.slice s3 d.mem.length c3) (.slice s4 d.tr.length c4)) := bx2
 clear bx2 kb2
 have HA2 : Hid (Bo4 (w.heap.size + 1) V2 (.slice s1 d.codes.length c1) (.slice s2 d.cores.length c2) (.slice s3 d.mem.length c3) (.slice s4 d.tr.length c4)) := by have q := HA.out; rw [zb1] at q; exact q
 clear HA
 have HA := HA2
 clear HA2
 obtain ⟨V3, hV3, bx3, kb3, zb3⟩ := Bo3.new V2 (.slice r1 sd.ths.length b1) (.slice r2 sd.chs.length b2) (.slice r3 sd.tr.length b3) 37
 rw [hV3]
 clear hV3
 have JK := hidX (HK.out.trans (kb3.mono (by omega)))
 have JAP := hidX (HAP.out.keep (Keep.of_below kb3 (by omega)))
 have JA := hidX (HA.out.keep (Keep.of_below kb3 (by omega)))
 clear HK HAP HA
 have HK := JK
 have HAP := JAP
 have HA := JA
 clear JK JAP JA
 have HAS : Hid (Bo3 V2.heap.size V3 (.slice r1 sd.ths.length b1) (.slice r2 sd.chs.length b2) (.slice r3 sd.tr.length b3)) := bx3
 clear bx3 kb3
 have HA2 : Hid (Bo3 (w.heap.size + 1 + 1) V3 (.slice r1 sd.ths.length b1) (.slice r2 sd.chs.length b2) (.slice r3 sd.tr.length b3)) := by have q := HAS.out; rw [zb2, zb1] at q; exact q
 clear HAS
 have HAS := HA2
 clear HA2
 refine (szProg_le p1 p2 a1 a2 0 w.heap.size p V3 (HP.out.keep' (Keep.of_below HK.out (Nat.le_refl _))) (by omega) m1 m2 M3.out).mono ?_
 rintro e w4 ⟨⟨u, rfl, hu⟩, hb4⟩
 have z4 := hb4.size
 have JK := hidX (HK.out.trans (hb4.mono (by omega)))
 have JAP := hidX (HAP.out.keep (Keep.of_below hb4 (by omega)))
 have JA := hidX (HA.out.keep (Keep.of_below hb4 (by omega)))
 have JAS := hidX (HAS.out.keep (Keep.of_below hb4 (by omega)))
 clear HK HAP HA HAS
 have HK := JK
 have HAP := JAP
 have HA := JA
 have HAS := JAS
 clear JK JAP JA JAS
 clear hb4
 obtain ⟨APc0, APc1⟩ := HAP.out
 have APz : w.heap.size < w4.heap.size := by omega
 obtain ⟨Ac0, Ac1, Ac2, Ac3⟩ := HA.out
 have Az : w.heap.size + 1 < w4.heap.size := by omega
 obtain ⟨ASc0, ASc1, ASc2⟩ := HAS.out
 have ASz : w.heap.size + 1 + 1 < w4.heap.size := by omega
 rcases hu with hu | ⟨hu, hu2, hf⟩
 ·go_wp2
  go_ret
  exact ⟨rfl, HK.out⟩
 have hun : ¬ u < 0 := by omega
 have hpl : p.caps.length ≤ 2000000 := by have := hf.1; omega
 have FP := hidX hf
 clear hf
 go_wp2_with fail
 refine (szMachine_r s1 s2 s3 s4 c1 c2 c3 c4 0 w.heap.size d w4 (HA0.out.keep (Keep.of_below HK.out (Nat.le_refl _))) (by omega) HM0.out u hu hu2).mono ?_
 rintro e w5 ⟨⟨v, rfl, hv⟩, hb5⟩
 have z5 := hb5.size
 clear APc0 APc1 APz
 clear Ac0 Ac1 Ac2 Ac3 Az
 clear ASc0 ASc1 ASc2 ASz
 have JK := hidX (HK.out.trans (hb5.mono (by omega)))
 have JAP := hidX (HAP.out.keep (Keep.of_below hb5 (by omega)))
 have JA := hidX (HA.out.keep (Keep.of_below hb5 (by omega)))
 have JAS := hidX (HAS.out.keep (Keep.of_below hb5 (by omega)))
 clear HK HAP HA HAS
 have HK := JK
 have HAP := JAP
 have HA := JA
 have HAS := JAS
 clear JK JAP JA JAS
 clear hb5
 obtain ⟨APc0, APc1⟩ := HAP.out
 have APz : w.heap.size < w5.heap.size := by omega
 obtain ⟨Ac0, Ac1, Ac2, Ac3⟩ := HA.out
 have Az : w.heap.size + 1 < w5.heap.size := by omega
 obtain ⟨ASc0, ASc1, ASc2⟩ := HAS.out
 have ASz : w.heap.size + 1 + 1 < w5.heap.size := by omega
 rcases hv with hv | ⟨hv, hv2, hf⟩
 ·go_wp2
  go_ret
  exact ⟨rfl, HK.out⟩
 have hvn : ¬ v < 0 := by omega
 have FK : Hid (MaSz d ≤ 1048576) := hf
 have FF := hidX (MaFits.of hf)
 have hkl : d.mem.length + szR d.mem ≤ 2000000 := by unfold MaSz at hf; omega
 clear hf
 go_wp2_with fail
 refine (szSource_any r1 r2 r3 b1 b2 b3 0 w.heap.size sd v w5 (HS.out.keep (Keep.of_below HK.out (Nat.le_refl _))) (by omega) HN0.out hv hv2).mono ?_
 rintro e w6 ⟨⟨y, rfl, hy⟩, hb6⟩
 have z6 := hb6.size
 clear APc0 APc1 APz
 clear Ac0 Ac1 Ac2 Ac3 Az
 clear ASc0 ASc1 ASc2 ASz
 have JK := hidX (HK.out.trans (hb6.mono (by omega)))
 have JAP := hidX (HAP.out.keep (Keep.of_below hb6 (by omega)))
 have JA := hidX (HA.out.keep (Keep.of_below hb6 (by omega)))
 have JAS := hidX (HAS.out.keep (Keep.of_below hb6 (by omega)))
 clear HK HAP HA HAS
 have HK := JK
 have HAP := JAP
 have HA := JA
 have HAS := JAS
 clear JK JAP JA JAS
 clear hb6
 obtain ⟨APc0, APc1⟩ := HAP.out
 have APz : w.heap.size < w6.heap.size := by omega
 obtain ⟨Ac0, Ac1, Ac2, Ac3⟩ := HA.out
 have Az : w.heap.size + 1 < w6.heap.size := by omega
 obtain ⟨ASc0, ASc1, ASc2⟩ := HAS.out
 have ASz : w.heap.size + 1 + 1 < w6.heap.size := by omega
 rcases hy with hy | ⟨hy, hf⟩
 ·go_wp2
  go_ret
  exact ⟨rfl, HK.out⟩
 have hyn : ¬ y < 0 := by omega
 have FS := hidX hf
 have hsl : sd.chs.length ≤ 1048576 := hf.2.1.1
 clear hf
 obtain ⟨bb, hbb⟩ : ∃ b, sameB p d sd = b := ⟨_, rfl⟩
 have HBB := hidX hbb
 clear hbb
 have hbn : (bb != bb) = false := by simp
 go_wp2_with fail
 go_region_held3 (fun w' => w'.cell? ⟨w.heap.size, 0, none⟩ = some (.slice p1 p.caps.length a1) ∧ w'.cell? ⟨w.heap.size, 1, none⟩ = some (.slice p2 p.bods.length a2) ∧ w'.cell? ⟨w.heap.size + 1, 0, none⟩ = some (.slice s1 d.codes.length c1) ∧ w'.cell? ⟨w.heap.size + 1, 1, none⟩ = some (.slice s2 d.cores.length c2) ∧ w'.cell? ⟨w.heap.size + 1, 2, none⟩ = some (.slice s3 d.mem.length c3) ∧ w'.cell? ⟨w.heap.size + 1, 3, none⟩ = some (.slice s4 d.tr.length c4) ∧ w'.cell? ⟨w.heap.size + 1 + 1, 0, none⟩ = some (.slice r1 sd.ths.length b1) ∧ w'.cell? ⟨w.heap.size + 1 + 1, 1, none⟩ = some (.slice r2 sd.chs.length b2) ∧ w'.cell? ⟨w.heap.size + 1 + 1, 2, none⟩ = some (.slice r3 sd.tr.length b3)) (go_keep) (first | (go_at_call 8; refine (toProg_new p1 p2 a1 a2 0 w.heap.size p w6.drew (HP.out.keep' (Keep.of_below HK.out.drew (Nat.le_refl _))) (by show w.heap.size ≤ w6.heap.size; omega) FP.out).mono ?_; rintro e wA ⟨f1, f2, rfl, hbA, hzA, hoA⟩; have kA : Below w6.heap.size w6 wA := (Below.drew (Below.refl _ _)).trans hbA; have zA := kA.size; have taP := HAP.out.keep (Keep.of_below kA (by omega)); have taM := HA.out.keep (Keep.of_below kA (by omega)); have taS := HAS.out.keep (Keep.of_below kA (by omega)); have ta0 := taP.c0; have ta1 := taP.c1; have ta2 := taM.c0; have ta3 := taM.c1; have ta4 := taM.c2; have ta5 := taM.c3; have ta6 := taS.c0; have ta7 := taS.c1; have ta8 := taS.c2) | (go_at_call 9; refine (toMachine_own s1 s2 s3 s4 c1 c2 c3 c4 0 w.heap.size d wA (HA0.out.keep (Keep.of_below (HK.out.trans (kA.mono (by omega))) (Nat.le_refl _))) (by omega) FK.out).mono ?_; rintro e wB ⟨xB, rfl, hoB, hbB, hzB⟩; have kB : Below w6.heap.size w6 wB := kA.trans (hbB.mono (by omega)); have zB := kB.size; have tbP := HAP.out.keep (Keep.of_below kB (by omega)); have tbM := HA.out.keep (Keep.of_below kB (by omega)); have tbS := HAS.out.keep (Keep.of_below kB (by omega)); have tb0 := tbP.c0; have tb1 := tbP.c1; have tb2 := tbM.c0; have tb3 := tbM.c1; have tb4 := tbM.c2; have tb5 := tbM.c3; have tb6 := tbS.c0; have tb7 := tbS.c1; have tb8 := tbS.c2) | (go_at_call 10; refine (toSource_own r1 r2 r3 b1 b2 b3 0 w.heap.size sd wB (HS.out.keep (Keep.of_below (HK.out.trans (kB.mono (by omega))) (Nat.le_refl _))) (by omega) FS.out).mono ?_; rintro e wD ⟨vD1, vD2, vD3, LD1, LD2, rfl, hoD, hbD, hzD⟩; obtain ⟨l1, o1, l2, o2, l3, o3, rfl, rfl, rfl, hsD⟩ := hoD.src; have kD : Below w6.heap.size w6 wD := kB.trans (hbD.mono (by omega)); have zD := kD.size; have tdP := HAP.out.keep (Keep.of_below kD (by omega)); have tdM := HA.out.keep (Keep.of_below kD (by omega)); have tdS := HAS.out.keep (Keep.of_below kD (by omega)); have td0 := tdP.c0; have td1 := tdP.c1; have td2 := tdM.c0; have td3 := tdM.c1; have td4 := tdM.c2; have td5 := tdM.c3; have td6 := tdS.c0; have td7 := tdS.c1; have td8 := tdS.c2) | (go_at_call 7; refine (specSame_any f1 f2 xB.s1 xB.s2 xB.s3 xB.s4 l1 l2 l3 _ _ _ _ _ _ _ _ _ _ _ _ _ _ _ p d sd wD (ProgR.keep' hoA (Keep.of_below (hbB.trans (hbD.mono (by omega))) (Nat.le_refl _))) (hoB.ma.keep (Keep.of_below hbD (Nat.le_refl _))) hsD (by omega) (by omega) (Nat.le_refl _) FP.out FF.out FS.out).mono ?_; rintro e wC ⟨rfl, hbC⟩; have kC : Below w6.heap.size w6 wC := kD.trans (hbC.mono (by omega)); have tcP := HAP.out.keep (Keep.of_below kC (by omega)); have tcM := HA.out.keep (Keep.of_below kC (by omega)); have tcS := HAS.out.keep (Keep.of_below kC (by omega)); have tc0 := tcP.c0; have tc1 := tcP.c1; have tc2 := tcM.c0; have tc3 := tcM.c1; have tc4 := tcM.c2; have tc5 := tcM.c3; have tc6 := tcS.c0; have tc7 := tcS.c1; have tc8 := tcS.c2) | fail)
 have zC := kC.size
 clear taP taM taS ta0 ta1 ta2 ta3 ta4 ta5 ta6 ta7 ta8 tbP tbM tbS tb0 tb1 tb2 tb3 tb4 tb5 tb6 tb7 tb8 tdP tdM tdS td0 td1 td2 td3 td4 td5 td6 td7 td8 tcP tcM tcS tc0 tc1 tc2 tc3 tc4 tc5 tc6 tc7 tc8 hbA hbB hbC hbD hoA hoB hoD hsD hzA hzB hzD kA kB kD zA zB zD
 rw [HBB.out]
 clear APc0 APc1 APz
 clear Ac0 Ac1 Ac2 Ac3 Az
 clear ASc0 ASc1 ASc2 ASz
 have JK := hidX (HK.out.trans (kC.mono (by omega)))
 have JAP := hidX (HAP.out.keep (Keep.of_below kC (by omega)))
 have JA := hidX (HA.out.keep (Keep.of_below kC (by omega)))
 have JAS := hidX (HAS.out.keep (Keep.of_below kC (by omega)))
 clear HK HAP HA HAS
 have HK := JK
 have HAP := JAP
 have HA := JA
 have HAS := JAS
 clear JK JAP JA JAS
 clear kC
 obtain ⟨APc0, APc1⟩ := HAP.out
 have APz : w.heap.size < wC.heap.size := by omega
 obtain ⟨Ac0, Ac1, Ac2, Ac3⟩ := HA.out
 have Az : w.heap.size + 1 < wC.heap.size := by omega
 obtain ⟨ASc0, ASc1, ASc2⟩ := HAS.out
 have ASz : w.heap.size + 1 + 1 < wC.heap.size := by omega
 go_wp2_with fail
 refine (toProg_new p1 p2 a1 a2 0 w.heap.size p wC (HP.out.keep' (Keep.of_below HK.out (Nat.le_refl _))) (by omega) FP.out).mono ?_
 rintro e w7 ⟨xx1, xx2, rfl, hb7, z7, ho7⟩
 clear APc0 APc1 APz
 clear Ac0 Ac1 Ac2 Ac3 Az
 clear ASc0 ASc1 ASc2 ASz
 have JK := hidX (HK.out.trans (hb7.mono (by omega)))
 have JAP := hidX (HAP.out.keep (Keep.of_below hb7 (by omega)))
 have JA := hidX (HA.out.keep (Keep.of_below hb7 (by omega)))
 have JAS := hidX (HAS.out.keep (Keep.of_below hb7 (by omega)))
 clear HK HAP HA HAS
 have HK := JK
 have HAP := JAP
 have HA := JA
 have HAS := JAS
 clear JK JAP JA JAS
 have HRx : Hid (PR w7 wC.heap.size w7.heap.size xx1 xx2 p) := ho7
 clear hb7 ho7
 obtain ⟨APc0, APc1⟩ := HAP.out
 have APz : w.heap.size < w7.heap.size := by omega
 obtain ⟨Ac0, Ac1, Ac2, Ac3⟩ := HA.out
 have Az : w.heap.size + 1 < w7.heap.size := by omega
 obtain ⟨ASc0, ASc1, ASc2⟩ := HAS.out
 have ASz : w.heap.size + 1 + 1 < w7.heap.size := by omega
 go_wp2_with fail
 obtain ⟨V8, hV8, bx8, kb8, zb8⟩ := Bo2.new w7 (.slice xx1 p.caps.length p.caps.length) (.slice xx2 p.bods.length p.bods.length) 44
 rw [hV8]
 clear hV8
 clear APc0 APc1 APz
 clear Ac0 Ac1 Ac2 Ac3 Az
 clear ASc0 ASc1 ASc2 ASz
 have JK := hidX (HK.out.trans (kb8.mono (by omega)))
 have JAP := hidX (HAP.out.keep (Keep.of_below kb8 (by omega)))
 have JA := hidX (HA.out.keep (Keep.of_below kb8 (by omega)))
 have JAS := hidX (HAS.out.keep (Keep.of_below kb8 (by omega)))
 have JRx := hidX (HRx.out.keep (Keep.of_below kb8 (by omega)))
 clear HK HAP HA HAS HRx
 have HK := JK
 have HAP := JAP
 have HA := JA
 have HAS := JAS
 have HRx := JRx
 clear JK JAP JA JAS JRx
 have HXx : Hid (Bo2 w7.heap.size V8 (.slice xx1 p.caps.length p.caps.length) (.slice xx2 p.bods.length p.bods.length)) := bx8
 clear bx8 kb8
 obtain ⟨APc0, APc1⟩ := HAP.out
 have APz : w.heap.size < V8.heap.size := by omega
 obtain ⟨Ac0, Ac1, Ac2, Ac3⟩ := HA.out
 have Az : w.heap.size + 1 < V8.heap.size := by omega
 obtain ⟨ASc0, ASc1, ASc2⟩ := HAS.out
 have ASz : w.heap.size + 1 + 1 < V8.heap.size := by omega
 obtain ⟨Xxc0, Xxc1⟩ := HXx.out
 have Xxz : w7.heap.size < V8.heap.size := by omega
 refine (toMachine_own s1 s2 s3 s4 c1 c2 c3 c4 0 w.heap.size d V8 (HA0.out.keep (Keep.of_below HK.out (Nat.le_refl _))) (by omega) FK.out).mono ?_
 rintro e w9 ⟨xm, rfl, ho9, hb9, z9⟩
 clear APc0 APc1 APz
 clear Ac0 Ac1 Ac2 Ac3 Az
 clear ASc0 ASc1 ASc2 ASz
 clear Xxc0 Xxc1 Xxz
 have JK := hidX (HK.out.trans (hb9.mono (by omega)))
 have JAP := hidX (HAP.out.keep (Keep.of_below hb9 (by omega)))
 have JA := hidX (HA.out.keep (Keep.of_below hb9 (by omega)))
 have JAS := hidX (HAS.out.keep (Keep.of_below hb9 (by omega)))
 have JRx := hidX (HRx.out.keep (Keep.of_below hb9 (by omega)))
 have JXx := hidX (HXx.out.keep (Keep.of_below hb9 (by omega)))
 clear HK HAP HA HAS HRx HXx
 have HK := JK
 have HAP := JAP
 have HA := JA
 have HAS := JAS
 have HRx := JRx
 have HXx := JXx
 clear JK JAP JA JAS JRx JXx
 have HRm : Hid (MaR w9 V8.heap.size w9.heap.size xm.s1 xm.s2 xm.s3 xm.s4 d) := ho9.ma
 clear hb9 ho9
 obtain ⟨APc0, APc1⟩ := HAP.out
 have APz : w.heap.size < w9.heap.size := by omega
 obtain ⟨Ac0, Ac1, Ac2, Ac3⟩ := HA.out
 have Az : w.heap.size + 1 < w9.heap.size := by omega
 obtain ⟨ASc0, ASc1, ASc2⟩ := HAS.out
 have ASz : w.heap.size + 1 + 1 < w9.heap.size := by omega
 obtain ⟨Xxc0, Xxc1⟩ := HXx.out
 have Xxz : w7.heap.size < w9.heap.size := by omega
 go_wp2_with fail
 obtain ⟨V10, hV10, bx10, kb10, zb10⟩ := Bo4.new w9 (.slice xm.s1 d.codes.length xm.c1) (.slice xm.s2 d.cores.length xm.c2) (.slice xm.s3 d.mem.length xm.c3) (.slice xm.s4 d.tr.length xm.c4) 53
 rw [hV10]
 clear hV10
 clear APc0 APc1 APz
 clear Ac0 Ac1 Ac2 Ac3 Az
 clear ASc0 ASc1 ASc2 ASz
 clear Xxc0 Xxc1 Xxz
 have JK := hidX (HK.out.trans (kb10.mono (by omega)))
 have JAP := hidX (HAP.out.keep (Keep.of_below kb10 (by omega)))
 have JA := hidX (HA.out.keep (Keep.of_below kb10 (by omega)))
 have JAS := hidX (HAS.out.keep (Keep.of_below kb10 (by omega)))
 have JRx := hidX (HRx.out.keep (Keep.of_below kb10 (by omega)))
 have JXx := hidX (HXx.out.keep (Keep.of_below kb10 (by omega)))
 have JRm := hidX (HRm.out.keep (Keep.of_below kb10 (by omega)))
 clear HK HAP HA HAS HRx HXx HRm
 have HK := JK
 have HAP := JAP
 have HA := JA
 have HAS := JAS
 have HRx := JRx
 have HXx := JXx
 have HRm := JRm
 clear JK JAP JA JAS JRx JXx JRm
 have HXm : Hid (Bo4 w9.heap.size V10 (.slice xm.s1 d.codes.length xm.c1) (.slice xm.s2 d.cores.length xm.c2) (.slice xm.s3 d.mem.length xm.c3) (.slice xm.s4 d.tr.length xm.c4)) := bx10
 clear bx10 kb10
 obtain ⟨APc0, APc1⟩ := HAP.out
 have APz : w.heap.size < V10.heap.size := by omega
 obtain ⟨Ac0, Ac1, Ac2, Ac3⟩ := HA.out
 have Az : w.heap.size + 1 < V10.heap.size := by omega
 obtain ⟨ASc0, ASc1, ASc2⟩ := HAS.out
 have ASz : w.heap.size + 1 + 1 < V10.heap.size := by omega
 obtain ⟨Xxc0, Xxc1⟩ := HXx.out
 have Xxz : w7.heap.size < V10.heap.size := by omega
 obtain ⟨Xmc0, Xmc1, Xmc2, Xmc3⟩ := HXm.out
 have Xmz : w9.heap.size < V10.heap.size := by omega
 refine (toSource_own r1 r2 r3 b1 b2 b3 0 w.heap.size sd V10 (HS.out.keep (Keep.of_below HK.out (Nat.le_refl _))) (by omega) FS.out).mono ?_
 rintro e w11 ⟨va11, vb11, vc11, Laz, Lbz, rfl, ho11, hb11, z11⟩
 obtain ⟨xz1, yz1, xz2, yz2, xz3, yz3, rfl, rfl, rfl, hs11⟩ := ho11.src
 clear APc0 APc1 APz
 clear Ac0 Ac1 Ac2 Ac3 Az
 clear ASc0 ASc1 ASc2 ASz
 clear Xxc0 Xxc1 Xxz
 clear Xmc0 Xmc1 Xmc2 Xmc3 Xmz
 have JK := hidX (HK.out.trans (hb11.mono (by omega)))
 have JAP := hidX (HAP.out.keep (Keep.of_below hb11 (by omega)))
 have JA := hidX (HA.out.keep (Keep.of_below hb11 (by omega)))
 have JAS := hidX (HAS.out.keep (Keep.of_below hb11 (by omega)))
 have JRx := hidX (HRx.out.keep (Keep.of_below hb11 (by omega)))
 have JXx := hidX (HXx.out.keep (Keep.of_below hb11 (by omega)))
 have JRm := hidX (HRm.out.keep (Keep.of_below hb11 (by omega)))
 have JXm := hidX (HXm.out.keep (Keep.of_below hb11 (by omega)))
 clear HK HAP HA HAS HRx HXx HRm HXm
 have HK := JK
 have HAP := JAP
 have HA := JA
 have HAS := JAS
 have HRx := JRx
 have HXx := JXx
 have HRm := JRm
 have HXm := JXm
 clear JK JAP JA JAS JRx JXx JRm JXm
 have HRz : Hid (SrcR w11 V10.heap.size w11.heap.size xz1 xz2 xz3 sd) := hs11
 clear hb11 hs11 ho11
 obtain ⟨APc0, APc1⟩ := HAP.out
 have APz : w.heap.size < w11.heap.size := by omega
 obtain ⟨Ac0, Ac1, Ac2, Ac3⟩ := HA.out
 have Az : w.heap.size + 1 < w11.heap.size := by omega
 obtain ⟨ASc0, ASc1, ASc2⟩ := HAS.out
 have ASz : w.heap.size + 1 + 1 < w11.heap.size := by omega
 obtain ⟨Xxc0, Xxc1⟩ := HXx.out
 have Xxz : w7.heap.size < w11.heap.size := by omega
 obtain ⟨Xmc0, Xmc1, Xmc2, Xmc3⟩ := HXm.out
 have Xmz : w9.heap.size < w11.heap.size := by omega
 go_wp2_with fail
 obtain ⟨V12, hV12, bx12, kb12, zb12⟩ := Bo3.new w11 (.slice xz1 sd.ths.length yz1) (.slice xz2 sd.chs.length yz2) (.slice xz3 sd.tr.length yz3) 58
 rw [hV12]
 clear hV12
 clear APc0 APc1 APz
 clear Ac0 Ac1 Ac2 Ac3 Az
 clear ASc0 ASc1 ASc2 ASz
 clear Xxc0 Xxc1 Xxz
 clear Xmc0 Xmc1 Xmc2 Xmc3 Xmz
 have JK := hidX (HK.out.trans (kb12.mono (by omega)))
 have JAP := hidX (HAP.out.keep (Keep.of_below kb12 (by omega)))
 have JA := hidX (HA.out.keep (Keep.of_below kb12 (by omega)))
 have JAS := hidX (HAS.out.keep (Keep.of_below kb12 (by omega)))
 have JRx := hidX (HRx.out.keep (Keep.of_below kb12 (by omega)))
 have JXx := hidX (HXx.out.keep (Keep.of_below kb12 (by omega)))
 have JRm := hidX (HRm.out.keep (Keep.of_below kb12 (by omega)))
 have JXm := hidX (HXm.out.keep (Keep.of_below kb12 (by omega)))
 have JRz := hidX (HRz.out.keep (Keep.of_below kb12 (by omega)))
 clear HK HAP HA HAS HRx HXx HRm HXm HRz
 have HK := JK
 have HAP := JAP
 have HA := JA
 have HAS := JAS
 have HRx := JRx
 have HXx := JXx
 have HRm := JRm
 have HXm := JXm
 have HRz := JRz
 clear JK JAP JA JAS JRx JXx JRm JXm JRz
 have HXz : Hid (Bo3 w11.heap.size V12 (.slice xz1 sd.ths.length yz1) (.slice xz2 sd.chs.length yz2) (.slice xz3 sd.tr.length yz3)) := bx12
 clear bx12 kb12
 obtain ⟨APc0, APc1⟩ := HAP.out
 have APz : w.heap.size < V12.heap.size := by omega
 obtain ⟨Ac0, Ac1, Ac2, Ac3⟩ := HA.out
 have Az : w.heap.size + 1 < V12.heap.size := by omega
 obtain ⟨ASc0, ASc1, ASc2⟩ := HAS.out
 have ASz : w.heap.size + 1 + 1 < V12.heap.size := by omega
 obtain ⟨Xxc0, Xxc1⟩ := HXx.out
 have Xxz : w7.heap.size < V12.heap.size := by omega
 obtain ⟨Xmc0, Xmc1, Xmc2, Xmc3⟩ := HXm.out
 have Xmz : w9.heap.size < V12.heap.size := by omega
 obtain ⟨Xzc0, Xzc1, Xzc2⟩ := HXz.out
 have Xzz : w11.heap.size < V12.heap.size := by omega
 refine (implSame_any xx1 xx2 xm.s1 xm.s2 xm.s3 xm.s4 xz1 xz2 xz3 _ _ _ _ _ _ _ _ _ _ _ _ _ _ _ p d sd V12 HRx.out HRm.out HRz.out (by omega) (by omega) (by omega) FP.out FF.out FS.out).mono ?_
 rintro e w13 ⟨rfl, hb13⟩
 have z13 := hb13.size
 clear APc0 APc1 APz
 clear Ac0 Ac1 Ac2 Ac3 Az
 clear ASc0 ASc1 ASc2 ASz
 clear Xxc0 Xxc1 Xxz
 clear Xmc0 Xmc1 Xmc2 Xmc3 Xmz
 clear Xzc0 Xzc1 Xzc2 Xzz
 have JK := hidX (HK.out.trans (hb13.mono (by omega)))
 have JAP := hidX (HAP.out.keep (Keep.of_below hb13 (by omega)))
 have JA := hidX (HA.out.keep (Keep.of_below hb13 (by omega)))
 have JAS := hidX (HAS.out.keep (Keep.of_below hb13 (by omega)))
 have JRx := hidX (HRx.out.keep (Keep.of_below hb13 (by omega)))
 have JXx := hidX (HXx.out.keep (Keep.of_below hb13 (by omega)))
 have JRm := hidX (HRm.out.keep (Keep.of_below hb13 (by omega)))
 have JXm := hidX (HXm.out.keep (Keep.of_below hb13 (by omega)))
 have JRz := hidX (HRz.out.keep (Keep.of_below hb13 (by omega)))
 have JXz := hidX (HXz.out.keep (Keep.of_below hb13 (by omega)))
 clear HK HAP HA HAS HRx HXx HRm HXm HRz HXz
 have HK := JK
 have HAP := JAP
 have HA := JA
 have HAS := JAS
 have HRx := JRx
 have HXx := JXx
 have HRm := JRm
 have HXm := JXm
 have HRz := JRz
 have HXz := JXz
 clear JK JAP JA JAS JRx JXx JRm JXm JRz JXz
 clear hb13
 rw [HBB.out]
 obtain ⟨APc0, APc1⟩ := HAP.out
 have APz : w.heap.size < w13.heap.size := by omega
 obtain ⟨Ac0, Ac1, Ac2, Ac3⟩ := HA.out
 have Az : w.heap.size + 1 < w13.heap.size := by omega
 obtain ⟨ASc0, ASc1, ASc2⟩ := HAS.out
 have ASz : w.heap.size + 1 + 1 < w13.heap.size := by omega
 obtain ⟨Xxc0, Xxc1⟩ := HXx.out
 have Xxz : w7.heap.size < w13.heap.size := by omega
 obtain ⟨Xmc0, Xmc1, Xmc2, Xmc3⟩ := HXm.out
 have Xmz : w9.heap.size < w13.heap.size := by omega
 obtain ⟨Xzc0, Xzc1, Xzc2⟩ := HXz.out
 have Xzz : w11.heap.size < w13.heap.size := by omega
 go_wp2_with fail
 go_region_held3 (fun w' => w'.cell? ⟨w7.heap.size, 0, none⟩ = some (.slice xx1 p.caps.length p.caps.length) ∧ w'.cell? ⟨w7.heap.size, 1, none⟩ = some (.slice xx2 p.bods.length p.bods.length) ∧ w'.cell? ⟨w.heap.size, 0, none⟩ = some (.slice p1 p.caps.length a1) ∧ w'.cell? ⟨w.heap.size, 1, none⟩ = some (.slice p2 p.bods.length a2)) (go_keep) (first | (go_at_call 8; refine (toProg_new p1 p2 a1 a2 0 w.heap.size p w13.drew (HP.out.keep' (Keep.of_below HK.out.drew (Nat.le_refl _))) (by show w.heap.size ≤ w13.heap.size; omega) FP.out).mono ?_; rintro e w14 ⟨f1, f2, rfl, hb14, hz14, ho14⟩; have kx : Below w13.heap.size w13 w14 := (Below.drew (Below.refl _ _)).trans hb14; have kz := kx.size; have XX := HXx.out.keep (Keep.of_below kx (by omega)); have AA := HAP.out.keep (Keep.of_below kx (by omega)); have t0 := XX.c0; have t1 := XX.c1; have t3 := AA.c0; have t4 := AA.c1) | (go_at_call 12; refine (eqProg_same xx1 xx2 f1 f2 _ _ _ _ wC.heap.size w7.heap.size w13.heap.size w14.heap.size p w14 (HRx.out.keep' (Keep.of_below kx (by omega))) ho14 (by omega) (Nat.le_refl _) FP.out).mono ?_; rintro e w15 ⟨rfl, hb15⟩; have ky : Below w13.heap.size w13 w15 := kx.trans (hb15.mono (by omega)); have XY := HXx.out.keep (Keep.of_below ky (by omega)); have AY := HAP.out.keep (Keep.of_below ky (by omega)); have u0 := XY.c0; have u1 := XY.c1; have u3 := AY.c0; have u4 := AY.c1))
 have z15 := ky.size
 clear t0 t1 t3 t4 u0 u1 u3 u4 XX AA XY AY hb14 hb15 ho14 hz14 kx kz
 clear APc0 APc1 APz
 clear Ac0 Ac1 Ac2 Ac3 Az
 clear ASc0 ASc1 ASc2 ASz
 clear Xxc0 Xxc1 Xxz
 clear Xmc0 Xmc1 Xmc2 Xmc3 Xmz
 clear Xzc0 Xzc1 Xzc2 Xzz
 have JK := hidX (HK.out.trans (ky.mono (by omega)))
 have JAP := hidX (HAP.out.keep (Keep.of_below ky (by omega)))
 have JA := hidX (HA.out.keep (Keep.of_below ky (by omega)))
 have JAS := hidX (HAS.out.keep (Keep.of_below ky (by omega)))
 have JRx := hidX (HRx.out.keep (Keep.of_below ky (by omega)))
 have JXx := hidX (HXx.out.keep (Keep.of_below ky (by omega)))
 have JRm := hidX (HRm.out.keep (Keep.of_below ky (by omega)))
 have JXm := hidX (HXm.out.keep (Keep.of_below ky (by omega)))
 have JRz := hidX (HRz.out.keep (Keep.of_below ky (by omega)))
 have JXz := hidX (HXz.out.keep (Keep.of_below ky (by omega)))
 clear HK HAP HA HAS HRx HXx HRm HXm HRz HXz
 have HK := JK
 have HAP := JAP
 have HA := JA
 have HAS := JAS
 have HRx := JRx
 have HXx := JXx
 have HRm := JRm
 have HXm := JXm
 have HRz := JRz
 have HXz := JXz
 clear JK JAP JA JAS JRx JXx JRm JXm JRz JXz
 clear ky
 obtain ⟨APc0, APc1⟩ := HAP.out
 have APz : w.heap.size < w15.heap.size := by omega
 obtain ⟨Ac0, Ac1, Ac2, Ac3⟩ := HA.out
 have Az : w.heap.size + 1 < w15.heap.size := by omega
 obtain ⟨ASc0, ASc1, ASc2⟩ := HAS.out
 have ASz : w.heap.size + 1 + 1 < w15.heap.size := by omega
 obtain ⟨Xxc0, Xxc1⟩ := HXx.out
 have Xxz : w7.heap.size < w15.heap.size := by omega
 obtain ⟨Xmc0, Xmc1, Xmc2, Xmc3⟩ := HXm.out
 have Xmz : w9.heap.size < w15.heap.size := by omega
 obtain ⟨Xzc0, Xzc1, Xzc2⟩ := HXz.out
 have Xzz : w11.heap.size < w15.heap.size := by omega
 go_wp2_with fail
 go_region_held3 (fun w' => w'.cell? ⟨w9.heap.size, 0, none⟩ = some (.slice xm.s1 d.codes.length xm.c1) ∧ w'.cell? ⟨w9.heap.size, 1, none⟩ = some (.slice xm.s2 d.cores.length xm.c2) ∧ w'.cell? ⟨w9.heap.size, 2, none⟩ = some (.slice xm.s3 d.mem.length xm.c3) ∧ w'.cell? ⟨w9.heap.size, 3, none⟩ = some (.slice xm.s4 d.tr.length xm.c4) ∧ w'.cell? ⟨w.heap.size + 1, 0, none⟩ = some (.slice s1 d.codes.length c1) ∧ w'.cell? ⟨w.heap.size + 1, 1, none⟩ = some (.slice s2 d.cores.length c2) ∧ w'.cell? ⟨w.heap.size + 1, 2, none⟩ = some (.slice s3 d.mem.length c3) ∧ w'.cell? ⟨w.heap.size + 1, 3, none⟩ = some (.slice s4 d.tr.length c4)) (go_keep) (first | (go_at_call 9; refine (toMachine_own s1 s2 s3 s4 c1 c2 c3 c4 0 w.heap.size d w15.drew (HA0.out.keep (Keep.of_below HK.out.drew (Nat.le_refl _))) (by show w.heap.size ≤ w15.heap.size; omega) FK.out).mono ?_; rintro e w16 ⟨xq, rfl, ho16, hb16, hz16⟩; have kx : Below w15.heap.size w15 w16 := (Below.drew (Below.refl _ _)).trans hb16; have kz := kx.size; have XX := HXm.out.keep (Keep.of_below kx (by omega)); have AA := HA.out.keep (Keep.of_below kx (by omega)); have t0 := XX.c0; have t1 := XX.c1; have t2 := XX.c2; have t3 := XX.c3; have t4 := AA.c0; have t5 := AA.c1; have t6 := AA.c2; have t7 := AA.c3) | (go_at_call 13; refine (eqMachine_alike xm.s1 xm.s2 xm.s3 xm.s4 xq.s1 xq.s2 xq.s3 xq.s4 _ _ _ _ _ _ _ _ V8.heap.size w9.heap.size w15.heap.size w16.heap.size d w16 (HRm.out.keep (Keep.of_below kx (by omega))) (ho16.ma) (by omega) (Nat.le_refl _) FF.out).mono ?_; rintro e w17 ⟨rfl, hb17⟩; have ky : Below w15.heap.size w15 w17 := kx.trans (hb17.mono (by omega)); have XY := XX.keep (Keep.of_below hb17 (by omega)); have AY := AA.keep (Keep.of_below hb17 (by omega)); have u0 := XY.c0; have u1 := XY.c1; have u2 := XY.c2; have u3 := XY.c3; have u4 := AY.c0; have u5 := AY.c1; have u6 := AY.c2; have u7 := AY.c3) | fail)
 have z17 := ky.size
 clear t0 u0 t1 u1 t2 u2 t3 u3 t4 u4 t5 u5 t6 u6 t7 u7 XX AA XY AY hb16 hb17 ho16 hz16 kx kz
 clear APc0 APc1 APz
 clear Ac0 Ac1 Ac2 Ac3 Az
 clear ASc0 ASc1 ASc2 ASz
 clear Xxc0 Xxc1 Xxz
 clear Xmc0 Xmc1 Xmc2 Xmc3 Xmz
 clear Xzc0 Xzc1 Xzc2 Xzz
 have JK := hidX (HK.out.trans (ky.mono (by omega)))
 have JAP := hidX (HAP.out.keep (Keep.of_below ky (by omega)))
 have JA := hidX (HA.out.keep (Keep.of_below ky (by omega)))
 have JAS := hidX (HAS.out.keep (Keep.of_below ky (by omega)))
 have JRx := hidX (HRx.out.keep (Keep.of_below ky (by omega)))
 have JXx := hidX (HXx.out.keep (Keep.of_below ky (by omega)))
 have JRm := hidX (HRm.out.keep (Keep.of_below ky (by omega)))
 have JXm := hidX (HXm.out.keep (Keep.of_below ky (by omega)))
 have JRz := hidX (HRz.out.keep (Keep.of_below ky (by omega)))
 have JXz := hidX (HXz.out.keep (Keep.of_below ky (by omega)))
 clear HK HAP HA HAS HRx HXx HRm HXm HRz HXz
 have HK := JK
 have HAP := JAP
 have HA := JA
 have HAS := JAS
 have HRx := JRx
 have HXx := JXx
 have HRm := JRm
 have HXm := JXm
 have HRz := JRz
 have HXz := JXz
 clear JK JAP JA JAS JRx JXx JRm JXm JRz JXz
 clear ky
 obtain ⟨APc0, APc1⟩ := HAP.out
 have APz : w.heap.size < w17.heap.size := by omega
 obtain ⟨Ac0, Ac1, Ac2, Ac3⟩ := HA.out
 have Az : w.heap.size + 1 < w17.heap.size := by omega
 obtain ⟨ASc0, ASc1, ASc2⟩ := HAS.out
 have ASz : w.heap.size + 1 + 1 < w17.heap.size := by omega
 obtain ⟨Xxc0, Xxc1⟩ := HXx.out
 have Xxz : w7.heap.size < w17.heap.size := by omega
 obtain ⟨Xmc0, Xmc1, Xmc2, Xmc3⟩ := HXm.out
 have Xmz : w9.heap.size < w17.heap.size := by omega
 obtain ⟨Xzc0, Xzc1, Xzc2⟩ := HXz.out
 have Xzz : w11.heap.size < w17.heap.size := by omega
 go_wp2_with fail
 go_region_held3 (fun w' => w'.cell? ⟨w11.heap.size, 0, none⟩ = some (.slice xz1 sd.ths.length yz1) ∧ w'.cell? ⟨w11.heap.size, 1, none⟩ = some (.slice xz2 sd.chs.length yz2) ∧ w'.cell? ⟨w11.heap.size, 2, none⟩ = some (.slice xz3 sd.tr.length yz3) ∧ w'.cell? ⟨w.heap.size + 1 + 1, 0, none⟩ = some (.slice r1 sd.ths.length b1) ∧ w'.cell? ⟨w.heap.size + 1 + 1, 1, none⟩ = some (.slice r2 sd.chs.length b2) ∧ w'.cell? ⟨w.heap.size + 1 + 1, 2, none⟩ = some (.slice r3 sd.tr.length b3)) (go_keep) (first | (go_at_call 10; refine (toSource_own r1 r2 r3 b1 b2 b3 0 w.heap.size sd w17.drew (HS.out.keep (Keep.of_below HK.out.drew (Nat.le_refl _))) (by show w.heap.size ≤ w17.heap.size; omega) FS.out).mono ?_; rintro e w18 ⟨va18, vb18, vc18, Ma18, Mb18, rfl, ho18, hb18, hz18⟩; obtain ⟨f1, h1, f2, h2, f3, h3, rfl, rfl, rfl, hs18⟩ := ho18.src; have kx : Below w17.heap.size w17 w18 := (Below.drew (Below.refl _ _)).trans hb18; have kz := kx.size; have XX := HXz.out.keep (Keep.of_below kx (by omega)); have AA := HAS.out.keep (Keep.of_below kx (by omega)); have t0 := XX.c0; have t1 := XX.c1; have t2 := XX.c2; have t3 := AA.c0; have t4 := AA.c1; have t5 := AA.c2) | (go_at_call 14; refine (eqSource_alike xz1 xz2 xz3 f1 f2 f3 _ _ _ _ _ _ V10.heap.size w11.heap.size w17.heap.size w18.heap.size sd w18 (HRz.out.keep (Keep.of_below kx (by omega))) hs18 (by omega) (Nat.le_refl _) FS.out).mono ?_; rintro e w19 ⟨rfl, hb19⟩; have ky : Below w17.heap.size w17 w19 := kx.trans (hb19.mono (by omega)); have XY := XX.keep (Keep.of_below hb19 (by omega)); have AY := AA.keep (Keep.of_below hb19 (by omega)); have u0 := XY.c0; have u1 := XY.c1; have u2 := XY.c2; have u3 := AY.c0; have u4 := AY.c1; have u5 := AY.c2))
 have z19 := ky.size
 clear t0 t1 t2 t3 t4 t5 u0 u1 u2 u3 u4 u5 XX AA XY AY hb18 hb19 hs18 ho18 hz18 kx kz
 clear APc0 APc1 APz
 clear Ac0 Ac1 Ac2 Ac3 Az
 clear ASc0 ASc1 ASc2 ASz
 clear Xxc0 Xxc1 Xxz
 clear Xmc0 Xmc1 Xmc2 Xmc3 Xmz
 clear Xzc0 Xzc1 Xzc2 Xzz
 have JK := hidX (HK.out.trans (ky.mono (by omega)))
 have JAP := hidX (HAP.out.keep (Keep.of_below ky (by omega)))
 have JA := hidX (HA.out.keep (Keep.of_below ky (by omega)))
 have JAS := hidX (HAS.out.keep (Keep.of_below ky (by omega)))
 have JRx := hidX (HRx.out.keep (Keep.of_below ky (by omega)))
 have JXx := hidX (HXx.out.keep (Keep.of_below ky (by omega)))
 have JRm := hidX (HRm.out.keep (Keep.of_below ky (by omega)))
 have JXm := hidX (HXm.out.keep (Keep.of_below ky (by omega)))
 have JRz := hidX (HRz.out.keep (Keep.of_below ky (by omega)))
 have JXz := hidX (HXz.out.keep (Keep.of_below ky (by omega)))
 clear HK HAP HA HAS HRx HXx HRm HXm HRz HXz
 have HK := JK
 have HAP := JAP
 have HA := JA
 have HAS := JAS
 have HRx := JRx
 have HXx := JXx
 have HRm := JRm
 have HXm := JXm
 have HRz := JRz
 have HXz := JXz
 clear JK JAP JA JAS JRx JXx JRm JXm JRz JXz
 clear ky
 obtain ⟨APc0, APc1⟩ := HAP.out
 have APz : w.heap.size < w19.heap.size := by omega
 obtain ⟨Ac0, Ac1, Ac2, Ac3⟩ := HA.out
 have Az : w.heap.size + 1 < w19.heap.size := by omega
 obtain ⟨ASc0, ASc1, ASc2⟩ := HAS.out
 have ASz : w.heap.size + 1 + 1 < w19.heap.size := by omega
 obtain ⟨Xxc0, Xxc1⟩ := HXx.out
 have Xxz : w7.heap.size < w19.heap.size := by omega
 obtain ⟨Xmc0, Xmc1, Xmc2, Xmc3⟩ := HXm.out
 have Xmz : w9.heap.size < w19.heap.size := by omega
 obtain ⟨Xzc0, Xzc1, Xzc2⟩ := HXz.out
 have Xzz : w11.heap.size < w19.heap.size := by omega
 go_wp2
 go_ret
 exact ⟨rfl, HK.out⟩
set_option maxRecDepth 100000 in
theorem liftedExactSame (os : Os) (started : os.Started) (H : Type) (enc : TypeId × Value → H) :
  ReturnsInHanded {} Tryz.checked os 3 .any (Rows.fnExactSameSpec.pre6 enc Tryz.prog Tryz.f3 Rows.fnExactSameRow.domain false) (Rows.fnExactSameSpec.post enc Tryz.prog Tryz.f3 false true false false) := by
 refine returnsInHanded_of_change (C := Tryz.checked) ownP started (by kernel_rfl) Tryz.func3
  (ChangeSpec.witness6 (enc := enc) (C := Tryz.checked) false ⟨#[], #[.agg #[.slice none 0 0, .slice none 0 0], .agg #[.slice none 0 0, .slice none 0 0, .slice none 0 0, .slice none 0 0], .agg #[.slice none 0 0, .slice none 0 0, .slice none 0 0]], []⟩ 8 (by kernel_rfl) (by kernel_rfl) (by kernel_rfl) (by kernel_rfl)) ?_
 intro W base args ds gs before hval0 hW hcnd _
 have hval : ∀ (j : Nat) t v, Tryz.f3.params[j]? = some t → args[j]? = some v → Value.okWide Tryz.prog W .any base t v := hval0
 have hW' := hW
 obtain ⟨p, q, hA0, hV, rfl, hfz, hnd⟩ := hW
 have hA : DataW.TrodAll enc Tryz.prog W 0 (fun _ => true) true Tryz.f3.params.toList args.toList ds p := hA0
 rw [Tryz.params3] at hA hval
 obtain ⟨v0, v1, v2, d0, d1, d2, p0, p1, p2, hargs, rfl, rfl, h0, h1, h2⟩ := trodAll_three hA
 obtain rfl : args = #[v0, v1, v2] := by cases args; simp_all
 obtain ⟨rfl, rfl⟩ := trodVars_none hV
 have k0 := h0
 have lt0 : ∀ x ∈ p0, x.block < W.heap.size := by obtain ⟨m, hm⟩ := k0; exact DataW.trod_lt m _ _ _ hm
 have k1 := h1
 have lt1 : ∀ x ∈ p1, x.block < W.heap.size := by obtain ⟨m, hm⟩ := k1; exact DataW.trod_lt m _ _ _ hm
 have k2 := h2
 have lt2 : ∀ x ∈ p2, x.block < W.heap.size := by obtain ⟨m, hm⟩ := k2; exact DataW.trod_lt m _ _ _ hm
 obtain ⟨p1, p2, a1, a2, pd, rfl, m1, m2, m3, hP⟩ := open_prog (hval 0 25 v0 rfl rfl) h0
 obtain ⟨s1, s2, s3, s4, c1, c2, c3, c4, md, rfl, m0, hM⟩ := open_machine (hval 1 33 v1 rfl rfl) h1
 obtain ⟨r1, r2, r3, b1, b2, b3, sd, rfl, hn, hS⟩ := open_source (hval 2 37 v2 rfl rfl) h2
 clear hA0 hval0
 refine (walkSame p1 p2 s1 s2 s3 s4 r1 r2 r3 a1 a2 c1 c2 c3 c4 b1 b2 b3 pd md sd W hP m1 m2 m3 hM m0 hS hn).mono fun e W' ⟨he, bel⟩ => ?_
 subst he
 exact ⟨_, rfl, _, _, _, [], _, [], hW', trodAll_mk1 (shut_bool Tryz.underlying4 _), trodAll_mk3 (Below.trod laidOutP (by kernel_rfl) (of_decide_eq_true (by kernel_rfl)) k0 bel lt0) (Below.trod laidOutP (by kernel_rfl) (of_decide_eq_true (by kernel_rfl)) k1 bel lt1) (Below.trod laidOutP (by kernel_rfl) (of_decide_eq_true (by kernel_rfl)) k2 bel lt2), rfl, bel.frame _, fun h => by cases h⟩
theorem fnExactSame_holds : Rows.FnExactSameSaid :=
 OpenClaim.holds_of_wide 3 Tryz.f3 rfl rfl rfl rfl rfl rfl rfl ⟨rfl, rfl, rfl, rfl, rfl⟩ rfl rfl rfl rfl rfl (by kernel_rfl) Tryz.func3 (by kernel_rfl)
  (of_decide_eq_true (by kernel_rfl)) (by unfold Func.isWrapper; first | (rw [if_pos (by decide +kernel)]; kernel_rfl) | (rw [if_neg (by decide +kernel)]; exact ⟨rfl, rfl⟩))
  (fun os started H enc _ => liftedExactSame os started H enc)
#print axioms fnExactSame_holds
end Go.Proofs.YtcfehbfjillnoaaGreat
