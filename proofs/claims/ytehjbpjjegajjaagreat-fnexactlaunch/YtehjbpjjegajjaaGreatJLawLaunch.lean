/- The law FnExactLaunch of the given statements: at every argument Launch of the program answers as the specification's, writes into no argument, keeps nothing of one, and its answer owns its memory. No condition. -/
import Derived.Test.YtehjbpjjegajjaaGreatJG02
import Derived.Test.YtehjbpjjegajjaaGreatJG06
import Derived.Test.YtehjbpjjegajjaaGreatJKEq
import Derived.Test.YtehjbpjjegajjaaGreatJG15
import Derived.Test.YtehjbpjjegajjaaGreatJG24
import Derived.Deep.RegionHeld3
namespace Go.Proofs.YtehjbpjjegajjaaGreat
set_option linter.unusedSimpArgs false
set_option linter.unusedVariables false
set_option maxRecDepth 100000
open Go.ChangeShapes Go.WideShapes Go.ChangeAt Go.RowKit Go.Deep
def PR (w : World) (lo hi : Nat) (s s' : Option Addr) (p : PD) : Prop := ProgR w lo hi s s' p
theorem PR.keep {w w' : World} {lo hi : Nat} {s s' : Option Addr} {p : PD} (h : PR w lo hi s s' p) (hb : Keep lo hi w w') : PR w' lo hi s s' p := ProgR.keep' h hb
theorem PR.keep' {w w' : World} {lo hi : Nat} {s s' : Option Addr} {p : PD} (h : PR w lo hi s s' p) (hb : Keep lo hi w w') : ProgR w' lo hi s s' p := ProgR.keep' h hb
set_option maxRecDepth 100000 in
set_option maxHeartbeats 8000000 in
theorem walkLaunch (p1 p2 : Option Addr) (a1 a2 : Nat) (p : PD) (w : World) (h : ProgR w 0 w.heap.size p1 p2 p) (m1 : p.caps.length ≤ maxLen) (m2 : p.bods.length ≤ maxLen) (m3 : ∀ i, i < p.bods.length → (p.bods.getD i []).length ≤ maxLen) :
  Calls Tryz.prog 3 #[.agg #[.slice p1 p.caps.length a1, .slice p2 p.bods.length a2]] w fun e w' => e = .returned (.bool true) ∧ Below w.heap.size w w' := by
 have HP : Hid (ProgR w 0 w.heap.size p1 p2 p) := h
 have M3 : Hid (∀ i, i < p.bods.length → (p.bods.getD i []).length ≤ maxLen) := m3
 clear h m3
 go_enter Tryz.func3, Tryz.ntmps3
 go_wp2_with fail
 have HK : Hid (Below w.heap.size w w) := Below.refl _ _
 obtain ⟨V1, hV1, bx1, kb1, zb1⟩ := Bo2.new w (.slice p1 p.caps.length a1) (.slice p2 p.bods.length a2) 25
 rw [hV1]
 clear hV1
 have JK := hidL (HK.out.trans (kb1.mono (by omega)))
 clear HK
 have HK := JK
 clear JK
 have HAP : Hid (Bo2 w.heap.size V1 (.slice p1 p.caps.length a1) (.slice p2 p.bods.length a2)) := bx1
 clear bx1 kb1
 refine (szProg_le p1 p2 a1 a2 0 w.heap.size p V1 (HP.out.keep' (Keep.of_below HK.out (Nat.le_refl _))) (by omega) m1 m2 M3.out).mono ?_
 rintro e w2 ⟨⟨u, rfl, hu⟩, hb2⟩
 have z2 := hb2.size
 have JK := hidL (HK.out.trans (hb2.mono (by omega)))
 have JAP := hidL (HAP.out.keep (Keep.of_below hb2 (by omega)))
 clear HK HAP
 have HK := JK
 have HAP := JAP
 clear JK JAP
 clear hb2
 obtain ⟨APc0, APc1⟩ := HAP.out
 have APz : w.heap.size < w2.heap.size := by omega
 rcases hu with hu | ⟨hu, hu2, hf⟩
 ·go_wp2
  go_ret
  exact ⟨rfl, HK.out⟩
 have hun : ¬ u < 0 := by omega
 have FP : Hid (Fits p) := hf
 clear hf
 go_wp2_with fail
 obtain ⟨d, hd⟩ : ∃ d, lauD p = d := ⟨_, rfl⟩
 obtain ⟨bb, hbb⟩ : ∃ b, lauB p = b := ⟨_, rfl⟩
 have FF : Hid (MaFits d) := by rw [← hd]; exact fits_newA (small_sz (cpM_small p))
 have CI : Hid (∀ (s s' : Option Addr) (c c' lo hi : Nat) (w : World), ProgR w lo hi s s' p → hi ≤ w.heap.size → Calls Tryz.prog 7 #[.agg #[.slice s p.caps.length c, .slice s' p.bods.length c']] w fun e w' => ∃ p : MP, e = .returned (.tuple #[.agg #[.slice p.s1 d.codes.length p.c1, .slice p.s2 d.cores.length p.c2, .slice p.s3 d.mem.length p.c3, .slice p.s4 d.tr.length p.c4], .bool bb]) ∧ MaO w' w.heap.size w'.heap.size p d ∧ Below w.heap.size w w') := fun s s' c c' lo hi w h hB => by have q := implLau_any s s' c c' lo hi p w h hB FP.out; rw [hd, hbb] at q; exact q
 have CS : Hid (∀ (s s' : Option Addr) (c c' lo hi : Nat) (w : World), ProgR w lo hi s s' p → hi ≤ w.heap.size → Calls Tryz.prog 5 #[.agg #[.slice s p.caps.length c, .slice s' p.bods.length c']] w fun e w' => ∃ p : MP, e = .returned (.tuple #[.agg #[.slice p.s1 d.codes.length p.c1, .slice p.s2 d.cores.length p.c2, .slice p.s3 d.mem.length p.c3, .slice p.s4 d.tr.length p.c4], .bool bb]) ∧ MaO w' w.heap.size w'.heap.size p d ∧ Below w.heap.size w w') := fun s s' c c' lo hi w h hB => by have q := specLau_any s s' c c' lo hi p w h hB FP.out; rw [hd, hbb] at q; exact q
 have hbn : (bb != bb) = false := by simp
 clear hd hbb
 refine (toProg_own p1 p2 a1 a2 0 w.heap.size p w2 (HP.out.keep' (Keep.of_below HK.out (Nat.le_refl _))) (by omega) FP.out).mono ?_
 rintro e w3 ⟨xa1, xa2, Lxa, rfl, ho3, hb3, z3⟩
 clear APc0 APc1 APz
 have JK := hidL (HK.out.trans (hb3.mono (by omega)))
 have JAP := hidL (HAP.out.keep (Keep.of_below hb3 (by omega)))
 clear HK HAP
 have HK := JK
 have HAP := JAP
 clear JK JAP
 have HRa : Hid (PR w3 w2.heap.size w3.heap.size xa1 xa2 p) := ho3.prog
 clear hb3 ho3
 obtain ⟨APc0, APc1⟩ := HAP.out
 have APz : w.heap.size < w3.heap.size := by omega
 go_wp2_with fail
 refine (CS.out xa1 xa2 _ _ _ _ w3 HRa.out (by omega)).mono ?_
 rintro e w4 ⟨xw, rfl, ho4, hb4⟩
 have z4 := hb4.size
 clear APc0 APc1 APz
 have JK := hidL (HK.out.trans (hb4.mono (by omega)))
 have JAP := hidL (HAP.out.keep (Keep.of_below hb4 (by omega)))
 have JRa := hidL (HRa.out.keep (Keep.of_below hb4 (by omega)))
 clear HK HAP HRa
 have HK := JK
 have HAP := JAP
 have HRa := JRa
 clear JK JAP JRa
 have HRw : Hid (MaR w4 w3.heap.size w4.heap.size xw.s1 xw.s2 xw.s3 xw.s4 d) := ho4.ma
 clear hb4 ho4
 obtain ⟨APc0, APc1⟩ := HAP.out
 have APz : w.heap.size < w4.heap.size := by omega
 go_wp2_with fail
 obtain ⟨V5, hV5, bx5, kb5, zb5⟩ := Bo4.new w4 (.slice xw.s1 d.codes.length xw.c1) (.slice xw.s2 d.cores.length xw.c2) (.slice xw.s3 d.mem.length xw.c3) (.slice xw.s4 d.tr.length xw.c4) 34
 rw [hV5]
 clear hV5
 clear APc0 APc1 APz
 have JK := hidL (HK.out.trans (kb5.mono (by omega)))
 have JAP := hidL (HAP.out.keep (Keep.of_below kb5 (by omega)))
 have JRa := hidL (HRa.out.keep (Keep.of_below kb5 (by omega)))
 have JRw := hidL (HRw.out.keep (Keep.of_below kb5 (by omega)))
 clear HK HAP HRa HRw
 have HK := JK
 have HAP := JAP
 have HRa := JRa
 have HRw := JRw
 clear JK JAP JRa JRw
 have HXw : Hid (Bo4 w4.heap.size V5 (.slice xw.s1 d.codes.length xw.c1) (.slice xw.s2 d.cores.length xw.c2) (.slice xw.s3 d.mem.length xw.c3) (.slice xw.s4 d.tr.length xw.c4)) := bx5
 clear bx5 kb5
 obtain ⟨APc0, APc1⟩ := HAP.out
 have APz : w.heap.size < V5.heap.size := by omega
 obtain ⟨Xwc0, Xwc1, Xwc2, Xwc3⟩ := HXw.out
 have Xwz : w4.heap.size < V5.heap.size := by omega
 clear HRa
 refine (toProg_own p1 p2 a1 a2 0 w.heap.size p V5 (HP.out.keep' (Keep.of_below HK.out (Nat.le_refl _))) (by omega) FP.out).mono ?_
 rintro e w6 ⟨xx1, xx2, Lxx, rfl, ho6, hb6, z6⟩
 clear APc0 APc1 APz
 clear Xwc0 Xwc1 Xwc2 Xwc3 Xwz
 have JK := hidL (HK.out.trans (hb6.mono (by omega)))
 have JAP := hidL (HAP.out.keep (Keep.of_below hb6 (by omega)))
 have JRw := hidL (HRw.out.keep (Keep.of_below hb6 (by omega)))
 have JXw := hidL (HXw.out.keep (Keep.of_below hb6 (by omega)))
 clear HK HAP HRw HXw
 have HK := JK
 have HAP := JAP
 have HRw := JRw
 have HXw := JXw
 clear JK JAP JRw JXw
 have HRx : Hid (PR w6 V5.heap.size w6.heap.size xx1 xx2 p) := ho6.prog
 have HOx : Hid (GB w6 V5.heap.size w6.heap.size (.slice xx1 p.caps.length p.caps.length) (.slice xx2 p.bods.length p.bods.length) Lxx p) := GB.of ho6
 clear hb6 ho6
 obtain ⟨APc0, APc1⟩ := HAP.out
 have APz : w.heap.size < w6.heap.size := by omega
 obtain ⟨Xwc0, Xwc1, Xwc2, Xwc3⟩ := HXw.out
 have Xwz : w4.heap.size < w6.heap.size := by omega
 go_wp2_with fail
 obtain ⟨V7, hV7, bx7, kb7, zb7⟩ := Bo2.new w6 (.slice xx1 p.caps.length p.caps.length) (.slice xx2 p.bods.length p.bods.length) 39
 rw [hV7]
 clear hV7
 clear APc0 APc1 APz
 clear Xwc0 Xwc1 Xwc2 Xwc3 Xwz
 have JK := hidL (HK.out.trans (kb7.mono (by omega)))
 have JAP := hidL (HAP.out.keep (Keep.of_below kb7 (by omega)))
 have JRw := hidL (HRw.out.keep (Keep.of_below kb7 (by omega)))
 have JXw := hidL (HXw.out.keep (Keep.of_below kb7 (by omega)))
 have JRx := hidL (HRx.out.keep (Keep.of_below kb7 (by omega)))
 have JOx := hidL (HOx.out.keep (Keep.of_below kb7 (by omega)))
 clear HK HAP HRw HXw HRx HOx
 have HK := JK
 have HAP := JAP
 have HRw := JRw
 have HXw := JXw
 have HRx := JRx
 have HOx := JOx
 clear JK JAP JRw JXw JRx JOx
 have HXx : Hid (Bo2 w6.heap.size V7 (.slice xx1 p.caps.length p.caps.length) (.slice xx2 p.bods.length p.bods.length)) := bx7
 clear bx7 kb7
 obtain ⟨APc0, APc1⟩ := HAP.out
 have APz : w.heap.size < V7.heap.size := by omega
 obtain ⟨Xwc0, Xwc1, Xwc2, Xwc3⟩ := HXw.out
 have Xwz : w4.heap.size < V7.heap.size := by omega
 obtain ⟨Xxc0, Xxc1⟩ := HXx.out
 have Xxz : w6.heap.size < V7.heap.size := by omega
 refine (CI.out xx1 xx2 _ _ _ _ V7 HRx.out (by omega)).mono ?_
 rintro e w8 ⟨xg, rfl, ho8, hb8⟩
 have z8 := hb8.size
 clear APc0 APc1 APz
 clear Xwc0 Xwc1 Xwc2 Xwc3 Xwz
 clear Xxc0 Xxc1 Xxz
 have JK := hidL (HK.out.trans (hb8.mono (by omega)))
 have JAP := hidL (HAP.out.keep (Keep.of_below hb8 (by omega)))
 have JRw := hidL (HRw.out.keep (Keep.of_below hb8 (by omega)))
 have JXw := hidL (HXw.out.keep (Keep.of_below hb8 (by omega)))
 have JRx := hidL (HRx.out.keep (Keep.of_below hb8 (by omega)))
 have JOx := hidL (HOx.out.keep (Keep.of_below hb8 (by omega)))
 have JXx := hidL (HXx.out.keep (Keep.of_below hb8 (by omega)))
 clear HK HAP HRw HXw HRx HOx HXx
 have HK := JK
 have HAP := JAP
 have HRw := JRw
 have HXw := JXw
 have HRx := JRx
 have HOx := JOx
 have HXx := JXx
 clear JK JAP JRw JXw JRx JOx JXx
 have HRg : Hid (MaR w8 V7.heap.size w8.heap.size xg.s1 xg.s2 xg.s3 xg.s4 d) := ho8.ma
 have HOg : Hid (MaSh w8 V7.heap.size w8.heap.size xg d) := ho8.sh
 clear hb8 ho8
 obtain ⟨APc0, APc1⟩ := HAP.out
 have APz : w.heap.size < w8.heap.size := by omega
 obtain ⟨Xwc0, Xwc1, Xwc2, Xwc3⟩ := HXw.out
 have Xwz : w4.heap.size < w8.heap.size := by omega
 obtain ⟨Xxc0, Xxc1⟩ := HXx.out
 have Xxz : w6.heap.size < w8.heap.size := by omega
 go_wp2_with fail
 obtain ⟨V9, hV9, bx9, kb9, zb9⟩ := Bo4.new w8 (.slice xg.s1 d.codes.length xg.c1) (.slice xg.s2 d.cores.length xg.c2) (.slice xg.s3 d.mem.length xg.c3) (.slice xg.s4 d.tr.length xg.c4) 34
 rw [hV9]
 clear hV9
 clear APc0 APc1 APz
 clear Xwc0 Xwc1 Xwc2 Xwc3 Xwz
 clear Xxc0 Xxc1 Xxz
 have JK := hidL (HK.out.trans (kb9.mono (by omega)))
 have JAP := hidL (HAP.out.keep (Keep.of_below kb9 (by omega)))
 have JRw := hidL (HRw.out.keep (Keep.of_below kb9 (by omega)))
 have JXw := hidL (HXw.out.keep (Keep.of_below kb9 (by omega)))
 have JRx := hidL (HRx.out.keep (Keep.of_below kb9 (by omega)))
 have JOx := hidL (HOx.out.keep (Keep.of_below kb9 (by omega)))
 have JXx := hidL (HXx.out.keep (Keep.of_below kb9 (by omega)))
 have JRg := hidL (HRg.out.keep (Keep.of_below kb9 (by omega)))
 have JOg := hidL (HOg.out.keep (Keep.of_below kb9 (by omega)))
 clear HK HAP HRw HXw HRx HOx HXx HRg HOg
 have HK := JK
 have HAP := JAP
 have HRw := JRw
 have HXw := JXw
 have HRx := JRx
 have HOx := JOx
 have HXx := JXx
 have HRg := JRg
 have HOg := JOg
 clear JK JAP JRw JXw JRx JOx JXx JRg JOg
 have HXg : Hid (Bo4 w8.heap.size V9 (.slice xg.s1 d.codes.length xg.c1) (.slice xg.s2 d.cores.length xg.c2) (.slice xg.s3 d.mem.length xg.c3) (.slice xg.s4 d.tr.length xg.c4)) := bx9
 clear bx9 kb9
 obtain ⟨APc0, APc1⟩ := HAP.out
 have APz : w.heap.size < V9.heap.size := by omega
 obtain ⟨Xwc0, Xwc1, Xwc2, Xwc3⟩ := HXw.out
 have Xwz : w4.heap.size < V9.heap.size := by omega
 obtain ⟨Xxc0, Xxc1⟩ := HXx.out
 have Xxz : w6.heap.size < V9.heap.size := by omega
 obtain ⟨Xgc0, Xgc1, Xgc2, Xgc3⟩ := HXg.out
 have Xgz : w8.heap.size < V9.heap.size := by omega
 refine (eqMachine_alike _ _ _ _ _ _ _ _ _ _ _ _ _ _ _ _ _ _ _ _ d V9 HRg.out HRw.out (by omega) (by omega) FF.out).mono ?_
 rintro e w10 ⟨rfl, hb10⟩
 have z10 := hb10.size
 clear APc0 APc1 APz
 clear Xwc0 Xwc1 Xwc2 Xwc3 Xwz
 clear Xxc0 Xxc1 Xxz
 clear Xgc0 Xgc1 Xgc2 Xgc3 Xgz
 have JK := hidL (HK.out.trans (hb10.mono (by omega)))
 have JAP := hidL (HAP.out.keep (Keep.of_below hb10 (by omega)))
 have JRw := hidL (HRw.out.keep (Keep.of_below hb10 (by omega)))
 have JXw := hidL (HXw.out.keep (Keep.of_below hb10 (by omega)))
 have JRx := hidL (HRx.out.keep (Keep.of_below hb10 (by omega)))
 have JOx := hidL (HOx.out.keep (Keep.of_below hb10 (by omega)))
 have JXx := hidL (HXx.out.keep (Keep.of_below hb10 (by omega)))
 have JRg := hidL (HRg.out.keep (Keep.of_below hb10 (by omega)))
 have JOg := hidL (HOg.out.keep (Keep.of_below hb10 (by omega)))
 have JXg := hidL (HXg.out.keep (Keep.of_below hb10 (by omega)))
 clear HK HAP HRw HXw HRx HOx HXx HRg HOg HXg
 have HK := JK
 have HAP := JAP
 have HRw := JRw
 have HXw := JXw
 have HRx := JRx
 have HOx := JOx
 have HXx := JXx
 have HRg := JRg
 have HOg := JOg
 have HXg := JXg
 clear JK JAP JRw JXw JRx JOx JXx JRg JOg JXg
 clear hb10
 obtain ⟨APc0, APc1⟩ := HAP.out
 have APz : w.heap.size < w10.heap.size := by omega
 obtain ⟨Xwc0, Xwc1, Xwc2, Xwc3⟩ := HXw.out
 have Xwz : w4.heap.size < w10.heap.size := by omega
 obtain ⟨Xxc0, Xxc1⟩ := HXx.out
 have Xxz : w6.heap.size < w10.heap.size := by omega
 obtain ⟨Xgc0, Xgc1, Xgc2, Xgc3⟩ := HXg.out
 have Xgz : w8.heap.size < w10.heap.size := by omega
 go_wp2_with fail
 go_region_held3 (fun w' => w'.cell? ⟨w6.heap.size, 0, none⟩ = some (.slice xx1 p.caps.length p.caps.length) ∧ w'.cell? ⟨w6.heap.size, 1, none⟩ = some (.slice xx2 p.bods.length p.bods.length) ∧ w'.cell? ⟨w.heap.size, 0, none⟩ = some (.slice p1 p.caps.length a1) ∧ w'.cell? ⟨w.heap.size, 1, none⟩ = some (.slice p2 p.bods.length a2)) (go_keep) (first | (go_at_call 6; refine (toProg_own p1 p2 a1 a2 0 w.heap.size p w10.drew (HP.out.keep' (Keep.of_below HK.out.drew (Nat.le_refl _))) (by show w.heap.size ≤ w10.heap.size; omega) FP.out).mono ?_; rintro e w11 ⟨f1, f2, Lf, rfl, ho11, hb11, hz11⟩; have kx : Below w10.heap.size w10 w11 := (Below.drew (Below.refl _ _)).trans hb11; have kz := kx.size; have XX := HXx.out.keep (Keep.of_below kx (by omega)); have AA := HAP.out.keep (Keep.of_below kx (by omega)); have t0 := XX.c0; have t1 := XX.c1; have t3 := AA.c0; have t4 := AA.c1) | (go_at_call 9; refine (eqProg_same xx1 xx2 f1 f2 _ _ _ _ V5.heap.size w6.heap.size w10.heap.size w11.heap.size p w11 (HRx.out.keep' (Keep.of_below kx (by omega))) ho11.prog (by omega) (Nat.le_refl _) FP.out).mono ?_; rintro e w12 ⟨rfl, hb12⟩; have ky : Below w10.heap.size w10 w12 := kx.trans (hb12.mono (by omega)); have XY := XX.keep (Keep.of_below hb12 (by omega)); have AY := AA.keep (Keep.of_below hb12 (by omega)); have u0 := XY.c0; have u1 := XY.c1; have u3 := AY.c0; have u4 := AY.c1))
 have z12 := ky.size
 clear t0 t1 t3 t4 u0 u1 u3 u4 XX AA XY AY hb11 hb12 ho11 hz11 kx kz
 clear APc0 APc1 APz
 clear Xwc0 Xwc1 Xwc2 Xwc3 Xwz
 clear Xxc0 Xxc1 Xxz
 clear Xgc0 Xgc1 Xgc2 Xgc3 Xgz
 have JK := hidL (HK.out.trans (ky.mono (by omega)))
 have JAP := hidL (HAP.out.keep (Keep.of_below ky (by omega)))
 have JRw := hidL (HRw.out.keep (Keep.of_below ky (by omega)))
 have JXw := hidL (HXw.out.keep (Keep.of_below ky (by omega)))
 have JRx := hidL (HRx.out.keep (Keep.of_below ky (by omega)))
 have JOx := hidL (HOx.out.keep (Keep.of_below ky (by omega)))
 have JXx := hidL (HXx.out.keep (Keep.of_below ky (by omega)))
 have JRg := hidL (HRg.out.keep (Keep.of_below ky (by omega)))
 have JOg := hidL (HOg.out.keep (Keep.of_below ky (by omega)))
 have JXg := hidL (HXg.out.keep (Keep.of_below ky (by omega)))
 clear HK HAP HRw HXw HRx HOx HXx HRg HOg HXg
 have HK := JK
 have HAP := JAP
 have HRw := JRw
 have HXw := JXw
 have HRx := JRx
 have HOx := JOx
 have HXx := JXx
 have HRg := JRg
 have HOg := JOg
 have HXg := JXg
 clear JK JAP JRw JXw JRx JOx JXx JRg JOg JXg
 clear ky
 obtain ⟨APc0, APc1⟩ := HAP.out
 have APz : w.heap.size < w12.heap.size := by omega
 obtain ⟨Xwc0, Xwc1, Xwc2, Xwc3⟩ := HXw.out
 have Xwz : w4.heap.size < w12.heap.size := by omega
 obtain ⟨Xxc0, Xxc1⟩ := HXx.out
 have Xxz : w6.heap.size < w12.heap.size := by omega
 obtain ⟨Xgc0, Xgc1, Xgc2, Xgc3⟩ := HXg.out
 have Xgz : w8.heap.size < w12.heap.size := by omega
 go_wp2_with fail
 refine (markProg_exc 1 HOx.out FP.out (by omega) (by omega)).mono ?_
 rintro e w13 ⟨rk, rfl, rk0, rk1, ex13⟩
 have z13 := ex13.size
 have hmk : ¬ rk < 0 := by omega
 clear APc0 APc1 APz
 clear Xwc0 Xwc1 Xwc2 Xwc3 Xwz
 clear Xxc0 Xxc1 Xxz
 clear Xgc0 Xgc1 Xgc2 Xgc3 Xgz
 have JK := hidL (HK.out.trans (ex13.below (by omega) (by omega)))
 have JAP := hidL (HAP.out.keep (Keep.of_exc ex13 (by omega) (by omega)))
 have JRw := hidL (HRw.out.keep (Keep.of_exc ex13 (by omega) (by omega)))
 have JXw := hidL (HXw.out.keep (Keep.of_exc ex13 (by omega) (by omega)))
 have JXx := hidL (HXx.out.keep (Keep.of_exc ex13 (by omega) (by omega)))
 have JRg := hidL (HRg.out.keep (Keep.of_exc ex13 (by omega) (by omega)))
 have JOg := hidL (HOg.out.keep (Keep.of_exc ex13 (by omega) (by omega)))
 have JXg := hidL (HXg.out.keep (Keep.of_exc ex13 (by omega) (by omega)))
 clear HK HAP HRw HXw HRx HOx HXx HRg HOg HXg
 have HK := JK
 have HAP := JAP
 have HRw := JRw
 have HXw := JXw
 have HXx := JXx
 have HRg := JRg
 have HOg := JOg
 have HXg := JXg
 clear JK JAP JRw JXw JXx JRg JOg JXg
 clear ex13
 obtain ⟨APc0, APc1⟩ := HAP.out
 have APz : w.heap.size < w13.heap.size := by omega
 obtain ⟨Xwc0, Xwc1, Xwc2, Xwc3⟩ := HXw.out
 have Xwz : w4.heap.size < w13.heap.size := by omega
 obtain ⟨Xxc0, Xxc1⟩ := HXx.out
 have Xxz : w6.heap.size < w13.heap.size := by omega
 obtain ⟨Xgc0, Xgc1, Xgc2, Xgc3⟩ := HXg.out
 have Xgz : w8.heap.size < w13.heap.size := by omega
 go_wp2_with fail
 refine (eqMachine_alike _ _ _ _ _ _ _ _ _ _ _ _ _ _ _ _ _ _ _ _ d w13 HRg.out HRw.out (by omega) (by omega) FF.out).mono ?_
 rintro e w14 ⟨rfl, hb14⟩
 have z14 := hb14.size
 clear APc0 APc1 APz
 clear Xwc0 Xwc1 Xwc2 Xwc3 Xwz
 clear Xxc0 Xxc1 Xxz
 clear Xgc0 Xgc1 Xgc2 Xgc3 Xgz
 have JK := hidL (HK.out.trans (hb14.mono (by omega)))
 have JAP := hidL (HAP.out.keep (Keep.of_below hb14 (by omega)))
 have JRw := hidL (HRw.out.keep (Keep.of_below hb14 (by omega)))
 have JXw := hidL (HXw.out.keep (Keep.of_below hb14 (by omega)))
 have JXx := hidL (HXx.out.keep (Keep.of_below hb14 (by omega)))
 have JRg := hidL (HRg.out.keep (Keep.of_below hb14 (by omega)))
 have JOg := hidL (HOg.out.keep (Keep.of_below hb14 (by omega)))
 have JXg := hidL (HXg.out.keep (Keep.of_below hb14 (by omega)))
 clear HK HAP HRw HXw HXx HRg HOg HXg
 have HK := JK
 have HAP := JAP
 have HRw := JRw
 have HXw := JXw
 have HXx := JXx
 have HRg := JRg
 have HOg := JOg
 have HXg := JXg
 clear JK JAP JRw JXw JXx JRg JOg JXg
 clear hb14
 obtain ⟨APc0, APc1⟩ := HAP.out
 have APz : w.heap.size < w14.heap.size := by omega
 obtain ⟨Xwc0, Xwc1, Xwc2, Xwc3⟩ := HXw.out
 have Xwz : w4.heap.size < w14.heap.size := by omega
 obtain ⟨Xxc0, Xxc1⟩ := HXx.out
 have Xxz : w6.heap.size < w14.heap.size := by omega
 obtain ⟨Xgc0, Xgc1, Xgc2, Xgc3⟩ := HXg.out
 have Xgz : w8.heap.size < w14.heap.size := by omega
 go_wp2_with fail
 refine (markMachine_any xg d _ _ 1 w14 HOg.out (by omega) FF.out (by omega) (by omega)).mono ?_
 rintro e w15 ⟨rfl, hm15, ex15⟩
 have z15 := ex15.size
 obtain ⟨M, hM⟩ : ∃ n : Nat, xg.len d = n := ⟨_, rfl⟩
 rw [hM]
 have HLM : Hid (xg.len d = M) := hM
 clear hM
 have hM0 : ¬ 1 + (M : Int) < 0 := by omega
 have hMM : ((1 + (M : Int)) != (1 + (M : Int))) = false := by simp
 clear APc0 APc1 APz
 clear Xwc0 Xwc1 Xwc2 Xwc3 Xwz
 clear Xxc0 Xxc1 Xxz
 clear Xgc0 Xgc1 Xgc2 Xgc3 Xgz
 have JK := hidL (HK.out.trans (ex15.below (by omega) (by omega)))
 have JAP := hidL (HAP.out.keep (Keep.of_exc ex15 (by omega) (by omega)))
 have JRw := hidL (HRw.out.keep (Keep.of_exc ex15 (by omega) (by omega)))
 have JXw := hidL (HXw.out.keep (Keep.of_exc ex15 (by omega) (by omega)))
 have JXx := hidL (HXx.out.keep (Keep.of_exc ex15 (by omega) (by omega)))
 have JXg := hidL (HXg.out.keep (Keep.of_exc ex15 (by omega) (by omega)))
 clear HK HAP HRw HXw HXx HRg HOg HXg
 have HK := JK
 have HAP := JAP
 have HRw := JRw
 have HXw := JXw
 have HXx := JXx
 have HXg := JXg
 clear JK JAP JRw JXw JXx JXg
 have HD : Hid (MaMk w15 V7.heap.size w8.heap.size xg d 1) := hm15
 clear ex15 hm15
 obtain ⟨APc0, APc1⟩ := HAP.out
 have APz : w.heap.size < w15.heap.size := by omega
 obtain ⟨Xwc0, Xwc1, Xwc2, Xwc3⟩ := HXw.out
 have Xwz : w4.heap.size < w15.heap.size := by omega
 obtain ⟨Xxc0, Xxc1⟩ := HXx.out
 have Xxz : w6.heap.size < w15.heap.size := by omega
 obtain ⟨Xgc0, Xgc1, Xgc2, Xgc3⟩ := HXg.out
 have Xgz : w8.heap.size < w15.heap.size := by omega
 go_wp2_with fail
 refine (heldMachine_any xg d _ _ 1 w15 HD.out (by omega) FF.out (by omega) (by omega)).mono ?_
 rintro e w16 ⟨rfl, hb16⟩
 have z16 := hb16.size
 clear APc0 APc1 APz
 clear Xwc0 Xwc1 Xwc2 Xwc3 Xwz
 clear Xxc0 Xxc1 Xxz
 clear Xgc0 Xgc1 Xgc2 Xgc3 Xgz
 have JK := hidL (HK.out.trans (hb16.mono (by omega)))
 have JAP := hidL (HAP.out.keep (Keep.of_below hb16 (by omega)))
 have JRw := hidL (HRw.out.keep (Keep.of_below hb16 (by omega)))
 have JXw := hidL (HXw.out.keep (Keep.of_below hb16 (by omega)))
 have JXx := hidL (HXx.out.keep (Keep.of_below hb16 (by omega)))
 have JXg := hidL (HXg.out.keep (Keep.of_below hb16 (by omega)))
 have JD := hidL (HD.out.keep (Keep.of_below hb16 (by omega)))
 clear HK HAP HRw HXw HXx HXg HD
 have HK := JK
 have HAP := JAP
 have HRw := JRw
 have HXw := JXw
 have HXx := JXx
 have HXg := JXg
 have HD := JD
 clear JK JAP JRw JXw JXx JXg JD
 clear hb16
 rw [HLM.out]
 obtain ⟨APc0, APc1⟩ := HAP.out
 have APz : w.heap.size < w16.heap.size := by omega
 obtain ⟨Xwc0, Xwc1, Xwc2, Xwc3⟩ := HXw.out
 have Xwz : w4.heap.size < w16.heap.size := by omega
 obtain ⟨Xxc0, Xxc1⟩ := HXx.out
 have Xxz : w6.heap.size < w16.heap.size := by omega
 obtain ⟨Xgc0, Xgc1, Xgc2, Xgc3⟩ := HXg.out
 have Xgz : w8.heap.size < w16.heap.size := by omega
 go_wp2_with fail
 refine (toProg_own p1 p2 a1 a2 0 w.heap.size p w16 (HP.out.keep' (Keep.of_below HK.out (Nat.le_refl _))) (by omega) FP.out).mono ?_
 rintro e w17 ⟨xc1, xc2, Lxc, rfl, ho17, hb17, z17⟩
 clear APc0 APc1 APz
 clear Xwc0 Xwc1 Xwc2 Xwc3 Xwz
 clear Xxc0 Xxc1 Xxz
 clear Xgc0 Xgc1 Xgc2 Xgc3 Xgz
 have JK := hidL (HK.out.trans (hb17.mono (by omega)))
 have JAP := hidL (HAP.out.keep (Keep.of_below hb17 (by omega)))
 have JRw := hidL (HRw.out.keep (Keep.of_below hb17 (by omega)))
 have JXw := hidL (HXw.out.keep (Keep.of_below hb17 (by omega)))
 have JXx := hidL (HXx.out.keep (Keep.of_below hb17 (by omega)))
 have JXg := hidL (HXg.out.keep (Keep.of_below hb17 (by omega)))
 have JD := hidL (HD.out.keep (Keep.of_below hb17 (by omega)))
 clear HK HAP HRw HXw HXx HXg HD
 have HK := JK
 have HAP := JAP
 have HRw := JRw
 have HXw := JXw
 have HXx := JXx
 have HXg := JXg
 have HD := JD
 clear JK JAP JRw JXw JXx JXg JD
 have HRc : Hid (PR w17 w16.heap.size w17.heap.size xc1 xc2 p) := ho17.prog
 clear hb17 ho17
 obtain ⟨APc0, APc1⟩ := HAP.out
 have APz : w.heap.size < w17.heap.size := by omega
 obtain ⟨Xwc0, Xwc1, Xwc2, Xwc3⟩ := HXw.out
 have Xwz : w4.heap.size < w17.heap.size := by omega
 obtain ⟨Xxc0, Xxc1⟩ := HXx.out
 have Xxz : w6.heap.size < w17.heap.size := by omega
 obtain ⟨Xgc0, Xgc1, Xgc2, Xgc3⟩ := HXg.out
 have Xgz : w8.heap.size < w17.heap.size := by omega
 go_wp2_with fail
 refine (CI.out xc1 xc2 _ _ _ _ w17 HRc.out (by omega)).mono ?_
 rintro e w18 ⟨xk, rfl, ho18, hb18⟩
 have z18 := hb18.size
 clear APc0 APc1 APz
 clear Xwc0 Xwc1 Xwc2 Xwc3 Xwz
 clear Xxc0 Xxc1 Xxz
 clear Xgc0 Xgc1 Xgc2 Xgc3 Xgz
 have JK := hidL (HK.out.trans (hb18.mono (by omega)))
 have JAP := hidL (HAP.out.keep (Keep.of_below hb18 (by omega)))
 have JRw := hidL (HRw.out.keep (Keep.of_below hb18 (by omega)))
 have JXw := hidL (HXw.out.keep (Keep.of_below hb18 (by omega)))
 have JXx := hidL (HXx.out.keep (Keep.of_below hb18 (by omega)))
 have JXg := hidL (HXg.out.keep (Keep.of_below hb18 (by omega)))
 have JD := hidL (HD.out.keep (Keep.of_below hb18 (by omega)))
 have JRc := hidL (HRc.out.keep (Keep.of_below hb18 (by omega)))
 clear HK HAP HRw HXw HXx HXg HD HRc
 have HK := JK
 have HAP := JAP
 have HRw := JRw
 have HXw := JXw
 have HXx := JXx
 have HXg := JXg
 have HD := JD
 have HRc := JRc
 clear JK JAP JRw JXw JXx JXg JD JRc
 have HRk : Hid (MaR w18 w17.heap.size w18.heap.size xk.s1 xk.s2 xk.s3 xk.s4 d) := ho18.ma
 clear hb18 ho18
 obtain ⟨APc0, APc1⟩ := HAP.out
 have APz : w.heap.size < w18.heap.size := by omega
 obtain ⟨Xwc0, Xwc1, Xwc2, Xwc3⟩ := HXw.out
 have Xwz : w4.heap.size < w18.heap.size := by omega
 obtain ⟨Xxc0, Xxc1⟩ := HXx.out
 have Xxz : w6.heap.size < w18.heap.size := by omega
 obtain ⟨Xgc0, Xgc1, Xgc2, Xgc3⟩ := HXg.out
 have Xgz : w8.heap.size < w18.heap.size := by omega
 go_wp2_with fail
 obtain ⟨V19, hV19, bx19, kb19, zb19⟩ := Bo4.new w18 (.slice xk.s1 d.codes.length xk.c1) (.slice xk.s2 d.cores.length xk.c2) (.slice xk.s3 d.mem.length xk.c3) (.slice xk.s4 d.tr.length xk.c4) 34
 rw [hV19]
 clear hV19
 clear APc0 APc1 APz
 clear Xwc0 Xwc1 Xwc2 Xwc3 Xwz
 clear Xxc0 Xxc1 Xxz
 clear Xgc0 Xgc1 Xgc2 Xgc3 Xgz
 have JK := hidL (HK.out.trans (kb19.mono (by omega)))
 have JAP := hidL (HAP.out.keep (Keep.of_below kb19 (by omega)))
 have JRw := hidL (HRw.out.keep (Keep.of_below kb19 (by omega)))
 have JXw := hidL (HXw.out.keep (Keep.of_below kb19 (by omega)))
 have JXx := hidL (HXx.out.keep (Keep.of_below kb19 (by omega)))
 have JXg := hidL (HXg.out.keep (Keep.of_below kb19 (by omega)))
 have JD := hidL (HD.out.keep (Keep.of_below kb19 (by omega)))
 have JRc := hidL (HRc.out.keep (Keep.of_below kb19 (by omega)))
 have JRk := hidL (HRk.out.keep (Keep.of_below kb19 (by omega)))
 clear HK HAP HRw HXw HXx HXg HD HRc HRk
 have HK := JK
 have HAP := JAP
 have HRw := JRw
 have HXw := JXw
 have HXx := JXx
 have HXg := JXg
 have HD := JD
 have HRc := JRc
 have HRk := JRk
 clear JK JAP JRw JXw JXx JXg JD JRc JRk
 have HXk : Hid (Bo4 w18.heap.size V19 (.slice xk.s1 d.codes.length xk.c1) (.slice xk.s2 d.cores.length xk.c2) (.slice xk.s3 d.mem.length xk.c3) (.slice xk.s4 d.tr.length xk.c4)) := bx19
 clear bx19 kb19
 obtain ⟨APc0, APc1⟩ := HAP.out
 have APz : w.heap.size < V19.heap.size := by omega
 obtain ⟨Xwc0, Xwc1, Xwc2, Xwc3⟩ := HXw.out
 have Xwz : w4.heap.size < V19.heap.size := by omega
 obtain ⟨Xxc0, Xxc1⟩ := HXx.out
 have Xxz : w6.heap.size < V19.heap.size := by omega
 obtain ⟨Xgc0, Xgc1, Xgc2, Xgc3⟩ := HXg.out
 have Xgz : w8.heap.size < V19.heap.size := by omega
 obtain ⟨Xkc0, Xkc1, Xkc2, Xkc3⟩ := HXk.out
 have Xkz : w18.heap.size < V19.heap.size := by omega
 clear HRc
 refine (eqMachine_alike _ _ _ _ _ _ _ _ _ _ _ _ _ _ _ _ _ _ _ _ d V19 HRk.out HRw.out (by omega) (by omega) FF.out).mono ?_
 rintro e w20 ⟨rfl, hb20⟩
 have z20 := hb20.size
 clear APc0 APc1 APz
 clear Xwc0 Xwc1 Xwc2 Xwc3 Xwz
 clear Xxc0 Xxc1 Xxz
 clear Xgc0 Xgc1 Xgc2 Xgc3 Xgz
 clear Xkc0 Xkc1 Xkc2 Xkc3 Xkz
 have JK := hidL (HK.out.trans (hb20.mono (by omega)))
 have JAP := hidL (HAP.out.keep (Keep.of_below hb20 (by omega)))
 have JRw := hidL (HRw.out.keep (Keep.of_below hb20 (by omega)))
 have JXw := hidL (HXw.out.keep (Keep.of_below hb20 (by omega)))
 have JXx := hidL (HXx.out.keep (Keep.of_below hb20 (by omega)))
 have JXg := hidL (HXg.out.keep (Keep.of_below hb20 (by omega)))
 have JD := hidL (HD.out.keep (Keep.of_below hb20 (by omega)))
 have JRk := hidL (HRk.out.keep (Keep.of_below hb20 (by omega)))
 have JXk := hidL (HXk.out.keep (Keep.of_below hb20 (by omega)))
 clear HK HAP HRw HXw HXx HXg HD HRk HXk
 have HK := JK
 have HAP := JAP
 have HRw := JRw
 have HXw := JXw
 have HXx := JXx
 have HXg := JXg
 have HD := JD
 have HRk := JRk
 have HXk := JXk
 clear JK JAP JRw JXw JXx JXg JD JRk JXk
 clear hb20
 obtain ⟨APc0, APc1⟩ := HAP.out
 have APz : w.heap.size < w20.heap.size := by omega
 obtain ⟨Xwc0, Xwc1, Xwc2, Xwc3⟩ := HXw.out
 have Xwz : w4.heap.size < w20.heap.size := by omega
 obtain ⟨Xxc0, Xxc1⟩ := HXx.out
 have Xxz : w6.heap.size < w20.heap.size := by omega
 obtain ⟨Xgc0, Xgc1, Xgc2, Xgc3⟩ := HXg.out
 have Xgz : w8.heap.size < w20.heap.size := by omega
 obtain ⟨Xkc0, Xkc1, Xkc2, Xkc3⟩ := HXk.out
 have Xkz : w18.heap.size < w20.heap.size := by omega
 go_wp2_with fail
 refine (heldMachine_any xg d _ _ 1 w20 HD.out (by omega) FF.out (by omega) (by omega)).mono ?_
 rintro e w21 ⟨rfl, hb21⟩
 have z21 := hb21.size
 clear APc0 APc1 APz
 clear Xwc0 Xwc1 Xwc2 Xwc3 Xwz
 clear Xxc0 Xxc1 Xxz
 clear Xgc0 Xgc1 Xgc2 Xgc3 Xgz
 clear Xkc0 Xkc1 Xkc2 Xkc3 Xkz
 have JK := hidL (HK.out.trans (hb21.mono (by omega)))
 have JAP := hidL (HAP.out.keep (Keep.of_below hb21 (by omega)))
 have JRw := hidL (HRw.out.keep (Keep.of_below hb21 (by omega)))
 have JXw := hidL (HXw.out.keep (Keep.of_below hb21 (by omega)))
 have JXx := hidL (HXx.out.keep (Keep.of_below hb21 (by omega)))
 have JXg := hidL (HXg.out.keep (Keep.of_below hb21 (by omega)))
 have JD := hidL (HD.out.keep (Keep.of_below hb21 (by omega)))
 have JRk := hidL (HRk.out.keep (Keep.of_below hb21 (by omega)))
 have JXk := hidL (HXk.out.keep (Keep.of_below hb21 (by omega)))
 clear HK HAP HRw HXw HXx HXg HD HRk HXk
 have HK := JK
 have HAP := JAP
 have HRw := JRw
 have HXw := JXw
 have HXx := JXx
 have HXg := JXg
 have HD := JD
 have HRk := JRk
 have HXk := JXk
 clear JK JAP JRw JXw JXx JXg JD JRk JXk
 clear hb21
 rw [HLM.out]
 obtain ⟨APc0, APc1⟩ := HAP.out
 have APz : w.heap.size < w21.heap.size := by omega
 obtain ⟨Xwc0, Xwc1, Xwc2, Xwc3⟩ := HXw.out
 have Xwz : w4.heap.size < w21.heap.size := by omega
 obtain ⟨Xxc0, Xxc1⟩ := HXx.out
 have Xxz : w6.heap.size < w21.heap.size := by omega
 obtain ⟨Xgc0, Xgc1, Xgc2, Xgc3⟩ := HXg.out
 have Xgz : w8.heap.size < w21.heap.size := by omega
 obtain ⟨Xkc0, Xkc1, Xkc2, Xkc3⟩ := HXk.out
 have Xkz : w18.heap.size < w21.heap.size := by omega
 go_wp2
 go_ret
 exact ⟨rfl, HK.out⟩
set_option maxRecDepth 100000 in
theorem liftedExactLaunch (os : Os) (started : os.Started) (H : Type) (enc : TypeId × Value → H) :
  ReturnsInHanded {} Tryz.checked os 3 .any (Rows.fnExactLaunchSpec.pre6 enc Tryz.prog Tryz.f3 Rows.fnExactLaunchRow.domain false) (Rows.fnExactLaunchSpec.post enc Tryz.prog Tryz.f3 false true false false) := by
 refine returnsInHanded_of_change (C := Tryz.checked) ownP started (by kernel_rfl) Tryz.func3
  (ChangeSpec.witness6 (enc := enc) (C := Tryz.checked) false ⟨#[], #[.agg #[.slice none 0 0, .slice none 0 0]], []⟩ 8 (by kernel_rfl) (by kernel_rfl) (by kernel_rfl) (by kernel_rfl)) ?_
 intro W base args ds gs before hval0 hW hcnd _
 have hval : ∀ (j : Nat) t v, Tryz.f3.params[j]? = some t → args[j]? = some v → Value.okWide Tryz.prog W .any base t v := hval0
 have hW' := hW
 obtain ⟨p, q, hA0, hV, rfl, hfz, hnd⟩ := hW
 have hA : DataW.TrodAll enc Tryz.prog W 0 (fun _ => true) true Tryz.f3.params.toList args.toList ds p := hA0
 rw [Tryz.params3] at hA hval
 obtain ⟨v0, d0, hargs, rfl, h0⟩ := trodAll_one hA
 obtain rfl : args = #[v0] := by cases args; simp_all
 obtain ⟨rfl, rfl⟩ := trodVars_none hV
 have k0 := h0
 have lt0 : ∀ x ∈ p, x.block < W.heap.size := by obtain ⟨m, hm⟩ := k0; exact DataW.trod_lt m _ _ _ hm
 obtain ⟨p1, p2, a1, a2, pd, rfl, m1, m2, m3, hP⟩ := open_prog (hval 0 25 v0 rfl rfl) h0
 clear hA0 hval0
 refine (walkLaunch p1 p2 a1 a2 pd W hP m1 m2 m3).mono fun e W' ⟨he, bel⟩ => ?_
 subst he
 exact ⟨_, rfl, _, _, _, [], _, [], hW', trodAll_mk1 (shut_bool Tryz.underlying4 _), trodAll_mk1 (Below.trod laidOutP (by kernel_rfl) (of_decide_eq_true (by kernel_rfl)) k0 bel lt0), rfl, bel.frame _, fun h => by cases h⟩
theorem fnExactLaunch_holds : Rows.FnExactLaunchSaid :=
 OpenClaim.holds_of_wide 3 Tryz.f3 rfl rfl rfl rfl rfl rfl rfl ⟨rfl, rfl, rfl, rfl, rfl⟩ rfl rfl rfl rfl rfl (by kernel_rfl) Tryz.func3 (by kernel_rfl)
  (of_decide_eq_true (by kernel_rfl)) (by unfold Func.isWrapper; first | (rw [if_pos (by decide +kernel)]; kernel_rfl) | (rw [if_neg (by decide +kernel)]; exact ⟨rfl, rfl⟩))
  (fun os started H enc _ => liftedExactLaunch os started H enc)
#print axioms fnExactLaunch_holds
end Go.Proofs.YtehjbpjjegajjaaGreat
