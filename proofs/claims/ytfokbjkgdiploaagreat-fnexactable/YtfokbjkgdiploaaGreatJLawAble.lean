/- The law FnExactAble of the given statements: at every argument Able of the program answers as the specification's, writes into no argument, its answer owns its memory. No condition. -/
import Derived.Test.YtfokbjkgdiploaaGreatJG02
import Derived.Test.YtfokbjkgdiploaaGreatJG20
import Derived.Test.YtfokbjkgdiploaaGreatJG16
import Derived.Test.YtfokbjkgdiploaaGreatJSrcSz
import Derived.Test.YtfokbjkgdiploaaGreatJSrcEq
import Derived.Test.YtfokbjkgdiploaaGreatJG17
import Derived.Test.YtfokbjkgdiploaaGreatJG06
import Derived.Test.YtfokbjkgdiploaaGreatJG18
import Derived.Test.YtfokbjkgdiploaaGreatJRunMark
import Derived.Deep.RegionHeld3
namespace Go.Proofs.YtfokbjkgdiploaaGreat
set_option linter.unusedSimpArgs false
set_option linter.unusedVariables false
set_option maxRecDepth 100000
open Go.ChangeShapes Go.WideShapes Go.ChangeAt Go.RowKit Go.Deep
def PR (w : World) (lo hi : Nat) (s s' : Option Addr) (p : PD) : Prop := ProgR w lo hi s s' p
theorem PR.keep {w w' : World} {lo hi : Nat} {s s' : Option Addr} {p : PD} (h : PR w lo hi s s' p) (hb : Keep lo hi w w') : PR w' lo hi s s' p := ProgR.keep' h hb
theorem PR.keep' {w w' : World} {lo hi : Nat} {s s' : Option Addr} {p : PD} (h : PR w lo hi s s' p) (hb : Keep lo hi w w') : ProgR w' lo hi s s' p := ProgR.keep' h hb
theorem ablB_len (p : PD) {d : SD} (hf : SFits d) : (ablB p d).length ≤ 1048577 := by
 unfold ablB
 split
 ·have := ablN_len p d d.ths.length
  have := hf.1.1
  omega
 ·exact Nat.zero_le _
theorem hidX {p : Prop} (h : p) : Hid p := h
set_option maxRecDepth 100000 in
set_option maxHeartbeats 8000000 in
theorem walkAble (p1 p2 s1 s2 s3 : Option Addr) (a1 a2 c1 c2 c3 : Nat) (p : PD) (d : SD) (w : World) (h : ProgR w 0 w.heap.size p1 p2 p) (m1 : p.caps.length ≤ maxLen) (m2 : p.bods.length ≤ maxLen) (m3 : ∀ i, i < p.bods.length → (p.bods.getD i []).length ≤ maxLen) (hs : SrcR w 0 w.heap.size s1 s2 s3 d) (n0 : SLens d) :
  Calls Tryz.prog 4 #[.agg #[.slice p1 p.caps.length a1, .slice p2 p.bods.length a2], .agg #[.slice s1 d.ths.length c1, .slice s2 d.chs.length c2, .slice s3 d.tr.length c3]] w fun e w' => e = .returned (.bool true) ∧ Below w.heap.size w w' := by
 have HP : Hid (ProgR w 0 w.heap.size p1 p2 p) := h
 have M3 : Hid (∀ i, i < p.bods.length → (p.bods.getD i []).length ≤ maxLen) := m3
 have HS := hidX hs
 have HN := hidX n0
 clear h m3 hs n0
 go_enter Tryz.func4, Tryz.ntmps4
 go_wp2_with fail
 have HK : Hid (Below w.heap.size w w) := Below.refl _ _
 obtain ⟨V1, hV1, bx1, kb1, zb1⟩ := Bo2.new w (.slice p1 p.caps.length a1) (.slice p2 p.bods.length a2) 25
 rw [hV1]
 clear hV1
 have JK := hidX (HK.out.trans (kb1.mono (by omega)))
 clear HK
 have HK := JK
 clear JK
 have HAP : Hid (Bo2 w.heap.size V1 (.slice p1 p.caps.length a1) (.slice p2 p.bods.length a2)) := bx1
 clear bx1 kb1
 obtain ⟨V2, hV2, bx2, kb2, zb2⟩ := Bo3.new V1 (.slice s1 d.ths.length c1) (.slice s2 d.chs.length c2) (.slice s3 d.tr.length c3) 30
 rw [hV2]
 clear hV2
 have JK := hidX (HK.out.trans (kb2.mono (by omega)))
 have JAP := hidX (HAP.out.keep (Keep.of_below kb2 (by omega)))
 clear HK HAP
 have HK := JK
 have HAP := JAP
 clear JK JAP
 have HA : Hid (Bo3 V1.heap.size V2 (.slice s1 d.ths.length c1) (.slice s2 d.chs.length c2) (.slice s3 d.tr.length c3)) := bx2
 clear bx2 kb2
 have HA2 : Hid (Bo3 (w.heap.size + 1) V2 (.slice s1 d.ths.length c1) (.slice s2 d.chs.length c2) (.slice s3 d.tr.length c3)) := by have q := HA.out; rw [zb1] at q; exact q
 clear HA
 have HA := HA2
 clear HA2
 refine (szProg_le p1 p2 a1 a2 0 w.heap.size p V2 (HP.out.keep' (Keep.of_below HK.out (Nat.le_refl _))) (by omega) m1 m2 M3.out).mono ?_
 rintro e w3 ⟨⟨u, rfl, hu⟩, hb3⟩
 have z3 := hb3.size
 have JK := hidX (HK.out.trans (hb3.mono (by omega)))
 have JAP := hidX (HAP.out.keep (Keep.of_below hb3 (by omega)))
 have JA := hidX (HA.out.keep (Keep.of_below hb3 (by omega)))
 clear HK HAP HA
 have HK := JK
 have HAP := JAP
 have HA := JA
 clear JK JAP JA
 clear hb3
 obtain ⟨APc0, APc1⟩ := HAP.out
 have APz : w.heap.size < w3.heap.size := by omega
 obtain ⟨Ac0, Ac1, Ac2⟩ := HA.out
 have Az : w.heap.size + 1 < w3.heap.size := by omega
 rcases hu with hu | ⟨hu, hu2, hf⟩
 ·go_wp2
  go_ret
  exact ⟨rfl, HK.out⟩
 have hun : ¬ u < 0 := by omega
 have FP := hidX hf
 clear hf
 go_wp2_with fail
 refine (szSource_any s1 s2 s3 c1 c2 c3 0 w.heap.size d u w3 (HS.out.keep (Keep.of_below HK.out (Nat.le_refl _))) (by omega) HN.out hu hu2).mono ?_
 rintro e w4 ⟨⟨y, rfl, hy⟩, hb4⟩
 have z4 := hb4.size
 clear APc0 APc1 APz
 clear Ac0 Ac1 Ac2 Az
 have JK := hidX (HK.out.trans (hb4.mono (by omega)))
 have JAP := hidX (HAP.out.keep (Keep.of_below hb4 (by omega)))
 have JA := hidX (HA.out.keep (Keep.of_below hb4 (by omega)))
 clear HK HAP HA
 have HK := JK
 have HAP := JAP
 have HA := JA
 clear JK JAP JA
 clear hb4
 obtain ⟨APc0, APc1⟩ := HAP.out
 have APz : w.heap.size < w4.heap.size := by omega
 obtain ⟨Ac0, Ac1, Ac2⟩ := HA.out
 have Az : w.heap.size + 1 < w4.heap.size := by omega
 rcases hy with hy | ⟨hy, hf⟩
 ·go_wp2
  go_ret
  exact ⟨rfl, HK.out⟩
 have hyn : ¬ y < 0 := by omega
 have FS := hidX hf
 clear hf
 go_wp2_with fail
 obtain ⟨CC, hKK⟩ : ∃ K, ablB p d = K := ⟨_, rfl⟩
 have HKK := hidX hKK
 have HCL := hidX (show CC.length ≤ 1048577 from by rw [← hKK]; exact ablB_len p FS.out)
 clear hKK
 have RB : Hid (∀ X, Below w4.heap.size w4 X → X.cell? ⟨w.heap.size, 0, none⟩ = some (.slice p1 p.caps.length a1) ∧ X.cell? ⟨w.heap.size, 1, none⟩ = some (.slice p2 p.bods.length a2) ∧ X.cell? ⟨w.heap.size + 1, 0, none⟩ = some (.slice s1 d.ths.length c1) ∧ X.cell? ⟨w.heap.size + 1, 1, none⟩ = some (.slice s2 d.chs.length c2) ∧ X.cell? ⟨w.heap.size + 1, 2, none⟩ = some (.slice s3 d.tr.length c3)) := fun X hX => by
  have qP := HAP.out.keep (Keep.of_below hX (by omega))
  have qS := HA.out.keep (Keep.of_below hX (by omega))
  exact ⟨qP.c0, qP.c1, qS.c0, qS.c1, qS.c2⟩
 have CP : Hid (∀ (X0 : World), Below w4.heap.size w4 X0 → Calls Tryz.prog 10 #[.agg #[.slice p1 p.caps.length a1, .slice p2 p.bods.length a2]] X0 fun e w' => ∃ (f1 f2 : Option Addr) (lo hi : Nat), e = .returned (.agg #[.slice f1 p.caps.length p.caps.length, .slice f2 p.bods.length p.bods.length]) ∧ hi ≤ w'.heap.size ∧ Below w4.heap.size w4 w' ∧ Hid (ProgR w' lo hi f1 f2 p) ∧ w'.cell? ⟨w.heap.size, 0, none⟩ = some (.slice p1 p.caps.length a1) ∧ w'.cell? ⟨w.heap.size, 1, none⟩ = some (.slice p2 p.bods.length a2) ∧ w'.cell? ⟨w.heap.size + 1, 0, none⟩ = some (.slice s1 d.ths.length c1) ∧ w'.cell? ⟨w.heap.size + 1, 1, none⟩ = some (.slice s2 d.chs.length c2) ∧ w'.cell? ⟨w.heap.size + 1, 2, none⟩ = some (.slice s3 d.tr.length c3)) := fun X0 hX => (toProg_new p1 p2 a1 a2 0 w.heap.size p X0 (HP.out.keep' (Keep.of_below (HK.out.trans (hX.mono (by omega))) (Nat.le_refl _))) (by have := hX.size; omega) FP.out).mono fun e w' hq => by
  obtain ⟨f1, f2, he, hb2, -, hr⟩ := hq
  have kk : Below w4.heap.size w4 w' := hX.trans (hb2.mono hX.size)
  exact ⟨f1, f2, _, _, he, Nat.le_refl _, kk, hr, RB.out _ kk⟩
 have CS : Hid (∀ (wA : World) (f1 f2 : Option Addr) (lo hi : Nat) (X0 : World), hi ≤ wA.heap.size → Below w4.heap.size w4 X0 → ProgR wA lo hi f1 f2 p → Below wA.heap.size wA X0 → Calls Tryz.prog 11 #[.agg #[.slice s1 d.ths.length c1, .slice s2 d.chs.length c2, .slice s3 d.tr.length c3]] X0 fun e w' => ∃ (t1 : Option Addr) (e1 : Nat) (t2 : Option Addr) (e2 : Nat) (t3 : Option Addr) (e3 : Nat) (lo' hi' : Nat), e = .returned (.agg #[.slice t1 d.ths.length e1, .slice t2 d.chs.length e2, .slice t3 d.tr.length e3]) ∧ hi ≤ w'.heap.size ∧ hi' ≤ w'.heap.size ∧ Below w4.heap.size w4 w' ∧ Hid (ProgR w' lo hi f1 f2 p) ∧ Hid (SrcR w' lo' hi' t1 t2 t3 d) ∧ w'.cell? ⟨w.heap.size, 0, none⟩ = some (.slice p1 p.caps.length a1) ∧ w'.cell? ⟨w.heap.size, 1, none⟩ = some (.slice p2 p.bods.length a2) ∧ w'.cell? ⟨w.heap.size + 1, 0, none⟩ = some (.slice s1 d.ths.length c1) ∧ w'.cell? ⟨w.heap.size + 1, 1, none⟩ = some (.slice s2 d.chs.length c2) ∧ w'.cell? ⟨w.heap.size + 1, 2, none⟩ = some (.slice s3 d.tr.length c3)) := fun wA f1 f2 lo hi X0 hh hX hp hA => (toSource_own s1 s2 s3 c1 c2 c3 0 w.heap.size d X0 (HS.out.keep (Keep.of_below (HK.out.trans (hX.mono (by omega))) (Nat.le_refl _))) (by have := hX.size; omega) FS.out).mono fun e w' hq => by
  obtain ⟨v1, v2, v3, L1, L2, he, ho, hb2, -⟩ := hq
  obtain ⟨t1, e1, t2, e2, t3, e3, rfl, rfl, rfl, hr⟩ := ho.src
  have kk : Below w4.heap.size w4 w' := hX.trans (hb2.mono hX.size)
  have k2 : Below wA.heap.size wA w' := hA.trans (hb2.mono hA.size)
  exact ⟨t1, e1, t2, e2, t3, e3, _, _, he, Nat.le_trans hh k2.size, Nat.le_refl _, kk, hp.keep' (Keep.of_below k2 hh), hr, RB.out _ kk⟩
 have CT : Hid (∀ (wB : World) (f1 f2 : Option Addr) (lo hi : Nat) (t1 : Option Addr) (e1 : Nat) (t2 : Option Addr) (e2 : Nat) (t3 : Option Addr) (e3 : Nat) (lo' hi' : Nat) (X0 : World), hi ≤ wB.heap.size → hi' ≤ wB.heap.size → Below w4.heap.size w4 X0 → ProgR wB lo hi f1 f2 p → SrcR wB lo' hi' t1 t2 t3 d → Below wB.heap.size wB X0 → Calls Tryz.prog 22 #[.agg #[.slice f1 p.caps.length p.caps.length, .slice f2 p.bods.length p.bods.length], .agg #[.slice t1 d.ths.length e1, .slice t2 d.chs.length e2, .slice t3 d.tr.length e3]] X0 fun e w' => ∃ (x4 : Option Addr) (y4 : Nat), e = .returned (.slice x4 CC.length y4) ∧ Below w4.heap.size w4 w' ∧ Hid (OwnN w' w4.heap.size (.slice x4 CC.length y4) CC) ∧ w'.cell? ⟨w.heap.size, 0, none⟩ = some (.slice p1 p.caps.length a1) ∧ w'.cell? ⟨w.heap.size, 1, none⟩ = some (.slice p2 p.bods.length a2) ∧ w'.cell? ⟨w.heap.size + 1, 0, none⟩ = some (.slice s1 d.ths.length c1) ∧ w'.cell? ⟨w.heap.size + 1, 1, none⟩ = some (.slice s2 d.chs.length c2) ∧ w'.cell? ⟨w.heap.size + 1, 2, none⟩ = some (.slice s3 d.tr.length c3)) := fun wB f1 f2 lo hi t1 e1 t2 e2 t3 e3 lo' hi' X0 h1 h2 hX hp hs hB => (specAble_any f1 f2 t1 t2 t3 _ _ e1 e2 e3 lo hi lo' hi' p d X0 (hp.keep' (Keep.of_below hB h1)) (hs.keep (Keep.of_below hB h2)) (Nat.le_trans h1 hB.size) (Nat.le_trans h2 hB.size) FP.out FS.out).mono fun e w' hq => by
  rw [HKK.out] at hq
  obtain ⟨v, he, hn, hb2⟩ := hq
  obtain ⟨x4, y4, rfl⟩ := hn.sl
  have kk : Below w4.heap.size w4 w' := hX.trans (hb2.mono hX.size)
  exact ⟨x4, y4, he, kk, ownLow' hn hX.size, RB.out _ kk⟩
 have kD : Below w4.heap.size w4 w4.drew := Below.drew (Below.refl _ _)
 have hdr : ∀ X : World, X.drew.heap.size = X.heap.size := fun _ => rfl
 go_region_held3 (fun w' => w'.cell? ⟨w.heap.size, 0, none⟩ = some (.slice p1 p.caps.length a1) ∧ w'.cell? ⟨w.heap.size, 1, none⟩ = some (.slice p2 p.bods.length a2) ∧ w'.cell? ⟨w.heap.size + 1, 0, none⟩ = some (.slice s1 d.ths.length c1) ∧ w'.cell? ⟨w.heap.size + 1, 1, none⟩ = some (.slice s2 d.chs.length c2) ∧ w'.cell? ⟨w.heap.size + 1, 2, none⟩ = some (.slice s3 d.tr.length c3)) (first | exact RB.out _ (by repeat' (first | with_reducible exact kC | with_reducible exact kB | with_reducible exact kA | with_reducible exact kD | with_reducible exact Below.refl _ _ | with_reducible refine Below.drew ?_ | with_reducible refine Below.alloc ?_ (by first | omega | exact Nat.le_refl _ | (simp [hdr]; done) | (simp [hdr]; omega)) _ | with_reducible refine Below.setCell ?_ (by first | omega | exact Nat.le_refl _ | (simp [hdr]; done) | (simp [hdr]; omega)) _)) | go_keep) (first | (go_at_call 10; with_reducible refine (CP.out _ (by repeat' (first | with_reducible exact kC | with_reducible exact kB | with_reducible exact kA | with_reducible exact kD | with_reducible exact Below.refl _ _ | with_reducible refine Below.drew ?_ | with_reducible refine Below.alloc ?_ (by first | omega | exact Nat.le_refl _ | (simp [hdr]; done) | (simp [hdr]; omega)) _ | with_reducible refine Below.setCell ?_ (by first | omega | exact Nat.le_refl _ | (simp [hdr]; done) | (simp [hdr]; omega)) _))).mono ?_; rintro e wA ⟨f1, f2, lo, hi, rfl, hhA, kA, PA, yA0, yA1, yA2, yA3, yA4⟩; have zA := kA.size) | (go_at_call 11; with_reducible refine (CS.out wA f1 f2 lo hi _ hhA (by repeat' (first | with_reducible exact kC | with_reducible exact kB | with_reducible exact kA | with_reducible exact kD | with_reducible exact Below.refl _ _ | with_reducible refine Below.drew ?_ | with_reducible refine Below.alloc ?_ (by first | omega | exact Nat.le_refl _ | (simp [hdr]; done) | (simp [hdr]; omega)) _ | with_reducible refine Below.setCell ?_ (by first | omega | exact Nat.le_refl _ | (simp [hdr]; done) | (simp [hdr]; omega)) _)) PA.out (show Below wA.heap.size wA _ from (by repeat' (first | with_reducible exact Below.refl _ _ | with_reducible refine Below.drew ?_ | with_reducible refine Below.alloc ?_ (by first | omega | exact Nat.le_refl _ | (simp [hdr]; done) | (simp [hdr]; omega)) _)))).mono ?_; rintro e wB ⟨t1, e1, t2, e2, t3, e3, lo', hi', rfl, hhB, hhB', kB, PB, SB', yB0, yB1, yB2, yB3, yB4⟩; have zB := kB.size) | (go_at_call 22; with_reducible refine (CT.out wB f1 f2 lo hi t1 e1 t2 e2 t3 e3 lo' hi' _ hhB hhB' (by repeat' (first | with_reducible exact kC | with_reducible exact kB | with_reducible exact kA | with_reducible exact kD | with_reducible exact Below.refl _ _ | with_reducible refine Below.drew ?_ | with_reducible refine Below.alloc ?_ (by first | omega | exact Nat.le_refl _ | (simp [hdr]; done) | (simp [hdr]; omega)) _ | with_reducible refine Below.setCell ?_ (by first | omega | exact Nat.le_refl _ | (simp [hdr]; done) | (simp [hdr]; omega)) _)) PB.out SB'.out (show Below wB.heap.size wB _ from (by repeat' (first | with_reducible exact Below.refl _ _ | with_reducible refine Below.drew ?_ | with_reducible refine Below.alloc ?_ (by first | omega | exact Nat.le_refl _ | (simp [hdr]; done) | (simp [hdr]; omega)) _)))).mono ?_; rintro e wC ⟨xw4, yw4, rfl, kC, NC, yC0, yC1, yC2, yC3, yC4⟩; have zC := kC.size) | fail)
 obtain ⟨w5, hw5⟩ : ∃ z, z = wC := ⟨_, rfl⟩
 subst hw5
 have z5 := kC.size
 clear RB CP CS CT kD hdr PA PB SB' kA kB yA0 yA1 yA2 yA3 yA4 yB0 yB1 yB2 yB3 yB4 yC0 yC1 yC2 yC3 yC4
 clear APc0 APc1 APz
 clear Ac0 Ac1 Ac2 Az
 have JK := hidX (HK.out.trans (kC.mono (by omega)))
 have JAP := hidX (HAP.out.keep (Keep.of_below kC (by omega)))
 have JA := hidX (HA.out.keep (Keep.of_below kC (by omega)))
 clear HK HAP HA
 have HK := JK
 have HAP := JAP
 have HA := JA
 clear JK JAP JA
 have HNw : Hid (IntsR w5 w4.heap.size w5.heap.size xw4 CC) := OwnN.intsS NC.out
 clear NC
 clear kC
 obtain ⟨APc0, APc1⟩ := HAP.out
 have APz : w.heap.size < w5.heap.size := by omega
 obtain ⟨Ac0, Ac1, Ac2⟩ := HA.out
 have Az : w.heap.size + 1 < w5.heap.size := by omega
 go_wp2_with fail
 refine (toProg_own p1 p2 a1 a2 0 w.heap.size p w5 (HP.out.keep' (Keep.of_below HK.out (Nat.le_refl _))) (by omega) FP.out).mono ?_
 rintro e w6 ⟨xx1, xx2, Lxx, rfl, ho6, hb6, z6⟩
 clear APc0 APc1 APz
 clear Ac0 Ac1 Ac2 Az
 have JK := hidX (HK.out.trans (hb6.mono (by omega)))
 have JAP := hidX (HAP.out.keep (Keep.of_below hb6 (by omega)))
 have JA := hidX (HA.out.keep (Keep.of_below hb6 (by omega)))
 have JNw := hidX (HNw.out.keep (Keep.of_below hb6 (by omega)))
 clear HK HAP HA HNw
 have HK := JK
 have HAP := JAP
 have HA := JA
 have HNw := JNw
 clear JK JAP JA JNw
 have HRx : Hid (PR w6 w5.heap.size w6.heap.size xx1 xx2 p) := ho6.prog
 have HOx : Hid (GB w6 w5.heap.size w6.heap.size (.slice xx1 p.caps.length p.caps.length) (.slice xx2 p.bods.length p.bods.length) Lxx p) := GB.of ho6
 clear hb6 ho6
 obtain ⟨APc0, APc1⟩ := HAP.out
 have APz : w.heap.size < w6.heap.size := by omega
 obtain ⟨Ac0, Ac1, Ac2⟩ := HA.out
 have Az : w.heap.size + 1 < w6.heap.size := by omega
 go_wp2_with fail
 obtain ⟨V7, hV7, bx7, kb7, zb7⟩ := Bo2.new w6 (.slice xx1 p.caps.length p.caps.length) (.slice xx2 p.bods.length p.bods.length) 42
 rw [hV7]
 clear hV7
 clear APc0 APc1 APz
 clear Ac0 Ac1 Ac2 Az
 have JK := hidX (HK.out.trans (kb7.mono (by omega)))
 have JAP := hidX (HAP.out.keep (Keep.of_below kb7 (by omega)))
 have JA := hidX (HA.out.keep (Keep.of_below kb7 (by omega)))
 have JNw := hidX (HNw.out.keep (Keep.of_below kb7 (by omega)))
 have JRx := hidX (HRx.out.keep (Keep.of_below kb7 (by omega)))
 have JOx := hidX (HOx.out.keep (Keep.of_below kb7 (by omega)))
 clear HK HAP HA HNw HRx HOx
 have HK := JK
 have HAP := JAP
 have HA := JA
 have HNw := JNw
 have HRx := JRx
 have HOx := JOx
 clear JK JAP JA JNw JRx JOx
 have HXx : Hid (Bo2 w6.heap.size V7 (.slice xx1 p.caps.length p.caps.length) (.slice xx2 p.bods.length p.bods.length)) := bx7
 clear bx7 kb7
 obtain ⟨APc0, APc1⟩ := HAP.out
 have APz : w.heap.size < V7.heap.size := by omega
 obtain ⟨Ac0, Ac1, Ac2⟩ := HA.out
 have Az : w.heap.size + 1 < V7.heap.size := by omega
 obtain ⟨Xxc0, Xxc1⟩ := HXx.out
 have Xxz : w6.heap.size < V7.heap.size := by omega
 go_wp2_with fail
 refine (toSource_own s1 s2 s3 c1 c2 c3 0 w.heap.size d V7 (HS.out.keep (Keep.of_below HK.out (Nat.le_refl _))) (by omega) FS.out).mono ?_
 rintro e w8 ⟨va8, vb8, vc8, Laz, Lbz, rfl, ho8, hb8, z8⟩
 obtain ⟨xz1, yz1, xz2, yz2, xz3, yz3, rfl, rfl, rfl, hs8⟩ := ho8.src
 clear APc0 APc1 APz
 clear Ac0 Ac1 Ac2 Az
 clear Xxc0 Xxc1 Xxz
 have JK := hidX (HK.out.trans (hb8.mono (by omega)))
 have JAP := hidX (HAP.out.keep (Keep.of_below hb8 (by omega)))
 have JA := hidX (HA.out.keep (Keep.of_below hb8 (by omega)))
 have JNw := hidX (HNw.out.keep (Keep.of_below hb8 (by omega)))
 have JRx := hidX (HRx.out.keep (Keep.of_below hb8 (by omega)))
 have JOx := hidX (HOx.out.keep (Keep.of_below hb8 (by omega)))
 have JXx := hidX (HXx.out.keep (Keep.of_below hb8 (by omega)))
 clear HK HAP HA HNw HRx HOx HXx
 have HK := JK
 have HAP := JAP
 have HA := JA
 have HNw := JNw
 have HRx := JRx
 have HOx := JOx
 have HXx := JXx
 clear JK JAP JA JNw JRx JOx JXx
 have HRz : Hid (SrcR w8 V7.heap.size w8.heap.size xz1 xz2 xz3 d) := hs8
 have HOz : Hid (SB w8 V7.heap.size w8.heap.size (.slice xz1 d.ths.length yz1) (.slice xz2 d.chs.length yz2) (.slice xz3 d.tr.length yz3) Laz Lbz d) := SB.of ho8
 clear hb8 hs8 ho8
 obtain ⟨APc0, APc1⟩ := HAP.out
 have APz : w.heap.size < w8.heap.size := by omega
 obtain ⟨Ac0, Ac1, Ac2⟩ := HA.out
 have Az : w.heap.size + 1 < w8.heap.size := by omega
 obtain ⟨Xxc0, Xxc1⟩ := HXx.out
 have Xxz : w6.heap.size < w8.heap.size := by omega
 go_wp2_with fail
 obtain ⟨V9, hV9, bx9, kb9, zb9⟩ := Bo3.new w8 (.slice xz1 d.ths.length yz1) (.slice xz2 d.chs.length yz2) (.slice xz3 d.tr.length yz3) 37
 rw [hV9]
 clear hV9
 clear APc0 APc1 APz
 clear Ac0 Ac1 Ac2 Az
 clear Xxc0 Xxc1 Xxz
 have JK := hidX (HK.out.trans (kb9.mono (by omega)))
 have JAP := hidX (HAP.out.keep (Keep.of_below kb9 (by omega)))
 have JA := hidX (HA.out.keep (Keep.of_below kb9 (by omega)))
 have JNw := hidX (HNw.out.keep (Keep.of_below kb9 (by omega)))
 have JRx := hidX (HRx.out.keep (Keep.of_below kb9 (by omega)))
 have JOx := hidX (HOx.out.keep (Keep.of_below kb9 (by omega)))
 have JXx := hidX (HXx.out.keep (Keep.of_below kb9 (by omega)))
 have JRz := hidX (HRz.out.keep (Keep.of_below kb9 (by omega)))
 have JOz := hidX (HOz.out.keep (Keep.of_below kb9 (by omega)))
 clear HK HAP HA HNw HRx HOx HXx HRz HOz
 have HK := JK
 have HAP := JAP
 have HA := JA
 have HNw := JNw
 have HRx := JRx
 have HOx := JOx
 have HXx := JXx
 have HRz := JRz
 have HOz := JOz
 clear JK JAP JA JNw JRx JOx JXx JRz JOz
 have HXz : Hid (Bo3 w8.heap.size V9 (.slice xz1 d.ths.length yz1) (.slice xz2 d.chs.length yz2) (.slice xz3 d.tr.length yz3)) := bx9
 clear bx9 kb9
 obtain ⟨APc0, APc1⟩ := HAP.out
 have APz : w.heap.size < V9.heap.size := by omega
 obtain ⟨Ac0, Ac1, Ac2⟩ := HA.out
 have Az : w.heap.size + 1 < V9.heap.size := by omega
 obtain ⟨Xxc0, Xxc1⟩ := HXx.out
 have Xxz : w6.heap.size < V9.heap.size := by omega
 obtain ⟨Xzc0, Xzc1, Xzc2⟩ := HXz.out
 have Xzz : w8.heap.size < V9.heap.size := by omega
 go_wp2_with fail
 have IM := implAble_any xx1 xx2 xz1 xz2 xz3 p.caps.length p.bods.length yz1 yz2 yz3 w5.heap.size w6.heap.size V7.heap.size w8.heap.size p d V9 HRx.out HRz.out (by omega) (by omega) FP.out FS.out
 rw [HKK.out] at IM
 refine IM.mono ?_
 clear IM
 rintro e w10 ⟨vg, rfl, hn10, hb10⟩
 have z10 := hb10.size
 obtain ⟨xg4, yg4, eg4⟩ := hn10.sl
 subst eg4
 clear APc0 APc1 APz
 clear Ac0 Ac1 Ac2 Az
 clear Xxc0 Xxc1 Xxz
 clear Xzc0 Xzc1 Xzc2 Xzz
 have JK := hidX (HK.out.trans (hb10.mono (by omega)))
 have JAP := hidX (HAP.out.keep (Keep.of_below hb10 (by omega)))
 have JA := hidX (HA.out.keep (Keep.of_below hb10 (by omega)))
 have JNw := hidX (HNw.out.keep (Keep.of_below hb10 (by omega)))
 have JRx := hidX (HRx.out.keep (Keep.of_below hb10 (by omega)))
 have JOx := hidX (HOx.out.keep (Keep.of_below hb10 (by omega)))
 have JXx := hidX (HXx.out.keep (Keep.of_below hb10 (by omega)))
 have JRz := hidX (HRz.out.keep (Keep.of_below hb10 (by omega)))
 have JOz := hidX (HOz.out.keep (Keep.of_below hb10 (by omega)))
 have JXz := hidX (HXz.out.keep (Keep.of_below hb10 (by omega)))
 clear HK HAP HA HNw HRx HOx HXx HRz HOz HXz
 have HK := JK
 have HAP := JAP
 have HA := JA
 have HNw := JNw
 have HRx := JRx
 have HOx := JOx
 have HXx := JXx
 have HRz := JRz
 have HOz := JOz
 have HXz := JXz
 clear JK JAP JA JNw JRx JOx JXx JRz JOz JXz
 have HNg : Hid (IntsR w10 V9.heap.size w10.heap.size xg4 CC) := hn10.intsS
 have HOg : Hid (NB w10 V9.heap.size w10.heap.size (.slice xg4 CC.length yg4) CC) := NB.of hn10
 clear hb10 hn10
 obtain ⟨APc0, APc1⟩ := HAP.out
 have APz : w.heap.size < w10.heap.size := by omega
 obtain ⟨Ac0, Ac1, Ac2⟩ := HA.out
 have Az : w.heap.size + 1 < w10.heap.size := by omega
 obtain ⟨Xxc0, Xxc1⟩ := HXx.out
 have Xxz : w6.heap.size < w10.heap.size := by omega
 obtain ⟨Xzc0, Xzc1, Xzc2⟩ := HXz.out
 have Xzz : w8.heap.size < w10.heap.size := by omega
 go_wp2_with fail
 refine (eqN_true yg4 yw4 HNg.out HNw.out (by omega) (by omega) HCL.out).mono ?_
 rintro e w11 ⟨rfl, hb11⟩
 have z11 := hb11.size
 clear APc0 APc1 APz
 clear Ac0 Ac1 Ac2 Az
 clear Xxc0 Xxc1 Xxz
 clear Xzc0 Xzc1 Xzc2 Xzz
 have JK := hidX (HK.out.trans (hb11.mono (by omega)))
 have JAP := hidX (HAP.out.keep (Keep.of_below hb11 (by omega)))
 have JA := hidX (HA.out.keep (Keep.of_below hb11 (by omega)))
 have JNw := hidX (HNw.out.keep (Keep.of_below hb11 (by omega)))
 have JRx := hidX (HRx.out.keep (Keep.of_below hb11 (by omega)))
 have JOx := hidX (HOx.out.keep (Keep.of_below hb11 (by omega)))
 have JXx := hidX (HXx.out.keep (Keep.of_below hb11 (by omega)))
 have JRz := hidX (HRz.out.keep (Keep.of_below hb11 (by omega)))
 have JOz := hidX (HOz.out.keep (Keep.of_below hb11 (by omega)))
 have JXz := hidX (HXz.out.keep (Keep.of_below hb11 (by omega)))
 have JNg := hidX (HNg.out.keep (Keep.of_below hb11 (by omega)))
 have JOg := hidX (HOg.out.keep (Keep.of_below hb11 (by omega)))
 clear HK HAP HA HNw HRx HOx HXx HRz HOz HXz HNg HOg
 have HK := JK
 have HAP := JAP
 have HA := JA
 have HNw := JNw
 have HRx := JRx
 have HOx := JOx
 have HXx := JXx
 have HRz := JRz
 have HOz := JOz
 have HXz := JXz
 have HNg := JNg
 have HOg := JOg
 clear JK JAP JA JNw JRx JOx JXx JRz JOz JXz JNg JOg
 clear hb11
 obtain ⟨APc0, APc1⟩ := HAP.out
 have APz : w.heap.size < w11.heap.size := by omega
 obtain ⟨Ac0, Ac1, Ac2⟩ := HA.out
 have Az : w.heap.size + 1 < w11.heap.size := by omega
 obtain ⟨Xxc0, Xxc1⟩ := HXx.out
 have Xxz : w6.heap.size < w11.heap.size := by omega
 obtain ⟨Xzc0, Xzc1, Xzc2⟩ := HXz.out
 have Xzz : w8.heap.size < w11.heap.size := by omega
 go_wp2_with fail
 go_region_held3 (fun w' => w'.cell? ⟨w6.heap.size, 0, none⟩ = some (.slice xx1 p.caps.length p.caps.length) ∧ w'.cell? ⟨w6.heap.size, 1, none⟩ = some (.slice xx2 p.bods.length p.bods.length) ∧ w'.cell? ⟨w.heap.size, 0, none⟩ = some (.slice p1 p.caps.length a1) ∧ w'.cell? ⟨w.heap.size, 1, none⟩ = some (.slice p2 p.bods.length a2)) (go_keep) (first | (go_at_call 10; refine (toProg_own p1 p2 a1 a2 0 w.heap.size p w11.drew (HP.out.keep' (Keep.of_below HK.out.drew (Nat.le_refl _))) (by show w.heap.size ≤ w11.heap.size; omega) FP.out).mono ?_; rintro e w12 ⟨f1, f2, Lf, rfl, ho12, hb12, hz12⟩; have kx : Below w11.heap.size w11 w12 := (Below.drew (Below.refl _ _)).trans hb12; have kz := kx.size; have XX := HXx.out.keep (Keep.of_below kx (by omega)); have AA := HAP.out.keep (Keep.of_below kx (by omega)); have t0 := XX.c0; have t1 := XX.c1; have t3 := AA.c0; have t4 := AA.c1) | (go_at_call 16; refine (eqProg_same xx1 xx2 f1 f2 _ _ _ _ w5.heap.size w6.heap.size w11.heap.size w12.heap.size p w12 (HRx.out.keep' (Keep.of_below kx (by omega))) ho12.prog (by omega) (Nat.le_refl _) FP.out).mono ?_; rintro e w13 ⟨rfl, hb13⟩; have ky : Below w11.heap.size w11 w13 := kx.trans (hb13.mono (by omega)); have XY := XX.keep (Keep.of_below hb13 (by omega)); have AY := AA.keep (Keep.of_below hb13 (by omega)); have u0 := XY.c0; have u1 := XY.c1; have u3 := AY.c0; have u4 := AY.c1))
 have z13 := ky.size
 clear t0 t1 t3 t4 u0 u1 u3 u4 XX AA XY AY hb12 hb13 ho12 hz12 kx kz
 clear APc0 APc1 APz
 clear Ac0 Ac1 Ac2 Az
 clear Xxc0 Xxc1 Xxz
 clear Xzc0 Xzc1 Xzc2 Xzz
 have JK := hidX (HK.out.trans (ky.mono (by omega)))
 have JAP := hidX (HAP.out.keep (Keep.of_below ky (by omega)))
 have JA := hidX (HA.out.keep (Keep.of_below ky (by omega)))
 have JNw := hidX (HNw.out.keep (Keep.of_below ky (by omega)))
 have JRx := hidX (HRx.out.keep (Keep.of_below ky (by omega)))
 have JOx := hidX (HOx.out.keep (Keep.of_below ky (by omega)))
 have JXx := hidX (HXx.out.keep (Keep.of_below ky (by omega)))
 have JRz := hidX (HRz.out.keep (Keep.of_below ky (by omega)))
 have JOz := hidX (HOz.out.keep (Keep.of_below ky (by omega)))
 have JXz := hidX (HXz.out.keep (Keep.of_below ky (by omega)))
 have JNg := hidX (HNg.out.keep (Keep.of_below ky (by omega)))
 have JOg := hidX (HOg.out.keep (Keep.of_below ky (by omega)))
 clear HK HAP HA HNw HRx HOx HXx HRz HOz HXz HNg HOg
 have HK := JK
 have HAP := JAP
 have HA := JA
 have HNw := JNw
 have HRx := JRx
 have HOx := JOx
 have HXx := JXx
 have HRz := JRz
 have HOz := JOz
 have HXz := JXz
 have HNg := JNg
 have HOg := JOg
 clear JK JAP JA JNw JRx JOx JXx JRz JOz JXz JNg JOg
 clear ky
 obtain ⟨APc0, APc1⟩ := HAP.out
 have APz : w.heap.size < w13.heap.size := by omega
 obtain ⟨Ac0, Ac1, Ac2⟩ := HA.out
 have Az : w.heap.size + 1 < w13.heap.size := by omega
 obtain ⟨Xxc0, Xxc1⟩ := HXx.out
 have Xxz : w6.heap.size < w13.heap.size := by omega
 obtain ⟨Xzc0, Xzc1, Xzc2⟩ := HXz.out
 have Xzz : w8.heap.size < w13.heap.size := by omega
 go_wp2_with fail
 go_region_held3 (fun w' => w'.cell? ⟨w8.heap.size, 0, none⟩ = some (.slice xz1 d.ths.length yz1) ∧ w'.cell? ⟨w8.heap.size, 1, none⟩ = some (.slice xz2 d.chs.length yz2) ∧ w'.cell? ⟨w8.heap.size, 2, none⟩ = some (.slice xz3 d.tr.length yz3) ∧ w'.cell? ⟨w.heap.size + 1, 0, none⟩ = some (.slice s1 d.ths.length c1) ∧ w'.cell? ⟨w.heap.size + 1, 1, none⟩ = some (.slice s2 d.chs.length c2) ∧ w'.cell? ⟨w.heap.size + 1, 2, none⟩ = some (.slice s3 d.tr.length c3)) (go_keep) (first | (go_at_call 11; refine (toSource_own s1 s2 s3 c1 c2 c3 0 w.heap.size d w13.drew (HS.out.keep (Keep.of_below HK.out.drew (Nat.le_refl _))) (by show w.heap.size ≤ w13.heap.size; omega) FS.out).mono ?_; rintro e w14 ⟨va14, vb14, vc14, Ma14, Mb14, rfl, ho14, hb14, hz14⟩; obtain ⟨f1, h1, f2, h2, f3, h3, rfl, rfl, rfl, hs14⟩ := ho14.src; have kx : Below w13.heap.size w13 w14 := (Below.drew (Below.refl _ _)).trans hb14; have kz := kx.size; have XX := HXz.out.keep (Keep.of_below kx (by omega)); have AA := HA.out.keep (Keep.of_below kx (by omega)); have t0 := XX.c0; have t1 := XX.c1; have t2 := XX.c2; have t3 := AA.c0; have t4 := AA.c1; have t5 := AA.c2) | (go_at_call 14; refine (eqSource_alike xz1 xz2 xz3 f1 f2 f3 _ _ _ _ _ _ V7.heap.size w8.heap.size w13.heap.size w14.heap.size d w14 (HRz.out.keep (Keep.of_below kx (by omega))) hs14 (by omega) (Nat.le_refl _) FS.out).mono ?_; rintro e w15 ⟨rfl, hb15⟩; have ky : Below w13.heap.size w13 w15 := kx.trans (hb15.mono (by omega)); have XY := XX.keep (Keep.of_below hb15 (by omega)); have AY := AA.keep (Keep.of_below hb15 (by omega)); have u0 := XY.c0; have u1 := XY.c1; have u2 := XY.c2; have u3 := AY.c0; have u4 := AY.c1; have u5 := AY.c2))
 have z15 := ky.size
 clear t0 t1 t2 t3 t4 t5 u0 u1 u2 u3 u4 u5 XX AA XY AY hb14 hb15 hs14 ho14 hz14 kx kz
 clear APc0 APc1 APz
 clear Ac0 Ac1 Ac2 Az
 clear Xxc0 Xxc1 Xxz
 clear Xzc0 Xzc1 Xzc2 Xzz
 have JK := hidX (HK.out.trans (ky.mono (by omega)))
 have JAP := hidX (HAP.out.keep (Keep.of_below ky (by omega)))
 have JA := hidX (HA.out.keep (Keep.of_below ky (by omega)))
 have JNw := hidX (HNw.out.keep (Keep.of_below ky (by omega)))
 have JRx := hidX (HRx.out.keep (Keep.of_below ky (by omega)))
 have JOx := hidX (HOx.out.keep (Keep.of_below ky (by omega)))
 have JXx := hidX (HXx.out.keep (Keep.of_below ky (by omega)))
 have JRz := hidX (HRz.out.keep (Keep.of_below ky (by omega)))
 have JOz := hidX (HOz.out.keep (Keep.of_below ky (by omega)))
 have JXz := hidX (HXz.out.keep (Keep.of_below ky (by omega)))
 have JNg := hidX (HNg.out.keep (Keep.of_below ky (by omega)))
 have JOg := hidX (HOg.out.keep (Keep.of_below ky (by omega)))
 clear HK HAP HA HNw HRx HOx HXx HRz HOz HXz HNg HOg
 have HK := JK
 have HAP := JAP
 have HA := JA
 have HNw := JNw
 have HRx := JRx
 have HOx := JOx
 have HXx := JXx
 have HRz := JRz
 have HOz := JOz
 have HXz := JXz
 have HNg := JNg
 have HOg := JOg
 clear JK JAP JA JNw JRx JOx JXx JRz JOz JXz JNg JOg
 clear ky
 obtain ⟨APc0, APc1⟩ := HAP.out
 have APz : w.heap.size < w15.heap.size := by omega
 obtain ⟨Ac0, Ac1, Ac2⟩ := HA.out
 have Az : w.heap.size + 1 < w15.heap.size := by omega
 obtain ⟨Xxc0, Xxc1⟩ := HXx.out
 have Xxz : w6.heap.size < w15.heap.size := by omega
 obtain ⟨Xzc0, Xzc1, Xzc2⟩ := HXz.out
 have Xzz : w8.heap.size < w15.heap.size := by omega
 go_wp2_with fail
 refine (markProg_exc 1 HOx.out FP.out (by omega) (by omega)).mono ?_
 rintro e w16 ⟨rk, rfl, rk0, rk1, ex16⟩
 have z16 := ex16.size
 clear APc0 APc1 APz
 clear Ac0 Ac1 Ac2 Az
 clear Xxc0 Xxc1 Xxz
 clear Xzc0 Xzc1 Xzc2 Xzz
 have JK := hidX (HK.out.trans (ex16.below (by omega) (by omega)))
 have JAP := hidX (HAP.out.keep (Keep.of_exc ex16 (by omega) (by omega)))
 have JA := hidX (HA.out.keep (Keep.of_exc ex16 (by omega) (by omega)))
 have JNw := hidX (HNw.out.keep (Keep.of_exc ex16 (by omega) (by omega)))
 have JXx := hidX (HXx.out.keep (Keep.of_exc ex16 (by omega) (by omega)))
 have JRz := hidX (HRz.out.keep (Keep.of_exc ex16 (by omega) (by omega)))
 have JOz := hidX (HOz.out.keep (Keep.of_exc ex16 (by omega) (by omega)))
 have JXz := hidX (HXz.out.keep (Keep.of_exc ex16 (by omega) (by omega)))
 have JNg := hidX (HNg.out.keep (Keep.of_exc ex16 (by omega) (by omega)))
 have JOg := hidX (HOg.out.keep (Keep.of_exc ex16 (by omega) (by omega)))
 clear HK HAP HA HNw HRx HOx HXx HRz HOz HXz HNg HOg
 have HK := JK
 have HAP := JAP
 have HA := JA
 have HNw := JNw
 have HXx := JXx
 have HRz := JRz
 have HOz := JOz
 have HXz := JXz
 have HNg := JNg
 have HOg := JOg
 clear JK JAP JA JNw JXx JRz JOz JXz JNg JOg
 clear ex16
 obtain ⟨APc0, APc1⟩ := HAP.out
 have APz : w.heap.size < w16.heap.size := by omega
 obtain ⟨Ac0, Ac1, Ac2⟩ := HA.out
 have Az : w.heap.size + 1 < w16.heap.size := by omega
 obtain ⟨Xxc0, Xxc1⟩ := HXx.out
 have Xxz : w6.heap.size < w16.heap.size := by omega
 obtain ⟨Xzc0, Xzc1, Xzc2⟩ := HXz.out
 have Xzz : w8.heap.size < w16.heap.size := by omega
 go_wp2_with fail
 have rz := HOz.out.room FS.out
 have f3 := FS.out.2.2
 refine (markSource_exc rk HOz.out FS.out (by omega) (by omega)).mono ?_
 rintro e w17 ⟨rfl, -, ex17⟩
 have z17 := ex17.size
 obtain ⟨mk, hmk⟩ : ∃ m : Int, rk + (sumQ Laz : Int) + sumQ Lbz + 2 * d.tr.length = m := ⟨_, rfl⟩
 have mk0 : ¬ mk < 0 := by omega
 rw [hmk]
 clear hmk rz f3
 clear APc0 APc1 APz
 clear Ac0 Ac1 Ac2 Az
 clear Xxc0 Xxc1 Xxz
 clear Xzc0 Xzc1 Xzc2 Xzz
 have JK := hidX (HK.out.trans (ex17.below (by omega) (by omega)))
 have JAP := hidX (HAP.out.keep (Keep.of_exc ex17 (by omega) (by omega)))
 have JA := hidX (HA.out.keep (Keep.of_exc ex17 (by omega) (by omega)))
 have JNw := hidX (HNw.out.keep (Keep.of_exc ex17 (by omega) (by omega)))
 have JXx := hidX (HXx.out.keep (Keep.of_exc ex17 (by omega) (by omega)))
 have JXz := hidX (HXz.out.keep (Keep.of_exc ex17 (by omega) (by omega)))
 have JNg := hidX (HNg.out.keep (Keep.of_exc ex17 (by omega) (by omega)))
 have JOg := hidX (HOg.out.keep (Keep.of_exc ex17 (by omega) (by omega)))
 clear HK HAP HA HNw HXx HRz HOz HXz HNg HOg
 have HK := JK
 have HAP := JAP
 have HA := JA
 have HNw := JNw
 have HXx := JXx
 have HXz := JXz
 have HNg := JNg
 have HOg := JOg
 clear JK JAP JA JNw JXx JXz JNg JOg
 clear ex17
 obtain ⟨APc0, APc1⟩ := HAP.out
 have APz : w.heap.size < w17.heap.size := by omega
 obtain ⟨Ac0, Ac1, Ac2⟩ := HA.out
 have Az : w.heap.size + 1 < w17.heap.size := by omega
 obtain ⟨Xxc0, Xxc1⟩ := HXx.out
 have Xxz : w6.heap.size < w17.heap.size := by omega
 obtain ⟨Xzc0, Xzc1, Xzc2⟩ := HXz.out
 have Xzz : w8.heap.size < w17.heap.size := by omega
 go_wp2_with fail
 refine (eqN_true yg4 yw4 HNg.out HNw.out (by omega) (by omega) HCL.out).mono ?_
 rintro e w18 ⟨rfl, hb18⟩
 have z18 := hb18.size
 clear APc0 APc1 APz
 clear Ac0 Ac1 Ac2 Az
 clear Xxc0 Xxc1 Xxz
 clear Xzc0 Xzc1 Xzc2 Xzz
 have JK := hidX (HK.out.trans (hb18.mono (by omega)))
 have JAP := hidX (HAP.out.keep (Keep.of_below hb18 (by omega)))
 have JA := hidX (HA.out.keep (Keep.of_below hb18 (by omega)))
 have JNw := hidX (HNw.out.keep (Keep.of_below hb18 (by omega)))
 have JXx := hidX (HXx.out.keep (Keep.of_below hb18 (by omega)))
 have JXz := hidX (HXz.out.keep (Keep.of_below hb18 (by omega)))
 have JNg := hidX (HNg.out.keep (Keep.of_below hb18 (by omega)))
 have JOg := hidX (HOg.out.keep (Keep.of_below hb18 (by omega)))
 clear HK HAP HA HNw HXx HXz HNg HOg
 have HK := JK
 have HAP := JAP
 have HA := JA
 have HNw := JNw
 have HXx := JXx
 have HXz := JXz
 have HNg := JNg
 have HOg := JOg
 clear JK JAP JA JNw JXx JXz JNg JOg
 clear hb18
 obtain ⟨APc0, APc1⟩ := HAP.out
 have APz : w.heap.size < w18.heap.size := by omega
 obtain ⟨Ac0, Ac1, Ac2⟩ := HA.out
 have Az : w.heap.size + 1 < w18.heap.size := by omega
 obtain ⟨Xxc0, Xxc1⟩ := HXx.out
 have Xxz : w6.heap.size < w18.heap.size := by omega
 obtain ⟨Xzc0, Xzc1, Xzc2⟩ := HXz.out
 have Xzz : w8.heap.size < w18.heap.size := by omega
 go_wp2_with fail
 refine (markN_exc 1 HOg.out HCL.out (by omega) (by omega)).mono ?_
 rintro e w19 ⟨rfl, hm19, ex19⟩
 have z19 := ex19.size
 clear APc0 APc1 APz
 clear Ac0 Ac1 Ac2 Az
 clear Xxc0 Xxc1 Xxz
 clear Xzc0 Xzc1 Xzc2 Xzz
 have JK := hidX (HK.out.trans (ex19.below (by omega) (by omega)))
 have JAP := hidX (HAP.out.keep (Keep.of_exc ex19 (by omega) (by omega)))
 have JA := hidX (HA.out.keep (Keep.of_exc ex19 (by omega) (by omega)))
 have JNw := hidX (HNw.out.keep (Keep.of_exc ex19 (by omega) (by omega)))
 have JXx := hidX (HXx.out.keep (Keep.of_exc ex19 (by omega) (by omega)))
 have JXz := hidX (HXz.out.keep (Keep.of_exc ex19 (by omega) (by omega)))
 clear HK HAP HA HNw HXx HXz HNg HOg
 have HK := JK
 have HAP := JAP
 have HA := JA
 have HNw := JNw
 have HXx := JXx
 have HXz := JXz
 clear JK JAP JA JNw JXx JXz
 have HD : Hid (NB w19 V9.heap.size w10.heap.size (.slice xg4 CC.length yg4) (relN 1 CC.length)) := hm19
 clear ex19 hm19
 obtain ⟨mn, hmn⟩ : ∃ m : Int, 1 + (CC.length : Int) = m := ⟨_, rfl⟩
 have HMN := hidX hmn
 have mn0 : ¬ mn < 0 := by omega
 have mnn : (mn != mn) = false := by simp
 rw [hmn]
 clear hmn
 obtain ⟨APc0, APc1⟩ := HAP.out
 have APz : w.heap.size < w19.heap.size := by omega
 obtain ⟨Ac0, Ac1, Ac2⟩ := HA.out
 have Az : w.heap.size + 1 < w19.heap.size := by omega
 obtain ⟨Xxc0, Xxc1⟩ := HXx.out
 have Xxz : w6.heap.size < w19.heap.size := by omega
 obtain ⟨Xzc0, Xzc1, Xzc2⟩ := HXz.out
 have Xzz : w8.heap.size < w19.heap.size := by omega
 go_wp2_with fail
 refine (heldN_any V9.heap.size _ CC.length 1 w19 HD.out.o HCL.out (by omega) (by omega)).mono ?_
 rintro e w20 ⟨rfl, hw20⟩
 rw [hw20, HMN.out]
 clear hw20 w20
 go_wp2_with fail
 have RB : Hid (∀ X, Below w19.heap.size w19 X → X.cell? ⟨w.heap.size, 0, none⟩ = some (.slice p1 p.caps.length a1) ∧ X.cell? ⟨w.heap.size, 1, none⟩ = some (.slice p2 p.bods.length a2) ∧ X.cell? ⟨w.heap.size + 1, 0, none⟩ = some (.slice s1 d.ths.length c1) ∧ X.cell? ⟨w.heap.size + 1, 1, none⟩ = some (.slice s2 d.chs.length c2) ∧ X.cell? ⟨w.heap.size + 1, 2, none⟩ = some (.slice s3 d.tr.length c3)) := fun X hX => by
  have qP := HAP.out.keep (Keep.of_below hX (by omega))
  have qS := HA.out.keep (Keep.of_below hX (by omega))
  exact ⟨qP.c0, qP.c1, qS.c0, qS.c1, qS.c2⟩
 have CP : Hid (∀ (X0 : World), Below w19.heap.size w19 X0 → Calls Tryz.prog 10 #[.agg #[.slice p1 p.caps.length a1, .slice p2 p.bods.length a2]] X0 fun e w' => ∃ (f1 f2 : Option Addr) (lo hi : Nat), e = .returned (.agg #[.slice f1 p.caps.length p.caps.length, .slice f2 p.bods.length p.bods.length]) ∧ hi ≤ w'.heap.size ∧ Below w19.heap.size w19 w' ∧ Hid (ProgR w' lo hi f1 f2 p) ∧ w'.cell? ⟨w.heap.size, 0, none⟩ = some (.slice p1 p.caps.length a1) ∧ w'.cell? ⟨w.heap.size, 1, none⟩ = some (.slice p2 p.bods.length a2) ∧ w'.cell? ⟨w.heap.size + 1, 0, none⟩ = some (.slice s1 d.ths.length c1) ∧ w'.cell? ⟨w.heap.size + 1, 1, none⟩ = some (.slice s2 d.chs.length c2) ∧ w'.cell? ⟨w.heap.size + 1, 2, none⟩ = some (.slice s3 d.tr.length c3)) := fun X0 hX => (toProg_new p1 p2 a1 a2 0 w.heap.size p X0 (HP.out.keep' (Keep.of_below (HK.out.trans (hX.mono (by omega))) (Nat.le_refl _))) (by have := hX.size; omega) FP.out).mono fun e w' hq => by
  obtain ⟨f1, f2, he, hb2, -, hr⟩ := hq
  have kk : Below w19.heap.size w19 w' := hX.trans (hb2.mono hX.size)
  exact ⟨f1, f2, _, _, he, Nat.le_refl _, kk, hr, RB.out _ kk⟩
 have CS : Hid (∀ (wA : World) (f1 f2 : Option Addr) (lo hi : Nat) (X0 : World), hi ≤ wA.heap.size → Below w19.heap.size w19 X0 → ProgR wA lo hi f1 f2 p → Below wA.heap.size wA X0 → Calls Tryz.prog 11 #[.agg #[.slice s1 d.ths.length c1, .slice s2 d.chs.length c2, .slice s3 d.tr.length c3]] X0 fun e w' => ∃ (t1 : Option Addr) (e1 : Nat) (t2 : Option Addr) (e2 : Nat) (t3 : Option Addr) (e3 : Nat) (lo' hi' : Nat), e = .returned (.agg #[.slice t1 d.ths.length e1, .slice t2 d.chs.length e2, .slice t3 d.tr.length e3]) ∧ hi ≤ w'.heap.size ∧ hi' ≤ w'.heap.size ∧ Below w19.heap.size w19 w' ∧ Hid (ProgR w' lo hi f1 f2 p) ∧ Hid (SrcR w' lo' hi' t1 t2 t3 d) ∧ w'.cell? ⟨w.heap.size, 0, none⟩ = some (.slice p1 p.caps.length a1) ∧ w'.cell? ⟨w.heap.size, 1, none⟩ = some (.slice p2 p.bods.length a2) ∧ w'.cell? ⟨w.heap.size + 1, 0, none⟩ = some (.slice s1 d.ths.length c1) ∧ w'.cell? ⟨w.heap.size + 1, 1, none⟩ = some (.slice s2 d.chs.length c2) ∧ w'.cell? ⟨w.heap.size + 1, 2, none⟩ = some (.slice s3 d.tr.length c3)) := fun wA f1 f2 lo hi X0 hh hX hp hA => (toSource_own s1 s2 s3 c1 c2 c3 0 w.heap.size d X0 (HS.out.keep (Keep.of_below (HK.out.trans (hX.mono (by omega))) (Nat.le_refl _))) (by have := hX.size; omega) FS.out).mono fun e w' hq => by
  obtain ⟨v1, v2, v3, L1, L2, he, ho, hb2, -⟩ := hq
  obtain ⟨t1, e1, t2, e2, t3, e3, rfl, rfl, rfl, hr⟩ := ho.src
  have kk : Below w19.heap.size w19 w' := hX.trans (hb2.mono hX.size)
  have k2 : Below wA.heap.size wA w' := hA.trans (hb2.mono hA.size)
  exact ⟨t1, e1, t2, e2, t3, e3, _, _, he, Nat.le_trans hh k2.size, Nat.le_refl _, kk, hp.keep' (Keep.of_below k2 hh), hr, RB.out _ kk⟩
 have CT : Hid (∀ (wB : World) (f1 f2 : Option Addr) (lo hi : Nat) (t1 : Option Addr) (e1 : Nat) (t2 : Option Addr) (e2 : Nat) (t3 : Option Addr) (e3 : Nat) (lo' hi' : Nat) (X0 : World), hi ≤ wB.heap.size → hi' ≤ wB.heap.size → Below w19.heap.size w19 X0 → ProgR wB lo hi f1 f2 p → SrcR wB lo' hi' t1 t2 t3 d → Below wB.heap.size wB X0 → Calls Tryz.prog 23 #[.agg #[.slice f1 p.caps.length p.caps.length, .slice f2 p.bods.length p.bods.length], .agg #[.slice t1 d.ths.length e1, .slice t2 d.chs.length e2, .slice t3 d.tr.length e3]] X0 fun e w' => ∃ (x4 : Option Addr) (y4 : Nat), e = .returned (.slice x4 CC.length y4) ∧ Below w19.heap.size w19 w' ∧ Hid (OwnN w' w19.heap.size (.slice x4 CC.length y4) CC) ∧ w'.cell? ⟨w.heap.size, 0, none⟩ = some (.slice p1 p.caps.length a1) ∧ w'.cell? ⟨w.heap.size, 1, none⟩ = some (.slice p2 p.bods.length a2) ∧ w'.cell? ⟨w.heap.size + 1, 0, none⟩ = some (.slice s1 d.ths.length c1) ∧ w'.cell? ⟨w.heap.size + 1, 1, none⟩ = some (.slice s2 d.chs.length c2) ∧ w'.cell? ⟨w.heap.size + 1, 2, none⟩ = some (.slice s3 d.tr.length c3)) := fun wB f1 f2 lo hi t1 e1 t2 e2 t3 e3 lo' hi' X0 h1 h2 hX hp hs hB => (implAble_any f1 f2 t1 t2 t3 _ _ e1 e2 e3 lo hi lo' hi' p d X0 (hp.keep' (Keep.of_below hB h1)) (hs.keep (Keep.of_below hB h2)) (Nat.le_trans h1 hB.size) (Nat.le_trans h2 hB.size) FP.out FS.out).mono fun e w' hq => by
  rw [HKK.out] at hq
  obtain ⟨v, he, hn, hb2⟩ := hq
  obtain ⟨x4, y4, rfl⟩ := hn.sl
  have kk : Below w19.heap.size w19 w' := hX.trans (hb2.mono hX.size)
  exact ⟨x4, y4, he, kk, ownLow' hn hX.size, RB.out _ kk⟩
 have kD : Below w19.heap.size w19 w19.drew := Below.drew (Below.refl _ _)
 have hdr : ∀ X : World, X.drew.heap.size = X.heap.size := fun _ => rfl
 go_region_held3 (fun w' => w'.cell? ⟨w.heap.size, 0, none⟩ = some (.slice p1 p.caps.length a1) ∧ w'.cell? ⟨w.heap.size, 1, none⟩ = some (.slice p2 p.bods.length a2) ∧ w'.cell? ⟨w.heap.size + 1, 0, none⟩ = some (.slice s1 d.ths.length c1) ∧ w'.cell? ⟨w.heap.size + 1, 1, none⟩ = some (.slice s2 d.chs.length c2) ∧ w'.cell? ⟨w.heap.size + 1, 2, none⟩ = some (.slice s3 d.tr.length c3)) (first | exact RB.out _ (by repeat' (first | with_reducible exact kC | with_reducible exact kB | with_reducible exact kA | with_reducible exact kD | with_reducible exact Below.refl _ _ | with_reducible refine Below.drew ?_ | with_reducible refine Below.alloc ?_ (by first | omega | exact Nat.le_refl _ | (simp [hdr]; done) | (simp [hdr]; omega)) _ | with_reducible refine Below.setCell ?_ (by first | omega | exact Nat.le_refl _ | (simp [hdr]; done) | (simp [hdr]; omega)) _)) | go_keep) (first | (go_at_call 10; with_reducible refine (CP.out _ (by repeat' (first | with_reducible exact kC | with_reducible exact kB | with_reducible exact kA | with_reducible exact kD | with_reducible exact Below.refl _ _ | with_reducible refine Below.drew ?_ | with_reducible refine Below.alloc ?_ (by first | omega | exact Nat.le_refl _ | (simp [hdr]; done) | (simp [hdr]; omega)) _ | with_reducible refine Below.setCell ?_ (by first | omega | exact Nat.le_refl _ | (simp [hdr]; done) | (simp [hdr]; omega)) _))).mono ?_; rintro e wA ⟨f1, f2, lo, hi, rfl, hhA, kA, PA, yA0, yA1, yA2, yA3, yA4⟩; have zA := kA.size) | (go_at_call 11; with_reducible refine (CS.out wA f1 f2 lo hi _ hhA (by repeat' (first | with_reducible exact kC | with_reducible exact kB | with_reducible exact kA | with_reducible exact kD | with_reducible exact Below.refl _ _ | with_reducible refine Below.drew ?_ | with_reducible refine Below.alloc ?_ (by first | omega | exact Nat.le_refl _ | (simp [hdr]; done) | (simp [hdr]; omega)) _ | with_reducible refine Below.setCell ?_ (by first | omega | exact Nat.le_refl _ | (simp [hdr]; done) | (simp [hdr]; omega)) _)) PA.out (show Below wA.heap.size wA _ from (by repeat' (first | with_reducible exact Below.refl _ _ | with_reducible refine Below.drew ?_ | with_reducible refine Below.alloc ?_ (by first | omega | exact Nat.le_refl _ | (simp [hdr]; done) | (simp [hdr]; omega)) _)))).mono ?_; rintro e wB ⟨t1, e1, t2, e2, t3, e3, lo', hi', rfl, hhB, hhB', kB, PB, SB', yB0, yB1, yB2, yB3, yB4⟩; have zB := kB.size) | (go_at_call 23; with_reducible refine (CT.out wB f1 f2 lo hi t1 e1 t2 e2 t3 e3 lo' hi' _ hhB hhB' (by repeat' (first | with_reducible exact kC | with_reducible exact kB | with_reducible exact kA | with_reducible exact kD | with_reducible exact Below.refl _ _ | with_reducible refine Below.drew ?_ | with_reducible refine Below.alloc ?_ (by first | omega | exact Nat.le_refl _ | (simp [hdr]; done) | (simp [hdr]; omega)) _ | with_reducible refine Below.setCell ?_ (by first | omega | exact Nat.le_refl _ | (simp [hdr]; done) | (simp [hdr]; omega)) _)) PB.out SB'.out (show Below wB.heap.size wB _ from (by repeat' (first | with_reducible exact Below.refl _ _ | with_reducible refine Below.drew ?_ | with_reducible refine Below.alloc ?_ (by first | omega | exact Nat.le_refl _ | (simp [hdr]; done) | (simp [hdr]; omega)) _)))).mono ?_; rintro e wC ⟨xk4, yk4, rfl, kC, NC, yC0, yC1, yC2, yC3, yC4⟩; have zC := kC.size) | fail)
 obtain ⟨w21, hw21⟩ : ∃ z, z = wC := ⟨_, rfl⟩
 subst hw21
 have z21 := kC.size
 clear RB CP CS CT kD hdr PA PB SB' kA kB yA0 yA1 yA2 yA3 yA4 yB0 yB1 yB2 yB3 yB4 yC0 yC1 yC2 yC3 yC4
 clear APc0 APc1 APz
 clear Ac0 Ac1 Ac2 Az
 clear Xxc0 Xxc1 Xxz
 clear Xzc0 Xzc1 Xzc2 Xzz
 have JK := hidX (HK.out.trans (kC.mono (by omega)))
 have JAP := hidX (HAP.out.keep (Keep.of_below kC (by omega)))
 have JA := hidX (HA.out.keep (Keep.of_below kC (by omega)))
 have JNw := hidX (HNw.out.keep (Keep.of_below kC (by omega)))
 have JXx := hidX (HXx.out.keep (Keep.of_below kC (by omega)))
 have JXz := hidX (HXz.out.keep (Keep.of_below kC (by omega)))
 have JD := hidX (HD.out.keep (Keep.of_below kC (by omega)))
 clear HK HAP HA HNw HXx HXz HD
 have HK := JK
 have HAP := JAP
 have HA := JA
 have HNw := JNw
 have HXx := JXx
 have HXz := JXz
 have HD := JD
 clear JK JAP JA JNw JXx JXz JD
 have HNk : Hid (IntsR w21 w19.heap.size w21.heap.size xk4 CC) := OwnN.intsS NC.out
 clear NC
 clear kC
 obtain ⟨APc0, APc1⟩ := HAP.out
 have APz : w.heap.size < w21.heap.size := by omega
 obtain ⟨Ac0, Ac1, Ac2⟩ := HA.out
 have Az : w.heap.size + 1 < w21.heap.size := by omega
 obtain ⟨Xxc0, Xxc1⟩ := HXx.out
 have Xxz : w6.heap.size < w21.heap.size := by omega
 obtain ⟨Xzc0, Xzc1, Xzc2⟩ := HXz.out
 have Xzz : w8.heap.size < w21.heap.size := by omega
 go_wp2_with fail
 refine (eqN_true yk4 yw4 HNk.out HNw.out (by omega) (by omega) HCL.out).mono ?_
 rintro e w22 ⟨rfl, hb22⟩
 have z22 := hb22.size
 clear APc0 APc1 APz
 clear Ac0 Ac1 Ac2 Az
 clear Xxc0 Xxc1 Xxz
 clear Xzc0 Xzc1 Xzc2 Xzz
 have JK := hidX (HK.out.trans (hb22.mono (by omega)))
 have JAP := hidX (HAP.out.keep (Keep.of_below hb22 (by omega)))
 have JA := hidX (HA.out.keep (Keep.of_below hb22 (by omega)))
 have JNw := hidX (HNw.out.keep (Keep.of_below hb22 (by omega)))
 have JXx := hidX (HXx.out.keep (Keep.of_below hb22 (by omega)))
 have JXz := hidX (HXz.out.keep (Keep.of_below hb22 (by omega)))
 have JD := hidX (HD.out.keep (Keep.of_below hb22 (by omega)))
 have JNk := hidX (HNk.out.keep (Keep.of_below hb22 (by omega)))
 clear HK HAP HA HNw HXx HXz HD HNk
 have HK := JK
 have HAP := JAP
 have HA := JA
 have HNw := JNw
 have HXx := JXx
 have HXz := JXz
 have HD := JD
 have HNk := JNk
 clear JK JAP JA JNw JXx JXz JD JNk
 clear hb22
 obtain ⟨APc0, APc1⟩ := HAP.out
 have APz : w.heap.size < w22.heap.size := by omega
 obtain ⟨Ac0, Ac1, Ac2⟩ := HA.out
 have Az : w.heap.size + 1 < w22.heap.size := by omega
 obtain ⟨Xxc0, Xxc1⟩ := HXx.out
 have Xxz : w6.heap.size < w22.heap.size := by omega
 obtain ⟨Xzc0, Xzc1, Xzc2⟩ := HXz.out
 have Xzz : w8.heap.size < w22.heap.size := by omega
 go_wp2_with fail
 refine (heldN_any V9.heap.size _ CC.length 1 w22 HD.out.o HCL.out (by omega) (by omega)).mono ?_
 rintro e w23 ⟨rfl, hw23⟩
 rw [hw23, HMN.out]
 clear hw23 w23
 go_wp2
 go_ret
 exact ⟨rfl, HK.out⟩
set_option maxRecDepth 100000 in
theorem liftedExactAble (os : Os) (started : os.Started) (H : Type) (enc : TypeId × Value → H) :
  ReturnsInHanded {} Tryz.checked os 4 .any (Rows.fnExactAbleSpec.pre6 enc Tryz.prog Tryz.f4 Rows.fnExactAbleRow.domain false) (Rows.fnExactAbleSpec.post enc Tryz.prog Tryz.f4 false true false false) := by
 refine returnsInHanded_of_change (C := Tryz.checked) ownP started (by kernel_rfl) Tryz.func4
  (ChangeSpec.witness6 (enc := enc) (C := Tryz.checked) false ⟨#[], #[.agg #[.slice none 0 0, .slice none 0 0], .agg #[.slice none 0 0, .slice none 0 0, .slice none 0 0]], []⟩ 8 (by kernel_rfl) (by kernel_rfl) (by kernel_rfl) (by kernel_rfl)) ?_
 intro W base args ds gs before hval0 hW hcnd _
 have hval : ∀ (j : Nat) t v, Tryz.f4.params[j]? = some t → args[j]? = some v → Value.okWide Tryz.prog W .any base t v := hval0
 have hW' := hW
 obtain ⟨p, q, hA0, hV, rfl, hfz, hnd⟩ := hW
 have hA : DataW.TrodAll enc Tryz.prog W 0 (fun _ => true) true Tryz.f4.params.toList args.toList ds p := hA0
 rw [Tryz.params4] at hA hval
 obtain ⟨v0, v1, d0, d1, p0, p1, hargs, rfl, rfl, h0, h1⟩ := trodAll_two hA
 obtain rfl : args = #[v0, v1] := by cases args; simp_all
 obtain ⟨rfl, rfl⟩ := trodVars_none hV
 have k0 := h0
 have lt0 : ∀ x ∈ p0, x.block < W.heap.size := by obtain ⟨m, hm⟩ := k0; exact DataW.trod_lt m _ _ _ hm
 have k1 := h1
 have lt1 : ∀ x ∈ p1, x.block < W.heap.size := by obtain ⟨m, hm⟩ := k1; exact DataW.trod_lt m _ _ _ hm
 obtain ⟨p1, p2, a1, a2, pd, rfl, m1, m2, m3, hP⟩ := open_prog (hval 0 25 v0 rfl rfl) h0
 obtain ⟨s1, s2, s3, c1, c2, c3, sd, rfl, hn, hS⟩ := open_source (hval 1 30 v1 rfl rfl) h1
 clear hA0 hval0
 refine (walkAble p1 p2 s1 s2 s3 a1 a2 c1 c2 c3 pd sd W hP m1 m2 m3 hS hn).mono fun e W' ⟨he, bel⟩ => ?_
 subst he
 exact ⟨_, rfl, _, _, _, [], _, [], hW', trodAll_mk1 (shut_bool Tryz.underlying4 _), trodAll_mk2 (Below.trod laidOutP (by kernel_rfl) (of_decide_eq_true (by kernel_rfl)) k0 bel lt0) (Below.trod laidOutP (by kernel_rfl) (of_decide_eq_true (by kernel_rfl)) k1 bel lt1), rfl, bel.frame _, fun h => by cases h⟩
theorem fnExactAble_holds : Rows.FnExactAbleSaid :=
 OpenClaim.holds_of_wide 4 Tryz.f4 rfl rfl rfl rfl rfl rfl rfl ⟨rfl, rfl, rfl, rfl, rfl⟩ rfl rfl rfl rfl rfl (by kernel_rfl) Tryz.func4 (by kernel_rfl)
  (of_decide_eq_true (by kernel_rfl)) (by unfold Func.isWrapper; first | (rw [if_pos (by decide +kernel)]; kernel_rfl) | (rw [if_neg (by decide +kernel)]; exact ⟨rfl, rfl⟩))
  (fun os started H enc _ => liftedExactAble os started H enc)
#print axioms fnExactAble_holds
end Go.Proofs.YtfokbjkgdiploaaGreat
