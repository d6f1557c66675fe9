/- The law FnMachineRun of the given statements: a run of drawn picks is a part of them, and then the rest. No condition. -/
import Derived.Test.YtepfpbcjklaenaaRows
import Derived.Test.YtepfpbcjklaenaaMG29
import Derived.Test.YtepfpbcjklaenaaMG27
import Derived.Test.YtepfpbcjklaenaaMG23
import Derived.Test.YtepfpbcjklaenaaMG22
import Derived.Deep.RegionHeld3
import Derived.Deep.DeepCutAuto
import Derived.ProofKit
import Derived.OpenShut
import Derived.ShutString
import Derived.ChangeOld
import Derived.ChangeSlices
namespace Go.Proofs.Ytepfpbcjklaenaa
set_option linter.unusedSimpArgs false
set_option linter.unusedVariables false
set_option maxRecDepth 100000
open Go.ChangeShapes Go.WideShapes Go.ChangeAt Go.RowKit Go.Deep
set_option maxRecDepth 100000 in
set_option maxHeartbeats 16000000 in
theorem walkFnMachineRun (s : Option Addr) (n c : Nat) (w : World) (hb : Bytes w w.heap.size s n) (hn : n ≤ maxLen) :
  Calls Try.prog 5 #[.slice s n c] w fun e w' => e = .returned (.bool true) ∧ Below w.heap.size w w' := by
 by_cases hbig : 1048576 < n
 ·clear hb
  go_enter Try.func5, Try.ntmps5
  go_wp2_with fail
  refine (big_any s n c w).mono ?_
  rintro e w1 ⟨rfl, hw⟩
  have hw' := hw.symm
  clear hw
  subst hw'
  rw [decide_eq_true hbig]
  go_wp2
  go_ret
  exact ⟨rfl, Below.refl _ _⟩
 have HB := hidM1 hb
 have HN := hidM1 hn
 have BG := hidM1 hbig
 clear hb hn hbig
 go_enter Try.func5, Try.ntmps5
 go_wp2_with fail
 refine (big_any s n c w).mono ?_
 rintro e w1 ⟨rfl, hw⟩
 have hw' := hw.symm
 clear hw
 subst hw'
 rw [decide_eq_false BG.out]
 go_wp2_with fail
 refine (drawMRun_any s n c w HB.out HN.out).mono ?_
 rintro e w1 ⟨q, d, sp, cp, l, rfl, hma, hsz, hk, hpk, hl, hv, hb1⟩
 obtain ⟨A, hA, fA, kA⟩ := Fm.new w1 hma (Nat.le_refl _)
 obtain ⟨hcap, hnt⟩ := pk_cap hpk
 have P := hidM1 fA
 have L := hidM1 (hnt.up0 (Nat.le_refl _) kA)
 have K := hidM1 (hb1.trans (kA.mono hb1.size))
 have CAP := hidM1 hcap
 have SZ := hidM1 hsz
 have LL := hidM1 hl
 have LV : Hid (∀ x ∈ l, x.v ≤ 9223372036854775807) := fun x hx => by have := (hv x hx).2; omega
 have HA := hidM1 hA
 clear hma hsz hk hpk hl hv hb1 hA fA kA hcap hnt
 go_upto_region 4 with fail
 try rw [HA.out]
 clear HA
 obtain ⟨bM, hbM⟩ : ∃ z, w1.heap.size = z := ⟨_, rfl⟩
 rw [hbM] at P ⊢
 clear hbM
 obtain ⟨R, hR⟩ : ∃ x, runMb d l = x := ⟨_, rfl⟩
 obtain ⟨C, hC⟩ : ∃ x, runMc d l = x := ⟨_, rfl⟩
 have HR := hidM1 hR
 have HC := hidM1 hC
 have RZ : Hid (MaSz R ≤ 41000) := by rw [← hR]; exact runM_sz SZ.out LL.out
 have CZ : Hid (C.length ≤ 4000) := by rw [← hC]; exact runMc_len d l
 clear hR hC
 have CALL0 := implMRun_any q.s1 q.s2 q.s3 q.s4 sp q.c1 q.c2 q.c3 q.c4 cp _ _ _ _ d l A P.out.r L.out (Nat.le_refl _) (Nat.le_refl _) (by have := SZ.out; omega) (by have := LL.out; omega) LV.out
 rw [HR.out, HC.out] at CALL0
 have CALL := hidM1 CALL0
 clear CALL0
 obtain ⟨⟨pz, p0, p1, p2, p3⟩, -⟩ := P.out.b
 go_wp2_with fail
 refine CALL.out.mono ?_
 rintro e w2 ⟨q2, sx, cx, rfl, hmo, hno, -, hb2⟩
 obtain ⟨X1, hX1, f1, k1⟩ := Fm.new w2 hmo.ma (Nat.le_refl _)
 have kk := hb2.trans (k1.mono hb2.size)
 have ev : Ev w bM w2.heap.size q q2 d R sp l sx C X1 := ⟨P.out.keep kk, f1, L.out.up0 (Nat.le_refl _) kk, (ownI_ints hno).up0 (Nat.le_refl _) k1, K.out.trans (kk.mono K.out.size)⟩
 have E1 := hidM1 ev
 have HX := hidM1 hX1
 clear hmo hno hb2 hX1 f1 k1 kk ev CALL P L K pz p0 p1 p2 p3
 go_upto_region 5 with fail
 try rw [HX.out]
 clear HX
 obtain ⟨bN, hbN⟩ : ∃ z, w2.heap.size = z := ⟨_, rfl⟩
 rw [hbN] at E1 ⊢
 clear hbN
 have CALL0 := specMRun_any q.s1 q.s2 q.s3 q.s4 sp q.c1 q.c2 q.c3 q.c4 cp _ _ _ _ d l X1 E1.out.P.r E1.out.L (Nat.le_refl _) (Nat.le_refl _) (by have := SZ.out; omega) (by have := LL.out; omega) LV.out
 rw [HR.out, HC.out] at CALL0
 have CALL := hidM1 CALL0
 clear CALL0
 obtain ⟨⟨pz, p0, p1, p2, p3⟩, -⟩ := E1.out.P.b
 go_wp2_with fail
 refine CALL.out.mono ?_
 rintro e w3 ⟨q3, s3x, c3x, rfl, hmo, hno, -, hb3⟩
 obtain ⟨X2, hX2, f2, k2⟩ := Fm.new w3 hmo.ma (Nat.le_refl _)
 have kk := hb3.trans (k2.mono hb3.size)
 have E2 := hidM1 (E1.out.keep kk)
 have N3 := hidM1 ((ownI_ints hno).up0 (Nat.le_refl _) k2)
 have HX := hidM1 hX2
 clear hmo hno hb3 hX2 f2 k2 kk CALL E1 pz p0 p1 p2 p3
 go_upto_region 6 with fail
 try rw [HX.out]
 clear HX
 obtain ⟨b3, hb3⟩ : ∃ z, w3.heap.size = z := ⟨_, rfl⟩
 try rw [hb3]
 clear hb3
 go_wp2_with fail
 refine (sameInts_any sx s3x C C cx c3x X2 (E2.out.N.intsS (Nat.le_refl _)) (N3.out.intsS (Nat.le_refl _)) (by have := CZ.out; omega)).mono ?_
 rintro e w4 ⟨rfl, m, rfl⟩
 rw [decide_eq_true (rfl : C = C)]
 have kk : Below X2.heap.size X2 (X2.drewN m) := ⟨rfl, rfl, rfl, Nat.le_refl _, fun _ _ => rfl⟩
 obtain ⟨W, hW⟩ : ∃ W, X2.drewN m = W := ⟨_, rfl⟩
 rw [hW] at kk ⊢
 have E3 := hidM1 (E2.out.keep kk)
 clear hW kk E2 N3
 go_wp2_with fail
 refine (drawNew_any s n c W (HB.out.up E3.out.K) HN.out).mono ?_
 rintro e w7 ⟨su, cu, Lc, rfl, hcs, hc5, hc75, hb7⟩
 have E4 := hidM1 (E3.out.keep hb7)
 have CS := hidM1 hcs
 have C5 : Hid (Lc.length ≤ 5 ∧ szC Lc ≤ 75) := ⟨hc5, hc75⟩
 clear hcs hc5 hc75 hb7 E3
 have NZ : Hid (MaSz (newMa Lc) ≤ 3000) := newMa_sz C5.out.1 C5.out.2
 have CALL := hidM1 (implMachNew_any su cu _ _ Lc w7 CS.out (Nat.le_refl _) (by have := C5.out; omega))
 go_wp2_with fail
 refine CALL.out.mono ?_
 rintro e w8 ⟨q5, rfl, hmo, hb8⟩
 obtain ⟨X8, hX8, f8, k8⟩ := Fm.new w8 hmo.ma (Nat.le_refl _)
 have kk := hb8.trans (k8.mono hb8.size)
 have E5 := hidM1 (E4.out.keep kk)
 have F5 := hidM1 f8
 have CS5 := hidM1 ((CS.out.keep (Keep.of_below kk (Nat.le_refl _))).mono (Nat.le_refl _) kk.size)
 have HX := hidM1 hX8
 clear hmo hb8 hX8 f8 k8 kk CALL E4 CS
 go_upto_region 10 with fail
 try rw [HX.out]
 clear HX
 obtain ⟨b8, hb8⟩ : ∃ z, w8.heap.size = z := ⟨_, rfl⟩
 rw [hb8] at F5 ⊢
 clear hb8
 have CALL := hidM1 (specMachNew_any su cu _ _ Lc X8 CS5.out (Nat.le_refl _) (by have := C5.out; omega))
 go_wp2_with fail
 refine CALL.out.mono ?_
 rintro e w9 ⟨q6, rfl, hmo, hb9⟩
 obtain ⟨X9, hX9, f9, k9⟩ := Fm.new w9 hmo.ma (Nat.le_refl _)
 have kk := hb9.trans (k9.mono hb9.size)
 have E6 := hidM1 (E5.out.keep kk)
 have F6 := hidM1 (F5.out.keep kk)
 have HX := hidM1 hX9
 clear hmo hb9 hX9 f9 k9 kk CALL E5 F5 CS5
 go_upto_region 11 with fail
 try rw [HX.out]
 clear HX
 obtain ⟨b9, hb9⟩ : ∃ z, w9.heap.size = z := ⟨_, rfl⟩
 try rw [hb9]
 clear hb9
 have OKN : Hid (machB (newMa Lc) = codesB Lc ∨ codesB Lc = false) := by
  by_cases hc : codesB Lc = true
  ·left
   show machB (newMa Lc) = _
   unfold newMa
   rw [if_pos hc]
   exact mach_new _
  ·right
   exact Bool.eq_false_iff.2 hc
 have OKM := hidM1 (implMachineOk_any q5.s1 q5.s2 q5.s3 q5.s4 q5.c1 q5.c2 q5.c3 q5.c4 _ _ (newMa Lc) X9 F6.out.r (Nat.le_refl _) (MaFits.of (by have := NZ.out; omega)))
 obtain ⟨⟨gz, g0, g1, g2, g3⟩, -⟩ := F6.out.b
 generalize codesB Lc = okc at OKN ⊢
 cases okc
 case' false =>
  go_upto_region 13 with fail
  have E7 := E6
  clear E6 OKM OKN F6 gz g0 g1 g2 g3
  generalize X9 = Z at E7 ⊢
 case' true =>
  have hm1 : machB (newMa Lc) = true := OKN.out.elim id (fun h => by cases h)
  rw [hm1] at OKM
  go_wp2_with fail
  refine OKM.out.mono ?_
  rintro e Z ⟨rfl, kk⟩
  go_upto_region 13 with fail
  have E7 := hidM1 (E6.out.keep kk)
  clear E6 OKM OKN F6 gz g0 g1 g2 g3 kk hm1
 all_goals
  by_cases hrc : C.length = 0
  ·have hrz : ((C.length : Nat) : Int) = 0 := by omega
   have ER : R = d := by rw [← HR.out]; exact runM_none (by rw [HC.out]; exact hrc)
   subst ER
   obtain ⟨⟨pz, p0, p1, p2, p3⟩, -⟩ := E7.out.P.b
   obtain ⟨⟨gz, g0, g1, g2, g3⟩, -⟩ := E7.out.G.b
   go_wp2_with fail
   refine (sameMach_eq q.s1 q.s2 q.s3 q.s4 q2.s1 q2.s2 q2.s3 q2.s4 q.c1 q.c2 q.c3 q.c4 q2.c1 q2.c2 q2.c3 q2.c4 _ _ _ _ R Z E7.out.P.r E7.out.G.r (Nat.le_refl _) (Nat.le_refl _) (by have := RZ.out; omega)).mono ?_
   rintro e Z3 ⟨rfl, kk⟩
   clear pz p0 p1 p2 p3 gz g0 g1 g2 g3
   go_wp2
   go_ret
   exact ⟨rfl, E7.out.K.trans (kk.mono E7.out.K.size)⟩
  ·have hrz : ¬ ((C.length : Nat) : Int) = 0 := by omega
   go_wp2_with fail
   refine (at_one s n c Z (HB.out.up E7.out.K) (by have := BG.out; omega)).mono ?_
   rintro e Z4 ⟨x, rfl, x0, x1, hZ4⟩
   have hZ4' := hZ4.symm
   clear hZ4
   subst hZ4'
   have LB := LL.out
   have hw1 : IntKind.i64.wrap ((l.length : Int) + 1) = (l.length : Int) + 1 := Go.IntWalk.i64_in _ ⟨by omega, by omega⟩
   have hne : ¬ ((l.length : Int) + 1) = 0 := by omega
   obtain ⟨k, hk⟩ : ∃ k : Nat, x.tmod ((l.length : Int) + 1) = (k : Int) := ⟨(x.tmod ((l.length : Int) + 1)).toNat, by have := Int.tmod_nonneg ((l.length : Int) + 1) x0; omega⟩
   have hkl : k ≤ l.length := by have := Int.tmod_lt_of_pos x (show (0 : Int) < (l.length : Int) + 1 by omega); omega
   have KL := hidM1 hkl
   clear hkl x0 x1 LB hrz
   go_wp2_with fail
   clear hw1 hne hk
   have hk0 : (0 : Int) ≤ (k : Int) := by omega
   have hk1 : (k : Int) ≤ (cp : Int) := by have := KL.out; have := CAP.out; omega
   obtain ⟨DA, hDA⟩ : ∃ x, runMb d (l.take k) = x := ⟨_, rfl⟩
   have HDA := hidM1 hDA
   obtain ⟨CA, hCA⟩ : ∃ x, runMc d (l.take k) = x := ⟨_, rfl⟩
   have HCA := hidM1 hCA
   obtain ⟨CB, hCB⟩ : ∃ x, runMc DA (l.drop k) = x := ⟨_, rfl⟩
   have HCB := hidM1 hCB
   have LT : Hid ((l.take k).length = k) := by show _ = _; rw [List.length_take]; have := KL.out; omega
   have LD : Hid ((l.drop k).length = l.length - k) := by show _ = _; rw [List.length_drop]
   have AZ : Hid (MaSz DA ≤ 41000) := by rw [← hDA]; exact runM_sz SZ.out (by rw [LT.out]; have := KL.out; have := LL.out; omega)
   have PT : Hid (runMb DA (l.drop k) = R ∧ CA.length + CB.length = C.length) := by
    have q := runM_some (d := d) (l := l) (by rw [HC.out]; exact hrc)
    have h := runM_parts q.1 q.2 k
    rw [hDA, hCA, hCB, HR.out, HC.out] at h
    exact h
   clear hDA hCA hCB hrc
   have RB : Hid (∀ Y, Below Z.heap.size Z Y → Y.cell? ⟨bM, 0, none⟩ = some (.slice q.s1 d.codes.length q.c1) ∧ Y.cell? ⟨bM, 1, none⟩ = some (.slice q.s2 d.cores.length q.c2) ∧ Y.cell? ⟨bM, 2, none⟩ = some (.slice q.s3 d.mem.length q.c3) ∧ Y.cell? ⟨bM, 3, none⟩ = some (.slice q.s4 d.tr.length q.c4)) := fun Y hY => by
    obtain ⟨⟨-, q0, q1, q2, q3⟩, -⟩ := (E7.out.P.keep hY).b
    exact ⟨q0, q1, q2, q3⟩
   have CT : Hid (∀ (X0 : World) (pB : Option Nat), Below Z.heap.size Z X0 → BoxAt X0 pB → Calls Try.prog 10 #[.agg #[.slice q.s1 d.codes.length q.c1, .slice q.s2 d.cores.length q.c2, .slice q.s3 d.mem.length q.c3, .slice q.s4 d.tr.length q.c4], .slice sp k cp] X0 fun e w' => ∃ (qa : MP) (x4 : Option Addr) (y4 : Nat), e = .returned (.tuple #[.agg #[.slice qa.s1 DA.codes.length qa.c1, .slice qa.s2 DA.cores.length qa.c2, .slice qa.s3 DA.mem.length qa.c3, .slice qa.s4 DA.tr.length qa.c4], .slice x4 CA.length y4]) ∧ Below Z.heap.size Z w' ∧ Hid (Rn8 w' pB qa DA x4 CA) ∧ Hid (BoxAt w' pB) ∧ w'.cell? ⟨bM, 0, none⟩ = some (.slice q.s1 d.codes.length q.c1) ∧ w'.cell? ⟨bM, 1, none⟩ = some (.slice q.s2 d.cores.length q.c2) ∧ w'.cell? ⟨bM, 2, none⟩ = some (.slice q.s3 d.mem.length q.c3) ∧ w'.cell? ⟨bM, 3, none⟩ = some (.slice q.s4 d.tr.length q.c4)) := fun X0 pB hX hb => by
    have q := implMRun_any q.s1 q.s2 q.s3 q.s4 sp q.c1 q.c2 q.c3 q.c4 cp _ _ _ _ d (l.take k) X0 (E7.out.P.keep hX).r ((E7.out.L.takeR k).up0 (Nat.le_refl _) hX) (Nat.le_refl _) (Nat.le_refl _) (by have := SZ.out; omega) (by have := LT.out; have := KL.out; have := LL.out; omega) (fun x hx => LV.out x (List.mem_of_mem_take hx))
    rw [LT.out, HDA.out, HCA.out] at q
    refine q.mono fun e w' hq => ?_
    obtain ⟨qa, x4, y4, he, hmo, hno, -, hb2⟩ := hq
    have kk : Below Z.heap.size Z w' := hX.trans (hb2.mono hX.size)
    exact ⟨qa, x4, y4, he, kk, ⟨X0.heap.size, fun b e => boxLtS (by rw [← e]; exact hb), hmo.ma, ownI_ints hno⟩, hb.keep hb2, RB.out _ kk⟩
   obtain ⟨⟨pz, p0, p1, p2, p3⟩, -⟩ := E7.out.P.b
   have kD : Below Z.heap.size Z Z.drew := Below.drew (Below.refl _ _)
   have hdr : ∀ X : World, X.drew.heap.size = X.heap.size := fun _ => rfl
   go_cut [15, 16] (fun s8 s9 wx => CutMr Z DA CA s8 s9 wx)
   case first =>
    go_region_held3 (fun w' => w'.cell? ⟨bM, 0, none⟩ = some (.slice q.s1 d.codes.length q.c1) ∧ w'.cell? ⟨bM, 1, none⟩ = some (.slice q.s2 d.cores.length q.c2) ∧ w'.cell? ⟨bM, 2, none⟩ = some (.slice q.s3 d.mem.length q.c3) ∧ w'.cell? ⟨bM, 3, none⟩ = some (.slice q.s4 d.tr.length q.c4)) (first | exact RB.out _ (by repeat' (first | with_reducible exact kC | with_reducible exact kD | with_reducible exact Below.refl _ _ | with_reducible refine Below.drew ?_ | with_reducible refine Below.alloc ?_ (by first | omega | exact Nat.le_refl _ | (simp [hdr]; done) | (simp [hdr]; omega)) _ | with_reducible refine Below.setCell ?_ (by first | omega | exact Nat.le_refl _ | (simp [hdr]; done) | (simp [hdr]; omega)) _)) | go_keep) (first | (go_at_call 10; with_reducible refine (CT.out _ _ (by repeat' (first | with_reducible exact kC | with_reducible exact kD | with_reducible exact Below.refl _ _ | with_reducible refine Below.drew ?_ | with_reducible refine Below.alloc ?_ (by first | omega | exact Nat.le_refl _ | (simp [hdr]; done) | (simp [hdr]; omega)) _ | with_reducible refine Below.setCell ?_ (by first | omega | exact Nat.le_refl _ | (simp [hdr]; done) | (simp [hdr]; omega)) _)) (by first | with_reducible exact boxD (boxN0 _) | with_reducible exact boxN0 _ | with_reducible exact boxNo _)).mono ?_; rintro e wC ⟨qa, x4, y4, rfl, kC, OC, HBC, yC0, yC1, yC2, yC3⟩; have zC := kC.size; (try obtain ⟨⟨⟨b9, b0', b1', b2', b3'⟩, bf'⟩, -⟩ := boxSome HBC.out)) | fail)
    all_goals
     go_wp2_with fail
     go_meet
     first
      | with_reducible exact cutMr_new OC.out kC
      | with_reducible exact cutMr_set (boxSome HBC.out) (by omega) OC.out kC
   case rest =>
    obtain ⟨ba, qa, x4, y4, rfl, rfl, hz, hi, kk⟩ := hcut
    clear pz p0 p1 p2 p3
    clear RB CT kD hdr
    have E8 := hidM1 (E7.out.keep kk)
    have GA := hidM1 hz
    clear hz hi kk E7
    obtain ⟨X8, hXX⟩ : ∃ z, z = wc := ⟨_, rfl⟩
    subst hXX
    have hk2 : (k : Int) ≤ (l.length : Int) := by have := KL.out; omega
    have hk3 : (l.length : Int) ≤ (cp : Int) := by have := CAP.out; omega
    go_wp2_with fail
    obtain ⟨sy, hsy⟩ : ∃ x, (if cp = k then sp else sp.map (·.add (k * 2))) = x := ⟨_, rfl⟩
    have HSY : Hid (∀ Y, Below X8.heap.size X8 Y → NtsR Y 0 Y.heap.size sy (l.drop k)) := fun Y hY => by rw [← hsy]; exact NtsR.dropR KL.out CAP.out (E8.out.L.up0 (Nat.le_refl _) hY)
    have RB : Hid (∀ Y, Below X8.heap.size X8 Y → Y.cell? ⟨ba, 0, none⟩ = some (.slice qa.s1 DA.codes.length qa.c1) ∧ Y.cell? ⟨ba, 1, none⟩ = some (.slice qa.s2 DA.cores.length qa.c2) ∧ Y.cell? ⟨ba, 2, none⟩ = some (.slice qa.s3 DA.mem.length qa.c3) ∧ Y.cell? ⟨ba, 3, none⟩ = some (.slice qa.s4 DA.tr.length qa.c4)) := fun Y hY => by
     obtain ⟨⟨-, q0, q1, q2, q3⟩, -⟩ := (GA.out.keep hY).b
     exact ⟨q0, q1, q2, q3⟩
    have CT : Hid (∀ (X0 : World) (pB : Option Nat), Below X8.heap.size X8 X0 → BoxAt X0 pB → Calls Try.prog 10 #[.agg #[.slice qa.s1 DA.codes.length qa.c1, .slice qa.s2 DA.cores.length qa.c2, .slice qa.s3 DA.mem.length qa.c3, .slice qa.s4 DA.tr.length qa.c4], .slice sy (l.length - k) (cp - k)] X0 fun e w' => ∃ (qb : MP) (x4 : Option Addr) (y4 : Nat), e = .returned (.tuple #[.agg #[.slice qb.s1 R.codes.length qb.c1, .slice qb.s2 R.cores.length qb.c2, .slice qb.s3 R.mem.length qb.c3, .slice qb.s4 R.tr.length qb.c4], .slice x4 CB.length y4]) ∧ Below X8.heap.size X8 w' ∧ Hid (Rn8 w' pB qb R x4 CB) ∧ Hid (BoxAt w' pB) ∧ w'.cell? ⟨ba, 0, none⟩ = some (.slice qa.s1 DA.codes.length qa.c1) ∧ w'.cell? ⟨ba, 1, none⟩ = some (.slice qa.s2 DA.cores.length qa.c2) ∧ w'.cell? ⟨ba, 2, none⟩ = some (.slice qa.s3 DA.mem.length qa.c3) ∧ w'.cell? ⟨ba, 3, none⟩ = some (.slice qa.s4 DA.tr.length qa.c4)) := fun X0 pB hX hb => by
     have q := implMRun_any qa.s1 qa.s2 qa.s3 qa.s4 sy qa.c1 qa.c2 qa.c3 qa.c4 (cp - k) _ _ _ _ DA (l.drop k) X0 (GA.out.keep hX).r (HSY.out _ hX) (Nat.le_refl _) (Nat.le_refl _) (by have := AZ.out; omega) (by have := LD.out; have := KL.out; have := LL.out; omega) (fun x hx => LV.out x (List.mem_of_mem_drop hx))
     rw [LD.out, PT.out.1, HCB.out] at q
     refine q.mono fun e w' hq => ?_
     obtain ⟨qb, x4, y4, he, hmo, hno, -, hb2⟩ := hq
     have kk : Below X8.heap.size X8 w' := hX.trans (hb2.mono hX.size)
     exact ⟨qb, x4, y4, he, kk, ⟨X0.heap.size, fun b e => boxLtS (by rw [← e]; exact hb), hmo.ma, ownI_ints hno⟩, hb.keep hb2, RB.out _ kk⟩
    obtain ⟨⟨pz, p0, p1, p2, p3⟩, -⟩ := GA.out.b
    have kD : Below X8.heap.size X8 X8.drew := Below.drew (Below.refl _ _)
    have hdr : ∀ X : World, X.drew.heap.size = X.heap.size := fun _ => rfl
    go_cut [17, 18] (fun s8 s9 wx => CutMr X8 R CB s8 s9 wx)
    case first =>
     go_region_held3 (fun w' => w'.cell? ⟨ba, 0, none⟩ = some (.slice qa.s1 DA.codes.length qa.c1) ∧ w'.cell? ⟨ba, 1, none⟩ = some (.slice qa.s2 DA.cores.length qa.c2) ∧ w'.cell? ⟨ba, 2, none⟩ = some (.slice qa.s3 DA.mem.length qa.c3) ∧ w'.cell? ⟨ba, 3, none⟩ = some (.slice qa.s4 DA.tr.length qa.c4)) (first | exact RB.out _ (by repeat' (first | with_reducible exact kC | with_reducible exact kD | with_reducible exact Below.refl _ _ | with_reducible refine Below.drew ?_ | with_reducible refine Below.alloc ?_ (by first | omega | exact Nat.le_refl _ | (simp [hdr]; done) | (simp [hdr]; omega)) _ | with_reducible refine Below.setCell ?_ (by first | omega | exact Nat.le_refl _ | (simp [hdr]; done) | (simp [hdr]; omega)) _)) | go_keep) (first | (go_at_call 10; with_reducible refine (CT.out _ _ (by repeat' (first | with_reducible exact kC | with_reducible exact kD | with_reducible exact Below.refl _ _ | with_reducible refine Below.drew ?_ | with_reducible refine Below.alloc ?_ (by first | omega | exact Nat.le_refl _ | (simp [hdr]; done) | (simp [hdr]; omega)) _ | with_reducible refine Below.setCell ?_ (by first | omega | exact Nat.le_refl _ | (simp [hdr]; done) | (simp [hdr]; omega)) _)) (by first | with_reducible exact boxD (boxN0 _) | with_reducible exact boxN0 _ | with_reducible exact boxNo _)).mono ?_; rintro e wC ⟨qb, x5, y5, rfl, kC, OC, HBC, yC0, yC1, yC2, yC3⟩; have zC := kC.size; (try obtain ⟨⟨⟨b9, b0', b1', b2', b3'⟩, bf'⟩, -⟩ := boxSome HBC.out)) | fail)
     all_goals
      go_wp2_with fail
      go_meet
      first
       | with_reducible exact cutMr_new OC.out kC
       | with_reducible exact cutMr_set (boxSome HBC.out) (by omega) OC.out kC
    case rest =>
     obtain ⟨bb, qb, x5, y5, rfl, rfl, hz, -, kk⟩ := hcut
     clear pz p0 p1 p2 p3
     clear RB CT kD hdr
     have E9 := hidM1 (E8.out.keep kk)
     have GB := hidM1 hz
     clear hz kk E8 GA HSY hsy
     have hws : IntKind.i64.wrap ((CA.length : Int) + (CB.length : Int)) = (C.length : Int) := by
      have h := PT.out.2
      have h2 := CZ.out
      rw [Go.IntWalk.i64_in _ ⟨by omega, by omega⟩]
      omega
     have hee : (((C.length : Int)) == ((C.length : Int))) = true := by simp
     obtain ⟨⟨pz, p0, p1, p2, p3⟩, -⟩ := GB.out.b
     obtain ⟨⟨gz, g0, g1, g2, g3⟩, -⟩ := E9.out.G.b
     go_wp2_with fail
     refine (sameMach_eq qb.s1 qb.s2 qb.s3 qb.s4 q2.s1 q2.s2 q2.s3 q2.s4 qb.c1 qb.c2 qb.c3 qb.c4 q2.c1 q2.c2 q2.c3 q2.c4 _ _ _ _ R wc GB.out.r E9.out.G.r (Nat.le_refl _) (Nat.le_refl _) (by have := RZ.out; omega)).mono ?_
     rintro e Z9 ⟨rfl, kk⟩
     go_wp2
     go_ret
     exact ⟨rfl, E9.out.K.trans (kk.mono E9.out.K.size)⟩
set_option maxRecDepth 100000 in
theorem liftedFnMachineRun (os : Os) (started : os.Started) (H : Type) (enc : TypeId × Value → H) :
  ReturnsInHanded {} Try.checked os 5 .any (Rows.fnMachineRunSpec.pre6 enc Try.prog Try.f5 Rows.fnMachineRunRow.domain false) (Rows.fnMachineRunSpec.post enc Try.prog Try.f5 false true false false) := by
 refine returnsInHanded_of_change (C := Try.checked) ownS started (by kernel_rfl) Try.func5
  (ChangeSpec.witness6 (enc := enc) (C := Try.checked) false ⟨#[], #[.slice none 0 0], []⟩ 8 (by kernel_rfl) (by kernel_rfl) (by kernel_rfl) (by kernel_rfl)) ?_
 intro W base args ds gs before hval0 hW hcnd _
 have hval : ∀ (j : Nat) t v, Try.f5.params[j]? = some t → args[j]? = some v → Value.okWide Try.prog W .any base t v := hval0
 have hW' := hW
 obtain ⟨p, q, hA0, hV, rfl, hfz, hnd⟩ := hW
 have hA : DataW.TrodAll enc Try.prog W 0 (fun _ => true) true Try.f5.params.toList args.toList ds p := hA0
 rw [Try.params5] at hA hval
 obtain ⟨v0, d0, hargs, rfl, h0⟩ := trodAll_one hA
 obtain rfl : args = #[v0] := by cases args; simp_all
 obtain ⟨rfl, rfl⟩ := trodVars_none hV
 have k0 := h0
 have lt0 : ∀ x ∈ p, x.block < W.heap.size := by obtain ⟨m, hm⟩ := k0; exact DataW.trod_lt m _ _ _ hm
 obtain ⟨s, n, c, rfl, hn, hB⟩ := bytes_read (hval 0 22 v0 rfl rfl) h0
 clear hA0 hval0
 refine (walkFnMachineRun s n c W hB hn).mono fun e W' ⟨he, bel⟩ => ?_
 subst he
 exact ⟨_, rfl, _, _, _, [], _, [], hW', trodAll_mk1 (shut_bool Try.underlying4 _), trodAll_mk1 (Below.trod laidOutS (by kernel_rfl) (of_decide_eq_true (by kernel_rfl)) k0 bel lt0), rfl, bel.frame _, fun h => by cases h⟩
theorem fnMachineRun_holds : Rows.FnMachineRunSaid :=
 OpenClaim.holds_of_wide 5 Try.f5 rfl rfl rfl rfl rfl rfl rfl ⟨rfl, rfl, rfl, rfl, rfl⟩ rfl rfl rfl rfl rfl (by kernel_rfl) Try.func5 (by kernel_rfl)
  (of_decide_eq_true (by kernel_rfl)) (by unfold Func.isWrapper; first | (rw [if_pos (by decide +kernel)]; kernel_rfl) | (rw [if_neg (by decide +kernel)]; exact ⟨rfl, rfl⟩))
  (fun os started H enc _ => liftedFnMachineRun os started H enc)
#print axioms fnMachineRun_holds
end Go.Proofs.Ytepfpbcjklaenaa
