/- The law FnExactEmit of the given statements: at every argument Emit of the program answers as the specification's, writes into no argument, keeps nothing of one, and its answer owns its memory. No condition. -/
import Derived.Test.YtomacedbinfaaaaFrameX
import Derived.Test.YtomacedbinfaaaaToIns
import Derived.Test.YtomacedbinfaaaaE10Kit
import Derived.Test.YtomacedbinfaaaaE10SpA
import Derived.Deep.RegionHeld3
namespace Go.Proofs.Ytomacedbinfaaaa
set_option linter.unusedSimpArgs false
set_option linter.unusedVariables false
set_option maxRecDepth 100000
open Go.ChangeShapes Go.WideShapes Go.ChangeAt Go.RowKit Go.Deep

set_option maxRecDepth 100000 in
set_option maxHeartbeats 16000000 in
theorem walkExactEmit (s0 : Option Addr) (c0 : Nat) (l0 : List Int) (o r a x n : Int) (l2 : Int) (s3 : Option Addr) (c3 : Nat) (l3 : List Int) (w : World) (h0 : IntsR w 0 w.heap.size s0 l0) (m0 : l0.length ≤ maxLen) (h3 : IntsR w 0 w.heap.size s3 l3) (m3 : l3.length ≤ maxLen) :
    Calls Try.prog 4 #[.slice s0 l0.length c0, .agg #[.int .i64 o, .int .i64 r, .int .i64 a, .int .i64 x, .int .i64 n], .int .i64 l2, .slice s3 l3.length c3] w fun e w' => e = .returned (.bool true) ∧ Below w.heap.size w w' := by
  have HA0 : Hid (IntsR w 0 w.heap.size s0 l0) := h0
  clear h0
  unfold maxLen at m0
  have HA3 : Hid (IntsR w 0 w.heap.size s3 l3) := h3
  clear h3
  unfold maxLen at m3
  by_cases b0 : (l0.length : Int) > 1048576
  · go_enter Try.func4, Try.ntmps4
    go_wp2
    go_ret
    exact ⟨rfl, by first | exact Below.refl _ _ | exact (Below.refl _ _).alloc (Nat.le_refl _) _⟩
  have n0 : l0.length ≤ 1048576 := by omega
  by_cases b3 : (l3.length : Int) > 1048576
  · go_enter Try.func4, Try.ntmps4
    go_wp2
    go_ret
    exact ⟨rfl, by first | exact Below.refl _ _ | exact (Below.refl _ _).alloc (Nat.le_refl _) _⟩
  have n3 : l3.length ≤ 1048576 := by omega
  go_enter Try.func4, Try.ntmps4
  go_wp2_with fail
  have HK : Hid (Below w.heap.size w w) := Below.refl _ _
  obtain ⟨V1, hV1, bx1, kb1, zb1⟩ := Bo5.new w (.int .i64 o) (.int .i64 r) (.int .i64 a) (.int .i64 x) (.int .i64 n) 23
  rw [hV1]
  clear hV1
  have JK : Hid (Below w.heap.size w V1) := HK.out.trans (kb1.mono (by omega))
  clear HK
  have HK := JK
  clear JK
  have HB : Hid (Bo5 w.heap.size V1 (.int .i64 o) (.int .i64 r) (.int .i64 a) (.int .i64 x) (.int .i64 n)) := bx1
  clear bx1 kb1
  obtain ⟨Bc0, Bc1, Bc2, Bc3, Bc4⟩ := HB.out
  have Bz : w.heap.size < V1.heap.size := by omega
  obtain ⟨L, hL⟩ : ∃ L, emitM l0 l3 o r a x n l2 = L := ⟨_, rfl⟩
  have hLn : L.length ≤ 40 := by rw [← hL]; exact emitM_len _ _ _ _ _ _ _ _
  have HL := hid_of hL
  clear hL
  obtain ⟨N, hN⟩ : ∃ N : Nat, L.length * 5 = N := ⟨_, rfl⟩
  have hNn : N ≤ 200 := by omega
  have HN5 := hid_of hN
  clear hN
  have hq1 : ((1 : Int) + (N : Int) != 1 + (N : Int)) = false := by simp
  have hq2 : ¬ ((1 : Int) + (N : Int) < 0) := by omega
  have hk2 : ¬ ((1 : Int) + (l0.length : Int) + (l3.length : Int) < 0) := by omega
  have HV : Hid (Below V1.heap.size V1 V1) := Below.refl _ _
  have hKW : w.heap.size ≤ V1.heap.size := by omega
  have hBW : w.heap.size + 1 ≤ V1.heap.size := by omega
  obtain ⟨t0, t1, t2, t3, t4⟩ := HB.out
  go_region_held3 (fun w' => w'.cell? ⟨w.heap.size, 0, none⟩ = some (.int .i64 o) ∧ w'.cell? ⟨w.heap.size, 1, none⟩ = some (.int .i64 r) ∧ w'.cell? ⟨w.heap.size, 2, none⟩ = some (.int .i64 a) ∧ w'.cell? ⟨w.heap.size, 3, none⟩ = some (.int .i64 x) ∧ w'.cell? ⟨w.heap.size, 4, none⟩ = some (.int .i64 n)) (exact ⟨(HB.out.keep (Keep.of_below (by repeat (first | with_reducible exact HV.out | with_reducible refine Below.drew ?_ | with_reducible refine Below.alloc ?_ (by have := HV.out.size; first | omega | (simp; omega)) _)) hBW)).c0, (HB.out.keep (Keep.of_below (by repeat (first | with_reducible exact HV.out | with_reducible refine Below.drew ?_ | with_reducible refine Below.alloc ?_ (by have := HV.out.size; first | omega | (simp; omega)) _)) hBW)).c1, (HB.out.keep (Keep.of_below (by repeat (first | with_reducible exact HV.out | with_reducible refine Below.drew ?_ | with_reducible refine Below.alloc ?_ (by have := HV.out.size; first | omega | (simp; omega)) _)) hBW)).c2, (HB.out.keep (Keep.of_below (by repeat (first | with_reducible exact HV.out | with_reducible refine Below.drew ?_ | with_reducible refine Below.alloc ?_ (by have := HV.out.size; first | omega | (simp; omega)) _)) hBW)).c3, (HB.out.keep (Keep.of_below (by repeat (first | with_reducible exact HV.out | with_reducible refine Below.drew ?_ | with_reducible refine Below.alloc ?_ (by have := HV.out.size; first | omega | (simp; omega)) _)) hBW)).c4⟩) (first | (go_at_call 9; first | (have chk := HIa; clear chk; (refine (toIntS_ex s3 c3 0 w.heap.size l3 _ (HA3.out.keep (Keep.of_below (HK.out.trans ((show Below V1.heap.size V1 _ from (by first | exact HV.out | exact HV.out.drew)).mono hKW)) (Nat.le_refl _))) (Nat.le_trans hKW (show Below V1.heap.size V1 _ from (by first | exact HV.out | exact HV.out.drew)).size) n3).mono ?_; rintro e u1 ⟨xIb, rfl, ho1, hb1, zq⟩; have J0 := hid_of ((HIa.out.keep (Keep.of_below hb1 (Nat.le_refl _))).mono (Nat.le_refl _) hb1.size); clear HIa; have HIa := J0; clear J0; have HIb := hid_of ((ownN_intsR ho1).mono (Nat.zero_le _) (Nat.le_refl _)); clear ho1 zq; have JV : Hid (Below V1.heap.size V1 u1) := (by first | exact HV.out.trans (hb1.mono HV.out.size) | exact HV.out.drew.trans (hb1.mono HV.out.drew.size)); clear HV; have HV := JV; clear JV t0 t1 t2 t3 t4; obtain ⟨t0, t1, t2, t3, t4⟩ := HB.out.keep (Keep.of_below HV.out hBW))) | (refine (toIntS_ex s0 c0 0 w.heap.size l0 _ (HA0.out.keep (Keep.of_below (HK.out.trans ((show Below V1.heap.size V1 _ from (by first | exact HV.out | exact HV.out.drew)).mono hKW)) (Nat.le_refl _))) (Nat.le_trans hKW (show Below V1.heap.size V1 _ from (by first | exact HV.out | exact HV.out.drew)).size) n0).mono ?_; rintro e u1 ⟨xIa, rfl, ho1, hb1, zq⟩; have HIa := hid_of ((ownN_intsR ho1).mono (Nat.zero_le _) (Nat.le_refl _)); clear ho1 zq; have JV : Hid (Below V1.heap.size V1 u1) := (by first | exact HV.out.trans (hb1.mono HV.out.size) | exact HV.out.drew.trans (hb1.mono HV.out.drew.size)); clear HV; have HV := JV; clear JV t0 t1 t2 t3 t4; obtain ⟨t0, t1, t2, t3, t4⟩ := HB.out.keep (Keep.of_below HV.out hBW))) | (go_at_call 6; refine (toIns_any _ _ _ _ _ _).mono ?_; rintro e u1 ⟨rfl, hb1⟩; have J0 := hid_of ((HIa.out.keep (Keep.of_below hb1 (Nat.le_refl _))).mono (Nat.le_refl _) hb1.size); clear HIa; have HIa := J0; clear J0; have JV : Hid (Below V1.heap.size V1 u1) := (by first | exact HV.out.trans (hb1.mono HV.out.size) | exact HV.out.drew.trans (hb1.mono HV.out.drew.size)); clear HV; have HV := JV; clear JV t0 t1 t2 t3 t4; obtain ⟨t0, t1, t2, t3, t4⟩ := HB.out.keep (Keep.of_below HV.out hBW)) | (go_at_call 8; refine (specEmit_any o r a x n l2 (some ⟨xIb, 0, none⟩) (some ⟨xIa, 0, none⟩) _ _ 0 _ 0 _ l0 l3 u1 HIa.out (Nat.le_refl _) (by omega) HIb.out (Nat.le_refl _)).mono ?_; rintro e w2 ⟨va, rfl, ho1, hb1⟩; rw [HL.out] at ho1; obtain ⟨sa, ca, e1⟩ := own5_sl ho1; subst e1; have HZa := hid_of (ho1.low (show V1.heap.size ≤ u1.heap.size from HV.out.size)); clear ho1; have JV : Hid (Below V1.heap.size V1 w2) := (by first | exact HV.out.trans (hb1.mono HV.out.size) | exact HV.out.drew.trans (hb1.mono HV.out.drew.size)); clear HV; have HV := JV; clear JV t0 t1 t2 t3 t4; obtain ⟨t0, t1, t2, t3, t4⟩ := HB.out.keep (Keep.of_below HV.out hBW)))
  have hb2 := HV.out
  have z2 := hb2.size
  clear HV t0 t1 t2 t3 t4 HIa HIb hKW hBW
  clear Bc0 Bc1 Bc2 Bc3 Bc4 Bz
  have JK : Hid (Below w.heap.size w w2) := HK.out.trans (hb2.mono (by omega))
  have JB : Hid (Bo5 w.heap.size w2 (.int .i64 o) (.int .i64 r) (.int .i64 a) (.int .i64 x) (.int .i64 n)) := HB.out.keep (Keep.of_below hb2 (by omega))
  clear HK
  have HK := JK
  clear JK
  clear HB
  have HB := JB
  clear JB
  clear hb2
  have HSa : Hid (SB5 w2 V1.heap.size w2.heap.size (.slice sa L.length ca) L) := SB5.of HZa.out
  clear HZa
  obtain ⟨Bc0, Bc1, Bc2, Bc3, Bc4⟩ := HB.out
  have Bz : w.heap.size < w2.heap.size := by omega
  go_wp2_with fail
  clear Bc0 Bc1 Bc2 Bc3 Bc4 Bz
  refine (toIntS_ex s0 c0 0 w.heap.size l0 w2 (HA0.out.keep (Keep.of_below HK.out (Nat.le_refl _))) (by omega) n0).mono ?_
  rintro e w3 ⟨xx, rfl, ho3, hb3, z3⟩
  have zz3 := hb3.size
  have JK : Hid (Below w.heap.size w w3) := HK.out.trans (hb3.mono (by omega))
  have JB : Hid (Bo5 w.heap.size w3 (.int .i64 o) (.int .i64 r) (.int .i64 a) (.int .i64 x) (.int .i64 n)) := HB.out.keep (Keep.of_below hb3 (by omega))
  have JSa : Hid (SB5 w3 V1.heap.size w2.heap.size (.slice sa L.length ca) L) := HSa.out.keep (Keep.of_below hb3 (by omega))
  clear HK
  have HK := JK
  clear JK
  clear HB
  have HB := JB
  clear JB
  clear HSa
  have HSa := JSa
  clear JSa
  have HRx : Hid (IntsR w3 w2.heap.size w3.heap.size (some ⟨xx, 0, none⟩) l0) := ownN_intsR ho3
  have HOx : Hid (NB w3 w2.heap.size w3.heap.size (.slice (some ⟨xx, 0, none⟩) l0.length l0.length) l0) := NB.of ho3
  clear hb3 ho3
  obtain ⟨Bc0, Bc1, Bc2, Bc3, Bc4⟩ := HB.out
  have Bz : w.heap.size < w3.heap.size := by omega
  go_wp2_with fail
  clear Bc0 Bc1 Bc2 Bc3 Bc4 Bz
  refine (toIntS_ex s3 c3 0 w.heap.size l3 w3 (HA3.out.keep (Keep.of_below HK.out (Nat.le_refl _))) (by omega) n3).mono ?_
  rintro e w4 ⟨xy, rfl, ho4, hb4, z4⟩
  have zz4 := hb4.size
  have JK : Hid (Below w.heap.size w w4) := HK.out.trans (hb4.mono (by omega))
  have JB : Hid (Bo5 w.heap.size w4 (.int .i64 o) (.int .i64 r) (.int .i64 a) (.int .i64 x) (.int .i64 n)) := HB.out.keep (Keep.of_below hb4 (by omega))
  have JSa : Hid (SB5 w4 V1.heap.size w2.heap.size (.slice sa L.length ca) L) := HSa.out.keep (Keep.of_below hb4 (by omega))
  have JRx : Hid (IntsR w4 w2.heap.size w3.heap.size (some ⟨xx, 0, none⟩) l0) := HRx.out.keep (Keep.of_below hb4 (by omega))
  have JOx : Hid (NB w4 w2.heap.size w3.heap.size (.slice (some ⟨xx, 0, none⟩) l0.length l0.length) l0) := HOx.out.keep (Keep.of_below hb4 (by omega))
  clear HK
  have HK := JK
  clear JK
  clear HB
  have HB := JB
  clear JB
  clear HSa
  have HSa := JSa
  clear JSa
  clear HRx
  have HRx := JRx
  clear JRx
  clear HOx
  have HOx := JOx
  clear JOx
  have HRy : Hid (IntsR w4 w3.heap.size w4.heap.size (some ⟨xy, 0, none⟩) l3) := ownN_intsR ho4
  have HOy : Hid (NB w4 w3.heap.size w4.heap.size (.slice (some ⟨xy, 0, none⟩) l3.length l3.length) l3) := NB.of ho4
  clear hb4 ho4
  obtain ⟨Bc0, Bc1, Bc2, Bc3, Bc4⟩ := HB.out
  have Bz : w.heap.size < w4.heap.size := by omega
  go_wp2_with fail
  refine (toIns_any _ _ _ _ _ _).mono ?_
  rintro e w5 ⟨rfl, hb5⟩
  have z5 := hb5.size
  clear Bc0 Bc1 Bc2 Bc3 Bc4 Bz
  have JK : Hid (Below w.heap.size w w5) := HK.out.trans (hb5.mono (by omega))
  have JB : Hid (Bo5 w.heap.size w5 (.int .i64 o) (.int .i64 r) (.int .i64 a) (.int .i64 x) (.int .i64 n)) := HB.out.keep (Keep.of_below hb5 (by omega))
  have JSa : Hid (SB5 w5 V1.heap.size w2.heap.size (.slice sa L.length ca) L) := HSa.out.keep (Keep.of_below hb5 (by omega))
  have JRx : Hid (IntsR w5 w2.heap.size w3.heap.size (some ⟨xx, 0, none⟩) l0) := HRx.out.keep (Keep.of_below hb5 (by omega))
  have JOx : Hid (NB w5 w2.heap.size w3.heap.size (.slice (some ⟨xx, 0, none⟩) l0.length l0.length) l0) := HOx.out.keep (Keep.of_below hb5 (by omega))
  have JRy : Hid (IntsR w5 w3.heap.size w4.heap.size (some ⟨xy, 0, none⟩) l3) := HRy.out.keep (Keep.of_below hb5 (by omega))
  have JOy : Hid (NB w5 w3.heap.size w4.heap.size (.slice (some ⟨xy, 0, none⟩) l3.length l3.length) l3) := HOy.out.keep (Keep.of_below hb5 (by omega))
  clear HK
  have HK := JK
  clear JK
  clear HB
  have HB := JB
  clear JB
  clear HSa
  have HSa := JSa
  clear JSa
  clear HRx
  have HRx := JRx
  clear JRx
  clear HOx
  have HOx := JOx
  clear JOx
  clear HRy
  have HRy := JRy
  clear JRy
  clear HOy
  have HOy := JOy
  clear JOy
  clear hb5
  obtain ⟨Bc0, Bc1, Bc2, Bc3, Bc4⟩ := HB.out
  have Bz : w.heap.size < w5.heap.size := by omega
  go_wp2_with fail
  refine (implEmit_any o r a x n l2 (some ⟨xy, 0, none⟩) (some ⟨xx, 0, none⟩) _ _ _ _ _ _ l0 l3 w5 HRx.out (by omega) (by omega) HRy.out (by omega)).mono ?_
  rintro e w6 ⟨vg, rfl, ho6, hb6⟩
  rw [HL.out] at ho6
  obtain ⟨sg, cg, e1⟩ := own5_sl ho6
  subst e1
  have z6 := hb6.size
  clear Bc0 Bc1 Bc2 Bc3 Bc4 Bz
  have JK : Hid (Below w.heap.size w w6) := HK.out.trans (hb6.mono (by omega))
  have JB : Hid (Bo5 w.heap.size w6 (.int .i64 o) (.int .i64 r) (.int .i64 a) (.int .i64 x) (.int .i64 n)) := HB.out.keep (Keep.of_below hb6 (by omega))
  have JSa : Hid (SB5 w6 V1.heap.size w2.heap.size (.slice sa L.length ca) L) := HSa.out.keep (Keep.of_below hb6 (by omega))
  have JRx : Hid (IntsR w6 w2.heap.size w3.heap.size (some ⟨xx, 0, none⟩) l0) := HRx.out.keep (Keep.of_below hb6 (by omega))
  have JOx : Hid (NB w6 w2.heap.size w3.heap.size (.slice (some ⟨xx, 0, none⟩) l0.length l0.length) l0) := HOx.out.keep (Keep.of_below hb6 (by omega))
  have JRy : Hid (IntsR w6 w3.heap.size w4.heap.size (some ⟨xy, 0, none⟩) l3) := HRy.out.keep (Keep.of_below hb6 (by omega))
  have JOy : Hid (NB w6 w3.heap.size w4.heap.size (.slice (some ⟨xy, 0, none⟩) l3.length l3.length) l3) := HOy.out.keep (Keep.of_below hb6 (by omega))
  clear HK
  have HK := JK
  clear JK
  clear HB
  have HB := JB
  clear JB
  clear HSa
  have HSa := JSa
  clear JSa
  clear HRx
  have HRx := JRx
  clear JRx
  clear HOx
  have HOx := JOx
  clear JOx
  clear HRy
  have HRy := JRy
  clear JRy
  clear HOy
  have HOy := JOy
  clear JOy
  have HSg : Hid (SB5 w6 w5.heap.size w6.heap.size (.slice sg L.length cg) L) := SB5.of ho6
  clear ho6 hb6
  obtain ⟨Bc0, Bc1, Bc2, Bc3, Bc4⟩ := HB.out
  have Bz : w.heap.size < w6.heap.size := by omega
  go_wp2_with fail
  refine (eqStepS_same _ _ _ _ w6.heap.size L w6 HSg.out.insB HSa.out.insB (Nat.le_refl _) (by omega)).mono ?_
  rintro e w7 ⟨rfl, hb7⟩
  have z7 := hb7.size
  clear Bc0 Bc1 Bc2 Bc3 Bc4 Bz
  have JK : Hid (Below w.heap.size w w7) := HK.out.trans (hb7.mono (by omega))
  have JB : Hid (Bo5 w.heap.size w7 (.int .i64 o) (.int .i64 r) (.int .i64 a) (.int .i64 x) (.int .i64 n)) := HB.out.keep (Keep.of_below hb7 (by omega))
  have JSa : Hid (SB5 w7 V1.heap.size w2.heap.size (.slice sa L.length ca) L) := HSa.out.keep (Keep.of_below hb7 (by omega))
  have JRx : Hid (IntsR w7 w2.heap.size w3.heap.size (some ⟨xx, 0, none⟩) l0) := HRx.out.keep (Keep.of_below hb7 (by omega))
  have JOx : Hid (NB w7 w2.heap.size w3.heap.size (.slice (some ⟨xx, 0, none⟩) l0.length l0.length) l0) := HOx.out.keep (Keep.of_below hb7 (by omega))
  have JRy : Hid (IntsR w7 w3.heap.size w4.heap.size (some ⟨xy, 0, none⟩) l3) := HRy.out.keep (Keep.of_below hb7 (by omega))
  have JOy : Hid (NB w7 w3.heap.size w4.heap.size (.slice (some ⟨xy, 0, none⟩) l3.length l3.length) l3) := HOy.out.keep (Keep.of_below hb7 (by omega))
  have JSg : Hid (SB5 w7 w5.heap.size w6.heap.size (.slice sg L.length cg) L) := HSg.out.keep (Keep.of_below hb7 (by omega))
  clear HK
  have HK := JK
  clear JK
  clear HB
  have HB := JB
  clear JB
  clear HSa
  have HSa := JSa
  clear JSa
  clear HRx
  have HRx := JRx
  clear JRx
  clear HOx
  have HOx := JOx
  clear JOx
  clear HRy
  have HRy := JRy
  clear JRy
  clear HOy
  have HOy := JOy
  clear JOy
  clear HSg
  have HSg := JSg
  clear JSg
  clear hb7
  obtain ⟨Bc0, Bc1, Bc2, Bc3, Bc4⟩ := HB.out
  have Bz : w.heap.size < w7.heap.size := by omega
  go_wp2_with fail
  clear Bc0 Bc1 Bc2 Bc3 Bc4 Bz
  refine (toIntS_ex s0 c0 0 w.heap.size l0 w7 (HA0.out.keep (Keep.of_below HK.out (Nat.le_refl _))) (by omega) n0).mono ?_
  rintro e w8 ⟨xq, rfl, ho8, hb8, z8⟩
  have zz8 := hb8.size
  have JK : Hid (Below w.heap.size w w8) := HK.out.trans (hb8.mono (by omega))
  have JB : Hid (Bo5 w.heap.size w8 (.int .i64 o) (.int .i64 r) (.int .i64 a) (.int .i64 x) (.int .i64 n)) := HB.out.keep (Keep.of_below hb8 (by omega))
  have JSa : Hid (SB5 w8 V1.heap.size w2.heap.size (.slice sa L.length ca) L) := HSa.out.keep (Keep.of_below hb8 (by omega))
  have JRx : Hid (IntsR w8 w2.heap.size w3.heap.size (some ⟨xx, 0, none⟩) l0) := HRx.out.keep (Keep.of_below hb8 (by omega))
  have JOx : Hid (NB w8 w2.heap.size w3.heap.size (.slice (some ⟨xx, 0, none⟩) l0.length l0.length) l0) := HOx.out.keep (Keep.of_below hb8 (by omega))
  have JRy : Hid (IntsR w8 w3.heap.size w4.heap.size (some ⟨xy, 0, none⟩) l3) := HRy.out.keep (Keep.of_below hb8 (by omega))
  have JOy : Hid (NB w8 w3.heap.size w4.heap.size (.slice (some ⟨xy, 0, none⟩) l3.length l3.length) l3) := HOy.out.keep (Keep.of_below hb8 (by omega))
  have JSg : Hid (SB5 w8 w5.heap.size w6.heap.size (.slice sg L.length cg) L) := HSg.out.keep (Keep.of_below hb8 (by omega))
  clear HK
  have HK := JK
  clear JK
  clear HB
  have HB := JB
  clear JB
  clear HSa
  have HSa := JSa
  clear JSa
  clear HRx
  have HRx := JRx
  clear JRx
  clear HOx
  have HOx := JOx
  clear JOx
  clear HRy
  have HRy := JRy
  clear JRy
  clear HOy
  have HOy := JOy
  clear JOy
  clear HSg
  have HSg := JSg
  clear JSg
  have HRq : Hid (IntsR w8 w7.heap.size w8.heap.size (some ⟨xq, 0, none⟩) l0) := ownN_intsR ho8
  clear hb8 ho8
  obtain ⟨Bc0, Bc1, Bc2, Bc3, Bc4⟩ := HB.out
  have Bz : w.heap.size < w8.heap.size := by omega
  go_wp2_with fail
  refine (eqN_true _ _ HRx.out HRq.out (by omega) (by omega) (by omega)).mono ?_
  rintro e w9 ⟨rfl, hb9⟩
  have z9 := hb9.size
  clear Bc0 Bc1 Bc2 Bc3 Bc4 Bz
  have JK : Hid (Below w.heap.size w w9) := HK.out.trans (hb9.mono (by omega))
  have JB : Hid (Bo5 w.heap.size w9 (.int .i64 o) (.int .i64 r) (.int .i64 a) (.int .i64 x) (.int .i64 n)) := HB.out.keep (Keep.of_below hb9 (by omega))
  have JSa : Hid (SB5 w9 V1.heap.size w2.heap.size (.slice sa L.length ca) L) := HSa.out.keep (Keep.of_below hb9 (by omega))
  have JRx : Hid (IntsR w9 w2.heap.size w3.heap.size (some ⟨xx, 0, none⟩) l0) := HRx.out.keep (Keep.of_below hb9 (by omega))
  have JOx : Hid (NB w9 w2.heap.size w3.heap.size (.slice (some ⟨xx, 0, none⟩) l0.length l0.length) l0) := HOx.out.keep (Keep.of_below hb9 (by omega))
  have JRy : Hid (IntsR w9 w3.heap.size w4.heap.size (some ⟨xy, 0, none⟩) l3) := HRy.out.keep (Keep.of_below hb9 (by omega))
  have JOy : Hid (NB w9 w3.heap.size w4.heap.size (.slice (some ⟨xy, 0, none⟩) l3.length l3.length) l3) := HOy.out.keep (Keep.of_below hb9 (by omega))
  have JSg : Hid (SB5 w9 w5.heap.size w6.heap.size (.slice sg L.length cg) L) := HSg.out.keep (Keep.of_below hb9 (by omega))
  have JRq : Hid (IntsR w9 w7.heap.size w8.heap.size (some ⟨xq, 0, none⟩) l0) := HRq.out.keep (Keep.of_below hb9 (by omega))
  clear HK
  have HK := JK
  clear JK
  clear HB
  have HB := JB
  clear JB
  clear HSa
  have HSa := JSa
  clear JSa
  clear HRx
  have HRx := JRx
  clear JRx
  clear HOx
  have HOx := JOx
  clear JOx
  clear HRy
  have HRy := JRy
  clear JRy
  clear HOy
  have HOy := JOy
  clear JOy
  clear HSg
  have HSg := JSg
  clear JSg
  clear HRq
  have HRq := JRq
  clear JRq
  clear hb9
  clear HRq
  obtain ⟨Bc0, Bc1, Bc2, Bc3, Bc4⟩ := HB.out
  have Bz : w.heap.size < w9.heap.size := by omega
  go_wp2_with fail
  clear Bc0 Bc1 Bc2 Bc3 Bc4 Bz
  refine (toIntS_ex s3 c3 0 w.heap.size l3 w9 (HA3.out.keep (Keep.of_below HK.out (Nat.le_refl _))) (by omega) n3).mono ?_
  rintro e w10 ⟨xq, rfl, ho10, hb10, z10⟩
  have zz10 := hb10.size
  have JK : Hid (Below w.heap.size w w10) := HK.out.trans (hb10.mono (by omega))
  have JB : Hid (Bo5 w.heap.size w10 (.int .i64 o) (.int .i64 r) (.int .i64 a) (.int .i64 x) (.int .i64 n)) := HB.out.keep (Keep.of_below hb10 (by omega))
  have JSa : Hid (SB5 w10 V1.heap.size w2.heap.size (.slice sa L.length ca) L) := HSa.out.keep (Keep.of_below hb10 (by omega))
  have JRx : Hid (IntsR w10 w2.heap.size w3.heap.size (some ⟨xx, 0, none⟩) l0) := HRx.out.keep (Keep.of_below hb10 (by omega))
  have JOx : Hid (NB w10 w2.heap.size w3.heap.size (.slice (some ⟨xx, 0, none⟩) l0.length l0.length) l0) := HOx.out.keep (Keep.of_below hb10 (by omega))
  have JRy : Hid (IntsR w10 w3.heap.size w4.heap.size (some ⟨xy, 0, none⟩) l3) := HRy.out.keep (Keep.of_below hb10 (by omega))
  have JOy : Hid (NB w10 w3.heap.size w4.heap.size (.slice (some ⟨xy, 0, none⟩) l3.length l3.length) l3) := HOy.out.keep (Keep.of_below hb10 (by omega))
  have JSg : Hid (SB5 w10 w5.heap.size w6.heap.size (.slice sg L.length cg) L) := HSg.out.keep (Keep.of_below hb10 (by omega))
  clear HK
  have HK := JK
  clear JK
  clear HB
  have HB := JB
  clear JB
  clear HSa
  have HSa := JSa
  clear JSa
  clear HRx
  have HRx := JRx
  clear JRx
  clear HOx
  have HOx := JOx
  clear JOx
  clear HRy
  have HRy := JRy
  clear JRy
  clear HOy
  have HOy := JOy
  clear JOy
  clear HSg
  have HSg := JSg
  clear JSg
  have HRq : Hid (IntsR w10 w9.heap.size w10.heap.size (some ⟨xq, 0, none⟩) l3) := ownN_intsR ho10
  clear hb10 ho10
  obtain ⟨Bc0, Bc1, Bc2, Bc3, Bc4⟩ := HB.out
  have Bz : w.heap.size < w10.heap.size := by omega
  go_wp2_with fail
  refine (eqN_true _ _ HRy.out HRq.out (by omega) (by omega) (by omega)).mono ?_
  rintro e w11 ⟨rfl, hb11⟩
  have z11 := hb11.size
  clear Bc0 Bc1 Bc2 Bc3 Bc4 Bz
  have JK : Hid (Below w.heap.size w w11) := HK.out.trans (hb11.mono (by omega))
  have JB : Hid (Bo5 w.heap.size w11 (.int .i64 o) (.int .i64 r) (.int .i64 a) (.int .i64 x) (.int .i64 n)) := HB.out.keep (Keep.of_below hb11 (by omega))
  have JSa : Hid (SB5 w11 V1.heap.size w2.heap.size (.slice sa L.length ca) L) := HSa.out.keep (Keep.of_below hb11 (by omega))
  have JRx : Hid (IntsR w11 w2.heap.size w3.heap.size (some ⟨xx, 0, none⟩) l0) := HRx.out.keep (Keep.of_below hb11 (by omega))
  have JOx : Hid (NB w11 w2.heap.size w3.heap.size (.slice (some ⟨xx, 0, none⟩) l0.length l0.length) l0) := HOx.out.keep (Keep.of_below hb11 (by omega))
  have JRy : Hid (IntsR w11 w3.heap.size w4.heap.size (some ⟨xy, 0, none⟩) l3) := HRy.out.keep (Keep.of_below hb11 (by omega))
  have JOy : Hid (NB w11 w3.heap.size w4.heap.size (.slice (some ⟨xy, 0, none⟩) l3.length l3.length) l3) := HOy.out.keep (Keep.of_below hb11 (by omega))
  have JSg : Hid (SB5 w11 w5.heap.size w6.heap.size (.slice sg L.length cg) L) := HSg.out.keep (Keep.of_below hb11 (by omega))
  have JRq : Hid (IntsR w11 w9.heap.size w10.heap.size (some ⟨xq, 0, none⟩) l3) := HRq.out.keep (Keep.of_below hb11 (by omega))
  clear HK
  have HK := JK
  clear JK
  clear HB
  have HB := JB
  clear JB
  clear HSa
  have HSa := JSa
  clear JSa
  clear HRx
  have HRx := JRx
  clear JRx
  clear HOx
  have HOx := JOx
  clear JOx
  clear HRy
  have HRy := JRy
  clear JRy
  clear HOy
  have HOy := JOy
  clear JOy
  clear HSg
  have HSg := JSg
  clear JSg
  clear HRq
  have HRq := JRq
  clear JRq
  clear hb11
  clear HRq
  obtain ⟨Bc0, Bc1, Bc2, Bc3, Bc4⟩ := HB.out
  have Bz : w.heap.size < w11.heap.size := by omega
  go_wp2_with fail
  clear HRx
  refine (markN_exc (1) HOx.out (by omega) (by omega) (by omega)).mono ?_
  rintro e w12 ⟨rfl, hn12, hb12⟩
  have z12 := hb12.size
  clear hn12
  clear Bc0 Bc1 Bc2 Bc3 Bc4 Bz
  have JK : Hid (Below w.heap.size w w12) := HK.out.trans (hb12.below (by omega) (by omega))
  have JB : Hid (Bo5 w.heap.size w12 (.int .i64 o) (.int .i64 r) (.int .i64 a) (.int .i64 x) (.int .i64 n)) := HB.out.keep (Keep.of_exc hb12 (by omega) (by omega))
  have JSa : Hid (SB5 w12 V1.heap.size w2.heap.size (.slice sa L.length ca) L) := HSa.out.keep (Keep.of_exc hb12 (by omega) (by omega))
  have JRy : Hid (IntsR w12 w3.heap.size w4.heap.size (some ⟨xy, 0, none⟩) l3) := HRy.out.keep (Keep.of_exc hb12 (by omega) (by omega))
  have JOy : Hid (NB w12 w3.heap.size w4.heap.size (.slice (some ⟨xy, 0, none⟩) l3.length l3.length) l3) := HOy.out.keep (Keep.of_exc hb12 (by omega) (by omega))
  have JSg : Hid (SB5 w12 w5.heap.size w6.heap.size (.slice sg L.length cg) L) := HSg.out.keep (Keep.of_exc hb12 (by omega) (by omega))
  clear HK
  have HK := JK
  clear JK
  clear HB
  have HB := JB
  clear JB
  clear HSa
  have HSa := JSa
  clear JSa
  clear HOx
  clear HRy
  have HRy := JRy
  clear JRy
  clear HOy
  have HOy := JOy
  clear JOy
  clear HSg
  have HSg := JSg
  clear JSg
  clear hb12
  obtain ⟨Bc0, Bc1, Bc2, Bc3, Bc4⟩ := HB.out
  have Bz : w.heap.size < w12.heap.size := by omega
  go_wp2_with fail
  clear HRy
  refine (markN_exc (1 + (l0.length : Int)) HOy.out (by omega) (by omega) (by omega)).mono ?_
  rintro e w13 ⟨rfl, hn13, hb13⟩
  have z13 := hb13.size
  clear hn13
  clear Bc0 Bc1 Bc2 Bc3 Bc4 Bz
  have JK : Hid (Below w.heap.size w w13) := HK.out.trans (hb13.below (by omega) (by omega))
  have JB : Hid (Bo5 w.heap.size w13 (.int .i64 o) (.int .i64 r) (.int .i64 a) (.int .i64 x) (.int .i64 n)) := HB.out.keep (Keep.of_exc hb13 (by omega) (by omega))
  have JSa : Hid (SB5 w13 V1.heap.size w2.heap.size (.slice sa L.length ca) L) := HSa.out.keep (Keep.of_exc hb13 (by omega) (by omega))
  have JSg : Hid (SB5 w13 w5.heap.size w6.heap.size (.slice sg L.length cg) L) := HSg.out.keep (Keep.of_exc hb13 (by omega) (by omega))
  clear HK
  have HK := JK
  clear JK
  clear HB
  have HB := JB
  clear JB
  clear HSa
  have HSa := JSa
  clear JSa
  clear HOy
  clear HSg
  have HSg := JSg
  clear JSg
  clear hb13
  obtain ⟨Bc0, Bc1, Bc2, Bc3, Bc4⟩ := HB.out
  have Bz : w.heap.size < w13.heap.size := by omega
  go_wp2_with fail
  refine (eqStepS_same _ _ _ _ w13.heap.size L w13 HSg.out.insB HSa.out.insB (Nat.le_refl _) (by omega)).mono ?_
  rintro e w14 ⟨rfl, hb14⟩
  have z14 := hb14.size
  clear Bc0 Bc1 Bc2 Bc3 Bc4 Bz
  have JK : Hid (Below w.heap.size w w14) := HK.out.trans (hb14.mono (by omega))
  have JB : Hid (Bo5 w.heap.size w14 (.int .i64 o) (.int .i64 r) (.int .i64 a) (.int .i64 x) (.int .i64 n)) := HB.out.keep (Keep.of_below hb14 (by omega))
  have JSa : Hid (SB5 w14 V1.heap.size w2.heap.size (.slice sa L.length ca) L) := HSa.out.keep (Keep.of_below hb14 (by omega))
  have JSg : Hid (SB5 w14 w5.heap.size w6.heap.size (.slice sg L.length cg) L) := HSg.out.keep (Keep.of_below hb14 (by omega))
  clear HK
  have HK := JK
  clear JK
  clear HB
  have HB := JB
  clear JB
  clear HSa
  have HSa := JSa
  clear JSa
  clear HSg
  have HSg := JSg
  clear JSg
  clear hb14
  obtain ⟨Bc0, Bc1, Bc2, Bc3, Bc4⟩ := HB.out
  have Bz : w.heap.size < w14.heap.size := by omega
  go_wp2_with fail
  refine (mark5_exc HSg.out (by omega)).mono ?_
  rintro e w15 ⟨rfl, hm15, hb15⟩
  have z15 := hb15.size
  rw [HN5.out]
  clear Bc0 Bc1 Bc2 Bc3 Bc4 Bz
  have JK : Hid (Below w.heap.size w w15) := HK.out.trans (hb15.below (by omega) (by omega))
  have JB : Hid (Bo5 w.heap.size w15 (.int .i64 o) (.int .i64 r) (.int .i64 a) (.int .i64 x) (.int .i64 n)) := HB.out.keep (Keep.of_exc hb15 (by omega) (by omega))
  have JSa : Hid (SB5 w15 V1.heap.size w2.heap.size (.slice sa L.length ca) L) := HSa.out.keep (Keep.of_exc hb15 (by omega) (by omega))
  clear HK
  have HK := JK
  clear JK
  clear HB
  have HB := JB
  clear JB
  clear HSa
  have HSa := JSa
  clear JSa
  clear HSg
  have HMg : Hid (MK5 w15 w5.heap.size w6.heap.size sg L.length cg 1) := hm15
  clear hm15 hb15
  obtain ⟨Bc0, Bc1, Bc2, Bc3, Bc4⟩ := HB.out
  have Bz : w.heap.size < w15.heap.size := by omega
  go_wp2_with fail
  refine (held5_any HMg.out (by omega)).mono ?_
  rintro e w16 ⟨rfl, hw16⟩
  subst w16
  rw [HN5.out]
  go_wp2_with fail
  have HV : Hid (Below w15.heap.size w15 w15) := Below.refl _ _
  have hKW : w.heap.size ≤ w15.heap.size := by omega
  have hBW : w.heap.size + 1 ≤ w15.heap.size := by omega
  obtain ⟨t0, t1, t2, t3, t4⟩ := HB.out
  go_region_held3 (fun w' => w'.cell? ⟨w.heap.size, 0, none⟩ = some (.int .i64 o) ∧ w'.cell? ⟨w.heap.size, 1, none⟩ = some (.int .i64 r) ∧ w'.cell? ⟨w.heap.size, 2, none⟩ = some (.int .i64 a) ∧ w'.cell? ⟨w.heap.size, 3, none⟩ = some (.int .i64 x) ∧ w'.cell? ⟨w.heap.size, 4, none⟩ = some (.int .i64 n)) (exact ⟨(HB.out.keep (Keep.of_below (by repeat (first | with_reducible exact HV.out | with_reducible refine Below.drew ?_ | with_reducible refine Below.alloc ?_ (by have := HV.out.size; first | omega | (simp; omega)) _)) hBW)).c0, (HB.out.keep (Keep.of_below (by repeat (first | with_reducible exact HV.out | with_reducible refine Below.drew ?_ | with_reducible refine Below.alloc ?_ (by have := HV.out.size; first | omega | (simp; omega)) _)) hBW)).c1, (HB.out.keep (Keep.of_below (by repeat (first | with_reducible exact HV.out | with_reducible refine Below.drew ?_ | with_reducible refine Below.alloc ?_ (by have := HV.out.size; first | omega | (simp; omega)) _)) hBW)).c2, (HB.out.keep (Keep.of_below (by repeat (first | with_reducible exact HV.out | with_reducible refine Below.drew ?_ | with_reducible refine Below.alloc ?_ (by have := HV.out.size; first | omega | (simp; omega)) _)) hBW)).c3, (HB.out.keep (Keep.of_below (by repeat (first | with_reducible exact HV.out | with_reducible refine Below.drew ?_ | with_reducible refine Below.alloc ?_ (by have := HV.out.size; first | omega | (simp; omega)) _)) hBW)).c4⟩) (first | (go_at_call 9; first | (have chk := HIa; clear chk; (refine (toIntS_ex s3 c3 0 w.heap.size l3 _ (HA3.out.keep (Keep.of_below (HK.out.trans ((show Below w15.heap.size w15 _ from (by first | exact HV.out | exact HV.out.drew)).mono hKW)) (Nat.le_refl _))) (Nat.le_trans hKW (show Below w15.heap.size w15 _ from (by first | exact HV.out | exact HV.out.drew)).size) n3).mono ?_; rintro e u1 ⟨xIb, rfl, ho1, hb1, zq⟩; have J0 := hid_of ((HIa.out.keep (Keep.of_below hb1 (Nat.le_refl _))).mono (Nat.le_refl _) hb1.size); clear HIa; have HIa := J0; clear J0; have HIb := hid_of ((ownN_intsR ho1).mono (Nat.zero_le _) (Nat.le_refl _)); clear ho1 zq; have JV : Hid (Below w15.heap.size w15 u1) := (by first | exact HV.out.trans (hb1.mono HV.out.size) | exact HV.out.drew.trans (hb1.mono HV.out.drew.size)); clear HV; have HV := JV; clear JV t0 t1 t2 t3 t4; obtain ⟨t0, t1, t2, t3, t4⟩ := HB.out.keep (Keep.of_below HV.out hBW))) | (refine (toIntS_ex s0 c0 0 w.heap.size l0 _ (HA0.out.keep (Keep.of_below (HK.out.trans ((show Below w15.heap.size w15 _ from (by first | exact HV.out | exact HV.out.drew)).mono hKW)) (Nat.le_refl _))) (Nat.le_trans hKW (show Below w15.heap.size w15 _ from (by first | exact HV.out | exact HV.out.drew)).size) n0).mono ?_; rintro e u1 ⟨xIa, rfl, ho1, hb1, zq⟩; have HIa := hid_of ((ownN_intsR ho1).mono (Nat.zero_le _) (Nat.le_refl _)); clear ho1 zq; have JV : Hid (Below w15.heap.size w15 u1) := (by first | exact HV.out.trans (hb1.mono HV.out.size) | exact HV.out.drew.trans (hb1.mono HV.out.drew.size)); clear HV; have HV := JV; clear JV t0 t1 t2 t3 t4; obtain ⟨t0, t1, t2, t3, t4⟩ := HB.out.keep (Keep.of_below HV.out hBW))) | (go_at_call 6; refine (toIns_any _ _ _ _ _ _).mono ?_; rintro e u1 ⟨rfl, hb1⟩; have J0 := hid_of ((HIa.out.keep (Keep.of_below hb1 (Nat.le_refl _))).mono (Nat.le_refl _) hb1.size); clear HIa; have HIa := J0; clear J0; have JV : Hid (Below w15.heap.size w15 u1) := (by first | exact HV.out.trans (hb1.mono HV.out.size) | exact HV.out.drew.trans (hb1.mono HV.out.drew.size)); clear HV; have HV := JV; clear JV t0 t1 t2 t3 t4; obtain ⟨t0, t1, t2, t3, t4⟩ := HB.out.keep (Keep.of_below HV.out hBW)) | (go_at_call 10; refine (implEmit_any o r a x n l2 (some ⟨xIb, 0, none⟩) (some ⟨xIa, 0, none⟩) _ _ 0 _ 0 _ l0 l3 u1 HIa.out (Nat.le_refl _) (by omega) HIb.out (Nat.le_refl _)).mono ?_; rintro e w17 ⟨vh, rfl, ho1, hb1⟩; rw [HL.out] at ho1; obtain ⟨sh, ch, e1⟩ := own5_sl ho1; subst e1; have HZh := hid_of (ho1.low (show w15.heap.size ≤ u1.heap.size from HV.out.size)); clear ho1; have JV : Hid (Below w15.heap.size w15 w17) := (by first | exact HV.out.trans (hb1.mono HV.out.size) | exact HV.out.drew.trans (hb1.mono HV.out.drew.size)); clear HV; have HV := JV; clear JV t0 t1 t2 t3 t4; obtain ⟨t0, t1, t2, t3, t4⟩ := HB.out.keep (Keep.of_below HV.out hBW)))
  have hb17 := HV.out
  have z17 := hb17.size
  clear HV t0 t1 t2 t3 t4 HIa HIb hKW hBW
  clear Bc0 Bc1 Bc2 Bc3 Bc4 Bz
  have JK : Hid (Below w.heap.size w w17) := HK.out.trans (hb17.mono (by omega))
  have JB : Hid (Bo5 w.heap.size w17 (.int .i64 o) (.int .i64 r) (.int .i64 a) (.int .i64 x) (.int .i64 n)) := HB.out.keep (Keep.of_below hb17 (by omega))
  have JSa : Hid (SB5 w17 V1.heap.size w2.heap.size (.slice sa L.length ca) L) := HSa.out.keep (Keep.of_below hb17 (by omega))
  have JMg : Hid (MK5 w17 w5.heap.size w6.heap.size sg L.length cg 1) := HMg.out.keep (Keep.of_below hb17 (by omega))
  clear HK
  have HK := JK
  clear JK
  clear HB
  have HB := JB
  clear JB
  clear HSa
  have HSa := JSa
  clear JSa
  clear HMg
  have HMg := JMg
  clear JMg
  clear hb17
  have HSh : Hid (SB5 w17 w15.heap.size w17.heap.size (.slice sh L.length ch) L) := SB5.of HZh.out
  clear HZh
  obtain ⟨Bc0, Bc1, Bc2, Bc3, Bc4⟩ := HB.out
  have Bz : w.heap.size < w17.heap.size := by omega
  go_wp2_with fail
  refine (eqStepS_same _ _ _ _ w17.heap.size L w17 HSh.out.insB HSa.out.insB (Nat.le_refl _) (by omega)).mono ?_
  rintro e w18 ⟨rfl, hb18⟩
  have z18 := hb18.size
  clear Bc0 Bc1 Bc2 Bc3 Bc4 Bz
  have JK : Hid (Below w.heap.size w w18) := HK.out.trans (hb18.mono (by omega))
  have JB : Hid (Bo5 w.heap.size w18 (.int .i64 o) (.int .i64 r) (.int .i64 a) (.int .i64 x) (.int .i64 n)) := HB.out.keep (Keep.of_below hb18 (by omega))
  have JSa : Hid (SB5 w18 V1.heap.size w2.heap.size (.slice sa L.length ca) L) := HSa.out.keep (Keep.of_below hb18 (by omega))
  have JMg : Hid (MK5 w18 w5.heap.size w6.heap.size sg L.length cg 1) := HMg.out.keep (Keep.of_below hb18 (by omega))
  have JSh : Hid (SB5 w18 w15.heap.size w17.heap.size (.slice sh L.length ch) L) := HSh.out.keep (Keep.of_below hb18 (by omega))
  clear HK
  have HK := JK
  clear JK
  clear HB
  have HB := JB
  clear JB
  clear HSa
  have HSa := JSa
  clear JSa
  clear HMg
  have HMg := JMg
  clear JMg
  clear HSh
  have HSh := JSh
  clear JSh
  clear hb18
  obtain ⟨Bc0, Bc1, Bc2, Bc3, Bc4⟩ := HB.out
  have Bz : w.heap.size < w18.heap.size := by omega
  go_wp2_with fail
  refine (held5_any HMg.out (by omega)).mono ?_
  rintro e w19 ⟨rfl, hw19⟩
  subst w19
  rw [HN5.out]
  go_wp2_with fail
  go_wp2
  go_ret
  exact ⟨rfl, HK.out⟩

set_option maxRecDepth 100000 in
theorem liftedExactEmit (os : Os) (started : os.Started) (H : Type) (enc : TypeId × Value → H) :
    ReturnsInHanded {} Try.checked os 4 .any (Rows.fnExactEmitSpec.pre6 enc Try.prog Try.f4 Rows.fnExactEmitRow.domain false) (Rows.fnExactEmitSpec.post enc Try.prog Try.f4 false true false false) := by
  refine returnsInHanded_of_change (C := Try.checked) ownP started (by kernel_rfl) Try.func4
    (ChangeSpec.witness6 (enc := enc) (C := Try.checked) false ⟨#[], #[.slice none 0 0, .agg #[.int .i64 0, .int .i64 0, .int .i64 0, .int .i64 0, .int .i64 0], .int .i64 0, .slice none 0 0], []⟩ 8 (by kernel_rfl) (by kernel_rfl) (by kernel_rfl) (by kernel_rfl)) ?_
  intro W base args ds gs before hval0 hW hcnd _
  have hval : ∀ (j : Nat) t v, Try.f4.params[j]? = some t → args[j]? = some v → Value.okWide Try.prog W .any base t v := hval0
  have hW' := hW
  obtain ⟨p, q, hA0, hV, rfl, hfz, hnd⟩ := hW
  have hA : DataW.TrodAll enc Try.prog W 0 (fun _ => true) true Try.f4.params.toList args.toList ds p := hA0
  rw [Try.params4] at hA hval
  obtain ⟨v0, v1, v2, v3, d0, d1, d2, d3, p0, p1, p2, p3, hargs, rfl, rfl, h0, h1, h2, h3⟩ := trodAll_four hA
  obtain rfl : args = #[v0, v1, v2, v3] := by cases args; simp_all
  obtain ⟨rfl, rfl⟩ := trodVars_none hV
  have k0 := h0
  have lt0 : ∀ x ∈ p0, x.block < W.heap.size := by obtain ⟨m, hm⟩ := k0; exact DataW.trod_lt m _ _ _ hm
  have k1 := h1
  have lt1 : ∀ x ∈ p1, x.block < W.heap.size := by obtain ⟨m, hm⟩ := k1; exact DataW.trod_lt m _ _ _ hm
  have k2 := h2
  have lt2 : ∀ x ∈ p2, x.block < W.heap.size := by obtain ⟨m, hm⟩ := k2; exact DataW.trod_lt m _ _ _ hm
  have k3 := h3
  have lt3 : ∀ x ∈ p3, x.block < W.heap.size := by obtain ⟨m, hm⟩ := k3; exact DataW.trod_lt m _ _ _ hm
  obtain ⟨s0, c0, l0, rfl, m0, hR0⟩ := open_intS (hval 0 28 v0 rfl rfl) h0
  obtain ⟨o, r, a, x, n, rfl, w0⟩ := open_ins (hval 1 23 v1 rfl rfl) h1
  obtain ⟨l2, rfl, -, -, hwf2⟩ := open_int Try.underlying3 (hval 2 3 v2 rfl rfl) h2
  obtain ⟨s3, c3, l3, rfl, m3, hR3⟩ := open_intS (hval 3 28 v3 rfl rfl) h3
  clear hA0 hval0
  refine (walkExactEmit s0 c0 l0 o r a x n l2 s3 c3 l3 W hR0 m0 hR3 m3).mono fun e W' ⟨he, bel⟩ => ?_
  subst he
  exact ⟨_, rfl, _, _, _, [], _, [], hW', trodAll_mk1 (shut_bool Try.underlying4 _), trodAll_mk4 (Below.trod laidOutP (by kernel_rfl) (of_decide_eq_true (by kernel_rfl)) k0 bel lt0) (Below.trod laidOutP (by kernel_rfl) (of_decide_eq_true (by kernel_rfl)) k1 bel lt1) (Below.trod laidOutP (by kernel_rfl) (of_decide_eq_true (by kernel_rfl)) k2 bel lt2) (Below.trod laidOutP (by kernel_rfl) (of_decide_eq_true (by kernel_rfl)) k3 bel lt3), rfl, bel.frame _, fun h => by cases h⟩

theorem fnExactEmit_holds : Rows.FnExactEmitSaid :=
  OpenClaim.holds_of_wide 4 Try.f4 rfl rfl rfl rfl rfl rfl rfl ⟨rfl, rfl, rfl, rfl, rfl⟩ rfl rfl rfl rfl rfl (by kernel_rfl) Try.func4 (by kernel_rfl)
    (of_decide_eq_true (by kernel_rfl)) (by unfold Func.isWrapper; first | (rw [if_pos (by decide +kernel)]; kernel_rfl) | (rw [if_neg (by decide +kernel)]; exact ⟨rfl, rfl⟩))
    (fun os started H enc _ => liftedExactEmit os started H enc)
#print axioms fnExactEmit_holds

end Go.Proofs.Ytomacedbinfaaaa
