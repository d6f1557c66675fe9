/- The law FnLock of the given statements: three cores that add to one cell, each under a lock, end with three in it, whatever the picks. No condition. -/
import Derived.Test.YtepfpbcjklaenaaRows
import Derived.Test.YtepfpbcjklaenaaKG18
import Derived.Deep.RegionHeld3
import Derived.Deep.DeepCutAuto
import Derived.ProofKit
import Derived.OpenShut
import Derived.ShutString
import Derived.ChangeOld
import Derived.ChangeSlices
namespace Go.Proofs.Ytepfpbcjklaenaa
set_option linter.unusedSimpArgs false
set_option linter.unusedVariables false
set_option maxRecDepth 100000
open Go.ChangeShapes Go.WideShapes Go.ChangeAt Go.RowKit
set_option maxRecDepth 100000 in
set_option maxHeartbeats 8000000 in
theorem walkFnLock (s : Option Addr) (n c : Nat) (w : World) (hb : Bytes w w.heap.size s n) (hn : n ≤ maxLen) :
  Calls Try.prog 3 #[.slice s n c] w fun e w' => e = .returned (.bool true) ∧ Below w.heap.size w w' := by
 by_cases hbig : 1048576 < n
 ·clear hb
  go_enter Try.func3, Try.ntmps3
  go_wp2_with fail
  refine (big_any s n c w).mono ?_
  rintro e w1 ⟨rfl, hw⟩
  have hw' := hw.symm
  clear hw
  subst hw'
  rw [decide_eq_true hbig]
  go_wp2
  go_ret
  exact ⟨rfl, Below.refl _ _⟩
 have HB := hidM1 hb
 have HN := hidM1 hn
 have BG := hidM1 hbig
 clear hb hn hbig
 go_enter Try.func3, Try.ntmps3
 go_wp2_with fail
 refine (big_any s n c w).mono ?_
 rintro e w1 ⟨rfl, hw⟩
 have hw' := hw.symm
 clear hw
 subst hw'
 rw [decide_eq_false BG.out]
 obtain ⟨D, hD⟩ : ∃ D, newMd [LB, LB, LB] = D := ⟨_, rfl⟩
 have SZ : Hid (MaSz D ≤ 1048576) := hD ▸ lb_sz
 have HD := hidM1 hD
 have NI := hidM1 (implLB hD)
 have NS := hidM1 (specLB hD)
 clear hD
 obtain ⟨V1, hV1, r1, k1, z1⟩ := lockRow w
 obtain ⟨V2, hV2, c2, k2, z2⟩ := csR3 r1 (by omega) (by omega)
 have HV1 := hidM1 hV1
 have HV2 := hidM1 hV2
 have K2 := hidM1 (k1.trans (k2.mono (by omega)))
 have R2 := hidM1 (r1.keep (Keep.of_below k2 (by omega)))
 have C2 := hidM1 c2
 rw [z1] at C2
 clear hV1 r1 k1 hV2 c2 k2
 go_upto_region 4 with fail
 rw [HV1.out]
 clear HV1
 go_wp2_with fail
 rw [HV2.out]
 clear HV2
 refine (NI.out _ _ _ V2 C2.out (Nat.le_refl _)).mono ?_
 rintro e w3 ⟨p, rfl, ho3, hb3⟩
 have z3 := hb3.size
 have K3 := hidM1 (K2.out.trans (hb3.mono (by omega)))
 have R3 := hidM1 (R2.out.keep (Keep.of_below hb3 (by omega)))
 have M3 := hidM1 ho3.ma
 clear C2 K2 R2 hb3 ho3
 go_upto_region 5 with fail
 obtain ⟨V4, hV4, x4, k4, z4⟩ := X4.new w3 (.slice p.s1 D.codes.length p.c1) (.slice p.s2 D.cores.length p.c2) (.slice p.s3 D.mem.length p.c3) (.slice p.s4 D.tr.length p.c4) 34
 rw [hV4]
 clear hV4
 have K4 := hidM1 (K3.out.trans (k4.mono (by omega)))
 have R4 := hidM1 (R3.out.keep (Keep.of_below k4 (by omega)))
 have M4 := hidM1 (M3.out.keep (Keep.of_below k4 (Nat.le_refl _)))
 have X4' := hidM1 x4
 clear K3 R3 M3 x4 k4
 obtain ⟨V5, hV5, c5, k5, z5⟩ := csR3 R4.out (by omega) (by omega)
 have HV5 := hidM1 hV5
 have K5 := hidM1 (K4.out.trans (k5.mono (by omega)))
 have M5 := hidM1 (M4.out.keep (Keep.of_below k5 (by omega)))
 have X5 := hidM1 (X4'.out.keep k5 z4)
 have C5 := hidM1 c5
 clear K4 R4 M4 X4' hV5 c5 k5
 go_wp2_with fail
 rw [HV5.out]
 clear HV5
 refine (NS.out _ _ _ V5 C5.out (Nat.le_refl _)).mono ?_
 rintro e w6 ⟨p', rfl, -, hb6⟩
 have z6 := hb6.size
 have K6 := hidM1 (K5.out.trans (hb6.mono (by omega)))
 have M6 := hidM1 (M5.out.keep (Keep.of_below hb6 (by omega)))
 have X6 := hidM1 (X5.out.keep hb6 (by omega))
 clear K5 M5 X5 C5 hb6
 go_upto_region 6 with fail
 obtain ⟨V7, hV7, -, k7, z7⟩ := X4.new w6 (.slice p'.s1 D.codes.length p'.c1) (.slice p'.s2 D.cores.length p'.c2) (.slice p'.s3 D.mem.length p'.c3) (.slice p'.s4 D.tr.length p'.c4) 34
 rw [hV7]
 clear hV7
 have K7 := hidM1 (K6.out.trans (k7.mono (by omega)))
 have M7 := hidM1 (M6.out.keep (Keep.of_below k7 (by omega)))
 have X7 := hidM1 (X6.out.keep k7 (by omega))
 clear K6 M6 X6 k7 NI NS
 have HZ : Hid (w.heap.size ≤ w3.heap.size ∧ w3.heap.size < V7.heap.size) := ⟨by omega, by omega⟩
 clear z1 z2 z3 z4 z5 z6 z7
 obtain ⟨V8, hV8⟩ : ∃ V, V7.alloc (.cells #[] 40) = V := ⟨_, rfl⟩
 have P0 : Hid (PkJ V7 V7.heap.size (.slice (some ⟨V7.heap.size, 0, none⟩) 0 0) [] V8) := by
  subst hV8
  exact PkJ.lit _ _ _ _ (by have h0 := World.ownsRow_lit (base := V7.heap.size) (e := 40) (size := 2) V7 #[] 0 (Nat.le_refl _) (by unfold maxLen; omega) rfl; exact h0) ((Below.refl _ _).alloc (Nat.le_refl _) _)
 have HV8 := hidM1 hV8
 clear hV8
 have BY : Hid (∀ X, Below V7.heap.size V7 X → Bytes X X.heap.size s n) := fun X hX => HB.out.up (K7.out.trans (hX.mono (by have := HZ.out; omega)))
 have HN2 : Hid (n ≤ 1048576) := by show _ ≤ _; have := BG.out; omega
 go_upto_region 9 with fail
 rw [HV8.out]
 clear HV8
 go_wp2_with fail
 go_loopw [8, 9] (fun a i wr => ∃ (k : Nat) (l : List ND), k ≤ 200 ∧ i = .int .i64 k ∧ l.length = k ∧ PkJ V7 V7.heap.size a l wr) (fun _ i _ => 200 - (intOf i).toNat)
 case atStart => exact ⟨0, [], Nat.zero_le _, rfl, rfl, P0.out⟩
 case round =>
  obtain ⟨k, l, hk, rfl, hl, pj⟩ := hrel
  have PJ := hidM1 pj
  have zJ := pj.b.size
  have BW := hidM1 (BY.out _ pj.b)
  have HL := hidM1 hl
  obtain ⟨sa, ca, ea⟩ := ownSl pj.o
  subst ea
  clear pj hl
  by_cases hlt : k < 200
  ·have hki : (k : Int) < 200 := by omega
   have hw1 : IntKind.i64.wrap ((k : Int) + 1) = ((k + 1 : Nat) : Int) := by rw [Go.IntWalk.i64_in _ ⟨by omega, by omega⟩]; omega
   go_wp2_with fail
   refine (at_n s n c k wr (by omega) BW.out HN2.out).mono ?_
   rintro e w9 ⟨x, rfl, hx0, hx1, hw⟩
   have hw' := hw.symm
   clear hw
   subst hw'
   go_wp2_with fail
   have q9 := at_n s n c (k + 1) wr (by omega) BW.out HN2.out
   have ek : ((k + 1 : Nat) : Int) = (k : Int) + 1 := by omega
   rw [ek] at q9
   refine q9.mono ?_
   clear q9 ek
   rintro e w9 ⟨y, rfl, hy0, hy1, hw⟩
   have hw' := hw.symm
   clear hw
   subst hw'
   have OA := hidM1 (show OwnPk (wr.alloc (.cells #[.int .i64 (x % 3), .int .i64 (y % 5)] 40)) V7.heap.size (.slice sa l.length ca) l from ownKeep' PJ.out.o (fun q hq => Below.heap_alloc wr _ _ (World.ownsRow.lt PJ.out.o _ hq).2))
   go_wp2_with (at_builtin; refine app_pick rfl _ _ rfl (wr.alloc (.cells #[.int .i64 (x % 3), .int .i64 (y % 5)] 40)) V7.heap.size (.slice sa l.length ca) l.length (flatN l) rfl OA.out wr.heap.size (.int .i64 (x % 3)) (.int .i64 (y % 5)) rfl rfl rfl (by simp [go_sem]) (by simp [go_sem]) (by have := HL.out; omega) (by simp; omega) ?_; intro g5 cap5 w5 ho5 hb5 hf5 hl5; have RA := hidM1 (PJ.out.add (Y := w5) ⟨x % 3, y % 5⟩ (Nat.le_refl _) ho5 (Below.grown ((Below.refl _ _).alloc zJ _) hb5 (by simp; omega) (fun q hq => (World.ownsRow.lt PJ.out.o q hq).1)) (by show 0 ≤ y % 5 ∧ y % 5 ≤ 4; omega) (by intro _; show 0 ≤ x % 3 ∧ x % 3 < 3; omega) (by intro j hj; have := HL.out; omega)); clear ho5 hb5 hf5)
   go_roundw
   case rel => exact ⟨k + 1, l ++ [⟨x % 3, y % 5⟩], by omega, by go_num, by rw [List.length_append, HL.out]; rfl, by simpa using RA.out⟩
   case measure => simp [intOf]; omega
  ·have ek : k = 200 := by omega
   have hki : ¬ (k : Int) < 200 := by omega
   have L200 : Hid (l.length = 200) := by show _ = _; have := HL.out; omega
   clear BW HL hk hlt ek
   go_upto_region 13 with fail
   have P1 := PJ
   clear PJ
   go_wp2_with fail
   go_loopw [8, 10] (fun a i wr => ∃ (k : Nat) (l : List ND), k ≤ 210 ∧ i = .int .i64 k ∧ l.length = 200 + k ∧ PkJ V7 V7.heap.size a l wr) (fun _ i _ => 210 - (intOf i).toNat)
   case atStart => exact ⟨0, l, Nat.zero_le _, rfl, L200.out, P1.out⟩
   case round =>
   clear P0 P1 L200 hki
   obtain ⟨j, l2, hj, rfl, hl, pj⟩ := hrel
   have PJ := hidM1 pj
   have zJ := pj.b.size
   have BW := hidM1 (BY.out _ pj.b)
   have HL := hidM1 hl
   obtain ⟨sb, cb, eb⟩ := ownSl pj.o
   subst eb
   clear pj hl
   by_cases hlt : j < 210
   ·have hji : (j : Int) < 210 := by omega
    go_wp2_with fail
    refine (at_n s n c j wr (by omega) BW.out HN2.out).mono ?_
    rintro e w9 ⟨y, rfl, hy0, hy1, hw⟩
    have hw' := hw.symm
    clear hw
    subst hw'
    have OA := hidM1 (show OwnPk (wr.alloc (.cells #[.int .i64 ((j : Int) % 3), .int .i64 (y % 5)] 40)) V7.heap.size (.slice sb l2.length cb) l2 from ownKeep' PJ.out.o (fun q hq => Below.heap_alloc wr _ _ (World.ownsRow.lt PJ.out.o _ hq).2))
    go_wp2_with (at_builtin; refine app_pick rfl _ _ rfl (wr.alloc (.cells #[.int .i64 ((j : Int) % 3), .int .i64 (y % 5)] 40)) V7.heap.size (.slice sb l2.length cb) l2.length (flatN l2) rfl OA.out wr.heap.size (.int .i64 ((j : Int) % 3)) (.int .i64 (y % 5)) rfl rfl rfl (by simp [go_sem]) (by simp [go_sem]) (by have := HL.out; omega) (by simp; omega) ?_; intro g5 cap5 w5 ho5 hb5 hf5 hl5; have RA := hidM1 (PJ.out.add (Y := w5) ⟨(j : Int) % 3, y % 5⟩ (Nat.le_refl _) ho5 (Below.grown ((Below.refl _ _).alloc zJ _) hb5 (by simp; omega) (fun q hq => (World.ownsRow.lt PJ.out.o q hq).1)) (by show 0 ≤ y % 5 ∧ y % 5 ≤ 4; omega) (by intro h; have := HL.out; omega) (by intro j2 hj2; have := HL.out; show (j : Int) % 3 = _; omega)); clear ho5 hb5 hf5)
    go_roundw
    case rel => exact ⟨j + 1, l2 ++ [⟨(j : Int) % 3, y % 5⟩], by omega, by go_num, by rw [List.length_append, HL.out]; rfl, by simpa using RA.out⟩
    case measure => simp [intOf]; omega
   ·have hji : ¬ (j : Int) < 210 := by omega
    have L4 : Hid (l2.length = 410) := by show _ = _; have := HL.out; omega
    have hs3 := HZ.out
    have KW := hidM1 (K7.out.trans (PJ.out.b.mono (by omega)))
    have MW := hidM1 (M7.out.keep (Keep.of_below PJ.out.b (by omega)))
    have XW := hidM1 (X7.out.keep PJ.out.b (by omega))
    obtain ⟨sc, cc, ec, nt⟩ := PJ.out.o.nts
    injection ec with ec1 ec2 ec3
    subst ec1 ec3
    clear ec2
    have NT := hidM1 nt
    clear nt
    obtain ⟨E, hE⟩ : ∃ E, runMb D l2 = E := ⟨_, rfl⟩
    obtain ⟨C, hC⟩ : ∃ C, runMc D l2 = C := ⟨_, rfl⟩
    have RL := hidM1 (lockRun HD.out PJ.out L4.out)
    have CALL := hidM1 (implMRun_any p.s1 p.s2 p.s3 p.s4 sb p.c1 p.c2 p.c3 p.c4 cb _ _ _ _ D l2 wr MW.out NT.out (by omega) (Nat.le_refl _) SZ.out (by have := L4.out; omega) (fun x hx => by have := (PJ.out.v4 x hx).2; omega))
    rw [hE, hC] at CALL RL
    clear hE hC
    have hlen : ((C.length : Int) == (l2.length : Int)) = true := by
     have h1 := RL.out.n
     have h2 := L4.out
     simp
     omega
    clear BW HL hj hlt
    obtain ⟨⟨xz, xc0, xc1, xc2, xc3⟩, xf⟩ := XW.out
    go_upto_region 17 with fail
    go_wp2_with fail
    refine CALL.out.mono ?_
    rintro e w11 ⟨xg, tg, eg, rfl, ho11, -, -, hb11⟩
    have z11 := hb11.size
    have K11 := hidM1 (KW.out.trans (hb11.mono (by omega)))
    have X11 := hidM1 (XW.out.keep hb11 (by omega))
    have M11 := hidM1 ho11.ma
    clear xz xc0 xc1 xc2 xc3 xf hb11 ho11 CALL XW KW MW
    obtain ⟨⟨xz, xc0, xc1, xc2, xc3⟩, xf⟩ := X11.out
    go_upto_region 18 with fail
    obtain ⟨Z, hZ, xZ, mZ, sZ, -, bZ⟩ := X4.put4 (.slice xg.s1 E.codes.length xg.c1) (.slice xg.s2 E.cores.length xg.c2) (.slice xg.s3 E.mem.length xg.c3) (.slice xg.s4 E.tr.length xg.c4) X11.out M11.out (by omega)
    rw [hZ]
    have KZ := hidM1 (bZ _ _ K11.out (by omega))
    obtain ⟨g2, o2, g3, o3, g4, o4, m, c4, rr⟩ := lockRead mZ RL.out
    obtain ⟨e2, e3, ml, m4, k0, k1, k2, m1, v3⟩ := rr
    clear xz xc0 xc1 xc2 xc3 xf hZ bZ K11 X11 M11 mZ
    rw [e2, e3, RL.out.c] at xZ
    obtain ⟨⟨xz, xc0, xc1, xc2, xc3⟩, xf⟩ := xZ
    have hml : (1 : Int) < (E.mem.length : Int) := by omega
    have m0 : (0 : Int) ≤ (m : Int) := by omega
    have m5 : (m : Int) ≤ 4000 := by omega
    have mlt : (m : Int) < ((m + 1 : Nat) : Int) := by omega
    go_wp2
    go_ret
    exact ⟨rfl, KZ.out⟩
set_option maxRecDepth 100000 in
theorem liftedFnLock (os : Os) (started : os.Started) (H : Type) (enc : TypeId × Value → H) :
  ReturnsInHanded {} Try.checked os 3 .any (Rows.fnLockSpec.pre6 enc Try.prog Try.f3 Rows.fnLockRow.domain false) (Rows.fnLockSpec.post enc Try.prog Try.f3 false true false false) := by
 refine returnsInHanded_of_change (C := Try.checked) ownS started (by kernel_rfl) Try.func3
  (ChangeSpec.witness6 (enc := enc) (C := Try.checked) false ⟨#[], #[.slice none 0 0], []⟩ 8 (by kernel_rfl) (by kernel_rfl) (by kernel_rfl) (by kernel_rfl)) ?_
 intro W base args ds gs before hval0 hW hcnd _
 have hval : ∀ (j : Nat) t v, Try.f3.params[j]? = some t → args[j]? = some v → Value.okWide Try.prog W .any base t v := hval0
 have hW' := hW
 obtain ⟨p, q, hA0, hV, rfl, hfz, hnd⟩ := hW
 have hA : DataW.TrodAll enc Try.prog W 0 (fun _ => true) true Try.f3.params.toList args.toList ds p := hA0
 rw [Try.params3] at hA hval
 obtain ⟨v0, d0, hargs, rfl, h0⟩ := trodAll_one hA
 obtain rfl : args = #[v0] := by cases args; simp_all
 obtain ⟨rfl, rfl⟩ := trodVars_none hV
 have k0 := h0
 have lt0 : ∀ x ∈ p, x.block < W.heap.size := by obtain ⟨m, hm⟩ := k0; exact DataW.trod_lt m _ _ _ hm
 obtain ⟨s, n, c, rfl, hn, hB⟩ := bytes_read (hval 0 22 v0 rfl rfl) h0
 clear hA0 hval0
 refine (walkFnLock s n c W hB hn).mono fun e W' ⟨he, bel⟩ => ?_
 subst he
 exact ⟨_, rfl, _, _, _, [], _, [], hW', trodAll_mk1 (shut_bool Try.underlying4 _), trodAll_mk1 (Below.trod laidOutS (by kernel_rfl) (of_decide_eq_true (by kernel_rfl)) k0 bel lt0), rfl, bel.frame _, fun h => by cases h⟩
theorem fnLock_holds : Rows.FnLockSaid :=
 OpenClaim.holds_of_wide 3 Try.f3 rfl rfl rfl rfl rfl rfl rfl ⟨rfl, rfl, rfl, rfl, rfl⟩ rfl rfl rfl rfl rfl (by kernel_rfl) Try.func3 (by kernel_rfl)
  (of_decide_eq_true (by kernel_rfl)) (by unfold Func.isWrapper; first | (rw [if_pos (by decide +kernel)]; kernel_rfl) | (rw [if_neg (by decide +kernel)]; exact ⟨rfl, rfl⟩))
  (fun os started H enc _ => liftedFnLock os started H enc)
#print axioms fnLock_holds
end Go.Proofs.Ytepfpbcjklaenaa
