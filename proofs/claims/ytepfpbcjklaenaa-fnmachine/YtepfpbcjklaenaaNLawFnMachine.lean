/- The law FnMachine of the given statements: a step of a drawn machine leaves all other cores as they are; its own view only learns. No condition. -/
import Derived.Test.YtepfpbcjklaenaaRows
import Derived.Test.YtepfpbcjklaenaaNG26
import Derived.Test.YtepfpbcjklaenaaNG27
import Derived.Test.YtepfpbcjklaenaaNG20
import Derived.Deep.RegionHeld3
import Derived.Deep.DeepCutAuto
import Derived.ProofKit
import Derived.OpenShut
import Derived.ShutString
import Derived.ChangeOld
import Derived.ChangeSlices
namespace Go.Proofs.Ytepfpbcjklaenaa
set_option linter.unusedSimpArgs false
set_option linter.unusedVariables false
set_option maxRecDepth 100000
open Go.ChangeShapes Go.WideShapes Go.ChangeAt Go.RowKit Go.Deep
structure Ev2 (w : World) (bM bP bN bO : Nat) (q q2 q3 : MP) (d D : MD) (who late : Int) (X : World) : Prop where
 P : Fm bM q d X
 p0 : X.cell? ⟨bP, 0, none⟩ = some (.int .i64 who)
 p1 : X.cell? ⟨bP, 1, none⟩ = some (.int .i64 late)
 pz : bP < X.heap.size
 G : Fm bN q2 D X
 H : Fm bO q3 D X
 K : Below w.heap.size w X
theorem Ev2.keep {w : World} {bM bP bN bO : Nat} {q q2 q3 : MP} {d D : MD} {who late : Int} {X Y : World} (h : Ev2 w bM bP bN bO q q2 q3 d D who late X) (k : Below X.heap.size X Y) : Ev2 w bM bP bN bO q q2 q3 d D who late Y :=
 ⟨h.P.keep k, (k.cell (p := ⟨bP, 0, none⟩) h.pz).trans h.p0, (k.cell (p := ⟨bP, 1, none⟩) h.pz).trans h.p1, Nat.lt_of_lt_of_le h.pz k.size, h.G.keep k, h.H.keep k, h.K.trans (k.mono h.K.size)⟩
/- the two boxes of what was drawn -/
theorem two6 (w : World) {lo hi : Nat} {q : MP} {d : MD} (a b : Int) (h : MaR w lo hi q.s1 q.s2 q.s3 q.s4 d) (hB : hi ≤ w.heap.size) : ∃ A, (w.alloc (.cells #[.slice q.s1 d.codes.length q.c1, .slice q.s2 d.cores.length q.c2, .slice q.s3 d.mem.length q.c3, .slice q.s4 d.tr.length q.c4] 34)).alloc (.cells #[.int .i64 a, .int .i64 b] 40) = A ∧ Fm w.heap.size q d A ∧ A.cell? ⟨w.heap.size + 1, 0, none⟩ = some (.int .i64 a) ∧ A.cell? ⟨w.heap.size + 1, 1, none⟩ = some (.int .i64 b) ∧ w.heap.size + 1 < A.heap.size ∧ Below w.heap.size w A := by
 obtain ⟨A0, hA0, f0, k0⟩ := Fm.new w h hB
 have s0 : A0.heap.size = w.heap.size + 1 := by rw [← hA0]; simp
 rw [hA0]
 have k1 : Below A0.heap.size A0 (A0.alloc (.cells #[.int .i64 a, .int .i64 b] 40)) := (Below.refl _ _).alloc (Nat.le_refl _) _
 refine ⟨_, rfl, f0.keep k1, ?_, ?_, by simp [s0], k0.trans (k1.mono (by omega))⟩
 ·rw [← s0]; simp [go_sem]
 ·rw [← s0]; simp [go_sem]
set_option maxRecDepth 100000 in
set_option maxHeartbeats 16000000 in
theorem walkFnMachine (s : Option Addr) (n c : Nat) (w : World) (hb : Bytes w w.heap.size s n) (hn : n ≤ maxLen) :
  Calls Try.prog 4 #[.slice s n c] w fun e w' => e = .returned (.bool true) ∧ Below w.heap.size w w' := by
 by_cases hbig : 1048576 < n
 ·clear hb
  go_enter Try.func4, Try.ntmps4
  go_wp2_with fail
  refine (big_any s n c w).mono ?_
  rintro e w1 ⟨rfl, hw⟩
  have hw' := hw.symm
  clear hw
  subst hw'
  rw [decide_eq_true hbig]
  go_wp2
  go_ret
  exact ⟨rfl, Below.refl _ _⟩
 have HB := hidM1 hb
 have HN := hidM1 hn
 have BG := hidM1 hbig
 clear hb hn hbig
 go_enter Try.func4, Try.ntmps4
 go_wp2_with fail
 refine (big_any s n c w).mono ?_
 rintro e w1 ⟨rfl, hw⟩
 have hw' := hw.symm
 clear hw
 subst hw'
 rw [decide_eq_false BG.out]
 go_wp2_with fail
 refine (drawCs_any s n c w HB.out HN.out).mono ?_
 rintro e w1 ⟨q, d, who, late, rfl, hma, hsz, hk, hl, hb1⟩
 obtain ⟨A, hA, fA, pA0, pA1, pAz, kA⟩ := two6 w1 who late hma (Nat.le_refl _)
 have P := hidM1 fA
 have P0 := hidM1 pA0
 have P1 := hidM1 pA1
 have PZ := hidM1 pAz
 have K := hidM1 (hb1.trans (kA.mono hb1.size))
 have SZ := hidM1 hsz
 have LT := hidM1 hl
 have HA := hidM1 hA
 clear hma hsz hk hl hb1 hA fA pA0 pA1 pAz kA
 go_upto_region 4 with fail
 try rw [HA.out]
 clear HA
 obtain ⟨bP, hbP⟩ : ∃ z, w1.heap.size + 1 = z := ⟨_, rfl⟩
 obtain ⟨bM, hbM⟩ : ∃ z, w1.heap.size = z := ⟨_, rfl⟩
 rw [hbP] at P0 P1 PZ ⊢
 rw [hbM] at P ⊢
 clear hbM hbP
 obtain ⟨Y, hY⟩ : ∃ Y, coreM d who late = Y := ⟨_, rfl⟩
 have WY := coreM_ways d who late
 have YZ0 := coreM_sz d who late SZ.out
 rw [hY] at WY YZ0
 have WAYS := hidM1 WY
 have YZ := hidM1 YZ0
 have HY := hidM1 hY
 clear WY YZ0 hY
 have CALL0 := implCore_any q.s1 q.s2 q.s3 q.s4 q.c1 q.c2 q.c3 q.c4 _ _ d who late A P.out.r (Nat.le_refl _) (by have := SZ.out; omega) LT.out
 rw [HY.out] at CALL0
 obtain ⟨D, cc⟩ := Y
 have CALL := hidM1 CALL0
 clear CALL0
 obtain ⟨⟨mz, m0, m1, m2, m3⟩, -⟩ := P.out.b
 have x0 := P0.out
 have x1 := P1.out
 go_wp2_with fail
 refine CALL.out.mono ?_
 rintro e w2 ⟨q2, rfl, hmo, hb2⟩
 try dsimp only at hmo ⊢
 obtain ⟨X1, hX1, f1, k1⟩ := Fm.new w2 hmo.ma (Nat.le_refl _)
 have kk := hb2.trans (k1.mono hb2.size)
 have G := hidM1 f1
 have JP := hidM1 (P.out.keep kk)
 have J0 := hidM1 ((kk.cell (p := ⟨bP, 0, none⟩) PZ.out).trans P0.out)
 have J1 := hidM1 ((kk.cell (p := ⟨bP, 1, none⟩) PZ.out).trans P1.out)
 have JZ : Hid (bP < X1.heap.size) := Nat.lt_of_lt_of_le PZ.out kk.size
 have JK := hidM1 (K.out.trans (kk.mono K.out.size))
 have HX := hidM1 hX1
 clear hmo hb2 hX1 f1 k1 kk CALL P P0 P1 PZ K mz m0 m1 m2 m3 x0 x1
 go_upto_region 5 with fail
 try rw [HX.out]
 clear HX
 obtain ⟨bN, hbN⟩ : ∃ z, w2.heap.size = z := ⟨_, rfl⟩
 rw [hbN] at G ⊢
 clear hbN
 have CALL0 := specCore_any q.s1 q.s2 q.s3 q.s4 q.c1 q.c2 q.c3 q.c4 _ _ d who late X1 JP.out.r (Nat.le_refl _) (by have := SZ.out; omega) LT.out
 rw [HY.out] at CALL0
 have CALL := hidM1 CALL0
 clear CALL0
 obtain ⟨⟨mz, m0, m1, m2, m3⟩, -⟩ := JP.out.b
 have x0 := J0.out
 have x1 := J1.out
 go_wp2_with fail
 refine CALL.out.mono ?_
 rintro e w3 ⟨q3, rfl, hmo, hb3⟩
 try dsimp only at hmo ⊢
 obtain ⟨Z, hZ, f2, k2⟩ := Fm.new w3 hmo.ma (Nat.le_refl _)
 have kk := hb3.trans (k2.mono hb3.size)
 have ev : Ev2 w bM bP bN w3.heap.size q q2 q3 d D who late Z := ⟨JP.out.keep kk, (kk.cell (p := ⟨bP, 0, none⟩) JZ.out).trans J0.out, (kk.cell (p := ⟨bP, 1, none⟩) JZ.out).trans J1.out, Nat.lt_of_lt_of_le JZ.out kk.size, G.out.keep kk, f2, JK.out.trans (kk.mono JK.out.size)⟩
 have E := hidM1 ev
 have HX := hidM1 hZ
 clear hmo hb3 hZ f2 k2 kk CALL JP J0 J1 JZ JK G ev mz m0 m1 m2 m3 x0 x1
 go_upto_region 6 with fail
 try rw [HX.out]
 clear HX
 obtain ⟨bO, hbO⟩ : ∃ z, w3.heap.size = z := ⟨_, rfl⟩
 rw [hbO] at E ⊢
 clear hbO
 have CM : Hid (∀ X : Ext Z, Calls Try.prog 15 #[.agg #[.slice q.s1 d.codes.length q.c1, .slice q.s2 d.cores.length q.c2, .slice q.s3 d.mem.length q.c3, .slice q.s4 d.tr.length q.c4]] X.w fun e w' => e = .returned (.bool (machB d)) ∧ Below X.w.heap.size X.w w') := fun X =>
  implMachineOk_any q.s1 q.s2 q.s3 q.s4 q.c1 q.c2 q.c3 q.c4 _ _ d X.w (E.out.P.keep X.b).r (Nat.le_refl _) (MaFits.of (by have := SZ.out; omega))
 have CP : Hid (∀ X : Ext Z, Calls Try.prog 16 #[.agg #[.slice q.s1 d.codes.length q.c1, .slice q.s2 d.cores.length q.c2, .slice q.s3 d.mem.length q.c3, .slice q.s4 d.tr.length q.c4]] X.w fun e w' => e = .returned (.bool (machB d)) ∧ Below X.w.heap.size X.w w') := fun X =>
  specMachineOk_any q.s1 q.s2 q.s3 q.s4 q.c1 q.c2 q.c3 q.c4 _ _ d X.w (E.out.P.keep X.b).r (Nat.le_refl _) (MaFits.of (by have := SZ.out; omega))
 have CQ : Hid (∀ X : Ext Z, Calls Try.prog 14 #[.agg #[.slice q2.s1 D.codes.length q2.c1, .slice q2.s2 D.cores.length q2.c2, .slice q2.s3 D.mem.length q2.c3, .slice q2.s4 D.tr.length q2.c4], .agg #[.slice q3.s1 D.codes.length q3.c1, .slice q3.s2 D.cores.length q3.c2, .slice q3.s3 D.mem.length q3.c3, .slice q3.s4 D.tr.length q3.c4]] X.w fun e w' => e = .returned (.bool true) ∧ Below X.w.heap.size X.w w') := fun X =>
  sameMach_eq q2.s1 q2.s2 q2.s3 q2.s4 q3.s1 q3.s2 q3.s3 q3.s4 _ _ _ _ _ _ _ _ _ _ _ _ D X.w (E.out.G.keep X.b).r (E.out.H.keep X.b).r (Nat.le_refl _) (Nat.le_refl _) (by have := YZ.out; (try dsimp only at this); omega)
 obtain ⟨⟨mz, m0, m1, m2, m3⟩, -⟩ := E.out.P.b
 obtain ⟨⟨nz, n0, n1, n2, n3⟩, -⟩ := E.out.G.b
 obtain ⟨⟨oz, o0, o1, o2, o3⟩, -⟩ := E.out.H.b
 have hne := ext_ne Z
 have mu0 := Ext.fit m0 mz
 have mu1 := Ext.fit m1 mz
 have mu2 := Ext.fit m2 mz
 have mu3 := Ext.fit m3 mz
 have nu0 := Ext.fit n0 nz
 have nu1 := Ext.fit n1 nz
 have nu2 := Ext.fit n2 nz
 have nu3 := Ext.fit n3 nz
 have ou0 := Ext.fit o0 oz
 have ou1 := Ext.fit o1 oz
 have ou2 := Ext.fit o2 oz
 have ou3 := Ext.fit o3 oz
 clear mz m0 m1 m2 m3 nz n0 n1 n2 n3 oz o0 o1 o2 o3
 refine WAYS.out.elim (fun h => ?wA) (fun h => h.elim (fun h => ?wC) (fun h => ?wB))
 case wA =>
  obtain ⟨hxy, hm⟩ := h
  injection hxy with h1 h2
  subst h1 h2
  rw [hm] at CM CP
  clear CQ WAYS HY hm
  refine regionExt Z (by kernel_rfl) (by kernel_rfl) ?_
  repeat (go_big_quiet_step (first | (rename_i X; go_at_call 15; refine Calls.mono (CM.out X) ?_; rintro e w3 ⟨rfl, hb3⟩; exact ⟨rfl, X.on hb3⟩) | (rename_i X; go_at_call 16; refine Calls.mono (CP.out X) ?_; rintro e w3 ⟨rfl, hb3⟩; exact ⟨rfl, X.on hb3⟩) | (rename_i X; go_at_call 14; refine Calls.mono (CQ.out X) ?_; rintro e w3 ⟨rfl, hb3⟩; exact ⟨rfl, X.on hb3⟩) | fail))
  refine wpQuiet_nil ?_
  rintro w5 ⟨X5, rfl⟩
  obtain ⟨U, hU⟩ : ∃ U, X5.w = U := ⟨_, rfl⟩
  have hb5 := X5.b
  rw [hU] at hb5 ⊢
  have E5 := hidM1 (E.out.keep hb5)
  clear hU X5 hb5 hne CM CP E mu0 mu1 mu2 mu3 nu0 nu1 nu2 nu3 ou0 ou1 ou2 ou3
  obtain ⟨⟨nz, n0, n1, n2, n3⟩, -⟩ := E5.out.G.b
  have hn0 : ((noMd.cores.length : Nat) : Int) = 0 := rfl
  go_wp2
  go_ret
  exact ⟨rfl, E5.out.K⟩
 case wC =>
  obtain ⟨hm, h0, h1, h2⟩ := h
  try dsimp only at h0 h1 h2
  subst h2
  rw [hm] at CM CP
  clear CQ WAYS HY hm
  have c0 : (cc == 0) = false := by simp; omega
  have c1 : (cc == 1) = false := by simp; omega
  have c2 : (cc != 0) = true := by simp; omega
  refine regionExt Z (by kernel_rfl) (by kernel_rfl) ?_
  repeat (go_big_quiet_step (first | (rename_i X; go_at_call 15; refine Calls.mono (CM.out X) ?_; rintro e w3 ⟨rfl, hb3⟩; exact ⟨rfl, X.on hb3⟩) | (rename_i X; go_at_call 16; refine Calls.mono (CP.out X) ?_; rintro e w3 ⟨rfl, hb3⟩; exact ⟨rfl, X.on hb3⟩) | (rename_i X; go_at_call 14; refine Calls.mono (CQ.out X) ?_; rintro e w3 ⟨rfl, hb3⟩; exact ⟨rfl, X.on hb3⟩) | fail))
  refine wpQuiet_nil ?_
  rintro w5 ⟨X5, rfl⟩
  obtain ⟨U, hU⟩ : ∃ U, X5.w = U := ⟨_, rfl⟩
  have hb5 := X5.b
  rw [hU] at hb5 ⊢
  have E5 := hidM1 (E.out.keep hb5)
  clear hU X5 hb5 hne CM CP E mu0 mu1 mu2 mu3 nu0 nu1 nu2 nu3 ou0 ou1 ou2 ou3
  obtain ⟨⟨mz, m0, m1, m2, m3⟩, -⟩ := E5.out.P.b
  obtain ⟨⟨nz, n0, n1, n2, n3⟩, -⟩ := E5.out.G.b
  go_wp2_with fail
  refine (sameMach_eq q.s1 q.s2 q.s3 q.s4 q2.s1 q2.s2 q2.s3 q2.s4 q.c1 q.c2 q.c3 q.c4 q2.c1 q2.c2 q2.c3 q2.c4 _ _ _ _ D U E5.out.P.r E5.out.G.r (Nat.le_refl _) (Nat.le_refl _) (by have := SZ.out; omega)).mono ?_
  rintro e Z3 ⟨rfl, kk⟩
  clear mz m0 m1 m2 m3 nz n0 n1 n2 n3
  go_wp2
  go_ret
  exact ⟨rfl, E5.out.K.trans (kk.mono E5.out.K.size)⟩
 case wB =>
  obtain ⟨hm, h0, hmD, nw, k, k', hw, hk, hD, hkn⟩ := h
  try dsimp only at h0 hmD hD
  subst h0 hw
  rw [hm] at CM CP
  have HMD := hidM1 hmD
  have HKN := hidM1 hkn
  have HK := hidM1 hk
  have HD := hidM1 hD
  have nwl : nw < d.cores.length := (List.getElem?_eq_some_iff.1 hk).1
  have hDl : D.cores.length = d.cores.length := by rw [hD, List.length_set]
  have NW : Hid (nw < d.cores.length ∧ D.cores.length = d.cores.length) := ⟨nwl, hDl⟩
  have HKD : Hid (D.cores[nw]? = some k') := by show _ = _; rw [hD, List.getElem?_set_self nwl]
  clear WAYS HY hm hmD hkn hk hD nwl hDl
  refine regionExt Z (by kernel_rfl) (by kernel_rfl) ?_
  repeat (go_big_quiet_step (first | (rename_i X; go_at_call 15; refine Calls.mono (CM.out X) ?_; rintro e w3 ⟨rfl, hb3⟩; exact ⟨rfl, X.on hb3⟩) | (rename_i X; go_at_call 16; refine Calls.mono (CP.out X) ?_; rintro e w3 ⟨rfl, hb3⟩; exact ⟨rfl, X.on hb3⟩) | (rename_i X; go_at_call 14; refine Calls.mono (CQ.out X) ?_; rintro e w3 ⟨rfl, hb3⟩; exact ⟨rfl, X.on hb3⟩) | fail))
  refine wpQuiet_nil ?_
  rintro w5 ⟨X5, rfl⟩
  obtain ⟨U, hU⟩ : ∃ U, X5.w = U := ⟨_, rfl⟩
  have hb5 := X5.b
  rw [hU] at hb5 ⊢
  have E5 := hidM1 (E.out.keep hb5)
  clear hU X5 hb5 hne CM CP E mu0 mu1 mu2 mu3 nu0 nu1 nu2 nu3 ou0 ou1 ou2 ou3
  obtain ⟨⟨mz, m0, m1, m2, m3⟩, -⟩ := E5.out.P.b
  go_wp2_with fail
  clear mz m0 m1 m2 m3
  go_loopw [9] (fun i wr => ∃ j : Nat, j ≤ d.cores.length ∧ i = .int .i64 j ∧ Ev2 w bM bP bN bO q q2 q3 d D nw late wr) (fun i _ => d.cores.length - (intOf i).toNat)
  case atStart => exact ⟨0, Nat.zero_le _, rfl, E5.out⟩
  case round =>
   clear E5
   obtain ⟨j, hj, rfl, hev⟩ := hrel
   have E6 := hidM1 hev
   clear hev
   obtain ⟨⟨mz, m0, m1, m2, m3⟩, -⟩ := E6.out.P.b
   clear m0 m2 m3
   have hcl : d.cores.length ≤ 1048576 := by
    have q2 := SZ.out
    unfold MaSz at q2
    omega
   by_cases hlt : j < d.cores.length
   ·obtain ⟨t, ht⟩ : ∃ t, d.cores[j]? = some t := ⟨_, List.getElem?_eq_getElem hlt⟩
    obtain ⟨u, hu⟩ : ∃ u, D.cores[j]? = some u := ⟨_, List.getElem?_eq_getElem (by have := NW.out; omega)⟩
    have TU : Hid (j ≠ nw → u = t) := fun hne => by
     have e := hu
     rw [HD.out, List.getElem?_set_ne (Ne.symm hne), ht] at e
     injection e with e
     exact e.symm
    obtain ⟨⟨nz, n0, n1, n2, n3⟩, -⟩ := E6.out.G.b
    clear n0 n2 n3
    obtain ⟨g, o, u1, x1, u2, x2, es, -, hg, f0, f1, f2, f3, i1, i2⟩ := E6.out.P.r.2.1.at ht
    obtain ⟨g', o', v1, y1, v2, y2, es', -, hg', f0', f1', f2', f3', i1', i2'⟩ := E6.out.G.r.2.1.at hu
    have I1 := hidM1 i1
    have I2 := hidM1 i2
    have I3 := hidM1 i1'
    have I4 := hidM1 i2'
    have hT : t.regs.length ≤ 1048576 ∧ t.vw.length ≤ 1048576 := by
     have q0 := szK_at d.cores j t ht
     have q2 := SZ.out
     unfold MaSz at q2
     omega
    have HT := hidM1 hT
    rw [es] at m1
    rw [es'] at n1
    have hDl := NW.out.2
    clear ht hu i1 i2 i1' i2' hT es es'
    have b0 : (0 : Int) ≤ (j : Int) := by omega
    have b1 : (j : Int) < (d.cores.length : Int) := by omega
    have b2 : (j : Int) < (D.cores.length : Int) := by omega
    clear hDl
    go_wp2_with fail
    go_cut [10, 11] (fun s6 s7 wx => CutS8 wr t u s6 s7 wx)
    case first =>
     go_region_held3 (fun w' => w'.cell? ⟨bM, 1, none⟩ = some (.slice (some ⟨g, o, none⟩) d.cores.length q.c2) ∧ w'.cell? ⟨bN, 1, none⟩ = some (.slice (some ⟨g', o', none⟩) D.cores.length q2.c2) ∧ w'.cell? ⟨g, o + j * 4, none⟩ = some (.int .i64 t.pc) ∧ w'.cell? ⟨g, o + j * 4 + 1, none⟩ = some (.slice u1 t.regs.length x1) ∧ w'.cell? ⟨g, o + j * 4 + 2, none⟩ = some (.slice u2 t.vw.length x2) ∧ w'.cell? ⟨g, o + j * 4 + 3, none⟩ = some (.int .i64 t.st) ∧ w'.cell? ⟨g', o' + j * 4, none⟩ = some (.int .i64 u.pc) ∧ w'.cell? ⟨g', o' + j * 4 + 1, none⟩ = some (.slice v1 u.regs.length y1) ∧ w'.cell? ⟨g', o' + j * 4 + 2, none⟩ = some (.slice v2 u.vw.length y2) ∧ w'.cell? ⟨g', o' + j * 4 + 3, none⟩ = some (.int .i64 u.st)) (go_keep) (fail)
     all_goals
      go_wp2_with fail
      go_meet
      first
       | with_reducible exact cutS8_a I1.out I2.out I3.out I4.out
       | with_reducible exact cutS8_b I1.out I2.out I3.out I4.out
    case rest =>
     obtain ⟨ba, bb, a1, a2, a3, a4, z1, z2, z3, z4, rfl, rfl, xx, xy, kx, j1, j2, j3, j4⟩ := hcut
     have J1 := hidM1 j1
     have J2 := hidM1 j2
     have J3 := hidM1 j3
     have J4 := hidM1 j4
     have KX := hidM1 kx
     have E7 := hidM1 (E6.out.keep kx)
     have zk := kx.size
     clear kx j1 j2 j3 j4 I1 I2 I3 I4 E6 m1 mz nz n1 f0 f1 f2 f3 f0' f1' f2' f3' hg hg'
     have p0 := E7.out.p0
     have pz := E7.out.pz
     by_cases hjn : j = nw
     ·subst hjn
      clear J1 J2 J3 J4 xx xy TU
      go_wp2
      go_roundw
      case rel => exact ⟨j + 1, by omega, by go_num, E7.out⟩
      case measure => simp [intOf]; omega
     ·have hut := TU.out hjn
      subst hut
      have hjz : ¬ ((j : Int) = (nw : Int)) := by omega
      have hjb : ((j : Int) != (nw : Int)) = true := by simp; omega
      obtain ⟨⟨za, l0, l1, l2, l3⟩, -⟩ := xx
      obtain ⟨⟨zb, r0, r1, r2, r3⟩, -⟩ := xy
      go_wp2_with fail
      refine (sameInts_any a1 a3 u.regs u.regs z1 z3 wc (J1.out.intsS (by omega)) (J3.out.intsS (by omega)) (by have := HT.out; omega)).mono ?_
      rintro e w3 ⟨rfl, m, rfl⟩
      rw [decide_eq_true (rfl : u.regs = u.regs)]
      have kd : Below wc.heap.size wc (wc.drewN m) := ⟨rfl, rfl, rfl, Nat.le_refl _, fun _ _ => rfl⟩
      obtain ⟨V, hV⟩ : ∃ V, wc.drewN m = V := ⟨_, rfl⟩
      rw [hV] at kd ⊢
      clear hV
      have l2' := (kd.cell (p := ⟨ba, 2, none⟩) za).trans l2
      have r2' := (kd.cell (p := ⟨bb, 2, none⟩) zb).trans r2
      have zv := kd.size
      have E8 := hidM1 (E7.out.keep kd)
      have J2' := hidM1 (J2.out.keep (Keep.of_below kd (by omega)))
      have J4' := hidM1 (J4.out.keep (Keep.of_below kd (by omega)))
      clear l0 l1 l2 l3 r0 r1 r2 r3 kd J1 J3 J2 J4 p0 pz E7
      go_wp2_with fail
      refine (sameInts_any a2 a4 u.vw u.vw z2 z4 V (J2'.out.intsS (by omega)) (J4'.out.intsS (by omega)) (by have := HT.out; omega)).mono ?_
      rintro e w4 ⟨rfl, m', rfl⟩
      rw [decide_eq_true (rfl : u.vw = u.vw)]
      have kd : Below V.heap.size V (V.drewN m') := ⟨rfl, rfl, rfl, Nat.le_refl _, fun _ _ => rfl⟩
      have E9 := hidM1 (E8.out.keep kd)
      obtain ⟨U2, hU2⟩ : ∃ U, V.drewN m' = U := ⟨_, rfl⟩
      rw [hU2] at E9 ⊢
      clear hU2 kd E8
      go_wp2
      go_roundw
      case rel => exact ⟨j + 1, by omega, by go_num, E9.out⟩
      case measure => simp [intOf]; omega
   ·go_wp2_with fail
    clear m1 mz
    obtain ⟨g, o, u1, x1, u2, x2, es, -, hg, -, -, f2, -, -, i2⟩ := E6.out.P.r.2.1.at HK.out
    obtain ⟨g', o', v1, y1, v2, y2, es', -, hg', -, -, f2', -, -, i2'⟩ := E6.out.G.r.2.1.at HKD.out
    have I2 := hidM1 i2
    have I4 := hidM1 i2'
    have hT : k'.vw.length ≤ 1048577 := by
     have q0 := szK_at D.cores nw k' HKD.out
     have q2 := YZ.out
     try dsimp only at q2
     unfold MaSz at q2
     omega
    have HT := hidM1 hT
    obtain ⟨⟨mz, -, m1, -, -⟩, -⟩ := E6.out.P.b
    obtain ⟨⟨nz, n0, n1, n2, n3⟩, -⟩ := E6.out.G.b
    have CN : Hid (∀ X : Ext wr, Calls Try.prog 15 #[.agg #[.slice q2.s1 D.codes.length q2.c1, .slice q2.s2 D.cores.length q2.c2, .slice q2.s3 D.mem.length q2.c3, .slice q2.s4 D.tr.length q2.c4]] X.w fun e w' => e = .returned (.bool true) ∧ Below X.w.heap.size X.w w') := fun X => by
     have h := implMachineOk_any q2.s1 q2.s2 q2.s3 q2.s4 q2.c1 q2.c2 q2.c3 q2.c4 _ _ D X.w (E6.out.G.keep X.b).r (Nat.le_refl _) (MaFits.of (by have := YZ.out; (try dsimp only at this); omega))
     rw [HMD.out] at h
     exact h
    have CK : Hid (∀ X : Ext wr, Calls Try.prog 18 #[.slice v2 k'.vw.length y2, .slice u2 k.vw.length x2] X.w fun e w' => e = .returned (.bool true) ∧ Below X.w.heap.size X.w w') := fun X => by
     have hz := X.b.size
     refine (implKnows_any v2 u2 y2 x2 _ _ _ _ k'.vw k.vw X.w (I4.out.keep (Keep.of_below X.b (Nat.le_refl _))) (I2.out.keep (Keep.of_below X.b (Nat.le_refl _))) HT.out hz hz).mono ?_
     rintro e w' ⟨rfl, rfl⟩
     rw [HKN.out]
     exact ⟨rfl, Below.refl _ _⟩
    have p0 := E6.out.p0
    have pz := E6.out.pz
    have b0 : (0 : Int) ≤ (nw : Int) := by omega
    have b1 : (nw : Int) < (d.cores.length : Int) := by have := NW.out; omega
    have b2 : (nw : Int) < (D.cores.length : Int) := by have := NW.out; omega
    have hne := ext_ne wr
    have um := Ext.fit m1 mz
    have u0' := Ext.fit n0 nz
    have u1' := Ext.fit n1 nz
    have u2' := Ext.fit n2 nz
    have u3' := Ext.fit n3 nz
    have up := Ext.fit p0 pz
    have uf := Ext.fit f2 hg
    have ug := Ext.fit f2' hg'
    clear m1 n0 n1 n2 n3 p0 f2 f2' i2 i2' hT
    rw [es] at um
    have CN2 := CN
    rw [es'] at u1' CN2
    clear CN
    refine regionExt wr (by kernel_rfl) (by kernel_rfl) ?_
    repeat (go_big_quiet_step (first | (rename_i X; go_at_call 15; refine Calls.mono (CN2.out X) ?_; rintro e w3 ⟨rfl, hb3⟩; exact ⟨rfl, X.on hb3⟩) | (rename_i X; go_at_call 18; refine Calls.mono (CK.out X) ?_; rintro e w3 ⟨rfl, hb3⟩; exact ⟨rfl, X.on hb3⟩) | fail))
    refine wpQuiet_nil ?_
    rintro w5 ⟨X5, rfl⟩
    have kk := X5.b
    go_wp2
    go_ret
    exact ⟨rfl, E6.out.K.trans (kk.mono E6.out.K.size)⟩
set_option maxRecDepth 100000 in
theorem liftedFnMachine (os : Os) (started : os.Started) (H : Type) (enc : TypeId × Value → H) :
  ReturnsInHanded {} Try.checked os 4 .any (Rows.fnMachineSpec.pre6 enc Try.prog Try.f4 Rows.fnMachineRow.domain false) (Rows.fnMachineSpec.post enc Try.prog Try.f4 false true false false) := by
 refine returnsInHanded_of_change (C := Try.checked) ownS started (by kernel_rfl) Try.func4
  (ChangeSpec.witness6 (enc := enc) (C := Try.checked) false ⟨#[], #[.slice none 0 0], []⟩ 8 (by kernel_rfl) (by kernel_rfl) (by kernel_rfl) (by kernel_rfl)) ?_
 intro W base args ds gs before hval0 hW hcnd _
 have hval : ∀ (j : Nat) t v, Try.f4.params[j]? = some t → args[j]? = some v → Value.okWide Try.prog W .any base t v := hval0
 have hW' := hW
 obtain ⟨p, q, hA0, hV, rfl, hfz, hnd⟩ := hW
 have hA : DataW.TrodAll enc Try.prog W 0 (fun _ => true) true Try.f4.params.toList args.toList ds p := hA0
 rw [Try.params4] at hA hval
 obtain ⟨v0, d0, hargs, rfl, h0⟩ := trodAll_one hA
 obtain rfl : args = #[v0] := by cases args; simp_all
 obtain ⟨rfl, rfl⟩ := trodVars_none hV
 have k0 := h0
 have lt0 : ∀ x ∈ p, x.block < W.heap.size := by obtain ⟨m, hm⟩ := k0; exact DataW.trod_lt m _ _ _ hm
 obtain ⟨s, n, c, rfl, hn, hB⟩ := bytes_read (hval 0 22 v0 rfl rfl) h0
 clear hA0 hval0
 refine (walkFnMachine s n c W hB hn).mono fun e W' ⟨he, bel⟩ => ?_
 subst he
 exact ⟨_, rfl, _, _, _, [], _, [], hW', trodAll_mk1 (shut_bool Try.underlying4 _), trodAll_mk1 (Below.trod laidOutS (by kernel_rfl) (of_decide_eq_true (by kernel_rfl)) k0 bel lt0), rfl, bel.frame _, fun h => by cases h⟩
theorem fnMachine_holds : Rows.FnMachineSaid :=
 OpenClaim.holds_of_wide 4 Try.f4 rfl rfl rfl rfl rfl rfl rfl ⟨rfl, rfl, rfl, rfl, rfl⟩ rfl rfl rfl rfl rfl (by kernel_rfl) Try.func4 (by kernel_rfl)
  (of_decide_eq_true (by kernel_rfl)) (by unfold Func.isWrapper; first | (rw [if_pos (by decide +kernel)]; kernel_rfl) | (rw [if_neg (by decide +kernel)]; exact ⟨rfl, rfl⟩))
  (fun os started H enc _ => liftedFnMachine os started H enc)
#print axioms fnMachine_holds
end Go.Proofs.Ytepfpbcjklaenaa
