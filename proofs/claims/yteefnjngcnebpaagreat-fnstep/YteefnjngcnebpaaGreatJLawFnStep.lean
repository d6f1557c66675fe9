/- The law FnStep of the given statements: a drawn step of a program turns its own thread, and one channel at most; who waits turns nothing. No condition. -/
import Derived.Test.YteefnjngcnebpaaGreatRows
import Derived.Test.YteefnjngcnebpaaGreatJG18
import Derived.Test.YteefnjngcnebpaaGreatJG21
import Derived.Test.YteefnjngcnebpaaGreatJG10
import Derived.Test.YteefnjngcnebpaaGreatJG14
import Derived.Test.YteefnjngcnebpaaGreatJG07
import Derived.Test.YteefnjngcnebpaaGreatJG08
import Derived.ProofKit
import Derived.OpenShut
import Derived.ShutString
import Derived.ChangeOld
import Derived.ChangeSlices
namespace Go.Proofs.YteefnjngcnebpaaGreat
set_option linter.unusedSimpArgs false
set_option linter.unusedVariables false
set_option maxRecDepth 100000
open Go.ChangeShapes Go.WideShapes Go.ChangeAt Go.RowKit
/- what lies in memory all the while: the program, the source, the one behind the step, in their boxes -/
structure Fs (bP bS bT lo hi lo' hi' lt ht : Nat) (p1 p2 s1 s2 s3 t1 t2 t3 : Option Addr) (a1 a2 c1 c2 c3 e1 e2 e3 : Nat) (p : PD) (D D' : SD) (X : World) : Prop where
 pb : BoP bP X (.slice p1 p.caps.length a1) (.slice p2 p.bods.length a2)
 sb : BoF bS X (.slice s1 D.ths.length c1) (.slice s2 D.chs.length c2) (.slice s3 D.tr.length c3)
 tb : BoF bT X (.slice t1 D'.ths.length e1) (.slice t2 D'.chs.length e2) (.slice t3 D'.tr.length e3)
 pr : ProgR X lo hi p1 p2 p
 sr : SrcR X lo' hi' s1 s2 s3 D
 tr : SrcR X lt ht t1 t2 t3 D'
 h1 : hi ≤ X.heap.size
 h2 : hi' ≤ X.heap.size
 h3 : ht ≤ X.heap.size
theorem Fs.keep {bP bS bT lo hi lo' hi' lt ht : Nat} {p1 p2 s1 s2 s3 t1 t2 t3 : Option Addr} {a1 a2 c1 c2 c3 e1 e2 e3 : Nat} {p : PD} {D D' : SD} {X Y : World} (h : Fs bP bS bT lo hi lo' hi' lt ht p1 p2 s1 s2 s3 t1 t2 t3 a1 a2 c1 c2 c3 e1 e2 e3 p D D' X) (k : Below X.heap.size X Y) : Fs bP bS bT lo hi lo' hi' lt ht p1 p2 s1 s2 s3 t1 t2 t3 a1 a2 c1 c2 c3 e1 e2 e3 p D D' Y :=
 ⟨h.pb.keep (k.block _ h.pb.z) k.size, h.sb.below k h.sb.z, h.tb.below k h.tb.z, ProgR.keep' h.pr (Keep.of_below k h.h1), h.sr.keep (Keep.of_below k h.h2), h.tr.keep (Keep.of_below k h.h3), Nat.le_trans h.h1 k.size, Nat.le_trans h.h2 k.size, Nat.le_trans h.h3 k.size⟩
theorem doneS_at {d : SD} {k j : Nat} {o : Out} {t : TD} (h : d.ths[j]? = some t) (hne : j ≠ k) : (doneS d k o).ths[j]? = some t := by
 show (d.ths.set k o.t)[j]? = _
 rw [List.getElem?_set_ne (Ne.symm hne)]
 exact h
theorem doneS_own {d : SD} {k : Nat} {o : Out} (h : k < d.ths.length) : (doneS d k o).ths[k]? = some o.t := by
 show (d.ths.set k o.t)[k]? = _
 rw [List.getElem?_set_self h]
theorem ProgR.insAt {w : World} {lo hi : Nat} {p1 p2 : Option Addr} {p : PD} (h : ProgR w lo hi p1 p2 p) (hB : hi ≤ w.heap.size) {k j : Nat} (hk : k < p.bods.length) (hj : j < (bodyOf p k).length) : ∃ gb ob gi oi cb, p2 = some ⟨gb, ob, none⟩ ∧ gb < w.heap.size ∧ w.cell? ⟨gb, ob + k, none⟩ = some (.slice (some ⟨gi, oi, none⟩) (bodyOf p k).length cb) ∧ gi < w.heap.size ∧ At5 w gi (oi + j * 5) ((bodyOf p k).getD j z5) := by
 rcases h.2 with h0 | ⟨gb, ob, ep, _, zb, hc⟩
 ·rw [h0] at hk; simp at hk
 ·obtain ⟨sb, cb, b0, hI⟩ := hc k hk
  rcases hI with h0 | ⟨gi, oi, es, _, zi, hx⟩
  ·have : (bodyOf p k).length = 0 := by unfold bodyOf; rw [h0]; rfl
   omega
  ·subst es
   exact ⟨gb, ob, gi, oi, cb, ep, by omega, b0, by omega, hx j hj⟩
theorem IntsR.atI {w : World} {lo hi : Nat} {s : Option Addr} {l : List Int} (h : IntsR w lo hi s l) {i : Nat} (hi' : i < l.length) : ∃ g o, s = some ⟨g, o, none⟩ ∧ g < hi ∧ w.cell? ⟨g, o + i, none⟩ = some (.int .i64 (l.getD i 0)) := by
 rcases h with h | ⟨g, o, hs, a, b, hc⟩
 ·rw [h] at hi'; simp at hi'
 ·exact ⟨g, o, hs, b, hc i hi'⟩
theorem Fresh.ints {w w' : World} {v : Value} {l : List Int} (h : Fresh w w' v l) : ∃ s c, v = .slice s l.length c ∧ Below w.heap.size w w' ∧ Ints w' s l := by
 obtain ⟨s, c, e, hb, hr⟩ := h
 refine ⟨s, c, e, hb, ?_⟩
 rcases hr with h | ⟨g, hs, -, hg, hc, -⟩
 ·exact .inl h
 ·exact .inr ⟨g, 0, hs, hg, hc⟩
theorem Ints.keepS {w w' : World} {B : Nat} {s : Option Addr} {l : List Int} (h : Ints w s l) (hb : Below B w w') (hB : w.heap.size ≤ B) : Ints w' s l := by
 rcases h with h | ⟨g, o, hs, hg, hc⟩
 ·exact .inl h
 ·exact .inr ⟨g, o, hs, by have := hb.size; omega, fun i hi => (hb.cell (p := ⟨g, o + i, none⟩) (by show g < B; omega)).trans (hc i hi)⟩
theorem setsL_len (o r b : Int) : (Plain.setsL o r b).length ≤ 2 := by
 unfold Plain.setsL
 split
 ·exact Nat.le_succ _
 ·split
  ·exact Nat.le_refl _
  ·exact Nat.zero_le _
set_option maxRecDepth 100000 in
set_option maxHeartbeats 16000000 in
theorem walkFnStep (s : Option Addr) (n c : Nat) (w : World) (hb : Bytes w w.heap.size s n) (hn : n ≤ maxLen) :
  Calls Tryz.prog 3 #[.slice s n c] w fun e w' => e = .returned (.bool true) ∧ Below w.heap.size w w' := by
 by_cases hbig : 1048576 < n
 ·clear hb
  go_enter Tryz.func3, Tryz.ntmps3
  go_wp2_with fail
  refine (big_any s n c w).mono ?_
  rintro e w1 ⟨rfl, hw⟩
  have hw' := hw.symm
  clear hw
  subst hw'
  rw [decide_eq_true hbig]
  go_wp2
  go_ret
  exact ⟨rfl, Below.refl _ _⟩
 have HB := hidR hb
 have HN := hidR hn
 have BG := hidR hbig
 clear hb hn hbig
 go_enter Tryz.func3, Tryz.ntmps3
 go_wp2_with fail
 refine (big_any s n c w).mono ?_
 rintro e w1 ⟨rfl, hw⟩
 have hw' := hw.symm
 clear hw
 subst hw'
 rw [decide_eq_false BG.out]
 go_wp2_with fail
 refine (drawStep_any s n c w HB.out HN.out).mono ?_
 rintro e w1 ⟨v0, v1, x1, x2, x3, who, rfl, hp, hs, hb1⟩
 obtain ⟨hi, p1, p2, a1, a2, p, rfl, rfl, hp, hfp, hB⟩ := hp
 obtain ⟨hi', s1, s2, s3, c1, c2, c3, D, rfl, rfl, rfl, hr, hf, -, hB'⟩ := hs
 obtain ⟨A, hA⟩ : ∃ A, (w1.alloc (.cells #[.slice p1 p.caps.length a1, .slice p2 p.bods.length a2] 27)).alloc (.cells #[.slice s1 D.ths.length c1, .slice s2 D.chs.length c2, .slice s3 D.tr.length c3] 32) = A := ⟨_, rfl⟩
 have kA : Below w1.heap.size w1 A := by subst hA; exact ((Below.refl _ _).alloc (Nat.le_refl _) _).alloc (by simp) _
 have rA : BoF (w1.heap.size + 1) A (.slice s1 D.ths.length c1) (.slice s2 D.chs.length c2) (.slice s3 D.tr.length c3) := by
  subst hA
  exact ⟨by simp [go_sem], by simp [go_sem], by simp [go_sem], fun j => by simp [go_sem], by simp⟩
 have qA : BoP w1.heap.size A (.slice p1 p.caps.length a1) (.slice p2 p.bods.length a2) := by
  subst hA
  exact ⟨by simp [go_sem], by simp [go_sem], fun j => by simp [go_sem], by simp; omega⟩
 have HA := hidR hA
 have z1 := hb1.size
 have zA := kA.size
 have R1 := hidR rA
 have Q1 := hidR qA
 have P1 := hidR (ProgR.keep' hp (Keep.of_below kA hB))
 have S1 := hidR (hr.keep (Keep.of_below kA hB'))
 have K1 := hidR (hb1.trans (kA.mono z1))
 have FP := hidR hfp
 have FS := hidR hf
 clear hb1 hr hf hfp hp hA kA HB HN BG
 go_wp2_with fail
 rw [HA.out]
 clear HA
 generalize w1.heap.size + 1 = bS at R1 rA ⊢
 generalize w1.heap.size = bP at Q1 qA hB hB' z1 zA ⊢
 obtain ⟨m0, m1, m2, mf, mz⟩ := rA
 obtain ⟨k0, k1, kf, kz⟩ := qA
 refine (implStep_any p1 p2 s1 s2 s3 a1 a2 c1 c2 c3 w.heap.size hi w.heap.size hi' p D who A P1.out S1.out (by omega) (by omega) FP.out FS.out).mono ?_
 have FF := hidR (stepSb_fits (p := p) FS.out who)
 have WY := hidR (step_ways p D who)
 have SK := hidR (fun h : srcB p D = true => (show srcB p (stepSb p D who) = true by unfold stepSb; rw [if_pos h]; exact srcB_step h who))
 have CP := hidR (fun (X : World) (lo hi lo' hi' : Nat) (h : ProgR X lo hi p1 p2 p) (h' : SrcR X lo' hi' s1 s2 s3 D) (hB : hi ≤ X.heap.size) (hB' : hi' ≤ X.heap.size) => specStep_any p1 p2 s1 s2 s3 a1 a2 c1 c2 c3 lo hi lo' hi' p D who X h h' hB hB' FP.out FS.out)
 generalize stepKb p D who = K at WY CP ⊢
 generalize stepSb p D who = D' at FF WY SK CP ⊢
 rintro e w2 ⟨t1, e1, t2, e2, t3, e3, L1, L2, rfl, ho2, hb2⟩
 obtain ⟨t1', e1', t2', e2', t3', e3', q1, q2, q3, hr2⟩ := ho2.src
 cases q1; cases q2; cases q3
 obtain ⟨B, hBB, rB, kB, sB⟩ := BoF.new w2 (.slice t1 D'.ths.length e1) (.slice t2 D'.chs.length e2) (.slice t3 D'.tr.length e3) 32
 have HBB := hidR hBB
 have kk := hb2.trans (kB.mono hb2.size)
 have z2 := hb2.size
 have zB := kB.size
 have F2 : Hid (Fs bP bS w2.heap.size w.heap.size hi w.heap.size hi' A.heap.size w2.heap.size p1 p2 s1 s2 s3 t1 t2 t3 a1 a2 c1 c2 c3 e1 e2 e3 p D D' B) :=
  ⟨Q1.out.keep (kk.block _ kz) kk.size, R1.out.below kk mz, rB, ProgR.keep' P1.out (Keep.of_below kk (by omega)), S1.out.keep (Keep.of_below kk (by omega)), hr2.keep (Keep.of_below kB (Nat.le_refl _)), by omega, by omega, zB⟩
 have K2 := hidR (K1.out.trans (kk.mono (by omega)))
 have Q2 := Q1.out.keep (hb2.block _ kz) z2
 have R2 := R1.out.below hb2 mz
 clear ho2 hb2 hr2 hBB rB kB kk R1 Q1 P1 S1 K1 m0 m1 m2 mf k0 k1 kf
 obtain ⟨k0, k1, kf, kz2⟩ := Q2
 obtain ⟨m0, m1, m2, mf, mz2⟩ := R2
 have np : ¬ bP = w2.heap.size := by omega
 have ns : ¬ bS = w2.heap.size := by omega
 go_wp2_with fail
 rw [HBB.out]
 clear HBB
 generalize w2.heap.size = bT at F2 sB zB ⊢
 obtain ⟨-, -, -, kz3⟩ := F2.out.pb
 obtain ⟨-, -, -, -, mz3⟩ := F2.out.sb
 refine (CP.out B _ _ _ _ F2.out.pr F2.out.sr F2.out.h1 F2.out.h2).mono ?_
 rintro e w3 ⟨u1, g1, u2, g2, u3, g3, M1, M2, rfl, ho3, hb3⟩
 obtain ⟨u1', g1', u2', g2', u3', g3', q1, q2, q3, hr3⟩ := ho3.src
 cases q1; cases q2; cases q3
 obtain ⟨V, hV, rV, kV, sV⟩ := BoF.new w3 (.slice u1 D'.ths.length g1) (.slice u2 D'.chs.length g2) (.slice u3 D'.tr.length g3) 32
 have HV := hidR hV
 have kk := hb3.trans (kV.mono hb3.size)
 have z3 := hb3.size
 have zV := kV.size
 have F3 := hidR (F2.out.keep kk)
 have K3 := hidR (K2.out.trans (kk.mono (by omega)))
 have U3 := hidR (hr3.keep (Keep.of_below kV (Nat.le_refl _)))
 have UB := hidR rV
 clear ho3 hb3 hr3 hV rV kV kk F2 K2 m0 m1 m2 mf k0 k1 kf CP
 go_wp2_with fail
 rw [HV.out]
 clear HV
 have zu : w3.heap.size ≤ V.heap.size := zV
 generalize w3.heap.size = bU at U3 UB sV zV zu ⊢
 have ZV : Hid (w.heap.size ≤ V.heap.size) := by show _ ≤ _; have := K3.out.size; omega
 obtain ⟨k0, k1, kf, kz3⟩ := F3.out.pb
 obtain ⟨m0, m1, m2, mf, mz3⟩ := F3.out.sb
 obtain ⟨t0', t1', t2', tf', tz3⟩ := F3.out.tb
 obtain ⟨u0', u1', u2', uf', uz3⟩ := UB.out
 have hne := ext_ne V
 have y0 := Ext.fit k0 kz3
 have y1 := Ext.fit k1 kz3
 have y2 := Ext.fit m0 mz3
 have y3 := Ext.fit m1 mz3
 have y4 := Ext.fit m2 mz3
 have y5 := Ext.fit t0' tz3
 have y6 := Ext.fit t1' tz3
 have y7 := Ext.fit t2' tz3
 have y8 := Ext.fit u0' uz3
 have y9 := Ext.fit u1' uz3
 have ya := Ext.fit u2' uz3
 have CI : Hid (∀ X : Ext V, Calls Tryz.prog 9 #[.agg #[.slice p1 p.caps.length a1, .slice p2 p.bods.length a2], .agg #[.slice s1 D.ths.length c1, .slice s2 D.chs.length c2, .slice s3 D.tr.length c3]] X.w fun e w' => e = .returned (.bool (srcB p D)) ∧ Below X.w.heap.size X.w w') := fun X => implSource_any p1 p2 s1 s2 s3 a1 a2 c1 c2 c3 _ _ _ _ p D X.w (F3.out.keep X.b).pr (F3.out.keep X.b).sr (F3.out.keep X.b).h1 (F3.out.keep X.b).h2 FP.out FS.out
 have CO : Hid (∀ X : Ext V, Calls Tryz.prog 10 #[.agg #[.slice p1 p.caps.length a1, .slice p2 p.bods.length a2], .agg #[.slice s1 D.ths.length c1, .slice s2 D.chs.length c2, .slice s3 D.tr.length c3]] X.w fun e w' => e = .returned (.bool (srcB p D)) ∧ Below X.w.heap.size X.w w') := fun X => specSource_any p1 p2 s1 s2 s3 a1 a2 c1 c2 c3 _ _ _ _ p D X.w (F3.out.keep X.b).pr (F3.out.keep X.b).sr (F3.out.keep X.b).h1 (F3.out.keep X.b).h2 FP.out FS.out
 have CE : Hid (∀ X : Ext V, Calls Tryz.prog 8 #[.agg #[.slice t1 D'.ths.length e1, .slice t2 D'.chs.length e2, .slice t3 D'.tr.length e3], .agg #[.slice u1 D'.ths.length g1, .slice u2 D'.chs.length g2, .slice u3 D'.tr.length g3]] X.w fun e w' => e = .returned (.bool true) ∧ Below X.w.heap.size X.w w') := fun X => sameSource_eq t1 t2 t3 u1 u2 u3 e1 e2 e3 g1 g2 g3 _ _ _ _ D' X.w (F3.out.keep X.b).tr (U3.out.keep (Keep.of_below X.b zu)) (F3.out.keep X.b).h3 (Nat.le_trans zu X.b.size) FF.out
 have hsb : (srcB p D != srcB p D) = false := by simp
 have FY := hidR (F3.out)
 have MD : Hid (∀ U : World, Below V.heap.size V U → Fs bP bS bT w.heap.size hi w.heap.size hi' A.heap.size bT p1 p2 s1 s2 s3 t1 t2 t3 a1 a2 c1 c2 c3 e1 e2 e3 p D D' U ∧ Below w.heap.size w U) := fun U h => ⟨FY.out.keep h, K3.out.trans (h.mono ZV.out)⟩
 clear k0 k1 kf m0 m1 m2 mf t0' t1' t2' tf' u0' u1' u2' uf' F3 K3 FY U3 UB z1 zA z2 zB sB z3 sV zV zu
 obtain ⟨sk, hsk⟩ : ∃ sk, srcB p D = sk := ⟨_, rfl⟩
 rw [hsk] at CI CO hsb SK WY
 rcases WY.out with ⟨rfl, hD⟩ | ⟨hK0, hK1, hD⟩ | ⟨rfl, hs, q, rfl, hq, hD⟩
 ·have hz : ((D'.ths.length : Int) == 0) = true := by rw [hD]; rfl
  clear hD WY FF
  refine regionExt V (by kernel_rfl) (by kernel_rfl) ?_
  repeat (go_big_quiet_step (first | (rename_i X; go_at_call 9; refine Calls.mono (CI.out X) ?_; rintro e w4 ⟨rfl, hb4⟩; exact ⟨rfl, X.on hb4⟩) | (rename_i X; go_at_call 10; refine Calls.mono (CO.out X) ?_; rintro e w4 ⟨rfl, hb4⟩; exact ⟨rfl, X.on hb4⟩) | (rename_i X; go_at_call 8; refine Calls.mono (CE.out X) ?_; rintro e w4 ⟨rfl, hb4⟩; exact ⟨rfl, X.on hb4⟩) | fail))
  refine wpQuiet_nil ?_
  rintro w5 ⟨X5, rfl⟩
  obtain ⟨U, hU⟩ : ∃ U, X5.w = U := ⟨_, rfl⟩
  have hb5 := X5.b
  rw [hU] at hb5 ⊢
  obtain ⟨F5', K5'⟩ := MD.out U hb5
  have F5 := hidR F5'
  have K5 := hidR K5'
  clear F5' K5' hU X5 hb5 hne y0 y1 y2 y3 y4 y5 y6 y7 y8 y9 ya CI CO CE MD hsb
  obtain ⟨t0', t1', t2', tf', tz3⟩ := F5.out.tb
  go_wp2
  go_ret
  exact ⟨rfl, K5.out⟩
 ·have hkk : (K != K) = false := by simp
  have hk0 : (K == 0) = false := by simp [hK0]
  have hk1 : (K == 1) = false := by simp [hK1]
  have hkn : (K != 0) = true := by simp [hK0]
  clear hK0 hK1 WY
  subst hD
  refine regionExt V (by kernel_rfl) (by kernel_rfl) ?_
  repeat (go_big_quiet_step (first | (rename_i X; go_at_call 9; refine Calls.mono (CI.out X) ?_; rintro e w4 ⟨rfl, hb4⟩; exact ⟨rfl, X.on hb4⟩) | (rename_i X; go_at_call 10; refine Calls.mono (CO.out X) ?_; rintro e w4 ⟨rfl, hb4⟩; exact ⟨rfl, X.on hb4⟩) | (rename_i X; go_at_call 8; refine Calls.mono (CE.out X) ?_; rintro e w4 ⟨rfl, hb4⟩; exact ⟨rfl, X.on hb4⟩) | fail))
  refine wpQuiet_nil ?_
  rintro w5 ⟨X5, rfl⟩
  obtain ⟨U, hU⟩ : ∃ U, X5.w = U := ⟨_, rfl⟩
  have hb5 := X5.b
  rw [hU] at hb5 ⊢
  obtain ⟨F5', K5'⟩ := MD.out U hb5
  have F5 := hidR F5'
  have K5 := hidR K5'
  clear F5' K5' hU X5 hb5 hne y0 y1 y2 y3 y4 y5 y6 y7 y8 y9 ya CI CO CE MD hsb
  obtain ⟨t0', t1', t2', tf', tz3⟩ := F5.out.tb
  obtain ⟨m0, m1, m2, mf, mz3⟩ := F5.out.sb
  go_wp2_with fail
  refine (sameSource_eq s1 s2 s3 t1 t2 t3 c1 c2 c3 e1 e2 e3 _ _ _ _ _ U F5.out.sr F5.out.tr F5.out.h2 F5.out.h3 FS.out).mono ?_
  rintro e w6 ⟨rfl, hb6⟩
  have K6 := hidR (K5.out.trans (hb6.mono K5.out.size))
  clear hb6 F5 K5 m0 m1 m2 mf t0' t1' t2' tf'
  go_wp2
  go_ret
  exact ⟨rfl, K6.out⟩
 ·have hR := right_of (hsk.trans hs)
  have hS' := SK.out hs
  obtain ⟨td, htd⟩ : ∃ td, D.ths[q]? = some td := ⟨_, List.getElem?_eq_getElem hq⟩
  have hqb : q < p.bods.length := by have := hR.tl; omega
  obtain ⟨r4, st0, st2, pc0, pc1⟩ := hR.th q td htd
  obtain ⟨j, hj⟩ : ∃ j : Nat, td.pc = (j : Int) := ⟨td.pc.toNat, by omega⟩
  have hjl : j < (bodyOf p q).length := by omega
  have hix := hR.ix q j hqb hjl
  have ethd : thOf D q = td := by unfold thOf; rw [List.getD_eq_getElem?_getD, htd]; rfl
  have hin : insOf p D q = (bodyOf p q).getD j z5 := by unfold insOf; rw [ethd, hj, Int.toNat_natCast]
  have hou : outOf p D q = stepO (bodyOf p q).length td (insOf p D q) D.chs D.tr q := by unfold outOf; rw [ethd]
  have hbl : (bodyOf p q).length ≤ 24 := hR.bd q hqb
  have hp4 := hR.pb
  have htl := hR.tl
  have hnl := hR.nl
  have T1 : Hid (∀ (r : Nat), td.regs.getD r 0 ≠ (outOf p D q).t.regs.getD r 0 → (r : Int) ∈ Plain.setsL (insOf p D q).o (insOf p D q).r (insOf p D q).b) := fun r hne => step_regs (by rw [hin]; exact hix) r (by rw [hou] at hne; exact hne)
  have T2 : Hid (D.tr.length ≤ D'.tr.length ∧ D'.tr.length ≤ D.tr.length + 1) := by
   rw [hD]
   show D.tr.length ≤ (outOf p D q).tr.length ∧ (outOf p D q).tr.length ≤ D.tr.length + 1
   rw [hou]
   exact step_trl _ _ _ _ _ _
  have T3 : Hid (D'.ths.length = D.ths.length) := by
   rw [hD]
   show (D.ths.set q _).length = _
   rw [List.length_set]
  have T4 : Hid (∀ (i : Nat) (t : TD), D.ths[i]? = some t → i ≠ q → D'.ths[i]? = some t) := fun i t h hne => by rw [hD]; exact doneS_at h hne
  have T5 : Hid (D'.ths[q]? = some (outOf p D q).t) := by rw [hD]; exact doneS_own hq
  have T6 := hidR hS'
  have TD0 := hidR htd
  have IN := hidR hin
  have hro : (outOf p D q).t.regs.length = 4 := by
   have h' := right_of hS'
   exact (h'.th q _ T5.out).1
  have NUM : Hid (td.regs.length = 4 ∧ 0 ≤ td.pc ∧ td.pc = (j : Int) ∧ j < (bodyOf p q).length ∧ (bodyOf p q).length ≤ 24 ∧ q < p.bods.length ∧ p.bods.length ≤ 4 ∧ D.ths.length = p.bods.length ∧ D.tr.length ≤ 4000 ∧ q < D.ths.length ∧ (outOf p D q).t.regs.length = 4) := ⟨r4, pc0, hj, hjl, hbl, hqb, hp4, htl, hnl, hq, hro⟩
  clear hD WY hR hS' SK hsk hs htd hix hin hou ethd r4 st0 st2 pc0 pc1 hj hjl hbl hqb hp4 htl hnl hq hro
  generalize (outOf p D q).t = tz at T1 T5 NUM
  generalize insOf p D q = x at T1 IN
  refine regionExt V (by kernel_rfl) (by kernel_rfl) ?_
  repeat (go_big_quiet_step (first | (rename_i X; go_at_call 9; refine Calls.mono (CI.out X) ?_; rintro e w4 ⟨rfl, hb4⟩; exact ⟨rfl, X.on hb4⟩) | (rename_i X; go_at_call 10; refine Calls.mono (CO.out X) ?_; rintro e w4 ⟨rfl, hb4⟩; exact ⟨rfl, X.on hb4⟩) | (rename_i X; go_at_call 8; refine Calls.mono (CE.out X) ?_; rintro e w4 ⟨rfl, hb4⟩; exact ⟨rfl, X.on hb4⟩) | fail))
  refine wpQuiet_nil ?_
  rintro w5 ⟨X5, rfl⟩
  obtain ⟨U, hU⟩ : ∃ U, X5.w = U := ⟨_, rfl⟩
  have hb5 := X5.b
  rw [hU] at hb5 ⊢
  obtain ⟨F5', K5'⟩ := MD.out U hb5
  have F5 := hidR F5'
  have K5 := hidR K5'
  clear F5' K5' hU X5 hb5 hne y0 y1 y2 y3 y4 y5 y6 y7 y8 y9 ya CI CO CE MD hsb
  have LF := hidR FF.out.1.1
  have LD := FS.out.1.1
  obtain ⟨-, -, -, -, mz3⟩ := F5.out.sb
  obtain ⟨m0, m1, m2, mf, mz4⟩ := F5.out.sb
  go_wp2_with fail
  go_loopw [10] (fun i wr => ∃ k : Nat, k ≤ D.ths.length ∧ i = .int .i64 k ∧ Fs bP bS bT w.heap.size hi w.heap.size hi' A.heap.size bT p1 p2 s1 s2 s3 t1 t2 t3 a1 a2 c1 c2 c3 e1 e2 e3 p D D' wr ∧ Below w.heap.size w wr) (fun i _ => D.ths.length - (intOf i).toNat)
  case atStart => exact ⟨0, Nat.zero_le _, rfl, F5.out, K5.out⟩
  case round =>
   obtain ⟨k, hk, rfl, hF, hK⟩ := hrel
   have F6 := hidR hF
   have K6 := hidR hK
   clear F5 K5 hF hK m0 m1 m2 mf
   obtain ⟨m0, m1, m2, mf, mz5⟩ := F6.out.sb
   obtain ⟨n0, n1, n2, nf, nz5⟩ := F6.out.tb
   by_cases hlt : k < D.ths.length
   ·obtain ⟨t, ht⟩ : ∃ t, D.ths[k]? = some t := ⟨_, List.getElem?_eq_getElem hlt⟩
    obtain ⟨g, o, s', c', es, hg, f0, f1, f2, fi⟩ := RecsR.thd F6.out.sr.1 F6.out.h2 (Below.refl _ _) ht
    have b0 : (0 : Int) ≤ (k : Int) := by omega
    have b1 : (k : Int) < (D.ths.length : Int) := by omega
    have b2 : (k : Int) < (D'.ths.length : Int) := by have := T3.out; omega
    have hne := ext_ne wr
    have y0 := Ext.fit m0 mz5
    have y1 := Ext.fit n0 nz5
    have y2 := Ext.fit f0 hg
    have y3 := Ext.fit f1 hg
    have y4 := Ext.fit f2 hg
    subst es
    by_cases he : k = q
    ·subst he
     have hnq : ((k : Int) != (k : Int)) = false := by simp
     go_wp2_with fail
     refine regionExt wr (by kernel_rfl) (by kernel_rfl) ?_
     repeat (go_big_quiet_step (first | fail))
     refine wpQuiet_nil ?_
     rintro w5 ⟨X5, rfl⟩
     obtain ⟨U, hU⟩ : ∃ U, X5.w = U := ⟨_, rfl⟩
     have hb5 := X5.b
     rw [hU] at hb5 ⊢
     have F7 := hidR (F6.out.keep hb5)
     have K7 := hidR (K6.out.trans (hb5.mono K6.out.size))
     clear hU X5 hb5 hne y0 y1 y2 y3 y4 m0 m1 m2 mf n0 n1 n2 nf f0 f1 f2 fi
     go_wp2
     go_roundw
     case rel => exact ⟨k + 1, by omega, by go_num, F7.out, K7.out⟩
     case measure => simp [intOf]; omega
    ·have hnq : ((k : Int) != (q : Int)) = true := by simp; omega
     have ht' := T4.out k t ht he
     obtain ⟨g', o', r', e', es', hg', f0', f1', f2', fi'⟩ := RecsR.thd F6.out.tr.1 F6.out.h3 (Below.refl _ _) ht'
     have hl4 := FS.out.1.2 k t ht
     have y5 := Ext.fit f0' hg'
     have y6 := Ext.fit f1' hg'
     have y7 := Ext.fit f2' hg'
     subst es'
     have CI : Hid (∀ X : Ext wr, Calls Tryz.prog 11 #[.slice s' t.regs.length c', .slice r' t.regs.length e'] X.w fun e w' => e = .returned (.bool true) ∧ Below X.w.heap.size X.w w') := fun X => by
      have hz := X.b.size
      have h2 := F6.out.h2
      have h3 := F6.out.h3
      refine (sameInts_any s' r' t.regs t.regs c' e' X.w ((fi.keep (Keep.of_below X.b h2)).ints (by omega)) ((fi'.keep (Keep.of_below X.b h3)).ints (by omega)) (by omega)).mono ?_
      rintro e w2 ⟨rfl, m, rfl⟩
      exact ⟨by simp, rfl, rfl, rfl, Nat.le_refl _, fun _ _ => rfl⟩
     clear ht ht' he hl4
     go_wp2_with fail
     refine regionExt wr (by kernel_rfl) (by kernel_rfl) ?_
     repeat (go_big_quiet_step (first | (rename_i X; go_at_call 11; refine Calls.mono (CI.out X) ?_; rintro e w3 ⟨rfl, hb3⟩; exact ⟨rfl, X.on hb3⟩) | fail))
     refine wpQuiet_nil ?_
     rintro w5 ⟨X5, rfl⟩
     obtain ⟨U, hU⟩ : ∃ U, X5.w = U := ⟨_, rfl⟩
     have hb5 := X5.b
     rw [hU] at hb5 ⊢
     have F7 := hidR (F6.out.keep hb5)
     have K7 := hidR (K6.out.trans (hb5.mono K6.out.size))
     clear hU X5 hb5 hne y0 y1 y2 y3 y4 y5 y6 y7 m0 m1 m2 mf n0 n1 n2 nf f0 f1 f2 fi f0' f1' f2' fi' CI
     go_wp2
     go_roundw
     case rel => exact ⟨k + 1, by omega, by go_num, F7.out, K7.out⟩
     case measure => simp [intOf]; omega
   ·clear n0 n1 n2 nf m1 m2
    obtain ⟨wy, hwy⟩ : ∃ wy, wy = wr := ⟨_, rfl⟩
    subst hwy
    go_wp2_with fail
    obtain ⟨k0, k1, -, kz6⟩ := F6.out.pb
    obtain ⟨gb, ob, gi, oi, cb, ep, zb, d0, zi, dx⟩ := ProgR.insAt F6.out.pr F6.out.h1 NUM.out.2.2.2.2.2.1 NUM.out.2.2.2.1
    rw [← IN.out] at dx
    obtain ⟨g, o, s', c', es, hg, f0, -, -, -⟩ := RecsR.thd F6.out.sr.1 F6.out.h2 (Below.refl _ _) TD0.out
    rw [NUM.out.2.2.1] at f0
    obtain ⟨dx0, dx1, dx2, dx3, dx4⟩ := dx
    have hne := extP_ne wy (fun _ => False)
    have y0 := ExtP.fit (E := fun _ => False) k1 kz6 (fun h => h)
    have y1 := ExtP.fit (E := fun _ => False) m0 mz5 (fun h => h)
    have y2 := ExtP.fit (E := fun _ => False) d0 zb (fun h => h)
    have y3 := ExtP.fit (E := fun _ => False) f0 hg (fun h => h)
    have y4 := ExtP.fit (E := fun _ => False) dx0 zi (fun h => h)
    have y5 := ExtP.fit (E := fun _ => False) dx1 zi (fun h => h)
    have y6 := ExtP.fit (E := fun _ => False) dx2 zi (fun h => h)
    have y7 := ExtP.fit (E := fun _ => False) dx3 zi (fun h => h)
    have y8 := ExtP.fit (E := fun _ => False) dx4 zi (fun h => h)
    subst ep es
    have b0 : (0 : Int) ≤ (q : Int) := by omega
    have b1 : (q : Int) < (D.ths.length : Int) := by have := NUM.out.2.2.2.2.2.2.2.2.2.1; omega
    have b2 : (q : Int) < (p.bods.length : Int) := by have := NUM.out.2.2.2.2.2.1; omega
    have b3 : (0 : Int) ≤ (j : Int) := by omega
    have b4 : (j : Int) < ((bodyOf p q).length : Int) := by have := NUM.out.2.2.2.1; omega
    obtain ⟨xo, xr, xa, xb, xn⟩ := x
    simp only at y4 y5 y6 y7 y8
    refine regionMix wy (CP wy (fun _ => False)) 13 14 (by kernel_rfl) (by kernel_rfl) (fun _ _ d _ _ h => by cases d <;> exact h) (CP.drew _ _) ?_
    unfold CP
    dsimp only [List.take, List.drop]
    repeat (go_big_quiet_step (fail))
    refine wpQuiet_nil ?_
    clear hne y0 y1 y2 y3 y4 y5 y6 y7 y8 k0 k1 m0 d0 f0 dx0 dx1 dx2 dx3 dx4 b0 b1 b2 b3 b4 mf
    unfold wpListC
    go_wp2
    refine And.intro (fun x hc => CP.below (W := wy) (E := fun _ => False) ⟨x, hc⟩ ((Below.refl _ _).alloc (Nat.le_refl _) _)) ?_
    refine listC_late _ _ _ _ (by decide) ?_
    obtain ⟨Y, hY⟩ : ∃ Y, (wy.alloc (.cells #[.int .i64 xo, .int .i64 xr, .int .i64 xa, .int .i64 xb, .int .i64 xn] 43)).drew = Y := ⟨_, rfl⟩
    have kY : Below wy.heap.size wy Y := by subst hY; exact ((Below.refl _ _).alloc (Nat.le_refl _) _).drew
    have F8 := hidR (F6.out.keep kY)
    have K8 := hidR (K6.out.trans (kY.mono K6.out.size))
    have HY := hidR hY
    clear hY kY F6 K6
    go_wp2_with fail
    rw [HY.out]
    clear HY
    refine (implSets_any xo xr xa xb xn Y).mono ?_
    rintro e w6 ⟨v, rfl, hfr⟩
    obtain ⟨sv, cv, rfl, hb6, hsv⟩ := hfr.ints
    have F9 := hidR (F8.out.keep hb6)
    have K9 := hidR (K8.out.trans (hb6.mono K8.out.size))
    have SV := hidR hsv
    have hsl := setsL_len xo xr xb
    try simp only at T1
    clear hfr hb6 hsv F8 K8 IN
    generalize Plain.setsL xo xr xb = SL at T1 SV hsl ⊢
    have SLL := hidR hsl
    clear hsl
    go_wp2_with fail
    go_loopw [13] (fun i wr => ∃ r : Nat, r ≤ 4 ∧ i = .int .i64 r ∧ Fs bP bS bT w.heap.size hi w.heap.size hi' A.heap.size bT p1 (some ⟨gb, ob, none⟩) (some ⟨g, o, none⟩) s2 s3 t1 t2 t3 a1 a2 c1 c2 c3 e1 e2 e3 p D D' wr ∧ Ints wr sv SL ∧ Below w.heap.size w wr) (fun i _ => 4 - (intOf i).toNat)
    case atStart => exact ⟨0, Nat.zero_le _, rfl, F9.out, SV.out, K9.out⟩
    case round =>
     obtain ⟨r, hk4, rfl, hF, hS, hK⟩ := hrel
     clear F9 SV K9
     have F9 := hidR hF
     have SV := hidR hS
     have K9 := hidR hK
     clear hF hS hK
     obtain ⟨m0, -, m2, -, mz6⟩ := F9.out.sb
     obtain ⟨n0, n1, n2, -, nz6⟩ := F9.out.tb
     obtain ⟨k0, k1, -, kz7⟩ := F9.out.pb
     by_cases h4 : r < 4
     ·obtain ⟨g', o', s'', c'', es, hg', -, f1, -, fi⟩ := RecsR.thd F9.out.sr.1 F9.out.h2 (Below.refl _ _) TD0.out
      obtain ⟨h', i', r', e', es', hh', -, f1', -, fi'⟩ := RecsR.thd F9.out.tr.1 F9.out.h3 (Below.refl _ _) T5.out
      cases es
      subst es'
      obtain ⟨ga, oa, es, hga, fa⟩ := fi.atI (i := r) (by have := NUM.out.1; omega)
      obtain ⟨gc, oc, es', hgc, fc⟩ := fi'.atI (i := r) (by have := NUM.out.2.2.2.2.2.2.2.2.2.2; omega)
      subst es es'
      have b0 : (0 : Int) ≤ (r : Int) := by omega
      have b1 : (r : Int) < (td.regs.length : Int) := by have := NUM.out.1; omega
      have b2 : (r : Int) < (tz.regs.length : Int) := by have := NUM.out.2.2.2.2.2.2.2.2.2.2; omega
      have b3 : (r : Int) < 4 := by omega
      have b4 : (0 : Int) ≤ (q : Int) := by omega
      have b5 : (q : Int) < (D.ths.length : Int) := by have := NUM.out.2.2.2.2.2.2.2.2.2.1; omega
      have b6 : (q : Int) < (D'.ths.length : Int) := by have := NUM.out.2.2.2.2.2.2.2.2.2.1; have := T3.out; omega
      have hh2 := F9.out.h2
      have hh3 := F9.out.h3
      have TR := hidR (T1.out r)
      clear fi fi'
      generalize td.regs.getD r 0 = za at fa TR
      generalize tz.regs.getD r 0 = zc' at fc TR
      have hne := ext_ne wr
      have y0 := Ext.fit m0 mz6
      have y1 := Ext.fit n0 nz6
      have y2 := Ext.fit f1 hg'
      have y3 := Ext.fit f1' hh'
      have y4 := Ext.fit fa (by omega)
      have y5 := Ext.fit fc (by omega)
      clear hh2 hh3
      by_cases hz : za = zc'
      ·have hzz : (za != zc') = false := by simp [hz]
       clear hz
       go_wp2_with fail
       refine regionExt wr (by kernel_rfl) (by kernel_rfl) ?_
       repeat (go_big_quiet_step (first | fail))
       refine wpQuiet_nil ?_
       rintro w5 ⟨X5, rfl⟩
       obtain ⟨U, hU⟩ : ∃ U, X5.w = U := ⟨_, rfl⟩
       have hb5 := X5.b
       rw [hU] at hb5 ⊢
       have F10 := hidR (F9.out.keep hb5)
       have K10 := hidR (K9.out.trans (hb5.mono K9.out.size))
       have SV2 := hidR (SV.out.keepS hb5 (Nat.le_refl _))
       clear hU X5 hb5 hne y0 y1 y2 y3 y4 y5 m0 m2 n0 n1 n2 k0 k1 f1 f1' fa fc
       go_wp2
       go_roundw
       case rel => exact ⟨r + 1, by omega, by go_num, F10.out, SV2.out, K10.out⟩
       case measure => simp [intOf]; omega
      ·have hzz : (za != zc') = true := by simp [hz]
       have hmem := TR.out hz
       have CW : Hid (∀ X : Ext wr, Calls Tryz.prog 13 #[.slice sv SL.length cv, .int .i64 (r : Int)] X.w fun e w' => e = .returned (.bool true) ∧ Below X.w.heap.size X.w w') := fun X => by
        refine (within_any sv cv SL (r : Int) X.w (SV.out.keepS X.b (Nat.le_refl _)) (by have := SLL.out; omega)).mono ?_
        rintro e w2 ⟨rfl, hb⟩
        exact ⟨by rw [decide_eq_true hmem], hb⟩
       clear hz TR hmem
       go_wp2_with fail
       refine regionExt wr (by kernel_rfl) (by kernel_rfl) ?_
       repeat (go_big_quiet_step (first | (rename_i X; go_at_call 13; refine Calls.mono (CW.out X) ?_; rintro e w3 ⟨rfl, hb3⟩; exact ⟨rfl, X.on hb3⟩) | fail))
       refine wpQuiet_nil ?_
       rintro w5 ⟨X5, rfl⟩
       obtain ⟨U, hU⟩ : ∃ U, X5.w = U := ⟨_, rfl⟩
       have hb5 := X5.b
       rw [hU] at hb5 ⊢
       have F10 := hidR (F9.out.keep hb5)
       have K10 := hidR (K9.out.trans (hb5.mono K9.out.size))
       have SV2 := hidR (SV.out.keepS hb5 (Nat.le_refl _))
       clear hU X5 hb5 hne y0 y1 y2 y3 y4 y5 m0 m2 n0 n1 n2 k0 k1 f1 f1' fa fc CW
       go_wp2
       go_roundw
       case rel => exact ⟨r + 1, by omega, by go_num, F10.out, SV2.out, K10.out⟩
       case measure => simp [intOf]; omega
     ·have b3 : ¬ (r : Int) < 4 := by omega
      go_wp2_with fail
      refine (implSource_any p1 _ t1 t2 t3 a1 a2 e1 e2 e3 _ _ _ _ p D' wr F9.out.pr F9.out.tr F9.out.h1 F9.out.h3 FP.out FF.out).mono ?_
      rintro e w7 ⟨rfl, hb7⟩
      rw [T6.out]
      have F10 := F9.out.keep hb7
      have K10 := hidR (K9.out.trans (hb7.mono K9.out.size))
      clear m0 m2 n0 n1 n2 k0 k1 hb7
      obtain ⟨-, -, m2, -, -⟩ := F10.sb
      obtain ⟨-, -, n2, -, -⟩ := F10.tb
      obtain ⟨l1, l2⟩ := T2.out
      have l3 := NUM.out.2.2.2.2.2.2.2.2.1
      have l4 : (D.tr.length : Int) ≤ (D'.tr.length : Int) := by omega
      have l5 : (D'.tr.length : Int) ≤ (D.tr.length : Int) + 1 := by omega
      have l6 : IntKind.i64.wrap ((D.tr.length : Int) + 1) = (D.tr.length : Int) + 1 := IntWalk.i64_in _ ⟨by omega, by omega⟩
      clear l1 l2 l3
      go_wp2
      go_ret
      exact ⟨rfl, K10.out⟩
set_option maxRecDepth 100000 in
theorem liftedFnStep (os : Os) (started : os.Started) (H : Type) (enc : TypeId × Value → H) :
  ReturnsInHanded {} Tryz.checked os 3 .any (Rows.fnStepSpec.pre6 enc Tryz.prog Tryz.f3 Rows.fnStepRow.domain false) (Rows.fnStepSpec.post enc Tryz.prog Tryz.f3 false true false false) := by
 refine returnsInHanded_of_change (C := Tryz.checked) ownS started (by kernel_rfl) Tryz.func3
  (ChangeSpec.witness6 (enc := enc) (C := Tryz.checked) false ⟨#[], #[.slice none 0 0], []⟩ 8 (by kernel_rfl) (by kernel_rfl) (by kernel_rfl) (by kernel_rfl)) ?_
 intro W base args ds gs before hval0 hW hcnd _
 have hval : ∀ (j : Nat) t v, Tryz.f3.params[j]? = some t → args[j]? = some v → Value.okWide Tryz.prog W .any base t v := hval0
 have hW' := hW
 obtain ⟨p, q, hA0, hV, rfl, hfz, hnd⟩ := hW
 have hA : DataW.TrodAll enc Tryz.prog W 0 (fun _ => true) true Tryz.f3.params.toList args.toList ds p := hA0
 rw [Tryz.params3] at hA hval
 obtain ⟨v0, d0, hargs, rfl, h0⟩ := trodAll_one hA
 obtain rfl : args = #[v0] := by cases args; simp_all
 obtain ⟨rfl, rfl⟩ := trodVars_none hV
 have k0 := h0
 have lt0 : ∀ x ∈ p, x.block < W.heap.size := by obtain ⟨m, hm⟩ := k0; exact DataW.trod_lt m _ _ _ hm
 obtain ⟨s, n, c, rfl, hn, hB⟩ := bytes_read (hval 0 22 v0 rfl rfl) h0
 clear hA0 hval0
 refine (walkFnStep s n c W hB hn).mono fun e W' ⟨he, bel⟩ => ?_
 subst he
 exact ⟨_, rfl, _, _, _, [], _, [], hW', trodAll_mk1 (shut_bool Tryz.underlying4 _), trodAll_mk1 (Below.trod laidOutS (by kernel_rfl) (of_decide_eq_true (by kernel_rfl)) k0 bel lt0), rfl, bel.frame _, fun h => by cases h⟩
theorem fnStep_holds : Rows.FnStepSaid :=
 OpenClaim.holds_of_wide 3 Tryz.f3 rfl rfl rfl rfl rfl rfl rfl ⟨rfl, rfl, rfl, rfl, rfl⟩ rfl rfl rfl rfl rfl (by kernel_rfl) Tryz.func3 (by kernel_rfl)
  (of_decide_eq_true (by kernel_rfl)) (by unfold Func.isWrapper; first | (rw [if_pos (by decide +kernel)]; kernel_rfl) | (rw [if_neg (by decide +kernel)]; exact ⟨rfl, rfl⟩))
  (fun os started H enc _ => liftedFnStep os started H enc)
#print axioms fnStep_holds
end Go.Proofs.YteefnjngcnebpaaGreat
