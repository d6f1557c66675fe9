/- The laws' within: whether a number is in a row. Conditions: the row lies in memory as the reading says. SourceStep of the program. Conditions: program and source fit. Stuck of both sides. Conditions: program and source fit. -/
import Derived.Test.YtknffngbdakblaaGreatJG00
import Derived.Test.YtknffngbdakblaaGreatJG19
import Derived.Test.YtknffngbdakblaaGreatJG09
import Derived.Test.YtknffngbdakblaaGreatJG06
import Derived.Test.YtknffngbdakblaaGreatJG05
import Derived.Test.YtknffngbdakblaaGreatJG02
import Derived.Test.YtknffngbdakblaaGreatJG01
import Derived.Test.YtknffngbdakblaaGreatJG14
import Derived.Test.YtknffngbdakblaaGreatJG12
import Derived.Test.YtknffngbdakblaaGreatJSrcDup
import Derived.Test.YtknffngbdakblaaGreatJSrcOkS
namespace Go.Proofs.YtknffngbdakblaaGreat
section
set_option linter.unusedSimpArgs false
set_option linter.unusedVariables false
set_option maxRecDepth 100000
open Go.RowKit
set_option maxHeartbeats 2000000 in
theorem within_any (s : Option Addr) (c : Nat) (l : List Int) (x : Int) (w : World) (h : Ints w s l) (hl : l.length ≤ 1048576) :
  Calls Tryz.prog 22 #[.slice s l.length c, .int .i64 x] w fun e w' => e = .returned (.bool (decide (x ∈ l))) ∧ Below w.heap.size w w' := by
 have H : Hid (Ints w s l) := h
 clear h
 go_enter Tryz.func22, Tryz.ntmps22
 go_wp2
 go_loopw [5] (fun i wr => ∃ k m : Nat, k ≤ l.length ∧ i = .int .i64 k ∧ (∀ j, j < k → l.getD j 0 ≠ x) ∧ wr = w.drewN m) (fun i _ => l.length - (intOf i).toNat)
 case atStart => exact ⟨0, 0, Nat.zero_le _, rfl, fun j hj => absurd hj (Nat.not_lt_zero _), rfl⟩
 case round =>
  obtain ⟨k, m, hk, rfl, hj, rfl⟩ := hrel
  have HJ : Hid (∀ j, j < k → l.getD j 0 ≠ x) := hj
  clear hj
  have kb : Below w.heap.size w (w.drewN m) := ⟨rfl, rfl, rfl, Nat.le_refl _, fun _ _ => rfl⟩
  by_cases hlt : k < l.length
  ·obtain ⟨g, o, hs, hg, hc⟩ : ∃ g o, s = some ⟨g, o, none⟩ ∧ g < w.heap.size ∧ w.cell? ⟨g, o + k, none⟩ = some (.int .i64 (l.getD k 0)) := by
    rcases H.out with h | ⟨g, o, hs, hg, hc⟩
    ·rw [h] at hlt; simp at hlt
    ·exact ⟨g, o, hs, hg, hc k hlt⟩
   subst hs
   have hmem : l.getD k 0 ∈ l := by
    rw [List.getD_eq_getElem?_getD, List.getElem?_eq_getElem hlt]
    exact List.getElem_mem hlt
   generalize hy : l.getD k 0 = y at hc hmem
   have HY : Hid (l.getD k 0 = y) := hy
   have HM : Hid (y ∈ l) := hmem
   have KB : Hid (Below w.heap.size w (w.drewN m)) := kb
   clear hy hmem kb
   have b0 : (0 : Int) ≤ (k : Int) := by omega
   have b1 : (k : Int) < (l.length : Int) := by omega
   by_cases he : y = x
   ·have hd : (y == x) = true := by simp [he]
    have HE : Hid (y = x) := he
    clear he
    go_wp2
    go_ret
    refine ⟨?_, rfl, rfl, rfl, Nat.le_refl _, fun _ _ => rfl⟩
    rw [decide_eq_true (by rw [← HE.out]; exact HM.out)]
    rfl
   ·have hd : (y == x) = false := by simp [he]
    have HE : Hid (¬ y = x) := he
    clear he
    go_wp2
    go_roundw
    case rel =>
     refine ⟨k + 1, _, by omega, by go_num, ?_, rfl⟩
     intro j hj
     by_cases e : j < k
     ·exact HJ.out j e
     ·have : j = k := by omega
      subst this
      rw [HY.out]
      exact HE.out
    case measure => simp [intOf]; omega
  ·have hno : ¬ x ∈ l := by
    intro hx
    obtain ⟨i, hi, e⟩ := List.getElem_of_mem hx
    refine HJ.out i (by omega) ?_
    rw [List.getD_eq_getElem?_getD, List.getElem?_eq_getElem hi]
    exact e
   go_wp2
   go_ret
   exact ⟨by rw [decide_eq_false hno]; rfl, kb⟩
end
section
set_option linter.unusedSimpArgs false
set_option linter.unusedVariables false
set_option maxRecDepth 100000
open Go.RowKit
set_option maxHeartbeats 2000000 in
theorem implStep_bad (p1 p2 s1 s2 s3 : Option Addr) (a1 a2 c1 c2 c3 lo hi lo' hi' : Nat) (p : PD) (d : SD) (who : Int) (w : World) (h : ProgR w lo hi p1 p2 p) (h' : SrcR w lo' hi' s1 s2 s3 d) (hB : hi ≤ w.heap.size) (hB' : hi' ≤ w.heap.size) (hf : Fits p) (hf' : SFits d) (hy : srcB p d = false) :
  Calls Tryz.prog 21 #[.agg #[.slice p1 p.caps.length a1, .slice p2 p.bods.length a2], .agg #[.slice s1 d.ths.length c1, .slice s2 d.chs.length c2, .slice s3 d.tr.length c3], .int .i64 who] w (SStepQ w 1 ⟨[], [], []⟩) := by
 have HY := hidW hy
 clear hy
 obtain ⟨W, hW⟩ : ∃ W, ((w.alloc (.cells #[.slice p1 p.caps.length a1, .slice p2 p.bods.length a2] 27)).alloc (.cells #[.slice s1 d.ths.length c1, .slice s2 d.chs.length c2, .slice s3 d.tr.length c3] 32)).alloc (.cells #[.slice none 0 0, .slice none 0 0, .slice none 0 0] 32) = W := ⟨_, rfl⟩
 obtain ⟨bc, kW⟩ := br_new hW
 have HW := hidW hW
 have H := hidW h
 have H' := hidW h'
 have HF := hidW hf
 have HF' := hidW hf'
 have BC0 := hidW bc
 have KW := hidW kW
 have zW := kW.size
 obtain ⟨m0, m1, ⟨v0, v1, v2, fs, zs⟩, ⟨r0, r1, r2, fa, za⟩, ba, zz⟩ := bc
 clear hW kW h h' hf hf'
 go_enter Tryz.func21, Tryz.ntmps21
 go_wp2_with fail
 rw [HW.out]
 refine (implSource_any p1 p2 s1 s2 s3 a1 a2 c1 c2 c3 lo hi lo' hi' p d W (H.out.keep' (Keep.of_below KW.out hB)) (H'.out.keep (Keep.of_below KW.out hB')) (by omega) (by omega) HF.out HF'.out).mono ?_
 rintro e w1 ⟨rfl, hb1⟩
 rw [HY.out]
 have bc1 := BC0.out.below hb1 zz
 have BC := hidW bc1
 have K1 := hidW (KW.out.trans (hb1.mono (by omega)))
 have z1 := hb1.size
 clear hb1 m0 m1 v0 v1 v2 fs zs r0 r1 r2 fa za ba zz
 obtain ⟨m0, m1, ⟨v0, v1, v2, fs, zs⟩, ⟨r0, r1, r2, fa, za⟩, ba, zz⟩ := bc1
 go_wp2
 obtain ⟨Z, hZ, bz, oz, kz⟩ := BC.out.put (.slice none 0 0) (.slice none 0 0) (.slice none 0 0)
 refine bodyPost_ret (v := .tuple #[.agg #[.slice none 0 0, .slice none 0 0, .slice none 0 0], .int .i64 1]) ?_ rfl ?_
 ·rw [hZ]
  simp [results, Tryz.results21, go_sem, bz.c0, bz.c1, bz.c2]
 ·rw [hZ]
  exact ⟨none, 0, none, 0, none, 0, [], [], rfl, oz _ _ _ _ _ _ _ (OwnS.nil _ _), kz _ _ K1.out (by omega)⟩
set_option maxHeartbeats 4000000 in
theorem implStep_go (p1 p2 s1 s2 s3 : Option Addr) (a1 a2 c1 c2 c3 lo hi lo' hi' : Nat) (p : PD) (d : SD) (who : Int) (w : World) (h : ProgR w lo hi p1 p2 p) (h' : SrcR w lo' hi' s1 s2 s3 d) (hB : hi ≤ w.heap.size) (hB' : hi' ≤ w.heap.size) (hf : Fits p) (hf' : SFits d) (hy : srcB p d = true) :
  Calls Tryz.prog 21 #[.agg #[.slice p1 p.caps.length a1, .slice p2 p.bods.length a2], .agg #[.slice s1 d.ths.length c1, .slice s2 d.chs.length c2, .slice s3 d.tr.length c3], .int .i64 who] w (SStepQ w (stepK p d who) (stepS p d who)) := by
 obtain ⟨KK, hKK⟩ : ∃ K, stepK p d who = K := ⟨_, rfl⟩
 obtain ⟨DD, hDD⟩ : ∃ D, stepS p d who = D := ⟨_, rfl⟩
 rw [hKK, hDD]
 have HKK := hidW hKK
 have HDD := hidW hDD
 have HY := hidW hy
 have HR := hidW (right_of hy)
 clear hy hKK hDD
 obtain ⟨W, hW⟩ : ∃ W, ((w.alloc (.cells #[.slice p1 p.caps.length a1, .slice p2 p.bods.length a2] 27)).alloc (.cells #[.slice s1 d.ths.length c1, .slice s2 d.chs.length c2, .slice s3 d.tr.length c3] 32)).alloc (.cells #[.slice none 0 0, .slice none 0 0, .slice none 0 0] 32) = W := ⟨_, rfl⟩
 obtain ⟨bc, kW⟩ := br_new hW
 have HW := hidW hW
 have H := hidW h
 have H' := hidW h'
 have HF := hidW hf
 have HF' := hidW hf'
 have BC0 := hidW bc
 have KW := hidW kW
 have zW := kW.size
 obtain ⟨m0, m1, ⟨v0, v1, v2, fs, zs⟩, ⟨r0, r1, r2, fa, za⟩, ba, zz⟩ := bc
 clear hW kW h h' hf hf'
 go_enter Tryz.func21, Tryz.ntmps21
 go_wp2_with fail
 rw [HW.out]
 refine (implSource_any p1 p2 s1 s2 s3 a1 a2 c1 c2 c3 lo hi lo' hi' p d W (H.out.keep' (Keep.of_below KW.out hB)) (H'.out.keep (Keep.of_below KW.out hB')) (by omega) (by omega) HF.out HF'.out).mono ?_
 rintro e w1 ⟨rfl, hb1⟩
 rw [HY.out]
 have bc1 := BC0.out.below hb1 zz
 have BC := hidW bc1
 have K1 := hidW (KW.out.trans (hb1.mono (by omega)))
 have z1 := hb1.size
 clear hb1 m0 m1 v0 v1 v2 fs zs r0 r1 r2 fa za ba zz
 obtain ⟨m0, m1, ⟨v0, v1, v2, fs, zs⟩, ⟨r0, r1, r2, fa, za⟩, ba, zz⟩ := bc1
 go_wp2_with fail
 refine (implDup_any s1 s2 s3 c1 c2 c3 lo' hi' d w1 (H'.out.keep (Keep.of_below K1.out hB')) (by omega) HF'.out).mono ?_
 rintro e w5 ⟨u1, u2, u3, L1, L2, rfl, ho5, hb5⟩
 obtain ⟨t1, e1, t2, e2, t3, e3, rfl, rfl, rfl, -⟩ := ho5.src
 have O5 := hidW ho5
 have z5 := hb5.size
 obtain ⟨W6, hW6, b6, k6, z6⟩ := BoF.new w5 (.slice t1 d.ths.length e1) (.slice t2 d.chs.length e2) (.slice t3 d.tr.length e3) 32
 have HW6 := hidW hW6
 have HX6 := hidW (show BxS W6 w5.heap.size from ⟨_, _, by rw [← hW6]; exact heap_alloc_new _ _⟩)
 have B6 := hidW b6
 have K56 := hidW k6
 have K16 := hidW (hb5.trans (k6.mono z5))
 have zz1 := zz
 have bc5 := BC.out.below hb5 zz
 clear ho5 hb5 hW6 b6 k6 m0 m1 v0 v1 v2 fs zs r0 r1 r2 fa za ba zz
 obtain ⟨m0, m1, ⟨v0, v1, v2, fs, zs⟩, ⟨r0, r1, r2, fa, za⟩, ba, zz⟩ := bc5
 have zp : w.heap.size < w5.heap.size := by omega
 have zp1 : w.heap.size + 1 < w5.heap.size := by omega
 go_wp2_with fail
 rw [HW6.out]
 refine (turnIn_any p1 p2 a1 a2 lo hi w1.heap.size w5.heap.size p _ _ _ L1 L2 d who W6 (H.out.keep' (Keep.of_below (K1.out.trans (K16.out.mono (by omega))) hB)) (by omega) (O5.out.keep (fun x _ hx => K56.out.block x hx)) B6.out HX6.out (by omega) HR.out (by omega)).mono ?_
 rintro e w7 ⟨rfl, s4, n4, c4, M1, M2, tq⟩
 rw [HDD.out] at tq
 rw [HKK.out]
 obtain ⟨x1, y1, x2, y2, x3, y3, q1, q2, q3, -⟩ := tq.o.src
 have tqs := tq.s
 have tqo := tq.o
 have tqb := tq.b
 rw [q1, q2, q3] at tqs tqo
 have TQO := hidW tqo
 have K17 := hidW (K16.out.trans tqb)
 have K7 := hidW (K1.out.trans (K17.out.mono (by omega)))
 have bc7 := BC.out.below K17.out zz1
 have BC7 := hidW bc7
 have z7 := K17.out.size
 clear tq tqo tqb q1 q2 q3 m0 m1 v0 v1 v2 fs zs r0 r1 r2 fa za ba zz
 obtain ⟨m0, m1, ⟨v0, v1, v2, fs, zs⟩, ⟨r0, r1, r2, fa, za⟩, ba, zz⟩ := bc7
 obtain ⟨o0, o1, o2, of, oz0⟩ := tqs
 go_wp2
 obtain ⟨Z, hZ, bz, oz, kz⟩ := BC7.out.put (.slice x1 DD.ths.length y1) (.slice x2 DD.chs.length y2) (.slice x3 DD.tr.length y3)
 refine bodyPost_ret (v := .tuple #[.agg #[.slice x1 DD.ths.length y1, .slice x2 DD.chs.length y2, .slice x3 DD.tr.length y3], .int .i64 KK]) ?_ rfl ?_
 ·rw [hZ]
  simp [results, Tryz.results21, go_sem, bz.c0, bz.c1, bz.c2]
 ·rw [hZ]
  exact ⟨_, _, _, _, _, _, M1, M2, rfl, oz _ _ _ _ _ _ _ (TQO.out.low (by omega)), kz _ _ K7.out (by omega)⟩
theorem implStep_any (p1 p2 s1 s2 s3 : Option Addr) (a1 a2 c1 c2 c3 lo hi lo' hi' : Nat) (p : PD) (d : SD) (who : Int) (w : World) (h : ProgR w lo hi p1 p2 p) (h' : SrcR w lo' hi' s1 s2 s3 d) (hB : hi ≤ w.heap.size) (hB' : hi' ≤ w.heap.size) (hf : Fits p) (hf' : SFits d) :
  Calls Tryz.prog 21 #[.agg #[.slice p1 p.caps.length a1, .slice p2 p.bods.length a2], .agg #[.slice s1 d.ths.length c1, .slice s2 d.chs.length c2, .slice s3 d.tr.length c3], .int .i64 who] w (SStepQ w (stepKb p d who) (stepSb p d who)) := by
 cases hy : srcB p d with
 | false =>
  have e1 : stepKb p d who = 1 := by unfold stepKb; rw [hy]; rfl
  have e2 : stepSb p d who = ⟨[], [], []⟩ := by unfold stepSb; rw [hy]; rfl
  rw [e1, e2]
  exact implStep_bad p1 p2 s1 s2 s3 a1 a2 c1 c2 c3 lo hi lo' hi' p d who w h h' hB hB' hf hf' hy
 | true =>
  have e1 : stepKb p d who = stepK p d who := by unfold stepKb; rw [hy]; rfl
  have e2 : stepSb p d who = stepS p d who := by unfold stepSb; rw [hy]; rfl
  rw [e1, e2]
  exact implStep_go p1 p2 s1 s2 s3 a1 a2 c1 c2 c3 lo hi lo' hi' p d who w h h' hB hB' hf hf' hy
end
section
set_option linter.unusedSimpArgs false
set_option linter.unusedVariables false
set_option maxRecDepth 100000
open Go.RowKit
theorem stu1 {p : PD} {d : SD} (h : srcB p d = false) : stuB p d = false := by unfold stuB; rw [h]; rfl
theorem stu2 {p : PD} {d : SD} (h : runsB d.ths = false) : stuB p d = false := by unfold stuB; rw [h]; simp
theorem stu3 {p : PD} {d : SD} (h : srcB p d = true) (h2 : runsB d.ths = true) : stuB p d = !(decide (ablB p d ≠ [])) := by
 unfold stuB
 rw [h, h2]
 by_cases e : ablB p d = [] <;> simp [e]
set_option maxHeartbeats 4000000 in
theorem implStuck_any (p1 p2 s1 s2 s3 : Option Addr) (a1 a2 c1 c2 c3 lo hi lo' hi' : Nat) (p : PD) (d : SD) (w : World) (hP : ProgR w lo hi p1 p2 p) (hS : SrcR w lo' hi' s1 s2 s3 d) (hB : hi ≤ w.heap.size) (hB' : hi' ≤ w.heap.size) (hf : Fits p) (hf' : SFits d) :
  Calls Tryz.prog 17 #[.agg #[.slice p1 p.caps.length a1, .slice p2 p.bods.length a2], .agg #[.slice s1 d.ths.length c1, .slice s2 d.chs.length c2, .slice s3 d.tr.length c3]] w fun e w' => e = .returned (.bool (stuB p d)) ∧ Below w.heap.size w w' := by
 obtain ⟨W, hW⟩ : ∃ W, (w.alloc (.cells #[.slice p1 p.caps.length a1, .slice p2 p.bods.length a2] 27)).alloc (.cells #[.slice s1 d.ths.length c1, .slice s2 d.chs.length c2, .slice s3 d.tr.length c3] 32) = W := ⟨_, rfl⟩
 have b2 := b2_new hW
 have BW := hidW b2
 have HW := hidW hW
 have H := hidW hP
 have H' := hidW hS
 have HF := hidW hf
 have HF' := hidW hf'
 have zW := b2.z
 obtain ⟨R, hR⟩ : ∃ R, stuB p d = R := ⟨_, rfl⟩
 have ER := hidW hR
 rw [hR]
 obtain ⟨x0, x1, y0, y1, y2, kW, -⟩ := b2
 have KW := hidW kW
 have zp : w.heap.size < W.heap.size := by omega
 have zs : w.heap.size + 1 < W.heap.size := by omega
 clear hW hP hS hf hf' hR kW
 go_enter Tryz.func17, Tryz.ntmps17
 go_wp2_with fail
 rw [HW.out]
 refine (implSource_any p1 p2 s1 s2 s3 a1 a2 c1 c2 c3 lo hi lo' hi' p d W (H.out.keep' (Keep.of_below KW.out hB)) (H'.out.keep (Keep.of_below KW.out hB')) (by omega) (by omega) HF.out HF'.out).mono ?_
 rintro e w1 ⟨rfl, hb1⟩
 have B1 := hidW (BW.out.below hb1 zW)
 clear hb1 x0 x1 y0 y1 y2
 obtain ⟨x0, x1, y0, y1, y2, k1, z1⟩ := B1.out
 have zp1 : w.heap.size < w1.heap.size := by omega
 have zs1 : w.heap.size + 1 < w1.heap.size := by omega
 cases hy : srcB p d with
 | false =>
  have E := hidW (show R = false from by rw [← ER.out]; exact stu1 hy)
  clear hy
  go_wp2
  go_ret
  rw [E.out]
  exact ⟨rfl, B1.out.k⟩
 | true =>
  have HY := hidW hy
  clear hy
  go_wp2_with fail
  refine (anyRuns_any s1 c1 lo' hi' d.ths w1 (H'.out.keep (Keep.of_below k1 hB')).1 (by omega) HF'.out.1.1).mono ?_
  rintro e w2 ⟨rfl, hb2⟩
  have B3 := hidW (B1.out.below hb2 z1)
  clear hb2 x0 x1 y0 y1 y2 k1
  obtain ⟨x0, x1, y0, y1, y2, k2, z2⟩ := B3.out
  have zp2 : w.heap.size < w2.heap.size := by omega
  have zs2 : w.heap.size + 1 < w2.heap.size := by omega
  cases hr : runsB d.ths with
  | false =>
   have E := hidW (show R = false from by rw [← ER.out]; exact stu2 hr)
   clear hr
   go_wp2
   go_ret
   rw [E.out]
   exact ⟨rfl, B3.out.k⟩
  | true =>
   have E := hidW (show R = !(decide (ablB p d ≠ [])) from by rw [← ER.out]; exact stu3 HY.out hr)
   clear hr
   go_wp2_with fail
   refine (anyAble_any p1 p2 s1 s2 s3 a1 a2 c1 c2 c3 lo hi lo' hi' p d w2 (H.out.keep' (Keep.of_below k2 hB)) (H'.out.keep (Keep.of_below k2 hB')) (by omega) (by omega) HF.out HF'.out).mono ?_
   rintro e w3 ⟨rfl, hb3⟩
   have B4 := hidW (B3.out.below hb3 z2)
   generalize decide (ablB p d ≠ []) = q at E ⊢
   clear hb3 x0 x1 y0 y1 y2 k2
   go_wp2
   go_ret
   rw [E.out]
   exact ⟨rfl, B4.out.k⟩
set_option maxHeartbeats 4000000 in
theorem specStuck_any (p1 p2 s1 s2 s3 : Option Addr) (a1 a2 c1 c2 c3 lo hi lo' hi' : Nat) (p : PD) (d : SD) (w : World) (hP : ProgR w lo hi p1 p2 p) (hS : SrcR w lo' hi' s1 s2 s3 d) (hB : hi ≤ w.heap.size) (hB' : hi' ≤ w.heap.size) (hf : Fits p) (hf' : SFits d) :
  Calls Tryz.prog 19 #[.agg #[.slice p1 p.caps.length a1, .slice p2 p.bods.length a2], .agg #[.slice s1 d.ths.length c1, .slice s2 d.chs.length c2, .slice s3 d.tr.length c3]] w fun e w' => e = .returned (.bool (stuB p d)) ∧ Below w.heap.size w w' := by
 obtain ⟨W, hW⟩ : ∃ W, (w.alloc (.cells #[.slice p1 p.caps.length a1, .slice p2 p.bods.length a2] 27)).alloc (.cells #[.slice s1 d.ths.length c1, .slice s2 d.chs.length c2, .slice s3 d.tr.length c3] 32) = W := ⟨_, rfl⟩
 have b2 := b2_new hW
 have BW := hidW b2
 have HW := hidW hW
 have H := hidW hP
 have H' := hidW hS
 have HF := hidW hf
 have HF' := hidW hf'
 have hl : d.ths.length ≤ 1048576 := hf'.1.1
 have zW := b2.z
 obtain ⟨R, hR⟩ : ∃ R, stuB p d = R := ⟨_, rfl⟩
 have ER := hidW hR
 rw [hR]
 obtain ⟨x0, x1, y0, y1, y2, kW, -⟩ := b2
 have KW := hidW kW
 have zp : w.heap.size < W.heap.size := by omega
 have zs : w.heap.size + 1 < W.heap.size := by omega
 clear hW hP hS hf hf' hR kW
 go_enter Tryz.func19, Tryz.ntmps19
 go_wp2_with fail
 rw [HW.out]
 refine (specSource_any p1 p2 s1 s2 s3 a1 a2 c1 c2 c3 lo hi lo' hi' p d W (H.out.keep' (Keep.of_below KW.out hB)) (H'.out.keep (Keep.of_below KW.out hB')) (by omega) (by omega) HF.out HF'.out).mono ?_
 rintro e w1 ⟨rfl, hb1⟩
 have B1 := hidW (BW.out.below hb1 zW)
 clear hb1 x0 x1 y0 y1 y2
 obtain ⟨x0, x1, y0, y1, y2, k1, z1⟩ := B1.out
 have zp1 : w.heap.size < w1.heap.size := by omega
 have zs1 : w.heap.size + 1 < w1.heap.size := by omega
 cases hy : srcB p d with
 | false =>
  have E := hidW (show R = false from by rw [← ER.out]; exact stu1 hy)
  clear hy
  go_wp2
  go_ret
  rw [E.out]
  exact ⟨rfl, B1.out.k⟩
 | true =>
  have HY := hidW hy
  clear hy
  go_wp2_with fail
  refine (specAble_any p1 p2 s1 s2 s3 a1 a2 c1 c2 c3 lo hi lo' hi' p d w1 (H.out.keep' (Keep.of_below k1 hB)) (H'.out.keep (Keep.of_below k1 hB')) (by omega) (by omega) HF.out HF'.out).mono ?_
  rintro e w2 ⟨v, rfl, on, hb2⟩
  obtain ⟨su, cu, eu⟩ := on.sl
  subst eu
  have B3 := hidW (B1.out.below hb2 z1)
  clear hb2 x0 x1 y0 y1 y2 k1 on
  obtain ⟨x0, x1, y0, y1, y2, k2, z2⟩ := B3.out
  have zp2 : w.heap.size < w2.heap.size := by omega
  have zs2 : w.heap.size + 1 < w2.heap.size := by omega
  by_cases ha : ablB p d = []
  ·have E2 := hidW (show runsB d.ths = R from by rw [← ER.out]; unfold stuB; rw [HY.out, ha]; simp)
   rw [ha]
   clear ha k2 x0 x1 y0 y1 y2
   go_wp2_with fail
   go_loopw [5] (fun i wr => ∃ k : Nat, k ≤ d.ths.length ∧ i = .int .i64 k ∧ B2 w wr (.slice p1 p.caps.length a1) (.slice p2 p.bods.length a2) (.slice s1 d.ths.length c1) (.slice s2 d.chs.length c2) (.slice s3 d.tr.length c3) ∧ (∀ (i : Nat) (t : TD), i < k → d.ths[i]? = some t → ¬ t.st = 0)) (fun i _ => d.ths.length - (intOf i).toNat)
   case atStart => exact ⟨0, Nat.zero_le _, rfl, B3.out, fun i t h => absurd h (Nat.not_lt_zero _)⟩
   case round =>
    obtain ⟨k, hk, rfl, bb, hno⟩ := hrel
    have BB := hidW bb
    have HNO := hidW hno
    obtain ⟨x0, x1, y0, y1, y2, kb, zr⟩ := bb
    clear hno
    by_cases hlt : k < d.ths.length
    ·have hki : (k : Int) < (d.ths.length : Int) := by omega
     have b0 : (0 : Int) ≤ (k : Int) := by omega
     obtain ⟨t, ht⟩ : ∃ t, d.ths[k]? = some t := ⟨_, List.getElem?_eq_getElem hlt⟩
     obtain ⟨g, o, s', c', es, hg, f0, f1, f2, -⟩ := RecsR.thr H'.out.1 hB' kb ht
     subst es
     have HT := hidW ht
     clear ht kb
     obtain ⟨tp, tr, ts⟩ := t
     simp only at f0 f1 f2
     by_cases h0 : ts = 0
     ·subst h0
      have E := hidW (show R = true from by rw [← E2.out]; exact runs_yes HT.out rfl)
      go_wp2
      go_ret
      rw [E.out]
      exact ⟨rfl, BB.out.k⟩
     ·have h00 : (ts == 0) = false := by simp [h0]
      go_wp2
      go_roundw
      case rel => exact ⟨k + 1, by omega, by go_num, BB.out, fun i t hi ht => by
       by_cases e : i = k
       ·subst e
        rw [HT.out] at ht
        injection ht with ht
        subst ht
        exact h0
       ·exact HNO.out i t (by omega) ht⟩
      case measure => simp [intOf]; omega
    ·have E := hidW (show R = false from by rw [← E2.out]; exact runs_no (fun i t ht => HNO.out i t (by have := (List.getElem?_eq_some_iff.1 ht).1; omega) ht))
     go_wp2
     go_ret
     rw [E.out]
     exact ⟨rfl, BB.out.k⟩
  ·have E := hidW (show R = false from by rw [← ER.out]; unfold stuB; simp [ha])
   have hpos : (0 : Int) < ((ablB p d).length : Int) := by
    have := List.length_pos_iff.2 ha
    omega
   clear ha
   go_wp2
   go_ret
   rw [E.out]
   exact ⟨rfl, B3.out.k⟩
end
end Go.Proofs.YtknffngbdakblaaGreat
