/- SourceOk of the program, whole. Conditions: lists of at most 1048576. SourceStep of the program. Conditions: program and source fit. A step keeps a source small. -/
import Derived.Test.YtpmopmgpheefeaaGreatJG00
import Derived.Test.YtpmopmgpheefeaaGreatJSrcOk
import Derived.Test.YtpmopmgpheefeaaGreatJG04
import Derived.Test.YtpmopmgpheefeaaGreatJProgOk2
import Derived.Test.YtpmopmgpheefeaaGreatJProgOk
import Derived.Test.YtpmopmgpheefeaaGreatJProgCopy
import Derived.Test.YtpmopmgpheefeaaGreatJSrcOk2
import Derived.Test.YtpmopmgpheefeaaGreatJStepIm11
import Derived.Test.YtpmopmgpheefeaaGreatJG06
import Derived.Test.YtpmopmgpheefeaaGreatJG13
namespace Go.Proofs.YtpmopmgpheefeaaGreat
section
set_option linter.unusedSimpArgs false
set_option linter.unusedVariables false
set_option maxRecDepth 100000
open Go.RowKit
theorem src1 {p : PD} {d : SD} (h : progB p = false) : srcB p d = false := by unfold srcB; rw [h]; rfl
theorem src2 {p : PD} {d : SD} (h : thsB d.ths p.bods = false) : srcB p d = false := by unfold srcB; rw [h]; simp
theorem src3 {p : PD} {d : SD} (h : chsB d.chs p.caps = false) : srcB p d = false := by unfold srcB; rw [h]; simp
theorem src4 {p : PD} {d : SD} (h1 : progB p = true) (h2 : thsB d.ths p.bods = true) (h3 : chsB d.chs p.caps = true) : srcB p d = trB d.tr p.bods.length := by unfold srcB; rw [h1, h2, h3]; rfl
theorem fiveB {w W : World} {a b c d e : Value} {T T' : TypeId} (hW : (w.alloc (.cells #[a, b] T)).alloc (.cells #[c, d, e] T') = W) : Below w.heap.size w W ∧ w.heap.size < W.heap.size ∧ w.heap.size + 1 < W.heap.size ∧ (W.cell? ⟨w.heap.size, 0, none⟩ = some a ∧ W.cell? ⟨w.heap.size, 1, none⟩ = some b) ∧ W.cell? ⟨w.heap.size + 1, 0, none⟩ = some c ∧ W.cell? ⟨w.heap.size + 1, 1, none⟩ = some d ∧ W.cell? ⟨w.heap.size + 1, 2, none⟩ = some e := by
 subst hW
 exact ⟨((Below.refl _ _).alloc (Nat.le_refl _) _).alloc (by simp) _, by simp; omega, by simp, ⟨by simp [go_sem], by simp [go_sem]⟩, by simp [go_sem], by simp [go_sem], by simp [go_sem]⟩
set_option maxRecDepth 100000 in
set_option maxHeartbeats 4000000 in
theorem implSource_any (p1 p2 s1 s2 s3 : Option Addr) (a1 a2 c1 c2 c3 lo hi lo' hi' : Nat) (p : PD) (d : SD) (w : World) (h : ProgR w lo hi p1 p2 p) (h' : SrcR w lo' hi' s1 s2 s3 d) (hB : hi ≤ w.heap.size) (hB' : hi' ≤ w.heap.size) (hf : Fits p) (hf' : SFits d) :
  Calls Tryz.prog 29 #[.agg #[.slice p1 p.caps.length a1, .slice p2 p.bods.length a2], .agg #[.slice s1 d.ths.length c1, .slice s2 d.chs.length c2, .slice s3 d.tr.length c3]] w fun e w' => e = .returned (.bool (srcB p d)) ∧ Below w.heap.size w w' := by
 have H : Hid (ProgR w lo hi p1 p2 p) := h
 have H' : Hid (SrcR w lo' hi' s1 s2 s3 d) := h'
 have FP : Hid (Fits p) := hf
 have FS : Hid (SFits d) := hf'
 have n1 := hf.2.1
 have n2 := hf.1
 have n3 := hf'.2.2
 clear h h' hf hf'
 go_enter Tryz.func29, Tryz.ntmps29
 go_wp2_with fail
 obtain ⟨W, hW⟩ : ∃ W, (w.alloc (.cells #[.slice p1 p.caps.length a1, .slice p2 p.bods.length a2] 42)).alloc (.cells #[.slice s1 d.ths.length c1, .slice s2 d.chs.length c2, .slice s3 d.tr.length c3] 37) = W := ⟨_, rfl⟩
 obtain ⟨ka, z0, z1, ⟨x0, x1⟩, y0, y1, y2⟩ := fiveB hW
 rw [hW]
 clear hW
 have K : Hid (Below w.heap.size w W) := ka
 clear ka
 refine (implProg_any p1 p2 a1 a2 lo hi p W (H.out.keep' (Keep.of_below K.out hB)) (by omega) FP.out).mono ?_
 rintro e w1 ⟨rfl, hb1⟩
 have K1 : Hid (Below w.heap.size w w1) := K.out.trans (hb1.mono (by omega))
 have x0' := (hb1.cell (p := ⟨w.heap.size, 0, none⟩) z0).trans x0
 have x1' := (hb1.cell (p := ⟨w.heap.size, 1, none⟩) z0).trans x1
 have y0' := (hb1.cell (p := ⟨w.heap.size + 1, 0, none⟩) z1).trans y0
 have y1' := (hb1.cell (p := ⟨w.heap.size + 1, 1, none⟩) z1).trans y1
 have y2' := (hb1.cell (p := ⟨w.heap.size + 1, 2, none⟩) z1).trans y2
 have zs := hb1.size
 have z0' : w.heap.size < w1.heap.size := by omega
 have z1' : w.heap.size + 1 < w1.heap.size := by omega
 clear x0 x1 y0 y1 y2 hb1 K z0 z1 zs
 cases hp : progB p
 ·have F : Hid (srcB p d = false) := src1 hp
  clear hp
  go_wp2
  go_ret
  exact ⟨by rw [F.out]; rfl, K1.out⟩
 have HP : Hid (progB p = true) := hp
 clear hp
 go_wp2_with fail
 refine (threadsOk_any s1 p2 c1 a2 lo' hi' lo hi d.ths p.bods w1 (H'.out.keep (Keep.of_below K1.out hB')).1 (H.out.keep' (Keep.of_below K1.out hB)).2 (by omega) (by omega) FS.out.1.1 FS.out.1.2 FP.out.2.1 FP.out.2.2).mono ?_
 rintro e w2 ⟨rfl, hb2⟩
 have K2 : Hid (Below w.heap.size w w2) := K1.out.trans (hb2.mono (by omega))
 have x0 := (hb2.cell (p := ⟨w.heap.size, 0, none⟩) z0').trans x0'
 have x1 := (hb2.cell (p := ⟨w.heap.size, 1, none⟩) z0').trans x1'
 have y1 := (hb2.cell (p := ⟨w.heap.size + 1, 1, none⟩) z1').trans y1'
 have y2 := (hb2.cell (p := ⟨w.heap.size + 1, 2, none⟩) z1').trans y2'
 have zs := hb2.size
 have z0 : w.heap.size < w2.heap.size := by omega
 have z1 : w.heap.size + 1 < w2.heap.size := by omega
 clear x0' x1' y0' y1' y2' hb2 K1 z0' z1' zs
 cases ht : thsB d.ths p.bods
 ·have F : Hid (srcB p d = false) := src2 ht
  clear ht
  go_wp2
  go_ret
  exact ⟨by rw [F.out]; rfl, K2.out⟩
 have HTs : Hid (thsB d.ths p.bods = true) := ht
 clear ht
 go_wp2_with fail
 refine (chansOk_any s2 p1 c2 a1 lo' hi' lo hi d.chs p.caps w2 (H'.out.keep (Keep.of_below K2.out hB')).2.1 (H.out.keep' (Keep.of_below K2.out hB)).1 (by omega) (by omega) FS.out.2.1.1 FS.out.2.1.2 FP.out.1).mono ?_
 rintro e w3 ⟨rfl, hb3⟩
 have K3 : Hid (Below w.heap.size w w3) := K2.out.trans (hb3.mono (by omega))
 have x1' := (hb3.cell (p := ⟨w.heap.size, 1, none⟩) z0).trans x1
 have y2' := (hb3.cell (p := ⟨w.heap.size + 1, 2, none⟩) z1).trans y2
 have zs := hb3.size
 have z0' : w.heap.size < w3.heap.size := by omega
 have z1' : w.heap.size + 1 < w3.heap.size := by omega
 clear x0 x1 y1 y2 hb3 K2 z0 z1 zs
 cases hc : chsB d.chs p.caps
 ·have F : Hid (srcB p d = false) := src3 hc
  clear hc
  go_wp2
  go_ret
  exact ⟨by rw [F.out]; rfl, K3.out⟩
 have F : Hid (srcB p d = trB d.tr p.bods.length) := src4 HP.out HTs.out hc
 clear hc
 go_wp2_with fail
 refine (traceOk_any s3 c3 lo' hi' p.bods.length d.tr w3 (H'.out.keep (Keep.of_below K3.out hB')).2.2 (by omega) n3 n1).mono ?_
 rintro e w4 ⟨rfl, hb4⟩
 have K4 : Hid (Below w.heap.size w w4) := K3.out.trans (hb4.mono (by omega))
 clear x1' y2' hb4
 go_wp2
 go_ret
 exact ⟨by rw [F.out]; rfl, K4.out⟩
end
section
set_option linter.unusedSimpArgs false
set_option linter.unusedVariables false
set_option maxRecDepth 100000
open Go.RowKit
set_option maxHeartbeats 2000000 in
theorem implStep_bad (p1 p2 s1 s2 s3 : Option Addr) (a1 a2 c1 c2 c3 lo hi lo' hi' : Nat) (p : PD) (d : SD) (who : Int) (w : World) (h : ProgR w lo hi p1 p2 p) (h' : SrcR w lo' hi' s1 s2 s3 d) (hB : hi ≤ w.heap.size) (hB' : hi' ≤ w.heap.size) (hf : Fits p) (hf' : SFits d) (hy : srcB p d = false) :
  Calls Tryz.prog 9 #[.agg #[.slice p1 p.caps.length a1, .slice p2 p.bods.length a2], .agg #[.slice s1 d.ths.length c1, .slice s2 d.chs.length c2, .slice s3 d.tr.length c3], .int .i64 who] w (SStepQ w 1 ⟨[], [], []⟩) := by
 have HY := hidW hy
 clear hy
 obtain ⟨W, hW⟩ : ∃ W, ((w.alloc (.cells #[.slice p1 p.caps.length a1, .slice p2 p.bods.length a2] 42)).alloc (.cells #[.slice s1 d.ths.length c1, .slice s2 d.chs.length c2, .slice s3 d.tr.length c3] 37)).alloc (.cells #[.slice none 0 0, .slice none 0 0, .slice none 0 0] 37) = W := ⟨_, rfl⟩
 obtain ⟨bc, kW⟩ := br_new hW
 have HW := hidW hW
 have H := hidW h
 have H' := hidW h'
 have HF := hidW hf
 have HF' := hidW hf'
 have BC0 := hidW bc
 have KW := hidW kW
 have zW := kW.size
 obtain ⟨m0, m1, ⟨v0, v1, v2, fs, zs⟩, ⟨r0, r1, r2, fa, za⟩, ba, zz⟩ := bc
 clear hW kW h h' hf hf'
 go_enter Tryz.func9, Tryz.ntmps9
 go_wp2_with fail
 rw [HW.out]
 refine (implSource_any p1 p2 s1 s2 s3 a1 a2 c1 c2 c3 lo hi lo' hi' p d W (H.out.keep' (Keep.of_below KW.out hB)) (H'.out.keep (Keep.of_below KW.out hB')) (by omega) (by omega) HF.out HF'.out).mono ?_
 rintro e w1 ⟨rfl, hb1⟩
 rw [HY.out]
 have bc1 := BC0.out.below hb1 zz
 have BC := hidW bc1
 have K1 := hidW (KW.out.trans (hb1.mono (by omega)))
 have z1 := hb1.size
 clear hb1 m0 m1 v0 v1 v2 fs zs r0 r1 r2 fa za ba zz
 obtain ⟨m0, m1, ⟨v0, v1, v2, fs, zs⟩, ⟨r0, r1, r2, fa, za⟩, ba, zz⟩ := bc1
 go_wp2
 obtain ⟨Z, hZ, bz, oz, kz⟩ := BC.out.put (.slice none 0 0) (.slice none 0 0) (.slice none 0 0)
 refine bodyPost_ret (v := .tuple #[.agg #[.slice none 0 0, .slice none 0 0, .slice none 0 0], .int .i64 1]) ?_ rfl ?_
 ·rw [hZ]
  simp [results, Tryz.results9, go_sem, bz.c0, bz.c1, bz.c2]
 ·rw [hZ]
  exact ⟨none, 0, none, 0, none, 0, [], [], rfl, oz _ _ _ _ _ _ _ (OwnS.nil _ _), kz _ _ K1.out (by omega)⟩
set_option maxHeartbeats 4000000 in
theorem implStep_go (p1 p2 s1 s2 s3 : Option Addr) (a1 a2 c1 c2 c3 lo hi lo' hi' : Nat) (p : PD) (d : SD) (who : Int) (w : World) (h : ProgR w lo hi p1 p2 p) (h' : SrcR w lo' hi' s1 s2 s3 d) (hB : hi ≤ w.heap.size) (hB' : hi' ≤ w.heap.size) (hf : Fits p) (hf' : SFits d) (hy : srcB p d = true) :
  Calls Tryz.prog 9 #[.agg #[.slice p1 p.caps.length a1, .slice p2 p.bods.length a2], .agg #[.slice s1 d.ths.length c1, .slice s2 d.chs.length c2, .slice s3 d.tr.length c3], .int .i64 who] w (SStepQ w (stepK p d who) (stepS p d who)) := by
 obtain ⟨KK, hKK⟩ : ∃ K, stepK p d who = K := ⟨_, rfl⟩
 obtain ⟨DD, hDD⟩ : ∃ D, stepS p d who = D := ⟨_, rfl⟩
 rw [hKK, hDD]
 have HKK := hidW hKK
 have HDD := hidW hDD
 have HY := hidW hy
 have HR := hidW (right_of hy)
 clear hy hKK hDD
 obtain ⟨W, hW⟩ : ∃ W, ((w.alloc (.cells #[.slice p1 p.caps.length a1, .slice p2 p.bods.length a2] 42)).alloc (.cells #[.slice s1 d.ths.length c1, .slice s2 d.chs.length c2, .slice s3 d.tr.length c3] 37)).alloc (.cells #[.slice none 0 0, .slice none 0 0, .slice none 0 0] 37) = W := ⟨_, rfl⟩
 obtain ⟨bc, kW⟩ := br_new hW
 have HW := hidW hW
 have H := hidW h
 have H' := hidW h'
 have HF := hidW hf
 have HF' := hidW hf'
 have BC0 := hidW bc
 have KW := hidW kW
 have zW := kW.size
 obtain ⟨m0, m1, ⟨v0, v1, v2, fs, zs⟩, ⟨r0, r1, r2, fa, za⟩, ba, zz⟩ := bc
 clear hW kW h h' hf hf'
 go_enter Tryz.func9, Tryz.ntmps9
 go_wp2_with fail
 rw [HW.out]
 refine (implSource_any p1 p2 s1 s2 s3 a1 a2 c1 c2 c3 lo hi lo' hi' p d W (H.out.keep' (Keep.of_below KW.out hB)) (H'.out.keep (Keep.of_below KW.out hB')) (by omega) (by omega) HF.out HF'.out).mono ?_
 rintro e w1 ⟨rfl, hb1⟩
 rw [HY.out]
 have bc1 := BC0.out.below hb1 zz
 have BC := hidW bc1
 have K1 := hidW (KW.out.trans (hb1.mono (by omega)))
 have z1 := hb1.size
 clear hb1 m0 m1 v0 v1 v2 fs zs r0 r1 r2 fa za ba zz
 obtain ⟨m0, m1, ⟨v0, v1, v2, fs, zs⟩, ⟨r0, r1, r2, fa, za⟩, ba, zz⟩ := bc1
 go_wp2_with fail
 refine (implDup_any s1 s2 s3 c1 c2 c3 lo' hi' d w1 (H'.out.keep (Keep.of_below K1.out hB')) (by omega) HF'.out).mono ?_
 rintro e w5 ⟨u1, u2, u3, L1, L2, rfl, ho5, hb5⟩
 obtain ⟨t1, e1, t2, e2, t3, e3, rfl, rfl, rfl, -⟩ := ho5.src
 have O5 := hidW ho5
 have z5 := hb5.size
 obtain ⟨W6, hW6, b6, k6, z6⟩ := BoF.new w5 (.slice t1 d.ths.length e1) (.slice t2 d.chs.length e2) (.slice t3 d.tr.length e3) 37
 have HW6 := hidW hW6
 have HX6 := hidW (show BxS W6 w5.heap.size from ⟨_, _, by rw [← hW6]; exact heap_alloc_new _ _⟩)
 have B6 := hidW b6
 have K56 := hidW k6
 have K16 := hidW (hb5.trans (k6.mono z5))
 have zz1 := zz
 have bc5 := BC.out.below hb5 zz
 clear ho5 hb5 hW6 b6 k6 m0 m1 v0 v1 v2 fs zs r0 r1 r2 fa za ba zz
 obtain ⟨m0, m1, ⟨v0, v1, v2, fs, zs⟩, ⟨r0, r1, r2, fa, za⟩, ba, zz⟩ := bc5
 have zp : w.heap.size < w5.heap.size := by omega
 have zp1 : w.heap.size + 1 < w5.heap.size := by omega
 go_wp2_with fail
 rw [HW6.out]
 refine (turnIn_any p1 p2 a1 a2 lo hi w1.heap.size w5.heap.size p _ _ _ L1 L2 d who W6 (H.out.keep' (Keep.of_below (K1.out.trans (K16.out.mono (by omega))) hB)) (by omega) (O5.out.keep (fun x _ hx => K56.out.block x hx)) B6.out HX6.out (by omega) HR.out (by omega)).mono ?_
 rintro e w7 ⟨rfl, s4, n4, c4, M1, M2, tq⟩
 rw [HDD.out] at tq
 rw [HKK.out]
 obtain ⟨x1, y1, x2, y2, x3, y3, q1, q2, q3, -⟩ := tq.o.src
 have tqs := tq.s
 have tqo := tq.o
 have tqb := tq.b
 rw [q1, q2, q3] at tqs tqo
 have TQO := hidW tqo
 have K17 := hidW (K16.out.trans tqb)
 have K7 := hidW (K1.out.trans (K17.out.mono (by omega)))
 have bc7 := BC.out.below K17.out zz1
 have BC7 := hidW bc7
 have z7 := K17.out.size
 clear tq tqo tqb q1 q2 q3 m0 m1 v0 v1 v2 fs zs r0 r1 r2 fa za ba zz
 obtain ⟨m0, m1, ⟨v0, v1, v2, fs, zs⟩, ⟨r0, r1, r2, fa, za⟩, ba, zz⟩ := bc7
 obtain ⟨o0, o1, o2, of, oz0⟩ := tqs
 go_wp2
 obtain ⟨Z, hZ, bz, oz, kz⟩ := BC7.out.put (.slice x1 DD.ths.length y1) (.slice x2 DD.chs.length y2) (.slice x3 DD.tr.length y3)
 refine bodyPost_ret (v := .tuple #[.agg #[.slice x1 DD.ths.length y1, .slice x2 DD.chs.length y2, .slice x3 DD.tr.length y3], .int .i64 KK]) ?_ rfl ?_
 ·rw [hZ]
  simp [results, Tryz.results9, go_sem, bz.c0, bz.c1, bz.c2]
 ·rw [hZ]
  exact ⟨_, _, _, _, _, _, M1, M2, rfl, oz _ _ _ _ _ _ _ (TQO.out.low (by omega)), kz _ _ K7.out (by omega)⟩
theorem implStep_any (p1 p2 s1 s2 s3 : Option Addr) (a1 a2 c1 c2 c3 lo hi lo' hi' : Nat) (p : PD) (d : SD) (who : Int) (w : World) (h : ProgR w lo hi p1 p2 p) (h' : SrcR w lo' hi' s1 s2 s3 d) (hB : hi ≤ w.heap.size) (hB' : hi' ≤ w.heap.size) (hf : Fits p) (hf' : SFits d) :
  Calls Tryz.prog 9 #[.agg #[.slice p1 p.caps.length a1, .slice p2 p.bods.length a2], .agg #[.slice s1 d.ths.length c1, .slice s2 d.chs.length c2, .slice s3 d.tr.length c3], .int .i64 who] w (SStepQ w (stepKb p d who) (stepSb p d who)) := by
 cases hy : srcB p d with
 | false =>
  have e1 : stepKb p d who = 1 := by unfold stepKb; rw [hy]; rfl
  have e2 : stepSb p d who = ⟨[], [], []⟩ := by unfold stepSb; rw [hy]; rfl
  rw [e1, e2]
  exact implStep_bad p1 p2 s1 s2 s3 a1 a2 c1 c2 c3 lo hi lo' hi' p d who w h h' hB hB' hf hf' hy
 | true =>
  have e1 : stepKb p d who = stepK p d who := by unfold stepKb; rw [hy]; rfl
  have e2 : stepSb p d who = stepS p d who := by unfold stepSb; rw [hy]; rfl
  rw [e1, e2]
  exact implStep_go p1 p2 s1 s2 s3 a1 a2 c1 c2 c3 lo hi lo' hi' p d who w h h' hB hB' hf hf' hy
end
section
set_option linter.unusedSimpArgs false
set_option linter.unusedVariables false
set_option maxRecDepth 100000
open Go.RowKit
theorem moveT_regs (t : TD) (b : Nat) (rg : List Int) (nx : Int) : (moveT t b rg nx).regs = rg := by unfold moveT; split <;> rfl
theorem putN_len (l : List Int) (r v : Int) : (putN l r v).length = l.length := by unfold putN; simp
theorem sendL_len (cap : Int) (l : List Int) (cl : Bool) (v : Int) : (sendL cap l cl v).length ≤ l.length + 1 := by
 unfold sendL
 split <;> simp
theorem takeL_len (cap : Int) (l : List Int) : (takeL cap l).length ≤ l.length := by
 unfold takeL
 split <;> simp
theorem getD_small {chs : List CD} {M : Nat} (hc : ∀ (i : Nat) (c : CD), chs[i]? = some c → c.list.length ≤ M) (n : Nat) : (chs.getD n zc).list.length ≤ M := by
 rw [List.getD_eq_getElem?_getD]
 cases h : chs[n]? with
 | none => exact Nat.zero_le _
 | some c => exact hc n c h
theorem set_small {chs : List CD} {M : Nat} (hc : ∀ (i : Nat) (c : CD), chs[i]? = some c → c.list.length ≤ M) (n : Nat) (y : CD) (hy : y.list.length ≤ M + 1) : ∀ (i : Nat) (c : CD), (chs.set n y)[i]? = some c → c.list.length ≤ M + 1 := by
 intro i c h
 rw [List.getElem?_set] at h
 split at h
 ·split at h
  ·injection h with h
   subst h
   exact hy
  ·cases h
 ·exact Nat.le_succ_of_le (hc i c h)
structure Sm (t : TD) (chs : List CD) (tr : List ND) (M : Nat) (o : Out) : Prop where
 a : o.t.regs.length = t.regs.length
 b : o.tr.length ≤ tr.length + 1
 c : o.chs.length = chs.length
 d : ∀ (i : Nat) (c : CD), o.chs[i]? = some c → c.list.length ≤ M + 1
theorem sm_ite {t : TD} {chs : List CD} {tr : List ND} {M : Nat} {c : Prop} [Decidable c] {x y : Out} (h1 : Sm t chs tr M x) (h2 : Sm t chs tr M y) : Sm t chs tr M (if c then x else y) := by
 by_cases h : c
 ·rw [if_pos h]; exact h1
 ·rw [if_neg h]; exact h2
theorem stepO_small (b : Nat) (t : TD) (x : I5) (chs : List CD) (tr : List ND) (k M : Nat) (hc : ∀ (i : Nat) (c : CD), chs[i]? = some c → c.list.length ≤ M) : Sm t chs tr M (stepO b t x chs tr k) := by
 have g := getD_small hc x.n.toNat
 have hc' : ∀ (i : Nat) (c : CD), chs[i]? = some c → c.list.length ≤ M + 1 := fun i c h => Nat.le_succ_of_le (hc i c h)
 have s1 : ∀ v, (sendL (chs.getD x.n.toNat zc).cap (chs.getD x.n.toNat zc).list (chs.getD x.n.toNat zc).cl v).length ≤ M + 1 := fun v => Nat.le_trans (sendL_len _ _ _ _) (Nat.succ_le_succ g)
 have s2 : (takeL (chs.getD x.n.toNat zc).cap (chs.getD x.n.toNat zc).list).length ≤ M + 1 := Nat.le_trans (takeL_len _ _) (Nat.le_succ_of_le g)
 have s3 : (chs.getD x.n.toNat zc).list.length ≤ M + 1 := Nat.le_succ_of_le g
 unfold stepO
 dsimp only
 repeat' (refine sm_ite ?_ ?_)
 all_goals
  refine ⟨?_, ?_, ?_, ?_⟩
  ·first | rfl | simp only [moveT_regs, putN_len]
  ·first | exact Nat.le_succ _ | simp
  ·first | rfl | exact List.length_set
  ·first | exact hc' | exact set_small hc _ _ (s1 _) | exact set_small hc _ _ s2 | exact set_small hc _ _ s3
theorem stepS_fits {p : PD} {d : SD} (hf : SFits d) (hR : Right p d) (who : Int) : SFits (stepS p d who) := by
 unfold stepS
 split
 ·rename_i h
  obtain ⟨q1, q2, q3, q4⟩ := stepO_small (bodyOf p who.toNat).length (thOf d who.toNat) (insOf p d who.toNat) d.chs d.tr who.toNat 4 (fun i c hc => (hR.ch i c hc).2)
  have e : (thOf d who.toNat).regs.length ≤ 4 := by
   unfold thOf
   rw [List.getD_eq_getElem?_getD]
   cases ht : d.ths[who.toNat]? with
   | none => exact Nat.zero_le _
   | some t => exact Nat.le_of_eq (hR.th _ _ ht).1
  refine ⟨⟨by show (d.ths.set _ _).length ≤ _; rw [List.length_set]; exact hf.1.1, fun i t ht => ?_⟩, ⟨?_, fun i c hc => ?_⟩, ?_⟩
  ·have ht' : (d.ths.set who.toNat (outOf p d who.toNat).t)[i]? = some t := ht
   rw [List.getElem?_set] at ht'
   split at ht'
   ·split at ht'
    ·injection ht' with ht'
     subst ht'
     show (stepO _ _ _ _ _ _).t.regs.length ≤ _
     rw [q1]
     omega
    ·cases ht'
   ·exact hf.1.2 i t ht'
  ·show (stepO _ _ _ _ _ _).chs.length ≤ _
   rw [q3]
   exact hf.2.1.1
  ·exact Nat.le_trans (q4 i c hc) (by omega)
  ·show (stepO _ _ _ _ _ _).tr.length ≤ _
   have := hR.nl
   omega
 ·exact hf
theorem stepSb_fits {p : PD} {d : SD} (hf : SFits d) (who : Int) : SFits (stepSb p d who) := by
 unfold stepSb
 split
 ·rename_i h
  exact stepS_fits hf (right_of h) who
 ·exact ⟨⟨Nat.zero_le _, fun i t h => by simp at h⟩, ⟨Nat.zero_le _, fun i t h => by simp at h⟩, Nat.zero_le _⟩
end
end Go.Proofs.YtpmopmgpheefeaaGreat
