/- Same of both sides. Conditions: program, machine and source fit. How arguments of the laws read: a Step is five integers. No condition. How a list of steps that came in reads: each step is five integers. No condition. How rows of integers read as arguments of a law. No condition. How memories read as arguments of a law. No condition. How machines and rows of code read as arguments of a law. No condition. -/
import Derived.Test.YtcfehbfjillnoaaGreatJG13
import Derived.Test.YtcfehbfjillnoaaGreatJC13Sp
import Derived.Test.YtcfehbfjillnoaaGreatJSrcOk3
import Derived.Test.YtcfehbfjillnoaaGreatJSrcOkS
import Derived.Test.YtcfehbfjillnoaaGreatJG16
import Derived.Test.YtcfehbfjillnoaaGreatJKOkS
import Derived.Test.YtcfehbfjillnoaaGreatJG00
import Derived.Test.YtcfehbfjillnoaaGreatJG01
import Derived.Test.YtcfehbfjillnoaaGreatRows
import Derived.WalkKit
import Derived.ProofKit
import Derived.OpenShut
import Derived.ShutString
import Derived.ChangeOld
import Derived.Below
import Derived.Test.YtcfehbfjillnoaaGreatJG12
import Derived.Deep.Slices
import Derived.Test.YtcfehbfjillnoaaGreatJG02
import Derived.Test.YtcfehbfjillnoaaGreatJG05
import Derived.Test.YtcfehbfjillnoaaGreatJG06
namespace Go.Proofs.YtcfehbfjillnoaaGreat
section
set_option linter.unusedSimpArgs false
set_option linter.unusedVariables false
set_option maxRecDepth 100000
open Go.RowKit
def coP (p : PD) (d : MD) (sd : SD) : Prop := ∀ (i : Nat) (k : KD) (t : TD), d.cores[i]? = some k → sd.ths[i]? = some t → coreSV p i k t = true
def chP (p : PD) (d : MD) (sd : SD) : Prop := ∀ i : Nat, i < sd.chs.length → chsV d.mem p.caps sd.chs i = true
structure SameP (p : PD) (d : MD) (sd : SD) : Prop where
 s : srcB p sd = true
 m : machB d = true
 l : d.cores.length = sd.ths.length
 n : nk d.tr = nk sd.tr
 k : coP p d sd
 c : chP p d sd
noncomputable def sameB (p : PD) (d : MD) (sd : SD) : Bool := @decide (SameP p d sd) (Classical.propDecidable _)
theorem same_no {p : PD} {d : MD} {sd : SD} (h : ¬ SameP p d sd) : sameB p d sd = false := by
 unfold sameB
 rw [@decide_eq_false_iff_not _ (Classical.propDecidable _)]
 exact h
theorem same_yes {p : PD} {d : MD} {sd : SD} (h : SameP p d sd) : sameB p d sd = true := by
 unfold sameB
 rw [@decide_eq_true_iff _ (Classical.propDecidable _)]
 exact h
theorem core_of {d : MD} (h : machB d = true) {i : Nat} {k : KD} (hk : d.cores[i]? = some k) : k.regs.length = 8 ∧ (k.st = 0 ∨ k.st = 1 ∨ k.st = 2) := by
 unfold machB coresB at h
 simp only [Bool.and_eq_true, decide_eq_true_eq, List.all_eq_true] at h
 obtain ⟨-, ⟨hl, ha⟩, -⟩ := h
 have hi := (List.getElem?_eq_some_iff.1 hk).1
 obtain ⟨c, hc⟩ : ∃ c, d.codes[i]? = some c := ⟨_, List.getElem?_eq_getElem (by omega)⟩
 have q := ha (k, c) (by
  have : (d.cores.zip d.codes)[i]? = some (k, c) := by rw [List.getElem?_zip_eq_some]; exact ⟨hk, hc⟩
  exact List.mem_of_getElem? this)
 unfold coreB Plain.inB at q
 simp only [Bool.and_eq_true, decide_eq_true_eq] at q
 exact ⟨q.1, by omega⟩
theorem src_of {p : PD} {sd : SD} (h : srcB p sd = true) : progB p = true ∧ sd.chs.length = p.caps.length ∧ ∀ (i : Nat) (t : TD), sd.ths[i]? = some t → t.regs.length = 4 := by
 unfold srcB thsB chsB at h
 simp only [Bool.and_eq_true, decide_eq_true_eq] at h
 obtain ⟨h1, ⟨-, h3⟩, ⟨h4, -⟩, -⟩ := h
 refine ⟨h1, h4, fun i t ht => ?_⟩
 have q := all_get h3 i t ht
 unfold thB at q
 simp only [Bool.and_eq_true, decide_eq_true_eq] at q
 exact q.1
set_option maxHeartbeats 4000000 in
theorem implSame_any (p1 p2 s1 s2 s3 s4 t1 t2 t3 : Option Addr) (a1 a2 c1 c2 c3 c4 e1 e2 e3 lo hi lo' hi' lo2 hi2 : Nat) (p : PD) (d : MD) (sd : SD) (w : World) (h0 : ProgR w lo hi p1 p2 p) (h1 : MaR w lo' hi' s1 s2 s3 s4 d) (h2 : SrcR w lo2 hi2 t1 t2 t3 sd) (hB : hi ≤ w.heap.size) (hB' : hi' ≤ w.heap.size) (hB2 : hi2 ≤ w.heap.size) (hf : Fits p) (hm : MaFits d) (hs : SFits sd) :
  Calls Tryz.prog 11 #[.agg #[.slice p1 p.caps.length a1, .slice p2 p.bods.length a2], .agg #[.slice s1 d.codes.length c1, .slice s2 d.cores.length c2, .slice s3 d.mem.length c3, .slice s4 d.tr.length c4], .agg #[.slice t1 sd.ths.length e1, .slice t2 sd.chs.length e2, .slice t3 sd.tr.length e3]] w fun e w' => e = .returned (.bool (sameB p d sd)) ∧ Below w.heap.size w w' := by
 obtain ⟨W, hW⟩ : ∃ W, ((w.alloc (.cells #[.slice p1 p.caps.length a1, .slice p2 p.bods.length a2] 44)).alloc (.cells #[.slice s1 d.codes.length c1, .slice s2 d.cores.length c2, .slice s3 d.mem.length c3, .slice s4 d.tr.length c4] 53)).alloc (.cells #[.slice t1 sd.ths.length e1, .slice t2 sd.chs.length e2, .slice t3 sd.tr.length e3] 58) = W := ⟨_, rfl⟩
 obtain ⟨bb, kW⟩ := bs9_new hW
 have HWW := hidS hW
 have BB := hidS bb
 have KW := hidS kW
 have sW := kW.size
 have hml : d.cores.length ≤ 1048576 := by have := hm.k; omega
 have hmm : d.mem.length + szR d.mem ≤ 2000000 := hm.m
 have hcl : p.caps.length ≤ 2000000 := by have := hf.1; omega
 have htl : sd.ths.length ≤ 1048576 := hs.1.1
 have hsl : sd.chs.length ≤ 1048576 := hs.2.1.1
 have hnl : d.tr.length ≤ 1000000000 := by have := hm.t; omega
 have hnl2 : sd.tr.length ≤ 1000000000 := by have := hs.2.2; omega
 have SRC := hidS (fun (V : World) (hV : Below w.heap.size w V) => implSource_any p1 p2 t1 t2 t3 a1 a2 e1 e2 e3 lo hi lo2 hi2 p sd V (ProgR.keep' h0 (Keep.of_below hV hB)) (h2.keep (Keep.of_below hV hB2)) (by have := hV.size; omega) (by have := hV.size; omega) hf hs)
 have MAC := hidS (fun (V : World) (hV : Below w.heap.size w V) => implMachineOk_any s1 s2 s3 s4 c1 c2 c3 c4 lo' hi' d V (h1.keep (Keep.of_below hV hB')) (by have := hV.size; omega) hm)
 have NOT := hidS (fun (V : World) (hV : Below w.heap.size w V) => alikeT_any s4 t3 d.tr sd.tr c4 e3 lo' hi' lo2 hi2 V (h1.2.2.2.keep (Keep.of_below hV hB')) (h2.2.2.keep (Keep.of_below hV hB2)) (by have := hV.size; omega) (by have := hV.size; omega) hnl hnl2)
 have COR := hidS (fun (V : World) (hV : Below w.heap.size w V) (who : Nat) (kk : KD) (t : TD) (hk : d.cores[who]? = some kk) (ht : sd.ths[who]? = some t) (q1 : kk.regs.length = 8) (q2 : t.regs.length = 4) (q3 : kk.st = 0 ∨ kk.st = 1 ∨ kk.st = 2) => implCore_any p1 p2 s1 s2 s3 s4 t1 t2 t3 a1 a2 c1 c2 c3 c4 e1 e2 e3 lo hi lo' hi' lo2 hi2 p d sd who kk t V (ProgR.keep' h0 (Keep.of_below hV hB)) (h1.2.1.keep (Keep.of_below hV hB')) (h2.1.keep (Keep.of_below hV hB2)) (by have := hV.size; omega) (by have := hV.size; omega) (by have := hV.size; omega) hf hml htl hk ht (by omega) (by omega) (by omega) (by omega) q3)
 have CHA := hidS (fun (V : World) (hV : Below w.heap.size w V) (n : Nat) => implChs_any p1 p2 s1 s2 s3 s4 t1 t2 t3 a1 a2 p.bods.length c1 c2 c3 c4 d.codes.length d.cores.length d.tr.length e1 e2 e3 sd.ths.length sd.tr.length lo hi lo' hi' lo2 hi2 p.caps d.mem sd.chs n V (ProgR.keep' h0 (Keep.of_below hV hB)).1 (h1.2.2.1.keep (Keep.of_below hV hB')) (h2.2.1.keep (Keep.of_below hV hB2)) (by have := hV.size; omega) (by have := hV.size; omega) (by have := hV.size; omega) hcl hmm hsl)
 obtain ⟨q0, q1, m0, m1, m2, m3, y0, y1, y2, zz⟩ := bb
 clear hW kW h0 h1 h2 hf hm hs
 go_enter Tryz.func11, Tryz.ntmps11
 go_wp2_with fail
 rw [HWW.out]
 refine Calls.mono (SRC.out W KW.out) ?_
 rintro e w1 ⟨rfl, hb1⟩
 have BW1 := BB.out.below hb1
 have K1 := hidS (KW.out.trans (hb1.mono sW))
 have z1 := K1.out.size
 have B1 := hidS BW1
 clear q0 q1 m0 m1 m2 m3 y0 y1 y2 hb1 zz
 obtain ⟨q0, q1, m0, m1, m2, m3, y0, y1, y2, zz⟩ := BW1
 cases h1 : srcB p sd
 ·have F := hidS (same_no (p := p) (d := d) (sd := sd) (fun q => by have e := q.s; rw [h1] at e; cases e))
  clear h1
  go_wp2
  go_ret
  exact ⟨retB F.out.symm, K1.out⟩
 have H1 := hidS h1
 clear h1
 go_wp2_with fail
 refine Calls.mono (MAC.out w1 K1.out) ?_
 rintro e w2 ⟨rfl, hb2⟩
 have BW2 := B1.out.below hb2
 have K2 := hidS (K1.out.trans (hb2.mono z1))
 have z2 := K2.out.size
 have B2 := hidS BW2
 clear q0 q1 m0 m1 m2 m3 y0 y1 y2 hb2 zz
 obtain ⟨q0, q1, m0, m1, m2, m3, y0, y1, y2, zz⟩ := BW2
 cases h2 : machB d
 ·have F := hidS (same_no (p := p) (d := d) (sd := sd) (fun q => by have e := q.m; rw [h2] at e; cases e))
  clear h2
  go_wp2
  go_ret
  exact ⟨retB F.out.symm, K2.out⟩
 have H2 := hidS h2
 clear h2
 by_cases hln : d.cores.length = sd.ths.length
 rotate_left
 ·have bl : ((d.cores.length : Int) != (sd.ths.length : Int)) = true := by simp; omega
  have F := hidS (same_no (p := p) (d := d) (sd := sd) (fun q => hln q.l))
  clear hln
  go_wp2
  go_ret
  exact ⟨retB F.out.symm, K2.out⟩
 have bl : ((d.cores.length : Int) != (sd.ths.length : Int)) = false := by simp; omega
 have HL := hidS hln
 clear hln
 go_wp2_with fail
 refine Calls.mono (NOT.out w2 K2.out) ?_
 rintro e w3 ⟨rfl, hb3⟩
 have BW3 := B2.out.below hb3
 have K3 := hidS (K2.out.trans (hb3.mono z2))
 have z3 := K3.out.size
 have B3 := hidS BW3
 clear q0 q1 m0 m1 m2 m3 y0 y1 y2 hb3 zz
 obtain ⟨q0, q1, m0, m1, m2, m3, y0, y1, y2, zz⟩ := BW3
 cases h3 : decide (nk d.tr = nk sd.tr)
 ·have F := hidS (same_no (p := p) (d := d) (sd := sd) (fun q => by rw [decide_eq_false_iff_not] at h3; exact h3 q.n))
  clear h3
  go_wp2
  go_ret
  exact ⟨retB F.out.symm, K3.out⟩
 have H3 := hidS h3
 clear h3
 go_wp2_with fail
 clear q0 q1 m0 m1 m2 m3 y0 y1 y2 zz
 have HC := hidS (src_of H1.out).2.1
 go_loopw [38] (fun i wr => ∃ k : Nat, k ≤ sd.ths.length ∧ i = .int .i64 k ∧ Hid (∀ (j : Nat) (a : KD) (b : TD), j < k → d.cores[j]? = some a → sd.ths[j]? = some b → coreSV p j a b = true) ∧ Hid (Below w3.heap.size w3 wr)) (fun i _ => sd.ths.length - (intOf i).toNat)
 case atStart => exact ⟨0, Nat.zero_le _, rfl, fun j a b hj => absurd hj (Nat.not_lt_zero _), Below.refl _ _⟩
 case round =>
  obtain ⟨k, hk, rfl, HJ, HB⟩ := hrel
  obtain ⟨q0, q1, m0, m1, m2, m3, y0, y1, y2, zz⟩ := B3.out.below HB.out
  have KR := hidS (K3.out.trans (HB.out.mono z3))
  have zr := KR.out.size
  have zr2 := HB.out.size
  by_cases hlt : k < sd.ths.length
  ·have bk : (k : Int) < (sd.ths.length : Int) := by omega
   have b0 : (0 : Int) ≤ (k : Int) := by omega
   obtain ⟨kk, hkk⟩ : ∃ x, d.cores[k]? = some x := ⟨_, List.getElem?_eq_getElem (by have := HL.out; omega)⟩
   obtain ⟨t, htt⟩ : ∃ x, sd.ths[k]? = some x := ⟨_, List.getElem?_eq_getElem (by have := HL.out; omega)⟩
   obtain ⟨k8, kst⟩ := core_of H2.out hkk
   have t4 := (src_of H1.out).2.2 k t htt
   have CC := hidS (COR.out wr KR.out k kk t hkk htt k8 t4 kst)
   have HKK := hidS hkk
   have HTT := hidS htt
   clear hkk htt k8 kst t4
   go_wp2_with fail
   refine Calls.mono CC.out ?_
   rintro e w8 ⟨rfl, hb8⟩
   have K8 := hidS (KR.out.trans (hb8.mono zr))
   have L8 := hidS (HB.out.trans (hb8.mono zr2))
   obtain ⟨bv, hbv⟩ : ∃ b, coreSV p k kk t = b := ⟨_, rfl⟩
   have HBV := hidS hbv
   rw [hbv]
   clear hbv hb8 q0 q1 m0 m1 m2 m3 y0 y1 y2 zz
   cases bv
   ·have F := hidS (same_no (p := p) (d := d) (sd := sd) (fun q => by have e := q.k k kk t HKK.out HTT.out; rw [HBV.out] at e; cases e))
    go_wp2
    go_ret
    exact ⟨retB F.out.symm, K8.out⟩
   ·go_wp2
    go_roundw
    case rel =>
     refine ⟨k + 1, by omega, by go_num, fun j a b hj ha hb => ?_, L8.out⟩
     by_cases e : j < k
     ·exact HJ.out j a b e ha hb
     ·have : j = k := by omega
      subst this
      rw [HKK.out] at ha
      rw [HTT.out] at hb
      cases ha
      cases hb
      exact HBV.out
    case measure => simp [intOf]; omega
  ·have bk : ¬ (k : Int) < (sd.ths.length : Int) := by omega
   have ALL : Hid (coP p d sd) := fun i a b ha hb => HJ.out i a b (by have := (List.getElem?_eq_some_iff.1 ha).1; have := (List.getElem?_eq_some_iff.1 hb).1; omega) ha hb
   clear HJ hlt hk
   obtain ⟨wo, hwo⟩ : ∃ wo : World, wo = wr := ⟨_, rfl⟩
   subst hwo
   have BO := hidS (B3.out.below HB.out)
   go_wp2_with fail
   clear q0 q1 m0 m1 m2 m3 y0 y1 y2 zz bk
   go_loopw [51] (fun i wr => ∃ k : Nat, k ≤ sd.chs.length ∧ i = .int .i64 k ∧ Hid (∀ (j : Nat), j < k → chsV d.mem p.caps sd.chs j = true) ∧ Hid (Below wo.heap.size wo wr)) (fun i _ => sd.chs.length - (intOf i).toNat)
   case atStart => exact ⟨0, Nat.zero_le _, rfl, fun j hj => absurd hj (Nat.not_lt_zero _), Below.refl _ _⟩
   case round =>
    obtain ⟨k, hk, rfl, HJ, HB2⟩ := hrel
    obtain ⟨q0, q1, m0, m1, m2, m3, y0, y1, y2, zz⟩ := BO.out.below HB2.out
    have KR2 := hidS (KR.out.trans (HB2.out.mono zr))
    have zq := KR2.out.size
    have zq2 := HB2.out.size
    by_cases hlt : k < sd.chs.length
    ·have bk : (k : Int) < (sd.chs.length : Int) := by omega
     have b0 : (0 : Int) ≤ (k : Int) := by omega
     have CC := hidS (CHA.out wr KR2.out k)
     go_wp2_with fail
     refine Calls.mono CC.out ?_
     rintro e w8 ⟨rfl, hb8⟩
     have K8 := hidS (KR2.out.trans (hb8.mono zq))
     have L8 := hidS (HB2.out.trans (hb8.mono zq2))
     obtain ⟨bv, hbv⟩ : ∃ b, chsV d.mem p.caps sd.chs k = b := ⟨_, rfl⟩
     have HBV := hidS hbv
     rw [hbv]
     clear hbv hb8 q0 q1 m0 m1 m2 m3 y0 y1 y2 zz
     cases bv
     ·have F := hidS (same_no (p := p) (d := d) (sd := sd) (fun q => by have e := q.c k (by have := HC.out; omega); rw [HBV.out] at e; cases e))
      go_wp2
      go_ret
      exact ⟨retB F.out.symm, K8.out⟩
     ·go_wp2
      go_roundw
      case rel =>
       refine ⟨k + 1, by omega, by go_num, fun j hj => ?_, L8.out⟩
       by_cases e : j < k
       ·exact HJ.out j e
       ·have : j = k := by omega
        subst this
        exact HBV.out
      case measure => simp [intOf]; omega
    ·have bk : ¬ (k : Int) < (sd.chs.length : Int) := by omega
     have F := hidS (same_yes (p := p) (d := d) (sd := sd) ⟨H1.out, H2.out, HL.out, of_decide_eq_true H3.out, ALL.out, fun j hj => HJ.out j (by have := HC.out; omega)⟩)
     clear hk hlt
     go_wp2
     go_ret
     exact ⟨retB F.out.symm, KR2.out⟩
set_option maxHeartbeats 4000000 in
theorem specSame_any (p1 p2 s1 s2 s3 s4 t1 t2 t3 : Option Addr) (a1 a2 c1 c2 c3 c4 e1 e2 e3 lo hi lo' hi' lo2 hi2 : Nat) (p : PD) (d : MD) (sd : SD) (w : World) (h0 : ProgR w lo hi p1 p2 p) (h1 : MaR w lo' hi' s1 s2 s3 s4 d) (h2 : SrcR w lo2 hi2 t1 t2 t3 sd) (hB : hi ≤ w.heap.size) (hB' : hi' ≤ w.heap.size) (hB2 : hi2 ≤ w.heap.size) (hf : Fits p) (hm : MaFits d) (hs : SFits sd) :
  Calls Tryz.prog 7 #[.agg #[.slice p1 p.caps.length a1, .slice p2 p.bods.length a2], .agg #[.slice s1 d.codes.length c1, .slice s2 d.cores.length c2, .slice s3 d.mem.length c3, .slice s4 d.tr.length c4], .agg #[.slice t1 sd.ths.length e1, .slice t2 sd.chs.length e2, .slice t3 sd.tr.length e3]] w fun e w' => e = .returned (.bool (sameB p d sd)) ∧ Below w.heap.size w w' := by
 obtain ⟨W, hW⟩ : ∃ W, ((w.alloc (.cells #[.slice p1 p.caps.length a1, .slice p2 p.bods.length a2] 44)).alloc (.cells #[.slice s1 d.codes.length c1, .slice s2 d.cores.length c2, .slice s3 d.mem.length c3, .slice s4 d.tr.length c4] 53)).alloc (.cells #[.slice t1 sd.ths.length e1, .slice t2 sd.chs.length e2, .slice t3 sd.tr.length e3] 58) = W := ⟨_, rfl⟩
 obtain ⟨bb, kW⟩ := bs9_new hW
 have HWW := hidS hW
 have BB := hidS bb
 have KW := hidS kW
 have sW := kW.size
 have hml : d.cores.length ≤ 1048576 := by have := hm.k; omega
 have hmm : d.mem.length + szR d.mem ≤ 2000000 := hm.m
 have hcl : p.caps.length ≤ 2000000 := by have := hf.1; omega
 have htl : sd.ths.length ≤ 1048576 := hs.1.1
 have hsl : sd.chs.length ≤ 1048576 := hs.2.1.1
 have hnl : d.tr.length ≤ 1000000000 := by have := hm.t; omega
 have hnl2 : sd.tr.length ≤ 1000000000 := by have := hs.2.2; omega
 have SRC := hidS (fun (V : World) (hV : Below w.heap.size w V) => specSource_any p1 p2 t1 t2 t3 a1 a2 e1 e2 e3 lo hi lo2 hi2 p sd V (ProgR.keep' h0 (Keep.of_below hV hB)) (h2.keep (Keep.of_below hV hB2)) (by have := hV.size; omega) (by have := hV.size; omega) hf hs)
 have MAC := hidS (fun (V : World) (hV : Below w.heap.size w V) => specMachineOk_any s1 s2 s3 s4 c1 c2 c3 c4 lo' hi' d V (h1.keep (Keep.of_below hV hB')) (by have := hV.size; omega) hm)
 have NOT := hidS (fun (V : World) (hV : Below w.heap.size w V) => notes_any s4 t3 d.tr sd.tr c4 e3 lo' hi' lo2 hi2 V (h1.2.2.2.keep (Keep.of_below hV hB')) (h2.2.2.keep (Keep.of_below hV hB2)) (by have := hV.size; omega) (by have := hV.size; omega) hnl hnl2)
 have COR := hidS (fun (V : World) (hV : Below w.heap.size w V) (who : Nat) (kk : KD) (t : TD) (hk : d.cores[who]? = some kk) (ht : sd.ths[who]? = some t) (q1 : kk.regs.length = 8) (q2 : t.regs.length = 4) (q3 : kk.st = 0 ∨ kk.st = 1 ∨ kk.st = 2) => specCore_any p1 p2 s1 s2 s3 s4 t1 t2 t3 a1 a2 c1 c2 c3 c4 e1 e2 e3 lo hi lo' hi' lo2 hi2 p d sd who kk t V (ProgR.keep' h0 (Keep.of_below hV hB)) (h1.2.1.keep (Keep.of_below hV hB')) (h2.1.keep (Keep.of_below hV hB2)) (by have := hV.size; omega) (by have := hV.size; omega) (by have := hV.size; omega) hf hml htl hk ht (by omega) (by omega) (by omega) (by omega) q3)
 have CHA := hidS (fun (V : World) (hV : Below w.heap.size w V) (n : Nat) => specChs_any p1 p2 s1 s2 s3 s4 t1 t2 t3 a1 a2 p.bods.length c1 c2 c3 c4 d.codes.length d.cores.length d.tr.length e1 e2 e3 sd.ths.length sd.tr.length lo hi lo' hi' lo2 hi2 p.caps d.mem sd.chs n V (ProgR.keep' h0 (Keep.of_below hV hB)).1 (h1.2.2.1.keep (Keep.of_below hV hB')) (h2.2.1.keep (Keep.of_below hV hB2)) (by have := hV.size; omega) (by have := hV.size; omega) (by have := hV.size; omega) hcl hmm hsl hs.2.1.2)
 have PRG := hidS (fun (V : World) (hV : Below w.heap.size w V) => specProg_any p1 p2 a1 a2 lo hi p V (ProgR.keep' h0 (Keep.of_below hV hB)) (by have := hV.size; omega) hf)
 obtain ⟨q0, q1, m0, m1, m2, m3, y0, y1, y2, zz⟩ := bb
 clear hW kW h0 h1 h2 hf hm hs
 go_enter Tryz.func7, Tryz.ntmps7
 go_wp2_with fail
 rw [HWW.out]
 refine Calls.mono (PRG.out W KW.out) ?_
 rintro e w1 ⟨rfl, hb1⟩
 have BW1 := BB.out.below hb1
 have K1 := hidS (KW.out.trans (hb1.mono sW))
 have z1 := K1.out.size
 have B1 := hidS BW1
 clear q0 q1 m0 m1 m2 m3 y0 y1 y2 hb1 zz
 obtain ⟨q0, q1, m0, m1, m2, m3, y0, y1, y2, zz⟩ := BW1
 cases h1 : progB p
 ·have F := hidS (same_no (p := p) (d := d) (sd := sd) (fun q => by have e := (src_of q.s).1; rw [h1] at e; cases e))
  clear h1
  go_wp2
  go_ret
  exact ⟨retB F.out.symm, K1.out⟩
 have H1 := hidS h1
 clear h1
 go_wp2_with fail
 refine Calls.mono (MAC.out w1 K1.out) ?_
 rintro e w2 ⟨rfl, hb2⟩
 have BW2 := B1.out.below hb2
 have K2 := hidS (K1.out.trans (hb2.mono z1))
 have z2 := K2.out.size
 have B2 := hidS BW2
 clear q0 q1 m0 m1 m2 m3 y0 y1 y2 hb2 zz
 obtain ⟨q0, q1, m0, m1, m2, m3, y0, y1, y2, zz⟩ := BW2
 cases h2 : machB d
 ·have F := hidS (same_no (p := p) (d := d) (sd := sd) (fun q => by have e := q.m; rw [h2] at e; cases e))
  clear h2
  go_wp2
  go_ret
  exact ⟨retB F.out.symm, K2.out⟩
 have H2 := hidS h2
 clear h2
 go_wp2_with fail
 refine Calls.mono (SRC.out w2 K2.out) ?_
 rintro e w3 ⟨rfl, hb3⟩
 have BW3 := B2.out.below hb3
 have K3 := hidS (K2.out.trans (hb3.mono z2))
 have z3 := K3.out.size
 have B3 := hidS BW3
 clear q0 q1 m0 m1 m2 m3 y0 y1 y2 hb3 zz
 obtain ⟨q0, q1, m0, m1, m2, m3, y0, y1, y2, zz⟩ := BW3
 cases h3 : srcB p sd
 ·have F := hidS (same_no (p := p) (d := d) (sd := sd) (fun q => by have e := q.s; rw [h3] at e; cases e))
  clear h3
  go_wp2
  go_ret
  exact ⟨retB F.out.symm, K3.out⟩
 have H3 := hidS h3
 clear h3
 go_wp2_with fail
 refine Calls.mono (NOT.out w3 K3.out) ?_
 rintro e w4 ⟨rfl, hb4⟩
 have BW4 := B3.out.below hb4
 have K4 := hidS (K3.out.trans (hb4.mono z3))
 have z4 := K4.out.size
 have B4 := hidS BW4
 clear q0 q1 m0 m1 m2 m3 y0 y1 y2 hb4 zz
 obtain ⟨q0, q1, m0, m1, m2, m3, y0, y1, y2, zz⟩ := BW4
 cases h4 : decide (nk d.tr = nk sd.tr)
 ·have F := hidS (same_no (p := p) (d := d) (sd := sd) (fun q => by rw [decide_eq_false_iff_not] at h4; exact h4 q.n))
  clear h4
  go_wp2
  go_ret
  exact ⟨retB F.out.symm, K4.out⟩
 have H4 := hidS h4
 clear h4
 by_cases hln : d.cores.length = sd.ths.length
 rotate_left
 ·have bl : ((d.cores.length : Int) != (sd.ths.length : Int)) = true := by simp; omega
  have F := hidS (same_no (p := p) (d := d) (sd := sd) (fun q => hln q.l))
  clear hln
  go_wp2
  go_ret
  exact ⟨retB F.out.symm, K4.out⟩
 have bl : ((d.cores.length : Int) != (sd.ths.length : Int)) = false := by simp; omega
 have HL := hidS hln
 clear hln
 go_wp2_with fail
 clear q0 q1 m0 m1 m2 m3 y0 y1 y2 zz
 have HC := hidS (src_of H3.out).2.1
 go_loopw [7] (fun i wr => ∃ k : Nat, k ≤ d.cores.length ∧ i = .int .i64 k ∧ Hid (∀ (j : Nat) (a : KD) (b : TD), j < k → d.cores[j]? = some a → sd.ths[j]? = some b → coreSV p j a b = true) ∧ Hid (Below w4.heap.size w4 wr)) (fun i _ => d.cores.length - (intOf i).toNat)
 case atStart => exact ⟨0, Nat.zero_le _, rfl, fun j a b hj => absurd hj (Nat.not_lt_zero _), Below.refl _ _⟩
 case round =>
  obtain ⟨k, hk, rfl, HJ, HB⟩ := hrel
  obtain ⟨q0, q1, m0, m1, m2, m3, y0, y1, y2, zz⟩ := B4.out.below HB.out
  have KR := hidS (K4.out.trans (HB.out.mono z4))
  have zr := KR.out.size
  have zr2 := HB.out.size
  by_cases hlt : k < d.cores.length
  ·have bk : (k : Int) < (d.cores.length : Int) := by omega
   have b0 : (0 : Int) ≤ (k : Int) := by omega
   obtain ⟨kk, hkk⟩ : ∃ x, d.cores[k]? = some x := ⟨_, List.getElem?_eq_getElem (by have := HL.out; omega)⟩
   obtain ⟨t, htt⟩ : ∃ x, sd.ths[k]? = some x := ⟨_, List.getElem?_eq_getElem (by have := HL.out; omega)⟩
   obtain ⟨k8, kst⟩ := core_of H2.out hkk
   have t4 := (src_of H3.out).2.2 k t htt
   have CC := hidS (COR.out wr KR.out k kk t hkk htt k8 t4 kst)
   have HKK := hidS hkk
   have HTT := hidS htt
   clear hkk htt k8 kst t4
   go_wp2_with fail
   refine Calls.mono CC.out ?_
   rintro e w8 ⟨rfl, hb8⟩
   have K8 := hidS (KR.out.trans (hb8.mono zr))
   have L8 := hidS (HB.out.trans (hb8.mono zr2))
   obtain ⟨bv, hbv⟩ : ∃ b, coreSV p k kk t = b := ⟨_, rfl⟩
   have HBV := hidS hbv
   rw [hbv]
   clear hbv hb8 q0 q1 m0 m1 m2 m3 y0 y1 y2 zz
   cases bv
   ·have F := hidS (same_no (p := p) (d := d) (sd := sd) (fun q => by have e := q.k k kk t HKK.out HTT.out; rw [HBV.out] at e; cases e))
    go_wp2
    go_ret
    exact ⟨retB F.out.symm, K8.out⟩
   ·go_wp2
    go_roundw
    case rel =>
     refine ⟨k + 1, by omega, by go_num, fun j a b hj ha hb => ?_, L8.out⟩
     by_cases e : j < k
     ·exact HJ.out j a b e ha hb
     ·have : j = k := by omega
      subst this
      rw [HKK.out] at ha
      rw [HTT.out] at hb
      cases ha
      cases hb
      exact HBV.out
    case measure => simp [intOf]; omega
  ·have bk : ¬ (k : Int) < (d.cores.length : Int) := by omega
   have ALL : Hid (coP p d sd) := fun i a b ha hb => HJ.out i a b (by have := (List.getElem?_eq_some_iff.1 ha).1; have := (List.getElem?_eq_some_iff.1 hb).1; omega) ha hb
   clear HJ hlt hk
   obtain ⟨wo, hwo⟩ : ∃ wo : World, wo = wr := ⟨_, rfl⟩
   subst hwo
   have BO := hidS (B4.out.below HB.out)
   go_wp2_with fail
   clear q0 q1 m0 m1 m2 m3 y0 y1 y2 zz bk
   go_loopw [8] (fun i wr => ∃ k : Nat, k ≤ p.caps.length ∧ i = .int .i64 k ∧ Hid (∀ (j : Nat), j < k → chsV d.mem p.caps sd.chs j = true) ∧ Hid (Below wo.heap.size wo wr)) (fun i _ => p.caps.length - (intOf i).toNat)
   case atStart => exact ⟨0, Nat.zero_le _, rfl, fun j hj => absurd hj (Nat.not_lt_zero _), Below.refl _ _⟩
   case round =>
    obtain ⟨k, hk, rfl, HJ, HB2⟩ := hrel
    obtain ⟨q0, q1, m0, m1, m2, m3, y0, y1, y2, zz⟩ := BO.out.below HB2.out
    have KR2 := hidS (KR.out.trans (HB2.out.mono zr))
    have zq := KR2.out.size
    have zq2 := HB2.out.size
    by_cases hlt : k < p.caps.length
    ·have bk : (k : Int) < (p.caps.length : Int) := by omega
     have b0 : (0 : Int) ≤ (k : Int) := by omega
     have CC := hidS (CHA.out wr KR2.out k)
     go_wp2_with fail
     refine Calls.mono CC.out ?_
     rintro e w8 ⟨rfl, hb8⟩
     have K8 := hidS (KR2.out.trans (hb8.mono zq))
     have L8 := hidS (HB2.out.trans (hb8.mono zq2))
     obtain ⟨bv, hbv⟩ : ∃ b, chsV d.mem p.caps sd.chs k = b := ⟨_, rfl⟩
     have HBV := hidS hbv
     rw [hbv]
     clear hbv hb8 q0 q1 m0 m1 m2 m3 y0 y1 y2 zz
     cases bv
     ·have F := hidS (same_no (p := p) (d := d) (sd := sd) (fun q => by have e := q.c k (by have := HC.out; omega); rw [HBV.out] at e; cases e))
      go_wp2
      go_ret
      exact ⟨retB F.out.symm, K8.out⟩
     ·go_wp2
      go_roundw
      case rel =>
       refine ⟨k + 1, by omega, by go_num, fun j hj => ?_, L8.out⟩
       by_cases e : j < k
       ·exact HJ.out j e
       ·have : j = k := by omega
        subst this
        exact HBV.out
      case measure => simp [intOf]; omega
    ·have bk : ¬ (k : Int) < (p.caps.length : Int) := by omega
     have F := hidS (same_yes (p := p) (d := d) (sd := sd) ⟨H3.out, H2.out, HL.out, of_decide_eq_true H4.out, ALL.out, fun j hj => HJ.out j (by have := HC.out; omega)⟩)
     clear hk hlt
     go_wp2
     go_ret
     exact ⟨retB F.out.symm, KR2.out⟩
end
section
set_option linter.unusedSimpArgs false
set_option linter.unusedVariables false
set_option maxRecDepth 100000
open Go.ChangeShapes Go.WideShapes Go.ChangeAt Go.RowKit
theorem cellsStep : Tryz.prog.cellsOf 164 = 5 := by kernel_rfl
theorem step_cells {H : Type} {enc : TypeId × Value → H} {w : World} {base : Nat} {spare : TypeId → Bool} {held : Bool} {fuel : Nat} {cs : List Value} {x : DataW H × List MemPlace}
  (h : DataW.trod enc Tryz.prog w base spare held fuel 164 cs = some x) :
  ∃ o r a b n : Int, cs = [.int .i64 o, .int .i64 r, .int .i64 a, .int .i64 b, .int .i64 n] ∧ (Lit.int .i64 o).wf = true ∧ (Lit.int .i64 r).wf = true ∧ (Lit.int .i64 a).wf = true ∧ (Lit.int .i64 b).wf = true ∧ (Lit.int .i64 n).wf = true := by
 obtain ⟨xs, n, _, rfl, hl, hlen, hf⟩ := DataW.trod_struct Tryz.underlying164 h
 rw [cellsStep] at hl
 obtain ⟨c0, c1, c2, c3, c4, rfl⟩ := list5 hl
 obtain ⟨y0, y1, y2, y3, y4, rfl⟩ := list5 (hlen.trans rfl)
 have g0 := hf 0 _ rfl
 have g1 := hf 1 _ rfl
 have g2 := hf 2 _ rfl
 have g3 := hf 3 _ rfl
 have g4 := hf 4 _ rfl
 simp [cellsInt] at g0 g1 g2 g3 g4
 obtain ⟨o, e0, -, w0⟩ := DataW.trod_int Tryz.underlying3 g0
 obtain ⟨r, e1, -, w1⟩ := DataW.trod_int Tryz.underlying3 g1
 obtain ⟨a, e2, -, w2⟩ := DataW.trod_int Tryz.underlying3 g2
 obtain ⟨b, e3, -, w3⟩ := DataW.trod_int Tryz.underlying3 g3
 obtain ⟨c, e4, -, w4⟩ := DataW.trod_int Tryz.underlying3 g4
 simp at e0 e1 e2 e3 e4
 subst e0 e1 e2 e3 e4
 exact ⟨o, r, a, b, c, rfl, w0, w1, w2, w3, w4⟩
end
section
set_option linter.unusedSimpArgs false
set_option linter.unusedVariables false
set_option maxRecDepth 100000
open Go.ChangeShapes Go.WideShapes Go.ChangeAt Go.RowKit Go.Deep
theorem stepS_spot {H : Type} {enc : TypeId × Value → H} {w : World} {base : Nat} {spare : TypeId → Bool} {held : Bool} {n : Nat} {a : Addr} {cs : List Value} {x : DataW H × List MemPlace}
  (hc : w.cells? base (a.add (0 * 5)) 5 = some cs) (h : DataW.trod enc Tryz.prog w base spare held n 164 cs = some x) :
  a.spot = none ∧ a.block < w.heap.size := by
 obtain ⟨o, r, b, c, d, rfl, -⟩ := step_cells h
 obtain ⟨-, -, hcell⟩ := World.cells?_some hc
 have c0 : w.cell? a = some (.int .i64 o) := by simpa [Addr.add] using hcell 0 (by omega)
 exact ⟨World.cell?_spot c0, cell_lt c0⟩
theorem stepS_at {H : Type} {enc : TypeId × Value → H} {w : World} {base : Nat} {spare : TypeId → Bool} {held : Bool} {n g off i : Nat} {cs : List Value} {x : DataW H × List MemPlace}
  (hc : w.cells? base (Addr.add ⟨g, off, none⟩ (i * 5)) 5 = some cs) (h : DataW.trod enc Tryz.prog w base spare held n 164 cs = some x) :
  ∃ y : I5, At5 w g (off + i * 5) y := by
 obtain ⟨o, r, b, c, d, rfl, -⟩ := step_cells h
 obtain ⟨-, -, hcell⟩ := World.cells?_some hc
 rw [add_plain] at hcell
 have c0 := hcell 0 (by omega)
 have c1 := hcell 1 (by omega)
 have c2 := hcell 2 (by omega)
 have c3 := hcell 3 (by omega)
 have c4 := hcell 4 (by omega)
 rw [add_plain] at c0 c1 c2 c3 c4
 exact ⟨⟨o, r, b, c, d⟩, c0, c1, c2, c3, c4⟩
end
section
set_option linter.unusedSimpArgs false
set_option linter.unusedVariables false
set_option maxRecDepth 100000
open Go.ChangeShapes Go.WideShapes Go.ChangeAt Go.RowKit Go.Deep
end
section
set_option linter.unusedSimpArgs false
set_option linter.unusedVariables false
set_option maxRecDepth 100000
open Go.ChangeShapes Go.WideShapes Go.ChangeAt Go.RowKit Go.Deep
theorem cellsWrite : Tryz.prog.cellsOf 186 = 2 := by kernel_rfl
theorem cellsWS : Tryz.prog.cellsOf 149 = 1 := by kernel_rfl
theorem cellsWSS : Tryz.prog.cellsOf 28 = 1 := by kernel_rfl
theorem cellsMem : Tryz.prog.cellsOf 30 = 1 := by kernel_rfl
theorem list1 {α : Type} {cs : List α} (h : cs.length = 1) : ∃ c0, cs = [c0] := by
 match cs, h with
 | [c0], _ => exact ⟨c0, rfl⟩
theorem write_cells {H : Type} {enc : TypeId × Value → H} {w : World} {base : Nat} {held : Bool} {fuel : Nat} {cs : List Value} {x : DataW H × List MemPlace}
  (h : DataW.trod enc Tryz.prog w base (fun _ => true) held fuel 186 cs = some x) :
  ∃ (t : WD) (s : Option Addr) (c : Nat), cs = [.int .i64 t.v, .slice s t.vw.length c] ∧ t.vw.length ≤ maxLen ∧ IntsR w 0 w.heap.size s t.vw := by
 obtain ⟨xs, n, _, rfl, hl, hlen, hf⟩ := DataW.trod_struct Tryz.underlying186 h
 rw [cellsWrite] at hl
 obtain ⟨c0, c1, rfl⟩ := list2 hl
 obtain ⟨y0, y1, rfl⟩ := list2 (hlen.trans rfl)
 have g0 := hf 0 _ rfl
 have g1 := hf 1 _ rfl
 simp [cellsInt, cellsSi] at g0 g1
 obtain ⟨pc, e0, -, -⟩ := DataW.trod_int Tryz.underlying3 g0
 obtain ⟨s, c, l, rfl, ha, hA⟩ := ints_read g1
 simp at e0
 subst e0
 exact ⟨⟨pc, l⟩, s, c, rfl, ha, hA⟩
theorem writes_read {H : Type} {enc : TypeId × Value → H} {w : World} {base : Nat} {held : Bool} {fuel : Nat} {v : Value} {x : DataW H × List MemPlace}
  (hf : DataW.trod enc Tryz.prog w base (fun _ => true) held fuel 149 [v] = some x) :
  ∃ (s : Option Addr) (c : Nat) (l : List WD), v = .slice s l.length c ∧ l.length ≤ maxLen ∧ (∀ (i : Nat) (t : WD), l[i]? = some t → t.vw.length ≤ maxLen) ∧ WsR w 0 w.heap.size s l := by
 rcases open_slice Tryz.underlying149 hf with ⟨hcs, -⟩ | ⟨a, len, cap, m, n, D, Pl, hcs, -, hl, hm, hmm, -, hel⟩
 ·simp at hcs
  exact ⟨none, 0, [], hcs, Nat.zero_le _, fun i t ht => by simp at ht, .inl rfl⟩
 ·simp at hcs
  rw [cellsWrite] at hel
  have hle : len ≤ m := by rw [hmm]; split <;> omega
  by_cases h0 : len = 0
  ·subst h0
   exact ⟨some a, cap, [], hcs, Nat.zero_le _, fun i t ht => by simp at ht, .inl rfl⟩
  ·obtain ⟨cs0, h1, h2⟩ := hel 0 (by omega)
   obtain ⟨t0, q0, r0, rfl, -, -⟩ := write_cells h2
   obtain ⟨-, -, hcell0⟩ := World.cells?_some h1
   have c0 : w.cell? a = some (.int .i64 t0.v) := by simpa [Addr.add] using hcell0 0 (by omega)
   have hs := World.cell?_spot c0
   have hg := cell_lt c0
   obtain ⟨g, off, spot⟩ := a
   simp at hs
   subst hs
   obtain ⟨V, hV⟩ := @choose_lt WD ⟨t0⟩ len (fun i y => WR w 0 w.heap.size g (off + i * 2) y ∧ y.vw.length ≤ maxLen) (fun i hi => by
    obtain ⟨cs', h1, h2⟩ := hel i (by omega)
    obtain ⟨t, q, r, rfl, hm1, hI⟩ := write_cells h2
    obtain ⟨-, -, hcell⟩ := World.cells?_some h1
    rw [add_plain] at hcell
    have c0 := hcell 0 (by omega)
    have c1 := hcell 1 (by omega)
    rw [add_plain] at c0 c1
    exact ⟨t, ⟨q, r, c0, c1, hI⟩, hm1⟩)
   have e : ∀ i t, ((List.range len).map V)[i]? = some t → i < len ∧ t = V i := fun i t ht => by
    rw [List.getElem?_map] at ht
    obtain ⟨y, hy, rfl⟩ := Option.map_eq_some_iff.1 ht
    have hi : i < len := by have := (List.getElem?_eq_some_iff.1 hy).1; simpa using this
    rw [List.getElem?_range hi] at hy
    injection hy with hy
    exact ⟨hi, by rw [hy]⟩
   refine ⟨some ⟨g, off, none⟩, cap, (List.range len).map V, by simp [hcs], by simp; omega, fun i t ht => ?_, .inr ⟨g, off, rfl, Nat.zero_le _, hg, fun i r hr => ?_⟩⟩
   ·obtain ⟨hi, rfl⟩ := e i t ht
    exact (hV i hi).2
   ·obtain ⟨hi, rfl⟩ := e i r hr
    exact (hV i hi).1
theorem mem_read {H : Type} {enc : TypeId × Value → H} {w : World} {base : Nat} {held : Bool} {fuel : Nat} {v : Value} {x : DataW H × List MemPlace}
  (hf : DataW.trod enc Tryz.prog w base (fun _ => true) held fuel 28 [v] = some x) :
  ∃ (s : Option Addr) (c : Nat) (m : List (List WD)), v = .slice s m.length c ∧ MLens m ∧ MemR w 0 w.heap.size s m := by
 rcases open_slice1 Tryz.underlying28 cellsWS hf with ⟨hcs, -⟩ | ⟨a, len, cap, m, n, V, D, Pl, hcs, -, hl, hm, hmm, -, hel⟩
 ·simp at hcs
  exact ⟨none, 0, [], hcs, ⟨Nat.zero_le _, fun i l h => by simp at h, fun i l k x h => by simp at h⟩, .inl rfl⟩
 ·simp at hcs
  have hle : len ≤ m := by rw [hmm]; split <;> omega
  by_cases h0 : len = 0
  ·subst h0
   exact ⟨some a, cap, [], hcs, ⟨Nat.zero_le _, fun i l h => by simp at h, fun i l k x h => by simp at h⟩, .inl rfl⟩
  ·obtain ⟨c0, -⟩ := hel 0 (by omega)
   have c0' : w.cell? a = some (V 0) := by simpa [Addr.add] using c0
   have hs := World.cell?_spot c0'
   have hg := cell_lt c0'
   obtain ⟨g, off, spot⟩ := a
   simp at hs
   subst hs
   obtain ⟨L, hL⟩ := @choose_lt (List WD) ⟨[]⟩ len (fun i l => RwR w 0 w.heap.size g (off + i) l ∧ l.length ≤ maxLen ∧ ∀ (k : Nat) (x : WD), l[k]? = some x → x.vw.length ≤ maxLen) (fun i hi => by
    obtain ⟨h1, h2⟩ := hel i (by omega)
    obtain ⟨s, c, l, hv, hlm, hlv, hin⟩ := writes_read h2
    rw [add_plain, hv] at h1
    exact ⟨l, ⟨s, c, h1, hin⟩, hlm, hlv⟩)
   have e : ∀ i t, ((List.range len).map L)[i]? = some t → i < len ∧ t = L i := fun i t ht => by
    rw [List.getElem?_map] at ht
    obtain ⟨y, hy, rfl⟩ := Option.map_eq_some_iff.1 ht
    have hi : i < len := by have := (List.getElem?_eq_some_iff.1 hy).1; simpa using this
    rw [List.getElem?_range hi] at hy
    injection hy with hy
    exact ⟨hi, by rw [hy]⟩
   refine ⟨some ⟨g, off, none⟩, cap, (List.range len).map L, by simp [hcs], ⟨by simp; omega, fun i l hl => ?_, fun i l k x hl hx => ?_⟩, .inr ⟨g, off, rfl, Nat.zero_le _, hg, fun i l hl => ?_⟩⟩
   ·obtain ⟨hi, rfl⟩ := e i l hl
    exact (hL i hi).2.1
   ·obtain ⟨hi, rfl⟩ := e i l hl
    exact (hL i hi).2.2 k x hx
   ·obtain ⟨hi, rfl⟩ := e i l hl
    exact (hL i hi).1
end
section
set_option linter.unusedSimpArgs false
set_option linter.unusedVariables false
set_option maxRecDepth 100000
open Go.ChangeShapes Go.WideShapes Go.ChangeAt Go.RowKit Go.Deep
theorem cellsStepS : Tryz.prog.cellsOf 97 = 1 := by kernel_rfl
theorem cellsStepSS : Tryz.prog.cellsOf 26 = 1 := by kernel_rfl
theorem steps_read {H : Type} {enc : TypeId × Value → H} {w : World} {base : Nat} {held : Bool} {fuel : Nat} {v : Value} {x : DataW H × List MemPlace}
  (hf : DataW.trod enc Tryz.prog w base (fun _ => true) held fuel 97 [v] = some x) :
  ∃ (s : Option Addr) (c : Nat) (l : List I5), v = .slice s l.length c ∧ l.length ≤ maxLen ∧ InsR w 0 w.heap.size s l := by
 rcases open_slice Tryz.underlying97 hf with ⟨hcs, -⟩ | ⟨a, len, cap, m, n, D, Pl, hcs, -, hl, hm, hmm, -, hel⟩
 ·simp at hcs
  exact ⟨none, 0, [], hcs, Nat.zero_le _, .inl rfl⟩
 ·simp at hcs
  rw [cellsStep] at hel
  have hle : len ≤ m := by rw [hmm]; split <;> omega
  by_cases h0 : len = 0
  ·subst h0
   exact ⟨some a, cap, [], hcs, Nat.zero_le _, .inl rfl⟩
  ·obtain ⟨cs0, h1, h2⟩ := hel 0 (by omega)
   obtain ⟨hs, hg⟩ := stepS_spot h1 h2
   obtain ⟨g, off, spot⟩ := a
   simp at hs
   subst hs
   obtain ⟨V, hV⟩ := @choose_lt I5 ⟨z5⟩ len (fun i y => At5 w g (off + i * 5) y) (fun i hi => by
    obtain ⟨cs', h1, h2⟩ := hel i (by omega)
    exact stepS_at h1 h2)
   refine ⟨some ⟨g, off, none⟩, cap, (List.range len).map V, by simp [hcs], by simp; omega, .inr ⟨g, off, rfl, Nat.zero_le _, hg, ?_⟩⟩
   intro i hi
   simp at hi
   have e : ((List.range len).map V).getD i z5 = V i := by simp [hi]
   rw [e]
   exact hV i hi
theorem codes_read {H : Type} {enc : TypeId × Value → H} {w : World} {base : Nat} {held : Bool} {fuel : Nat} {v : Value} {x : DataW H × List MemPlace}
  (hf : DataW.trod enc Tryz.prog w base (fun _ => true) held fuel 26 [v] = some x) :
  ∃ (s : Option Addr) (c : Nat) (m : List (List I5)), v = .slice s m.length c ∧ m.length ≤ maxLen ∧ (∀ (i : Nat) (x : List I5), m[i]? = some x → x.length ≤ maxLen) ∧ CsR w 0 w.heap.size s m := by
 rcases open_slice1 Tryz.underlying26 cellsStepS hf with ⟨hcs, -⟩ | ⟨a, len, cap, m, n, V, D, Pl, hcs, -, hl, hm, hmm, -, hel⟩
 ·simp at hcs
  exact ⟨none, 0, [], hcs, Nat.zero_le _, fun i l h => by simp at h, .inl rfl⟩
 ·simp at hcs
  have hle : len ≤ m := by rw [hmm]; split <;> omega
  by_cases h0 : len = 0
  ·subst h0
   exact ⟨some a, cap, [], hcs, Nat.zero_le _, fun i l h => by simp at h, .inl rfl⟩
  ·obtain ⟨c0, -⟩ := hel 0 (by omega)
   have c0' : w.cell? a = some (V 0) := by simpa [Addr.add] using c0
   have hs := World.cell?_spot c0'
   have hg := cell_lt c0'
   obtain ⟨g, off, spot⟩ := a
   simp at hs
   subst hs
   obtain ⟨L, hL⟩ := @choose_lt (List I5) ⟨[]⟩ len (fun i l => CR w 0 w.heap.size g (off + i) l ∧ l.length ≤ maxLen) (fun i hi => by
    obtain ⟨h1, h2⟩ := hel i (by omega)
    obtain ⟨s, c, l, hv, hlm, hin⟩ := steps_read h2
    rw [add_plain, hv] at h1
    exact ⟨l, ⟨s, c, h1, hin⟩, hlm⟩)
   have e : ∀ i t, ((List.range len).map L)[i]? = some t → i < len ∧ t = L i := fun i t ht => by
    rw [List.getElem?_map] at ht
    obtain ⟨y, hy, rfl⟩ := Option.map_eq_some_iff.1 ht
    have hi : i < len := by have := (List.getElem?_eq_some_iff.1 hy).1; simpa using this
    rw [List.getElem?_range hi] at hy
    injection hy with hy
    exact ⟨hi, by rw [hy]⟩
   refine ⟨some ⟨g, off, none⟩, cap, (List.range len).map L, by simp [hcs], by simp; omega, fun i l hl => ?_, .inr ⟨g, off, rfl, Nat.zero_le _, hg, fun i l hl => ?_⟩⟩
   ·obtain ⟨hi, rfl⟩ := e i l hl
    exact (hL i hi).2
   ·obtain ⟨hi, rfl⟩ := e i l hl
    exact (hL i hi).1
theorem cellsCore : Tryz.prog.cellsOf 100 = 4 := by kernel_rfl
theorem list4 {α : Type} {cs : List α} (h : cs.length = 4) : ∃ c0 c1 c2 c3, cs = [c0, c1, c2, c3] := by
 match cs, h with
 | [c0, c1, c2, c3], _ => exact ⟨c0, c1, c2, c3, rfl⟩
theorem core_cells {H : Type} {enc : TypeId × Value → H} {w : World} {base : Nat} {held : Bool} {fuel : Nat} {cs : List Value} {x : DataW H × List MemPlace}
  (h : DataW.trod enc Tryz.prog w base (fun _ => true) held fuel 100 cs = some x) :
  ∃ (t : KD) (s : Option Addr) (c : Nat) (s' : Option Addr) (c' : Nat), cs = [.int .i64 t.pc, .slice s t.regs.length c, .slice s' t.vw.length c', .int .i64 t.st] ∧ (t.regs.length ≤ maxLen ∧ t.vw.length ≤ maxLen) ∧ IntsR w 0 w.heap.size s t.regs ∧ IntsR w 0 w.heap.size s' t.vw := by
 obtain ⟨xs, n, _, rfl, hl, hlen, hf⟩ := DataW.trod_struct Tryz.underlying100 h
 rw [cellsCore] at hl
 obtain ⟨c0, c1, c2, c3, rfl⟩ := list4 hl
 obtain ⟨y0, y1, y2, y3, rfl⟩ := list4 (hlen.trans rfl)
 have g0 := hf 0 _ rfl
 have g1 := hf 1 _ rfl
 have g2 := hf 2 _ rfl
 have g3 := hf 3 _ rfl
 simp [cellsInt, cellsSi] at g0 g1 g2 g3
 obtain ⟨pc, e0, -, -⟩ := DataW.trod_int Tryz.underlying3 g0
 obtain ⟨st, e3, -, -⟩ := DataW.trod_int Tryz.underlying3 g3
 obtain ⟨s, c, l, rfl, ha, hA⟩ := ints_read g1
 obtain ⟨s', c', l', rfl, ha', hA'⟩ := ints_read g2
 simp at e0 e3
 subst e0 e3
 exact ⟨⟨pc, l, l', st⟩, s, c, s', c', rfl, ⟨ha, ha'⟩, hA, hA'⟩
theorem cores_read {H : Type} {enc : TypeId × Value → H} {w : World} {base : Nat} {held : Bool} {fuel : Nat} {v : Value} {x : DataW H × List MemPlace}
  (hf : DataW.trod enc Tryz.prog w base (fun _ => true) held fuel 27 [v] = some x) :
  ∃ (s : Option Addr) (c : Nat) (l : List KD), v = .slice s l.length c ∧ l.length ≤ maxLen ∧ (∀ (i : Nat) (t : KD), l[i]? = some t → t.regs.length ≤ maxLen ∧ t.vw.length ≤ maxLen) ∧ KsR w 0 w.heap.size s l := by
 rcases open_slice Tryz.underlying27 hf with ⟨hcs, -⟩ | ⟨a, len, cap, m, n, D, Pl, hcs, -, hl, hm, hmm, -, hel⟩
 ·simp at hcs
  exact ⟨none, 0, [], hcs, Nat.zero_le _, fun i t ht => by simp at ht, .inl rfl⟩
 ·simp at hcs
  rw [cellsCore] at hel
  have hle : len ≤ m := by rw [hmm]; split <;> omega
  by_cases h0 : len = 0
  ·subst h0
   exact ⟨some a, cap, [], hcs, Nat.zero_le _, fun i t ht => by simp at ht, .inl rfl⟩
  ·obtain ⟨cs0, h1, h2⟩ := hel 0 (by omega)
   obtain ⟨t0, q0, r0, q1, r1, rfl, -, -, -⟩ := core_cells h2
   obtain ⟨-, -, hcell0⟩ := World.cells?_some h1
   have c0 : w.cell? a = some (.int .i64 t0.pc) := by simpa [Addr.add] using hcell0 0 (by omega)
   have hs := World.cell?_spot c0
   have hg := cell_lt c0
   obtain ⟨g, off, spot⟩ := a
   simp at hs
   subst hs
   obtain ⟨V, hV⟩ := @choose_lt KD ⟨t0⟩ len (fun i y => KR w 0 w.heap.size g (off + i * 4) y ∧ (y.regs.length ≤ maxLen ∧ y.vw.length ≤ maxLen)) (fun i hi => by
    obtain ⟨cs', h1, h2⟩ := hel i (by omega)
    obtain ⟨t, q, r, q', r', rfl, hm1, hI, hI'⟩ := core_cells h2
    obtain ⟨-, -, hcell⟩ := World.cells?_some h1
    rw [add_plain] at hcell
    have c0 := hcell 0 (by omega)
    have c1 := hcell 1 (by omega)
    have c2 := hcell 2 (by omega)
    have c3 := hcell 3 (by omega)
    rw [add_plain] at c0 c1 c2 c3
    exact ⟨t, ⟨q, r, q', r', c0, c1, c2, c3, hI, hI'⟩, hm1⟩)
   have e : ∀ i t, ((List.range len).map V)[i]? = some t → i < len ∧ t = V i := fun i t ht => by
    rw [List.getElem?_map] at ht
    obtain ⟨y, hy, rfl⟩ := Option.map_eq_some_iff.1 ht
    have hi : i < len := by have := (List.getElem?_eq_some_iff.1 hy).1; simpa using this
    rw [List.getElem?_range hi] at hy
    injection hy with hy
    exact ⟨hi, by rw [hy]⟩
   refine ⟨some ⟨g, off, none⟩, cap, (List.range len).map V, by simp [hcs], by simp; omega, fun i t ht => ?_, .inr ⟨g, off, rfl, Nat.zero_le _, hg, fun i r hr => ?_⟩⟩
   ·obtain ⟨hi, rfl⟩ := e i t ht
    exact (hV i hi).2
   ·obtain ⟨hi, rfl⟩ := e i r hr
    exact (hV i hi).1
theorem cellsNote : Tryz.prog.cellsOf 130 = 2 := by kernel_rfl
theorem note_cells {H : Type} {enc : TypeId × Value → H} {w : World} {base : Nat} {held : Bool} {fuel : Nat} {cs : List Value} {x : DataW H × List MemPlace}
  (h : DataW.trod enc Tryz.prog w base (fun _ => true) held fuel 130 cs = some x) : ∃ t : ND, cs = [.int .i64 t.who, .int .i64 t.v] := by
 obtain ⟨xs, n, _, rfl, hl, hlen, hf⟩ := DataW.trod_struct Tryz.underlying130 h
 rw [cellsNote] at hl
 obtain ⟨c0, c1, rfl⟩ := list2 hl
 obtain ⟨y0, y1, rfl⟩ := list2 (hlen.trans rfl)
 have g0 := hf 0 _ rfl
 have g1 := hf 1 _ rfl
 simp [cellsInt] at g0 g1
 obtain ⟨a, e0, -, -⟩ := DataW.trod_int Tryz.underlying3 g0
 obtain ⟨b, e1, -, -⟩ := DataW.trod_int Tryz.underlying3 g1
 simp at e0 e1
 subst e0 e1
 exact ⟨⟨a, b⟩, rfl⟩
theorem notes_read {H : Type} {enc : TypeId × Value → H} {w : World} {base : Nat} {held : Bool} {fuel : Nat} {v : Value} {x : DataW H × List MemPlace}
  (hf : DataW.trod enc Tryz.prog w base (fun _ => true) held fuel 31 [v] = some x) :
  ∃ (s : Option Addr) (c : Nat) (l : List ND), v = .slice s l.length c ∧ l.length ≤ maxLen ∧ NtsR w 0 w.heap.size s l := by
 rcases open_slice Tryz.underlying31 hf with ⟨hcs, -⟩ | ⟨a, len, cap, m, n, D, Pl, hcs, -, hl, hm, hmm, -, hel⟩
 ·simp at hcs
  exact ⟨none, 0, [], hcs, Nat.zero_le _, .inl rfl⟩
 ·simp at hcs
  rw [cellsNote] at hel
  have hle : len ≤ m := by rw [hmm]; split <;> omega
  by_cases h0 : len = 0
  ·subst h0
   exact ⟨some a, cap, [], hcs, Nat.zero_le _, .inl rfl⟩
  ·obtain ⟨cs0, h1, h2⟩ := hel 0 (by omega)
   obtain ⟨t0, rfl⟩ := note_cells h2
   obtain ⟨-, -, hcell0⟩ := World.cells?_some h1
   have c0 : w.cell? a = some (.int .i64 t0.who) := by simpa [Addr.add] using hcell0 0 (by omega)
   have hs := World.cell?_spot c0
   have hg := cell_lt c0
   obtain ⟨g, off, spot⟩ := a
   simp at hs
   subst hs
   obtain ⟨V, hV⟩ := @choose_lt ND ⟨t0⟩ len (fun i y => NtR w g (off + i * 2) y) (fun i hi => by
    obtain ⟨cs', h1, h2⟩ := hel i (by omega)
    obtain ⟨t, rfl⟩ := note_cells h2
    obtain ⟨-, -, hcell⟩ := World.cells?_some h1
    rw [add_plain] at hcell
    have c0 := hcell 0 (by omega)
    have c1 := hcell 1 (by omega)
    rw [add_plain] at c0 c1
    exact ⟨t, c0, c1⟩)
   refine ⟨some ⟨g, off, none⟩, cap, (List.range len).map V, by simp [hcs], by simp; omega, .inr ⟨g, off, rfl, Nat.zero_le _, hg, fun i r hr => ?_⟩⟩
   rw [List.getElem?_map] at hr
   obtain ⟨y, hy, rfl⟩ := Option.map_eq_some_iff.1 hr
   have hi : i < len := by have := (List.getElem?_eq_some_iff.1 hy).1; simpa using this
   rw [List.getElem?_range hi] at hy
   injection hy with hy
   rw [← hy]
   exact hV i hi
theorem cellsSN : Tryz.prog.cellsOf 31 = 1 := by kernel_rfl
theorem cellsSK : Tryz.prog.cellsOf 27 = 1 := by kernel_rfl
theorem cellsMach : Tryz.prog.cellsOf 33 = 4 := by kernel_rfl
theorem memory_read {H : Type} {enc : TypeId × Value → H} {w : World} {base : Nat} {held : Bool} {fuel : Nat} {v : Value} {x : DataW H × List MemPlace}
  (hf : DataW.trod enc Tryz.prog w base (fun _ => true) held fuel 30 [v] = some x) : ∃ (s : Option Addr) (c : Nat) (m : List (List WD)), v = .slice s m.length c ∧ MLens m ∧ MemR w 0 w.heap.size s m := by
 obtain ⟨xs, n, _, _, hl, hlen, hfs⟩ := DataW.trod_struct Tryz.underlying30 hf
 obtain ⟨y0, rfl⟩ := list1 (hlen.trans rfl)
 have g0 := hfs 0 _ rfl
 simp [cellsWSS] at g0
 exact mem_read g0
theorem open_machine {H : Type} {enc : TypeId × Value → H} {w : World} {base b0 : Nat} {held : Bool} {k : Reach} {v : Value} {d : DataW H} {q : List MemPlace}
  (hv : Value.okWide Tryz.prog w k b0 33 v) (h : DataW.Trod enc Tryz.prog w base (fun _ => true) held 33 v d q) :
  ∃ (s1 s2 s3 s4 : Option Addr) (c1 c2 c3 c4 : Nat) (p : MD), v = .agg #[.slice s1 p.codes.length c1, .slice s2 p.cores.length c2, .slice s3 p.mem.length c3, .slice s4 p.tr.length c4] ∧ MaLens p ∧ MaR w 0 w.heap.size s1 s2 s3 s4 p := by
 obtain ⟨cs, rfl, hsz⟩ := okWide_struct Tryz.underlying33 hv
 obtain ⟨fuel, hf⟩ := h
 obtain ⟨xs, n, _, _, hl, hlen, hfs⟩ := DataW.trod_struct Tryz.underlying33 hf
 rw [cellsMach] at hl
 obtain ⟨l⟩ := cs
 have hl' : l.length = 4 := by simpa [Value.cells] using hl
 obtain ⟨c0, c1, c2, c3, rfl⟩ := list4 hl'
 obtain ⟨y0, y1, y2, y3, rfl⟩ := list4 (hlen.trans rfl)
 have g0 := hfs 0 _ rfl
 have g1 := hfs 1 _ rfl
 have g2 := hfs 2 _ rfl
 have g3 := hfs 3 _ rfl
 simp [cellsStepSS, cellsSK, cellsSN, cellsMem, Value.cells] at g0 g1 g2 g3
 obtain ⟨s1, k1, a, rfl, ha, ha', hA⟩ := codes_read g0
 obtain ⟨s2, k2, b, rfl, hb, hb', hB⟩ := cores_read g1
 obtain ⟨s3, k3, m, rfl, hm, hM⟩ := memory_read g2
 obtain ⟨s4, k4, e, rfl, he, hE⟩ := notes_read g3
 exact ⟨s1, s2, s3, s4, k1, k2, k3, k4, ⟨a, b, m, e⟩, rfl, ⟨ha, ha', hb, hb', hm, he⟩, hA, hB, hM, hE⟩
end
end Go.Proofs.YtcfehbfjillnoaaGreat
