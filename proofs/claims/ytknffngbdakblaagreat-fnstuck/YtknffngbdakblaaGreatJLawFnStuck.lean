/- The law FnStuck of the given statements: a drawn program is stuck just if nobody is able to go on and somebody would. No condition. -/
import Derived.Test.YtknffngbdakblaaGreatRows
import Derived.Test.YtknffngbdakblaaGreatJG19
import Derived.Test.YtknffngbdakblaaGreatJSameSrc
import Derived.Test.YtknffngbdakblaaGreatJG20
import Derived.Test.YtknffngbdakblaaGreatJG14
import Derived.Test.YtknffngbdakblaaGreatJSrcOkS
import Derived.ProofKit
import Derived.OpenShut
import Derived.ShutString
import Derived.ChangeOld
import Derived.ChangeSlices
namespace Go.Proofs.YtknffngbdakblaaGreat
set_option linter.unusedSimpArgs false
set_option linter.unusedVariables false
set_option maxRecDepth 100000
open Go.ChangeShapes Go.WideShapes Go.ChangeAt Go.RowKit
/- what lies in memory all the while: the program and the source in their boxes -/
structure Fu (bP bS lo hi hi' : Nat) (p1 p2 s1 s2 s3 : Option Addr) (a1 a2 c1 c2 c3 : Nat) (p : PD) (D : SD) (X : World) : Prop where
 pb : BoP bP X (.slice p1 p.caps.length a1) (.slice p2 p.bods.length a2)
 sb : BoF bS X (.slice s1 D.ths.length c1) (.slice s2 D.chs.length c2) (.slice s3 D.tr.length c3)
 pr : ProgR X lo hi p1 p2 p
 sr : SrcR X lo hi' s1 s2 s3 D
 h1 : hi ≤ X.heap.size
 h2 : hi' ≤ X.heap.size
theorem Fu.keep {bP bS lo hi hi' : Nat} {p1 p2 s1 s2 s3 : Option Addr} {a1 a2 c1 c2 c3 : Nat} {p : PD} {D : SD} {X Y : World} (h : Fu bP bS lo hi hi' p1 p2 s1 s2 s3 a1 a2 c1 c2 c3 p D X) (k : Below X.heap.size X Y) : Fu bP bS lo hi hi' p1 p2 s1 s2 s3 a1 a2 c1 c2 c3 p D Y :=
 ⟨h.pb.keep (k.block _ h.pb.z) k.size, h.sb.below k h.sb.z, ProgR.keep' h.pr (Keep.of_below k h.h1), h.sr.keep (Keep.of_below k h.h2), Nat.le_trans h.h1 k.size, Nat.le_trans h.h2 k.size⟩
theorem Ints.keepS {w w' : World} {B : Nat} {s : Option Addr} {l : List Int} (h : Ints w s l) (hb : Below B w w') (hB : w.heap.size ≤ B) : Ints w' s l := by
 rcases h with h | ⟨g, o, hs, hg, hc⟩
 ·exact .inl h
 ·exact .inr ⟨g, o, hs, by have := hb.size; omega, fun i hi => (hb.cell (p := ⟨g, o + i, none⟩) (by show g < B; omega)).trans (hc i hi)⟩
theorem ownIntsK {w : World} {b cu : Nat} {su : Option Addr} {l : List Int} (h : OwnN w b (.slice su l.length cu) l) : Ints w su l := by
 obtain ⟨s9, c9, e9, r9⟩ := OwnN.row h
 cases e9
 rcases r9 with h | ⟨g, o, hs, hg, hc⟩
 ·exact .inl h
 ·exact .inr ⟨g, o, hs, hg, hc⟩
theorem ablN_mem (p : PD) (d : SD) (i : Nat) : ∀ k : Nat, ((i : Int) ∈ ablN p d k ↔ i < k ∧ stepK p d i = 0)
 | 0 => by simp [ablN]
 | k + 1 => by
  unfold ablN
  have ih := ablN_mem p d i k
  by_cases h : stepK p d k = 0
  ·rw [if_pos h, List.mem_append, ih, List.mem_singleton]
   constructor
   ·rintro (⟨a, b⟩ | a)
    ·exact ⟨by omega, b⟩
    ·have : i = k := by omega
     subst this
     exact ⟨by omega, h⟩
   ·rintro ⟨a, b⟩
    by_cases e : i = k
    ·exact .inr (by omega)
    ·exact .inl ⟨by omega, b⟩
  ·rw [if_neg h, ih]
   constructor
   ·rintro ⟨a, b⟩; exact ⟨by omega, b⟩
   ·rintro ⟨a, b⟩
    by_cases e : i = k
    ·subst e; exact absurd b h
    ·exact ⟨by omega, b⟩
theorem abl_mem {p : PD} {d : SD} (hs : srcB p d = true) {i : Nat} (hi : i < d.ths.length) : decide ((i : Int) ∈ ablB p d) = (stepKb p d i == 0) := by
 unfold ablB stepKb
 rw [if_pos hs, if_pos hs, Bool.eq_iff_iff]
 simp only [decide_eq_true_eq, beq_iff_eq]
 rw [ablN_mem]
 exact ⟨fun h => h.2, fun h => ⟨hi, h⟩⟩
theorem runs_snoc {l : List TD} {k : Nat} {t : TD} (h : l[k]? = some t) : runsB (l.take (k + 1)) = (runsB (l.take k) || t.st == 0) := by
 unfold runsB
 rw [List.take_add_one, h, Option.toList_some, List.any_append]
 simp
set_option maxRecDepth 100000 in
set_option maxHeartbeats 16000000 in
theorem walkFnStuck (s : Option Addr) (n c : Nat) (w : World) (hb : Bytes w w.heap.size s n) (hn : n ≤ maxLen) :
  Calls Tryz.prog 4 #[.slice s n c] w fun e w' => e = .returned (.bool true) ∧ Below w.heap.size w w' := by
 by_cases hbig : 1048576 < n
 ·clear hb
  go_enter Tryz.func4, Tryz.ntmps4
  go_wp2_with fail
  refine (big_any s n c w).mono ?_
  rintro e w1 ⟨rfl, hw⟩
  have hw' := hw.symm
  clear hw
  subst hw'
  rw [decide_eq_true hbig]
  go_wp2
  go_ret
  exact ⟨rfl, Below.refl _ _⟩
 have HB := hidR hb
 have HN := hidR hn
 have BG := hidR hbig
 clear hb hn hbig
 go_enter Tryz.func4, Tryz.ntmps4
 go_wp2_with fail
 refine (big_any s n c w).mono ?_
 rintro e w1 ⟨rfl, hw⟩
 have hw' := hw.symm
 clear hw
 subst hw'
 rw [decide_eq_false BG.out]
 go_wp2_with fail
 refine (drawStuck_any s n c w HB.out HN.out).mono ?_
 rintro e w1 ⟨v0, v1, x1, x2, x3, rfl, hp, hs, hb1⟩
 obtain ⟨hi, p1, p2, a1, a2, p, rfl, rfl, hp, hfp, hB⟩ := hp
 obtain ⟨hi', s1, s2, s3, c1, c2, c3, D, rfl, rfl, rfl, hr, hf, hB'⟩ := hs
 obtain ⟨A, hA⟩ : ∃ A, (w1.alloc (.cells #[.slice p1 p.caps.length a1, .slice p2 p.bods.length a2] 27)).alloc (.cells #[.slice s1 D.ths.length c1, .slice s2 D.chs.length c2, .slice s3 D.tr.length c3] 32) = A := ⟨_, rfl⟩
 have kA : Below w1.heap.size w1 A := by subst hA; exact ((Below.refl _ _).alloc (Nat.le_refl _) _).alloc (by simp) _
 have rA : BoF (w1.heap.size + 1) A (.slice s1 D.ths.length c1) (.slice s2 D.chs.length c2) (.slice s3 D.tr.length c3) := by
  subst hA
  exact ⟨by simp [go_sem], by simp [go_sem], by simp [go_sem], fun j => by simp [go_sem], by simp⟩
 have qA : BoP w1.heap.size A (.slice p1 p.caps.length a1) (.slice p2 p.bods.length a2) := by
  subst hA
  exact ⟨by simp [go_sem], by simp [go_sem], fun j => by simp [go_sem], by simp; omega⟩
 have HA := hidR hA
 have z1 := hb1.size
 have zA := kA.size
 have F1 : Hid (Fu w1.heap.size (w1.heap.size + 1) w.heap.size hi hi' p1 p2 s1 s2 s3 a1 a2 c1 c2 c3 p D A) := ⟨qA, rA, ProgR.keep' hp (Keep.of_below kA hB), hr.keep (Keep.of_below kA hB'), Nat.le_trans hB zA, Nat.le_trans hB' zA⟩
 have K1 := hidR (hb1.trans (kA.mono z1))
 have FP := hidR hfp
 have FS := hidR hf
 clear hb1 hr hf hfp hp hA kA HB HN BG hB hB'
 go_wp2_with fail
 rw [HA.out]
 clear HA qA rA z1 zA
 generalize w1.heap.size + 1 = bS at F1 ⊢
 generalize w1.heap.size = bP at F1 ⊢
 refine (implStuck_any p1 p2 s1 s2 s3 a1 a2 c1 c2 c3 _ _ _ _ p D A F1.out.pr F1.out.sr F1.out.h1 F1.out.h2 FP.out FS.out).mono ?_
 rintro e w2 ⟨rfl, hb2⟩
 have F2 := hidR (F1.out.keep hb2)
 have K2 := hidR (K1.out.trans (hb2.mono K1.out.size))
 clear hb2 F1 K1
 obtain ⟨k0, k1, -, -⟩ := F2.out.pb
 obtain ⟨m0, m1, m2, -, -⟩ := F2.out.sb
 go_wp2_with fail
 refine (implAble_any p1 p2 s1 s2 s3 a1 a2 c1 c2 c3 _ _ _ _ p D w2 F2.out.pr F2.out.sr F2.out.h1 F2.out.h2 FP.out FS.out).mono ?_
 rintro e w3 ⟨v, rfl, ho3, hb3⟩
 obtain ⟨su, cu, rfl⟩ := ownSl ho3
 have F3 := hidR (F2.out.keep hb3)
 have K3 := hidR (K2.out.trans (hb3.mono K2.out.size))
 have A3 := hidR (ownIntsK ho3)
 clear hb3 ho3 F2 K2 k0 k1 m0 m1 m2
 obtain ⟨k0, k1, -, -⟩ := F3.out.pb
 obtain ⟨m0, m1, m2, -, -⟩ := F3.out.sb
 go_wp2_with fail
 refine (specStuck_any p1 p2 s1 s2 s3 a1 a2 c1 c2 c3 _ _ _ _ p D w3 F3.out.pr F3.out.sr F3.out.h1 F3.out.h2 FP.out FS.out).mono ?_
 rintro e w4 ⟨rfl, hb4⟩
 have F4 := hidR (F3.out.keep hb4)
 have K4 := hidR (K3.out.trans (hb4.mono K3.out.size))
 have A4 := hidR (A3.out.keepS hb4 (Nat.le_refl _))
 clear hb4 F3 K3 A3 k0 k1 m0 m1 m2
 obtain ⟨k0, k1, -, -⟩ := F4.out.pb
 obtain ⟨m0, m1, m2, -, -⟩ := F4.out.sb
 have hst : (stuB p D != stuB p D) = false := by simp
 go_wp2_with fail
 refine (specAble_any p1 p2 s1 s2 s3 a1 a2 c1 c2 c3 _ _ _ _ p D w4 F4.out.pr F4.out.sr F4.out.h1 F4.out.h2 FP.out FS.out).mono ?_
 rintro e w5 ⟨v, rfl, ho5, hb5⟩
 obtain ⟨sv, cv, rfl⟩ := ownSl ho5
 have F5 := hidR (F4.out.keep hb5)
 have K5 := hidR (K4.out.trans (hb5.mono K4.out.size))
 have A5 := hidR (A4.out.keepS hb5 (Nat.le_refl _))
 have B5 := hidR (ownIntsK ho5)
 have LA : Hid ((ablB p D).length ≤ 1048576) := by
  show _ ≤ _
  unfold ablB
  split
  ·exact Nat.le_trans (ablN_len p D _) FS.out.1.1
  ·exact Nat.zero_le _
 clear hb5 ho5 F4 K4 A4 k0 k1 m0 m1 m2 hst
 go_wp2_with fail
 refine (sameInts_any su sv (ablB p D) (ablB p D) cu cv w5 A5.out B5.out (by have := LA.out; omega)).mono ?_
 rintro e w6 ⟨rfl, m, rfl⟩
 rw [decide_eq_true (rfl : ablB p D = ablB p D)]
 have k6 : Below w5.heap.size w5 (w5.drewN m) := ⟨rfl, rfl, rfl, Nat.le_refl _, fun _ _ => rfl⟩
 obtain ⟨W, hW⟩ : ∃ W, w5.drewN m = W := ⟨_, rfl⟩
 rw [hW] at k6 ⊢
 clear hW
 have F6 := hidR (F5.out.keep k6)
 have K6 := hidR (K5.out.trans (k6.mono K5.out.size))
 have A6 := hidR (A5.out.keepS k6 (Nat.le_refl _))
 clear k6 F5 K5 A5 B5
 obtain ⟨k0, k1, -, -⟩ := F6.out.pb
 obtain ⟨m0, m1, m2, -, -⟩ := F6.out.sb
 go_wp2_with fail
 refine (specSource_any p1 p2 s1 s2 s3 a1 a2 c1 c2 c3 _ _ _ _ p D W F6.out.pr F6.out.sr F6.out.h1 F6.out.h2 FP.out FS.out).mono ?_
 rintro e w7 ⟨rfl, hb7⟩
 have F7 := hidR (F6.out.keep hb7)
 have K7 := hidR (K6.out.trans (hb7.mono K6.out.size))
 have A7 := hidR (A6.out.keepS hb7 (Nat.le_refl _))
 clear hb7 F6 K6 A6 k0 k1 m0 m1 m2
 cases hsk : srcB p D with
 | false =>
  have e1 : stuB p D = false := by unfold stuB; rw [hsk]; rfl
  have e2 : ablB p D = [] := by unfold ablB; rw [if_neg (by rw [hsk]; decide)]
  rw [e1, e2]
  clear e1 e2
  go_wp2
  go_ret
  exact ⟨rfl, K7.out⟩
 | true =>
  have HSK := hidR hsk
  have MEM : Hid (∀ i : Nat, i < D.ths.length → decide ((i : Int) ∈ ablB p D) = (stepKb p D i == 0)) := fun i hi => abl_mem hsk hi
  have STU : Hid (stuB p D = (runsB D.ths && ((ablB p D).length : Int) == 0)) := by
   show _ = _
   unfold stuB
   rw [hsk, Bool.true_and]
   congr 1
   rw [Bool.eq_iff_iff]
   simp
  clear hsk
  generalize ablB p D = AB at MEM STU A7 LA ⊢
  generalize stuB p D = SB at STU ⊢
  have LD := FS.out.1.1
  obtain ⟨m0, -, -, -, -⟩ := F7.out.sb
  go_wp2_with fail
  go_loopw [7, 8] (fun u i wr => ∃ k : Nat, k ≤ D.ths.length ∧ i = .int .i64 k ∧ u = .bool (runsB (D.ths.take k)) ∧ Fu bP bS w.heap.size hi hi' p1 p2 s1 s2 s3 a1 a2 c1 c2 c3 p D wr ∧ Ints wr su AB ∧ Below w.heap.size w wr) (fun _ i _ => D.ths.length - (intOf i).toNat)
  case atStart => exact ⟨0, Nat.zero_le _, rfl, rfl, F7.out, A7.out, K7.out⟩
  case round =>
   obtain ⟨k, hk, rfl, rfl, hF, hA, hK⟩ := hrel
   clear F7 A7 K7 m0
   have F8 := hidR hF
   have A8 := hidR hA
   have K8 := hidR hK
   clear hF hA hK
   obtain ⟨k0, k1, -, -⟩ := F8.out.pb
   obtain ⟨m0, m1, m2, -, mz8⟩ := F8.out.sb
   by_cases hlt : k < D.ths.length
   ·obtain ⟨t, ht⟩ : ∃ t, D.ths[k]? = some t := ⟨_, List.getElem?_eq_getElem hlt⟩
    obtain ⟨g, o, s', c', es, hg, f0, f1, f2, -⟩ := RecsR.thd F8.out.sr.1 F8.out.h2 (Below.refl _ _) ht
    have RN := hidR (runs_snoc ht)
    have b0 : (0 : Int) ≤ (k : Int) := by omega
    have b1 : (k : Int) < (D.ths.length : Int) := by omega
    subst es
    clear ht f0 f1
    obtain ⟨rb, hrb⟩ : ∃ rb, (runsB (D.ths.take k) || t.st == 0) = rb := ⟨_, rfl⟩
    have RB := hidR hrb
    have hkw : Hid (decide ((k : Int) ∈ AB) = (stepKb p D k == 0)) := MEM.out k hlt
    generalize runsB (D.ths.take k) = ra at RN RB hrb ⊢
    have KEY : Hid (∀ (K : Int) (D' : SD), stepKb p D k = K → stepSb p D k = D' → Calls Tryz.prog 21 #[.agg #[.slice p1 p.caps.length a1, .slice p2 p.bods.length a2], .agg #[.slice (some ⟨g, o, none⟩) D.ths.length c1, .slice s2 D.chs.length c2, .slice s3 D.tr.length c3], .int .i64 (k : Int)] wr (SStepQ wr K D')) := fun K D' e1 e2 => by
     rw [← e1, ← e2]
     exact implStep_any p1 p2 _ s2 s3 a1 a2 c1 c2 c3 _ _ _ _ p D k wr F8.out.pr F8.out.sr F8.out.h1 F8.out.h2 FP.out FS.out
    obtain ⟨K, hKK⟩ : ∃ K, stepKb p D k = K := ⟨_, rfl⟩
    obtain ⟨D', hDD⟩ : ∃ D', stepSb p D k = D' := ⟨_, rfl⟩
    have CALL := hidR (KEY.out K D' hKK hDD)
    rw [hKK] at hkw
    clear KEY hKK hDD hrb
    cases ra
    ·go_wp2_with fail
     refine CALL.out.mono ?_
     rintro e w9 ⟨t1, e1, t2, e2, t3, e3, L1, L2, rfl, -, hb9⟩
     obtain ⟨Y, hY, -, kY, -⟩ := BoF.new w9 (.slice t1 D'.ths.length e1) (.slice t2 D'.chs.length e2) (.slice t3 D'.tr.length e3) 32
     have kk := hb9.trans (kY.mono hb9.size)
     have F9 := hidR (F8.out.keep kk)
     have K9 := hidR (K8.out.trans (kk.mono K8.out.size))
     have A9 := hidR (A8.out.keepS kk (Nat.le_refl _))
     have HY := hidR hY
     clear hY kY hb9 kk CALL k0 k1 m0 m1 m2 f2
     go_wp2_with fail
     rw [HY.out]
     clear HY
     refine (within_any su cu AB (k : Int) Y A9.out LA.out).mono ?_
     rintro e w10 ⟨rfl, hb10⟩
     rw [hkw.out]
     have hbb : ((K == 0) != (K == 0)) = false := by simp
     have F10 := hidR (F9.out.keep hb10)
     have K10 := hidR (K9.out.trans (hb10.mono K9.out.size))
     have A10 := hidR (A9.out.keepS hb10 (Nat.le_refl _))
     clear hb10 F9 K9 A9
     go_wp2
     go_roundw
     case rel => exact ⟨k + 1, by omega, by go_num, by rw [RN.out]; rfl, F10.out, A10.out, K10.out⟩
     case measure => simp [intOf]; omega
    ·go_wp2_with fail
     refine CALL.out.mono ?_
     rintro e w9 ⟨t1, e1, t2, e2, t3, e3, L1, L2, rfl, -, hb9⟩
     obtain ⟨Y, hY, -, kY, -⟩ := BoF.new w9 (.slice t1 D'.ths.length e1) (.slice t2 D'.chs.length e2) (.slice t3 D'.tr.length e3) 32
     have kk := hb9.trans (kY.mono hb9.size)
     have F9 := hidR (F8.out.keep kk)
     have K9 := hidR (K8.out.trans (kk.mono K8.out.size))
     have A9 := hidR (A8.out.keepS kk (Nat.le_refl _))
     have HY := hidR hY
     clear hY kY hb9 kk CALL k0 k1 m0 m1 m2 f2
     go_wp2_with fail
     rw [HY.out]
     clear HY
     refine (within_any su cu AB (k : Int) Y A9.out LA.out).mono ?_
     rintro e w10 ⟨rfl, hb10⟩
     rw [hkw.out]
     have hbb : ((K == 0) != (K == 0)) = false := by simp
     have F10 := hidR (F9.out.keep hb10)
     have K10 := hidR (K9.out.trans (hb10.mono K9.out.size))
     have A10 := hidR (A9.out.keepS hb10 (Nat.le_refl _))
     clear hb10 F9 K9 A9
     go_wp2
     go_roundw
     case rel => exact ⟨k + 1, by omega, by go_num, by rw [RN.out]; rfl, F10.out, A10.out, K10.out⟩
     case measure => simp [intOf]; omega
   ·have ek : k = D.ths.length := by omega
    subst ek
    rw [List.take_length]
    have e := STU.out
    subst e
    have hxx : ((((AB.length : Int) == 0)) == (((AB.length : Int) == 0))) = true := by simp
    cases runsB D.ths
    ·go_wp2
     go_ret
     exact ⟨rfl, K8.out⟩
    ·go_wp2
     go_ret
     exact ⟨rfl, K8.out⟩
set_option maxRecDepth 100000 in
theorem liftedFnStuck (os : Os) (started : os.Started) (H : Type) (enc : TypeId × Value → H) :
  ReturnsInHanded {} Tryz.checked os 4 .any (Rows.fnStuckSpec.pre6 enc Tryz.prog Tryz.f4 Rows.fnStuckRow.domain false) (Rows.fnStuckSpec.post enc Tryz.prog Tryz.f4 false true false false) := by
 refine returnsInHanded_of_change (C := Tryz.checked) ownS started (by kernel_rfl) Tryz.func4
  (ChangeSpec.witness6 (enc := enc) (C := Tryz.checked) false ⟨#[], #[.slice none 0 0], []⟩ 8 (by kernel_rfl) (by kernel_rfl) (by kernel_rfl) (by kernel_rfl)) ?_
 intro W base args ds gs before hval0 hW hcnd _
 have hval : ∀ (j : Nat) t v, Tryz.f4.params[j]? = some t → args[j]? = some v → Value.okWide Tryz.prog W .any base t v := hval0
 have hW' := hW
 obtain ⟨p, q, hA0, hV, rfl, hfz, hnd⟩ := hW
 have hA : DataW.TrodAll enc Tryz.prog W 0 (fun _ => true) true Tryz.f4.params.toList args.toList ds p := hA0
 rw [Tryz.params4] at hA hval
 obtain ⟨v0, d0, hargs, rfl, h0⟩ := trodAll_one hA
 obtain rfl : args = #[v0] := by cases args; simp_all
 obtain ⟨rfl, rfl⟩ := trodVars_none hV
 have k0 := h0
 have lt0 : ∀ x ∈ p, x.block < W.heap.size := by obtain ⟨m, hm⟩ := k0; exact DataW.trod_lt m _ _ _ hm
 obtain ⟨s, n, c, rfl, hn, hB⟩ := bytes_read (hval 0 22 v0 rfl rfl) h0
 clear hA0 hval0
 refine (walkFnStuck s n c W hB hn).mono fun e W' ⟨he, bel⟩ => ?_
 subst he
 exact ⟨_, rfl, _, _, _, [], _, [], hW', trodAll_mk1 (shut_bool Tryz.underlying4 _), trodAll_mk1 (Below.trod laidOutS (by kernel_rfl) (of_decide_eq_true (by kernel_rfl)) k0 bel lt0), rfl, bel.frame _, fun h => by cases h⟩
theorem fnStuck_holds : Rows.FnStuckSaid :=
 OpenClaim.holds_of_wide 4 Tryz.f4 rfl rfl rfl rfl rfl rfl rfl ⟨rfl, rfl, rfl, rfl, rfl⟩ rfl rfl rfl rfl rfl (by kernel_rfl) Tryz.func4 (by kernel_rfl)
  (of_decide_eq_true (by kernel_rfl)) (by unfold Func.isWrapper; first | (rw [if_pos (by decide +kernel)]; kernel_rfl) | (rw [if_neg (by decide +kernel)]; exact ⟨rfl, rfl⟩))
  (fun os started H enc _ => liftedFnStuck os started H enc)
#print axioms fnStuck_holds
end Go.Proofs.YtknffngbdakblaaGreat
