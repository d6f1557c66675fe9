/- Able of the specification, and Stuck of both. Conditions: program and source fit. Stuck of both sides. Conditions: program and source fit. -/
import Derived.Test.YtfokbjkgdiploaaGreatJG19
import Derived.Test.YtfokbjkgdiploaaGreatJSrcOkS
import Derived.Test.YtfokbjkgdiploaaGreatJG12
namespace Go.Proofs.YtfokbjkgdiploaaGreat
section
set_option linter.unusedSimpArgs false
set_option linter.unusedVariables false
set_option maxRecDepth 100000
open Go.RowKit
/- the two boxes ahead, kept -/
structure B2 (w V : World) (v1 v2 u1 u2 u3 : Value) : Prop where
 x0 : V.cell? ⟨w.heap.size, 0, none⟩ = some v1
 x1 : V.cell? ⟨w.heap.size, 1, none⟩ = some v2
 y0 : V.cell? ⟨w.heap.size + 1, 0, none⟩ = some u1
 y1 : V.cell? ⟨w.heap.size + 1, 1, none⟩ = some u2
 y2 : V.cell? ⟨w.heap.size + 1, 2, none⟩ = some u3
 k : Below w.heap.size w V
 z : w.heap.size + 1 + 1 ≤ V.heap.size
theorem b2_new {w W : World} {a b c d e : Value} {T T' : TypeId} (hW : (w.alloc (.cells #[a, b] T)).alloc (.cells #[c, d, e] T') = W) : B2 w W a b c d e := by
 obtain ⟨ka, z0, z1, ⟨x0, x1⟩, y0, y1, y2⟩ := fiveB hW
 exact ⟨x0, x1, y0, y1, y2, ka, z1⟩
theorem B2.below {w V V' : World} {a b c d e : Value} {B : Nat} (h : B2 w V a b c d e) (hb : Below B V V') (hB : w.heap.size + 1 + 1 ≤ B) : B2 w V' a b c d e :=
 ⟨(hb.cell (p := ⟨w.heap.size, 0, none⟩) (by show w.heap.size < B; omega)).trans h.x0, (hb.cell (p := ⟨w.heap.size, 1, none⟩) (by show w.heap.size < B; omega)).trans h.x1, (hb.cell (p := ⟨w.heap.size + 1, 0, none⟩) (by show w.heap.size + 1 < B; omega)).trans h.y0, (hb.cell (p := ⟨w.heap.size + 1, 1, none⟩) (by show w.heap.size + 1 < B; omega)).trans h.y1, (hb.cell (p := ⟨w.heap.size + 1, 2, none⟩) (by show w.heap.size + 1 < B; omega)).trans h.y2, h.k.trans (hb.mono (by omega)), Nat.le_trans h.z hb.size⟩
set_option maxHeartbeats 4000000 in
theorem specAble_any (p1 p2 s1 s2 s3 : Option Addr) (a1 a2 c1 c2 c3 lo hi lo' hi' : Nat) (p : PD) (d : SD) (w : World) (hP : ProgR w lo hi p1 p2 p) (hS : SrcR w lo' hi' s1 s2 s3 d) (hB : hi ≤ w.heap.size) (hB' : hi' ≤ w.heap.size) (hf : Fits p) (hf' : SFits d) :
  Calls Tryz.prog 22 #[.agg #[.slice p1 p.caps.length a1, .slice p2 p.bods.length a2], .agg #[.slice s1 d.ths.length c1, .slice s2 d.chs.length c2, .slice s3 d.tr.length c3]] w fun e w' => ∃ v, e = .returned v ∧ OwnN w' w.heap.size v (ablB p d) ∧ Below w.heap.size w w' := by
 obtain ⟨W, hW⟩ : ∃ W, (w.alloc (.cells #[.slice p1 p.caps.length a1, .slice p2 p.bods.length a2] 42)).alloc (.cells #[.slice s1 d.ths.length c1, .slice s2 d.chs.length c2, .slice s3 d.tr.length c3] 37) = W := ⟨_, rfl⟩
 have b2 := b2_new hW
 have eW : W.heap.size = w.heap.size + 1 + 1 := by rw [← hW]; simp
 obtain ⟨V, hV⟩ : ∃ V, W.alloc (.cells #[] 3) = V := ⟨_, rfl⟩
 have ON := hidW (show OwnN V (w.heap.size + 1 + 1) (.slice (some ⟨w.heap.size + 1 + 1, 0, none⟩) 0 0) [] from by rw [← hV, ← eW]; exact ownN_empty (Nat.le_refl _))
 have BV := hidW (b2.below (show Below W.heap.size W V from by rw [← hV]; exact (Below.refl _ _).alloc (Nat.le_refl _) _) (by omega))
 have HW := hidW hW
 have HV := hidW hV
 have H := hidW hP
 have H' := hidW hS
 have HF := hidW hf
 have HF' := hidW hf'
 have hl : d.ths.length ≤ 1048576 := hf'.1.1
 obtain ⟨R, hR⟩ : ∃ R, ablB p d = R := ⟨_, rfl⟩
 have ER := hidW hR
 rw [hR]
 clear b2 eW hW hV hP hS hf hf' hR
 go_enter Tryz.func22, Tryz.ntmps22
 go_upto_region 2 with fail
 rw [HW.out, HV.out]
 go_wp2_with fail
 go_loopw [5, 6] (fun u i wr => ∃ k : Nat, k ≤ d.ths.length ∧ i = .int .i64 k ∧ OwnN wr (w.heap.size + 1 + 1) u (ablN p d k) ∧ B2 w wr (.slice p1 p.caps.length a1) (.slice p2 p.bods.length a2) (.slice s1 d.ths.length c1) (.slice s2 d.chs.length c2) (.slice s3 d.tr.length c3) ∧ (srcB p d = true ∨ k = 0)) (fun _ i _ => d.ths.length - (intOf i).toNat)
 case atStart => exact ⟨0, Nat.zero_le _, rfl, ON.out, BV.out, .inr rfl⟩
 case round =>
  obtain ⟨k, hk, rfl, on, bb, hor⟩ := hrel
  have ONk := hidW on
  have BBk := hidW bb
  obtain ⟨su, cu, eu⟩ := on.sl
  subst eu
  have zr := bb.z
  obtain ⟨x0, x1, y0, y1, y2, kb, -⟩ := bb
  have KB := hidW kb
  have HOR := hidW hor
  clear on kb hor
  by_cases hlt : k < d.ths.length
  ·have hki : (k : Int) < (d.ths.length : Int) := by omega
   go_wp2_with fail
   refine (specSource_any p1 p2 s1 s2 s3 a1 a2 c1 c2 c3 lo hi lo' hi' p d wr (H.out.keep' (Keep.of_below KB.out hB)) (H'.out.keep (Keep.of_below KB.out hB')) (by omega) (by omega) HF.out HF'.out).mono ?_
   rintro e w1 ⟨rfl, hb1⟩
   have B1 := hidW (BBk.out.below hb1 zr)
   have ON1 := hidW (ONk.out.keep (fun q _ hq => hb1.block q hq))
   have z1 := hb1.size
   clear hb1 x0 x1 y0 y1 y2
   cases hy : srcB p d with
   | false =>
    have E1 := hidW (show ablN p d k = R from by
     rcases HOR.out with h | h
     ·rw [hy] at h; cases h
     ·rw [← ER.out, h]; unfold ablB; rw [hy]; rfl)
    clear hy
    go_wp2
    go_ret
    have o9 := ON1.out
    rw [E1.out] at o9
    rw [E1.out]
    exact ⟨_, rfl, ownLow' o9 (by omega), B1.out.k⟩
   | true =>
    have HY := hidW hy
    clear hy
    obtain ⟨x0, x1, y0, y1, y2, kb1, zb1⟩ := B1.out
    have EN := hidW (show ablN p d (k + 1) = if stepK p d k = 0 then ablN p d k ++ [(k : Int)] else ablN p d k from rfl)
    have HAL := hidW (ablN_len p d k)
    have T := hidW (specStep_any p1 p2 s1 s2 s3 a1 a2 c1 c2 c3 lo hi lo' hi' p d k w1 (H.out.keep' (Keep.of_below kb1 hB)) (H'.out.keep (Keep.of_below kb1 hB')) (by omega) (by omega) HF.out HF'.out)
    obtain ⟨KK, hKK⟩ : ∃ K, stepK p d k = K := ⟨_, rfl⟩
    rw [stepKb_of HY.out, hKK] at T
    rw [hKK] at EN
    obtain ⟨DD, hDD⟩ : ∃ D, stepSb p d k = D := ⟨_, rfl⟩
    rw [hDD] at T
    generalize ablN p d k = A at ONk ON1 EN HAL
    clear hKK hDD kb1
    go_wp2_with fail
    refine Calls.mono T.out ?_
    rintro e w2 ⟨f1, g1, f2, g2, f3, g3, M1, M2, rfl, -, hb2⟩
    have z2 := hb2.size
    obtain ⟨W8, hW8, -, k8, z8⟩ := BoF.new w2 (.slice f1 DD.ths.length g1) (.slice f2 DD.chs.length g2) (.slice f3 DD.tr.length g3) 37
    have B8 := hidW ((B1.out.below hb2 zb1).below k8 (by omega))
    have ON8 := hidW ((ON1.out.keep (fun q _ hq => hb2.block q hq)).keep (fun q _ hq => k8.block q hq))
    have HW8 := hidW hW8
    have z88 : w.heap.size + 1 + 1 ≤ W8.heap.size := by omega
    clear hb2 hW8 k8 z8 T x0 x1 y0 y1 y2
    go_upto_region 6 with fail
    rw [HW8.out]
    by_cases hK : KK = 0
    ·subst hK
     go_wp2_with (at_builtin; refine app_one rfl _ _ rfl W8 (k : Int) (w.heap.size + 1 + 1) (.slice su A.length cu) A rfl ON8.out rfl (by have := HAL.out; omega) z88 ?_; intro g5 cap5 w5 ho5 hb5 hs5; have O5 := hidW ho5; have B5 := hidW (B8.out.below hb5 (Nat.le_refl _)); clear ho5 hb5)
     go_roundw
     case rel => exact ⟨k + 1, by omega, by go_num, by rw [EN.out]; exact O5.out, B5.out, .inl HY.out⟩
     case measure => simp [intOf]; omega
    ·have hK0 : (KK == 0) = false := by simp [hK]
     go_wp2
     go_roundw
     case rel => exact ⟨k + 1, by omega, by go_num, by rw [EN.out, if_neg hK]; exact ON8.out, B8.out, .inl HY.out⟩
     case measure => simp [intOf]; omega
  ·have ek : k = d.ths.length := by omega
   have E1 := hidW (show ablN p d k = R from by
    rw [← ER.out]
    unfold ablB
    by_cases hy : srcB p d = true
    ·rw [if_pos hy, ek]
    ·rw [if_neg hy]
     rcases HOR.out with h | h
     ·exact absurd h hy
     ·rw [h]; rfl)
   clear ek
   go_wp2
   go_ret
   have o9 := ONk.out
   rw [E1.out] at o9
   rw [E1.out]
   exact ⟨_, rfl, ownLow' o9 (by omega), KB.out⟩
/- somebody runs -/
def runsB (l : List TD) : Bool := l.any fun t => t.st == 0
theorem runs_yes {l : List TD} {k : Nat} {t : TD} (h : l[k]? = some t) (h0 : t.st = 0) : runsB l = true := by
 unfold runsB
 rw [List.any_eq_true]
 exact ⟨t, List.mem_of_getElem? h, by simp [h0]⟩
theorem runs_no {l : List TD} (h : ∀ (i : Nat) (t : TD), l[i]? = some t → ¬ t.st = 0) : runsB l = false := by
 unfold runsB
 rw [List.any_eq_false]
 intro t ht
 obtain ⟨i, hi⟩ := List.getElem?_of_mem ht
 simpa using h i t hi
noncomputable def stuB (p : PD) (d : SD) : Bool := srcB p d && (runsB d.ths && decide (ablB p d = []))
set_option maxHeartbeats 2000000 in
theorem anyRuns_any (s : Option Addr) (c lo hi : Nat) (l : List TD) (w : World) (h : RecsR w lo hi s (l.map TD.rec3)) (hB : hi ≤ w.heap.size) (hl : l.length ≤ 1048576) :
  Calls Tryz.prog 55 #[.slice s l.length c] w fun e w' => e = .returned (.bool (runsB l)) ∧ Below w.heap.size w w' := by
 have H := hidW h
 clear h
 obtain ⟨R, hR⟩ : ∃ R, runsB l = R := ⟨_, rfl⟩
 have ER := hidW hR
 rw [hR]
 clear hR
 go_enter Tryz.func55, Tryz.ntmps55
 go_wp2
 go_loopw [7] (fun i wr => ∃ k : Nat, k ≤ l.length ∧ i = .int .i64 k ∧ Below w.heap.size w wr ∧ (∀ (i : Nat) (t : TD), i < k → l[i]? = some t → ¬ t.st = 0)) (fun i _ => l.length - (intOf i).toNat)
 case atStart => exact ⟨0, Nat.zero_le _, rfl, Below.refl _ _, fun i t h => absurd h (Nat.not_lt_zero _)⟩
 case round =>
  obtain ⟨k, hk, rfl, kb, hno⟩ := hrel
  have KB := hidW kb
  have HNO := hidW hno
  have zr := kb.size
  clear hno
  by_cases hlt : k < l.length
  ·have hki : (k : Int) < (l.length : Int) := by omega
   have b0 : (0 : Int) ≤ (k : Int) := by omega
   obtain ⟨t, ht⟩ : ∃ t, l[k]? = some t := ⟨_, List.getElem?_eq_getElem hlt⟩
   obtain ⟨g, o, s', c', es, hg, f0, f1, f2, -⟩ := RecsR.thr H.out hB kb ht
   subst es
   have HT := hidW ht
   clear ht kb
   obtain ⟨tp, tr, ts⟩ := t
   simp only at f0 f1 f2
   by_cases h0 : ts = 0
   ·subst h0
    have E := hidW (show R = true from by rw [← ER.out]; exact runs_yes HT.out rfl)
    go_wp2
    go_ret
    rw [E.out]
    exact ⟨rfl, KB.out.alloc zr _⟩
   ·have h00 : (ts == 0) = false := by simp [h0]
    go_wp2
    go_roundw
    case rel => exact ⟨k + 1, by omega, by go_num, KB.out.alloc zr _, fun i t hi ht => by
     by_cases e : i = k
     ·subst e
      rw [HT.out] at ht
      injection ht with ht
      subst ht
      exact h0
     ·exact HNO.out i t (by omega) ht⟩
    case measure => simp [intOf]; omega
  ·have E := hidW (show R = false from by rw [← ER.out]; exact runs_no (fun i t ht => HNO.out i t (by have := (List.getElem?_eq_some_iff.1 ht).1; omega) ht))
   go_wp2
   go_ret
   rw [E.out]
   exact ⟨rfl, KB.out⟩
end
section
set_option linter.unusedSimpArgs false
set_option linter.unusedVariables false
set_option maxRecDepth 100000
open Go.RowKit
theorem stu1 {p : PD} {d : SD} (h : srcB p d = false) : stuB p d = false := by unfold stuB; rw [h]; rfl
theorem stu2 {p : PD} {d : SD} (h : runsB d.ths = false) : stuB p d = false := by unfold stuB; rw [h]; simp
theorem stu3 {p : PD} {d : SD} (h : srcB p d = true) (h2 : runsB d.ths = true) : stuB p d = !(decide (ablB p d ≠ [])) := by
 unfold stuB
 rw [h, h2]
 by_cases e : ablB p d = [] <;> simp [e]
set_option maxHeartbeats 4000000 in
theorem implStuck_any (p1 p2 s1 s2 s3 : Option Addr) (a1 a2 c1 c2 c3 lo hi lo' hi' : Nat) (p : PD) (d : SD) (w : World) (hP : ProgR w lo hi p1 p2 p) (hS : SrcR w lo' hi' s1 s2 s3 d) (hB : hi ≤ w.heap.size) (hB' : hi' ≤ w.heap.size) (hf : Fits p) (hf' : SFits d) :
  Calls Tryz.prog 25 #[.agg #[.slice p1 p.caps.length a1, .slice p2 p.bods.length a2], .agg #[.slice s1 d.ths.length c1, .slice s2 d.chs.length c2, .slice s3 d.tr.length c3]] w fun e w' => e = .returned (.bool (stuB p d)) ∧ Below w.heap.size w w' := by
 obtain ⟨W, hW⟩ : ∃ W, (w.alloc (.cells #[.slice p1 p.caps.length a1, .slice p2 p.bods.length a2] 42)).alloc (.cells #[.slice s1 d.ths.length c1, .slice s2 d.chs.length c2, .slice s3 d.tr.length c3] 37) = W := ⟨_, rfl⟩
 have b2 := b2_new hW
 have BW := hidW b2
 have HW := hidW hW
 have H := hidW hP
 have H' := hidW hS
 have HF := hidW hf
 have HF' := hidW hf'
 have zW := b2.z
 obtain ⟨R, hR⟩ : ∃ R, stuB p d = R := ⟨_, rfl⟩
 have ER := hidW hR
 rw [hR]
 obtain ⟨x0, x1, y0, y1, y2, kW, -⟩ := b2
 have KW := hidW kW
 have zp : w.heap.size < W.heap.size := by omega
 have zs : w.heap.size + 1 < W.heap.size := by omega
 clear hW hP hS hf hf' hR kW
 go_enter Tryz.func25, Tryz.ntmps25
 go_wp2_with fail
 rw [HW.out]
 refine (implSource_any p1 p2 s1 s2 s3 a1 a2 c1 c2 c3 lo hi lo' hi' p d W (H.out.keep' (Keep.of_below KW.out hB)) (H'.out.keep (Keep.of_below KW.out hB')) (by omega) (by omega) HF.out HF'.out).mono ?_
 rintro e w1 ⟨rfl, hb1⟩
 have B1 := hidW (BW.out.below hb1 zW)
 clear hb1 x0 x1 y0 y1 y2
 obtain ⟨x0, x1, y0, y1, y2, k1, z1⟩ := B1.out
 have zp1 : w.heap.size < w1.heap.size := by omega
 have zs1 : w.heap.size + 1 < w1.heap.size := by omega
 cases hy : srcB p d with
 | false =>
  have E := hidW (show R = false from by rw [← ER.out]; exact stu1 hy)
  clear hy
  go_wp2
  go_ret
  rw [E.out]
  exact ⟨rfl, B1.out.k⟩
 | true =>
  have HY := hidW hy
  clear hy
  go_wp2_with fail
  refine (anyRuns_any s1 c1 lo' hi' d.ths w1 (H'.out.keep (Keep.of_below k1 hB')).1 (by omega) HF'.out.1.1).mono ?_
  rintro e w2 ⟨rfl, hb2⟩
  have B3 := hidW (B1.out.below hb2 z1)
  clear hb2 x0 x1 y0 y1 y2 k1
  obtain ⟨x0, x1, y0, y1, y2, k2, z2⟩ := B3.out
  have zp2 : w.heap.size < w2.heap.size := by omega
  have zs2 : w.heap.size + 1 < w2.heap.size := by omega
  cases hr : runsB d.ths with
  | false =>
   have E := hidW (show R = false from by rw [← ER.out]; exact stu2 hr)
   clear hr
   go_wp2
   go_ret
   rw [E.out]
   exact ⟨rfl, B3.out.k⟩
  | true =>
   have E := hidW (show R = !(decide (ablB p d ≠ [])) from by rw [← ER.out]; exact stu3 HY.out hr)
   clear hr
   go_wp2_with fail
   refine (anyAble_any p1 p2 s1 s2 s3 a1 a2 c1 c2 c3 lo hi lo' hi' p d w2 (H.out.keep' (Keep.of_below k2 hB)) (H'.out.keep (Keep.of_below k2 hB')) (by omega) (by omega) HF.out HF'.out).mono ?_
   rintro e w3 ⟨rfl, hb3⟩
   have B4 := hidW (B3.out.below hb3 z2)
   generalize decide (ablB p d ≠ []) = q at E ⊢
   clear hb3 x0 x1 y0 y1 y2 k2
   go_wp2
   go_ret
   rw [E.out]
   exact ⟨rfl, B4.out.k⟩
set_option maxHeartbeats 4000000 in
theorem specStuck_any (p1 p2 s1 s2 s3 : Option Addr) (a1 a2 c1 c2 c3 lo hi lo' hi' : Nat) (p : PD) (d : SD) (w : World) (hP : ProgR w lo hi p1 p2 p) (hS : SrcR w lo' hi' s1 s2 s3 d) (hB : hi ≤ w.heap.size) (hB' : hi' ≤ w.heap.size) (hf : Fits p) (hf' : SFits d) :
  Calls Tryz.prog 24 #[.agg #[.slice p1 p.caps.length a1, .slice p2 p.bods.length a2], .agg #[.slice s1 d.ths.length c1, .slice s2 d.chs.length c2, .slice s3 d.tr.length c3]] w fun e w' => e = .returned (.bool (stuB p d)) ∧ Below w.heap.size w w' := by
 obtain ⟨W, hW⟩ : ∃ W, (w.alloc (.cells #[.slice p1 p.caps.length a1, .slice p2 p.bods.length a2] 42)).alloc (.cells #[.slice s1 d.ths.length c1, .slice s2 d.chs.length c2, .slice s3 d.tr.length c3] 37) = W := ⟨_, rfl⟩
 have b2 := b2_new hW
 have BW := hidW b2
 have HW := hidW hW
 have H := hidW hP
 have H' := hidW hS
 have HF := hidW hf
 have HF' := hidW hf'
 have hl : d.ths.length ≤ 1048576 := hf'.1.1
 have zW := b2.z
 obtain ⟨R, hR⟩ : ∃ R, stuB p d = R := ⟨_, rfl⟩
 have ER := hidW hR
 rw [hR]
 obtain ⟨x0, x1, y0, y1, y2, kW, -⟩ := b2
 have KW := hidW kW
 have zp : w.heap.size < W.heap.size := by omega
 have zs : w.heap.size + 1 < W.heap.size := by omega
 clear hW hP hS hf hf' hR kW
 go_enter Tryz.func24, Tryz.ntmps24
 go_wp2_with fail
 rw [HW.out]
 refine (specSource_any p1 p2 s1 s2 s3 a1 a2 c1 c2 c3 lo hi lo' hi' p d W (H.out.keep' (Keep.of_below KW.out hB)) (H'.out.keep (Keep.of_below KW.out hB')) (by omega) (by omega) HF.out HF'.out).mono ?_
 rintro e w1 ⟨rfl, hb1⟩
 have B1 := hidW (BW.out.below hb1 zW)
 clear hb1 x0 x1 y0 y1 y2
 obtain ⟨x0, x1, y0, y1, y2, k1, z1⟩ := B1.out
 have zp1 : w.heap.size < w1.heap.size := by omega
 have zs1 : w.heap.size + 1 < w1.heap.size := by omega
 cases hy : srcB p d with
 | false =>
  have E := hidW (show R = false from by rw [← ER.out]; exact stu1 hy)
  clear hy
  go_wp2
  go_ret
  rw [E.out]
  exact ⟨rfl, B1.out.k⟩
 | true =>
  have HY := hidW hy
  clear hy
  go_wp2_with fail
  refine (specAble_any p1 p2 s1 s2 s3 a1 a2 c1 c2 c3 lo hi lo' hi' p d w1 (H.out.keep' (Keep.of_below k1 hB)) (H'.out.keep (Keep.of_below k1 hB')) (by omega) (by omega) HF.out HF'.out).mono ?_
  rintro e w2 ⟨v, rfl, on, hb2⟩
  obtain ⟨su, cu, eu⟩ := on.sl
  subst eu
  have B3 := hidW (B1.out.below hb2 z1)
  clear hb2 x0 x1 y0 y1 y2 k1 on
  obtain ⟨x0, x1, y0, y1, y2, k2, z2⟩ := B3.out
  have zp2 : w.heap.size < w2.heap.size := by omega
  have zs2 : w.heap.size + 1 < w2.heap.size := by omega
  by_cases ha : ablB p d = []
  ·have E2 := hidW (show runsB d.ths = R from by rw [← ER.out]; unfold stuB; rw [HY.out, ha]; simp)
   rw [ha]
   clear ha k2 x0 x1 y0 y1 y2
   go_wp2_with fail
   go_loopw [5] (fun i wr => ∃ k : Nat, k ≤ d.ths.length ∧ i = .int .i64 k ∧ B2 w wr (.slice p1 p.caps.length a1) (.slice p2 p.bods.length a2) (.slice s1 d.ths.length c1) (.slice s2 d.chs.length c2) (.slice s3 d.tr.length c3) ∧ (∀ (i : Nat) (t : TD), i < k → d.ths[i]? = some t → ¬ t.st = 0)) (fun i _ => d.ths.length - (intOf i).toNat)
   case atStart => exact ⟨0, Nat.zero_le _, rfl, B3.out, fun i t h => absurd h (Nat.not_lt_zero _)⟩
   case round =>
    obtain ⟨k, hk, rfl, bb, hno⟩ := hrel
    have BB := hidW bb
    have HNO := hidW hno
    obtain ⟨x0, x1, y0, y1, y2, kb, zr⟩ := bb
    clear hno
    by_cases hlt : k < d.ths.length
    ·have hki : (k : Int) < (d.ths.length : Int) := by omega
     have b0 : (0 : Int) ≤ (k : Int) := by omega
     obtain ⟨t, ht⟩ : ∃ t, d.ths[k]? = some t := ⟨_, List.getElem?_eq_getElem hlt⟩
     obtain ⟨g, o, s', c', es, hg, f0, f1, f2, -⟩ := RecsR.thr H'.out.1 hB' kb ht
     subst es
     have HT := hidW ht
     clear ht kb
     obtain ⟨tp, tr, ts⟩ := t
     simp only at f0 f1 f2
     by_cases h0 : ts = 0
     ·subst h0
      have E := hidW (show R = true from by rw [← E2.out]; exact runs_yes HT.out rfl)
      go_wp2
      go_ret
      rw [E.out]
      exact ⟨rfl, BB.out.k⟩
     ·have h00 : (ts == 0) = false := by simp [h0]
      go_wp2
      go_roundw
      case rel => exact ⟨k + 1, by omega, by go_num, BB.out, fun i t hi ht => by
       by_cases e : i = k
       ·subst e
        rw [HT.out] at ht
        injection ht with ht
        subst ht
        exact h0
       ·exact HNO.out i t (by omega) ht⟩
      case measure => simp [intOf]; omega
    ·have E := hidW (show R = false from by rw [← E2.out]; exact runs_no (fun i t ht => HNO.out i t (by have := (List.getElem?_eq_some_iff.1 ht).1; omega) ht))
     go_wp2
     go_ret
     rw [E.out]
     exact ⟨rfl, BB.out.k⟩
  ·have E := hidW (show R = false from by rw [← ER.out]; unfold stuB; simp [ha])
   have hpos : (0 : Int) < ((ablB p d).length : Int) := by
    have := List.length_pos_iff.2 ha
    omega
   clear ha
   go_wp2
   go_ret
   rw [E.out]
   exact ⟨rfl, B3.out.k⟩
end
end Go.Proofs.YtfokbjkgdiploaaGreat
