/- The law FnPlaces of the given statements: PlaceOf and Starts of the program answer as the specification's, and first steps lie apart as EmitSize tells. No condition. -/
import Derived.Test.YteddmadbegpecaaGreatRows
import Derived.WalkKit
import Derived.ProofKit
import Derived.OpenShut
import Derived.ShutString
import Derived.ChangeOld
import Derived.Below
import Derived.Test.YteddmadbegpecaaGreatF11Draw
import Derived.Test.YteddmadbegpecaaGreatSameIntsL
import Derived.Deep.RegionHeld3
namespace Go.Proofs.YteddmadbegpecaaGreat
set_option linter.unusedSimpArgs false
set_option linter.unusedVariables false
set_option maxRecDepth 100000
open Go.ChangeShapes Go.WideShapes Go.ChangeAt Go.RowKit Go.Deep

theorem placeV_form (l : List I5) (q : Int) : 0 ≤ (placeV l q).1 ∨ placeV l q = (-1, false) := by
  unfold placeV
  split
  · left; simp
  · right; rfl
theorem bodV_some {p : PD} {b : Int} (h : 0 < (bodV p b).length) : ∃ j : Nat, b = j ∧ j < p.bods.length ∧ bodV p b = p.bods.getD j [] := by
  unfold bodV at h ⊢
  split at h
  · rename_i hc
    rw [if_pos hc]
    exact ⟨b.toNat, by omega, by omega, rfl⟩
  · exact absurd h (Nat.lt_irrefl _)
theorem stB_len (p : PD) (b : Int) : (stB p b).length = (bodV p b).length := by unfold stB; rw [stL_len]
theorem wrap_small {a : Int} (h0 : 0 ≤ a) (h1 : a ≤ 100000) : IntKind.i64.wrap a = a := by unfold IntKind.wrap; simp [IntKind.signed, IntKind.bits]; omega
theorem wrap_sub {a b : Int} (h0 : 0 ≤ a) (h1 : a ≤ 768) (h2 : 0 ≤ b) (h3 : b ≤ 768) : IntKind.i64.wrap (a - b) = a - b := by unfold IntKind.wrap; simp [IntKind.signed, IntKind.bits]; omega

theorem sameI_n (s s' : Option Addr) (l : List Int) (m : Nat) (hm : l.length = m) (c c' : Nat) (w : World) (h : Ints w s l) (h' : Ints w s' l) (hb : m ≤ 1000000000) :
    Calls Tryz.prog 16 #[.slice s m c, .slice s' m c'] w fun e w' => e = .returned (.bool true) ∧ ∃ n, w' = w.drewN n := by
  subst hm
  refine (sameInts_any s s' l l c c' w h h' hb).mono ?_
  rintro e w' ⟨rfl, h⟩
  exact ⟨by rw [decide_eq_true rfl], h⟩

set_option maxRecDepth 100000 in
set_option maxHeartbeats 8000000 in
theorem walkFnPlaces (s : Option Addr) (n c : Nat) (w : World) (hb : Bytes w w.heap.size s n) (hn : n ≤ maxLen) :
    Calls Tryz.prog 4 #[.slice s n c] w fun e w' => e = .returned (.bool true) ∧ Below w.heap.size w w' := by
  have HBy := hidP hb
  clear hb
  by_cases hbig : 1048576 < n
  · go_enter Tryz.func4, Tryz.ntmps4
    go_wp2_with (go_at_call 5; refine (big_any s n c w).mono ?_; rintro e w0 ⟨rfl, h0⟩; rw [h0, decide_eq_true hbig]; clear h0 w0)
    go_ret
    exact ⟨rfl, Below.refl _ _⟩
  go_enter Tryz.func4, Tryz.ntmps4
  go_wp2_with (go_at_call 5; refine (big_any s n c w).mono ?_; rintro e w0 ⟨rfl, h0⟩; rw [h0, decide_eq_false hbig]; clear h0 w0)
  refine (drawPlaceOf_any s n c w HBy.out hn).mono ?_
  rintro e w1 ⟨s0, d0, s1, d1, p, b, k, rfl, ⟨hpr, hb1⟩, hft⟩
  have hz1 := hb1.size
  obtain ⟨W1, hW1, bx1, kb1, zb1⟩ := Bo2.new w1 (.slice s0 p.caps.length d0) (.slice s1 p.bods.length d1) 27
  have HP1 := hidP (ProgR.keep' hpr (Keep.of_below kb1 (Nat.le_refl _)))
  have HF1 := hidP hft
  have HX1 := hidP bx1
  have K1 := hidP (hb1.trans (kb1.mono hz1))
  have zW1 : w1.heap.size + 1 ≤ W1.heap.size := by omega
  obtain ⟨x0, x1⟩ := bx1
  clear hpr hft hb1 kb1 zb1
  obtain ⟨pa, pb, hpv⟩ : ∃ pa pb, placeV (bodV p b) k = (pa, pb) := ⟨_, _, rfl⟩
  have hform : 0 ≤ pa ∨ (pa = -1 ∧ pb = false) := by
    rcases placeV_form (bodV p b) k with h | h
    · rw [hpv] at h; exact .inl h
    · rw [hpv] at h; cases h; exact .inr ⟨rfl, rfl⟩
  have HPV := hidP hpv
  have hpa : (pa != pa) = false := by simp
  have hpb : (pb != pb) = false := by simp
  clear hpv
  go_wp2_with fail
  refine (implPlace_any s0 s1 d0 d1 _ _ p b k W1 HP1.out (by omega) HF1.out).mono ?_
  rintro e w2 ⟨rfl, hb2⟩
  rw [HPV.out]
  have hz2 := hb2.size
  have HP2 := hidP (ProgR.keep' HP1.out (Keep.of_below hb2 (by omega)))
  have K2 := hidP (K1.out.trans (hb2.mono (by omega)))
  clear x0 x1
  obtain ⟨x0, x1⟩ := HX1.out.keep (Keep.of_below hb2 (by omega))
  clear hb2 hW1
  go_wp2_with fail
  refine (specPlace_any s0 s1 d0 d1 _ _ p b k w2 HP2.out (by omega) HF1.out).mono ?_
  rintro e w3 ⟨rfl, hb3⟩
  rw [HPV.out]
  have hz3 := hb3.size
  have K3 := hidP (K2.out.trans (hb3.mono (by omega)))
  clear hb3 x0 x1 HP1 HP2 HX1 HF1 HPV
  go_wp2_with fail
  refine (drawStarts_any s n c w3 (bytes_up HBy.out K3.out (by omega)) hn).mono ?_
  rintro e w4 ⟨t0, e0, t1, e1, q, z, rfl, ⟨hpr, hb4⟩, hft⟩
  have hz4 := hb4.size
  obtain ⟨W4, hW4, bx4, kb4, zb4⟩ := Bo2.new w4 (.slice t0 q.caps.length e0) (.slice t1 q.bods.length e1) 27
  have HQ4 := hidP (ProgR.keep' hpr (Keep.of_below kb4 (Nat.le_refl _)))
  have HF4 := hidP hft
  have HX4 := hidP bx4
  have K4 := hidP (K3.out.trans ((hb4.trans (kb4.mono hz4)).mono (by omega)))
  have zW4 : w4.heap.size + 1 ≤ W4.heap.size := by omega
  obtain ⟨x0, x1⟩ := bx4
  clear hpr hft hb4 kb4 zb4
  go_wp2_with fail
  refine (implStarts_any t0 t1 e0 e1 _ _ q z W4 HQ4.out (by omega) HF4.out).mono ?_
  rintro e w5 ⟨v5, rfl, ho5, hb5⟩
  obtain ⟨l, hl⟩ : ∃ l, bodV q z = l := ⟨_, rfl⟩
  have HRT := hidP (hl ▸ bodV_rt q z)
  have EST : stB q z = stL l l.length := by unfold stB; rw [hl]
  have HBV := hidP hl
  have hl24 := HRT.out.len
  rw [EST] at ho5
  obtain ⟨s5, c5, e5, hi5⟩ := ownN_ints ho5
  rw [stL_len] at e5
  subst e5
  have HI5 := hidP hi5
  have hz5 := hb5.size
  have HQ5 := hidP (ProgR.keep' HQ4.out (Keep.of_below hb5 (by omega)))
  have K5 := hidP (K4.out.trans (hb5.mono (by omega)))
  have HX5 := hidP (HX4.out.keep (Keep.of_below hb5 (by omega)))
  have HES := hidP EST
  clear x0 x1 EST hl
  obtain ⟨x0, x1⟩ := HX5.out
  clear hb5 ho5 hi5 hW4
  go_wp2_with fail
  refine (specStarts_any t0 t1 e0 e1 _ _ q z w5 HQ5.out (by omega) HF4.out).mono ?_
  rintro e w6 ⟨v6, rfl, ho6, hb6⟩
  rw [HES.out] at ho6
  obtain ⟨s6, c6, e6, hi6⟩ := ownN_ints ho6
  rw [stL_len] at e6
  subst e6
  have hz6 := hb6.size
  have HI6 := hidP (hi6.ints (Nat.le_refl _))
  have HI56 := hidP ((HI5.out.keep (Keep.of_below hb6 (Nat.le_refl _))).ints hz6)
  have K56 := hidP hb6
  clear x0 x1 ho6 hi6 hb6
  go_wp2_with fail
  refine (sameI_n s5 s6 (stL l l.length) l.length (stL_len l _) c5 c6 w6 HI56.out HI6.out (by omega)).mono ?_
  rintro e w7 ⟨rfl, nn, h7⟩
  have K7 : Hid (Below w6.heap.size w6 w7) := h7 ▸ below_drewN w6 nn
  clear h7
  go_wp2_with fail
  go_loopw [13] (fun i wr => ∃ j : Nat, 1 ≤ j ∧ i = .int .i64 j ∧ Below w6.heap.size w6 wr) (fun i _ => l.length - (intOf i).toNat)
  case atStart => exact ⟨1, Nat.le_refl _, rfl, K7.out⟩
  case round =>
    obtain ⟨j, hj, rfl, hb⟩ := hrel
    have HB6 := hidP hb
    have HB5 := hidP (K56.out.trans (hb.mono hz6))
    have hzr := hb.size
    clear hb
    by_cases hlt : j < l.length
    · obtain ⟨m, rfl⟩ : ∃ m, j = m + 1 := ⟨j - 1, by omega⟩
      obtain ⟨jz, hjz, hjn, hbe⟩ := bodV_some (p := q) (b := z) (by rw [HBV.out]; omega)
      rw [HBV.out] at hbe
      subst hjz
      obtain ⟨gb, offb, ht1, hgb, s1', c1, hcell, hin⟩ := bods_at HQ5.out.2 (i := jz) hjn
      subst ht1
      rw [← hbe] at hcell hin
      obtain ⟨gl, off, hs', hlo, hgl, hc⟩ := insR_at hin (i := m) (by omega)
      subst hs'
      have HA5 := hidP (hc m (by omega))
      have HCE := hidP hcell
      obtain ⟨g5, o5, hs5, hg5a, hg5b, hgc⟩ : ∃ g o, s5 = some ⟨g, o, none⟩ ∧ W4.heap.size ≤ g ∧ g < w5.heap.size ∧ ∀ i, i < l.length → w5.cell? ⟨g, o + i, none⟩ = some (.int .i64 (stV l i)) := by
        rcases HI5.out with h0 | ⟨g, o, h1, h2, h3, h4⟩
        · exfalso
          have h9 := congrArg List.length h0
          rw [stL_len, List.length_nil] at h9
          omega
        · exact ⟨g, o, h1, h2, h3, fun i hi => by have := h4 i (by rw [stL_len]; exact hi); rw [stL_at l hi] at this; exact this⟩
      subst hs5
      have HA1 := hidP (hgc (m + 1) hlt)
      have HA0 := hidP (hgc m (by omega))
      have hstep := stV_step HRT.out (i := m) (by omega)
      have hbd0 := stV_big HRT.out (i := m) (by omega)
      have hbd1 := stV_big HRT.out (i := m + 1) (by omega)
      have hdiff : stV l (m + 1) - stV l m = sizeV (l.getD m z5).o := by simp only [stV]; omega
      clear hcell hin hc hgc hbe
      generalize l.getD m z5 = x at HA5 hdiff
      obtain ⟨xo, xr, xa, xb, xn⟩ := x
      obtain ⟨a1, ha1⟩ : ∃ a1, stV l (m + 1) = a1 := ⟨_, rfl⟩
      obtain ⟨a0, ha0⟩ : ∃ a0, stV l m = a0 := ⟨_, rfl⟩
      rw [ha1] at HA1 hstep hbd1 hdiff
      rw [ha0] at HA0 hstep hbd0 hdiff
      clear ha1 ha0
      obtain ⟨sz, hsz⟩ : ∃ sz, sizeV xo = sz := ⟨_, rfl⟩
      have HSZ := hidP hsz
      have hdz : a1 - a0 = sz := by rw [← hsz]; exact hdiff
      clear hdiff hsz
      have hw1 : IntKind.i64.wrap (a1 - a0) = a1 - a0 := wrap_sub hbd1.1 hbd1.2 hbd0.1 hbd0.2
      have hne : (a1 - a0 != sz) = false := by simp [hdz]
      clear hdz hstep
      have lg5 : g5 < w5.heap.size := hg5b
      have lw4 : w4.heap.size < w5.heap.size := by omega
      have lgb : gb < w5.heap.size := by omega
      have lgl : gl < w5.heap.size := by omega
      have b0 : (0 : Int) ≤ (m : Int) := by omega
      have b1 : (m : Int) < (l.length : Int) := by omega
      have b2 : (m : Int) + 1 < (l.length : Int) := by omega
      have b3 : (0 : Int) ≤ (m : Int) + 1 := by omega
      have hw2 : IntKind.i64.wrap ((m : Int) + 1 - 1) = (m : Int) := (wrap_small (by omega) (by omega)).trans (by omega)
      have hw3 : IntKind.i64.wrap (m : Int) = (m : Int) := wrap_small (by omega) (by omega)
      have b4 : (0 : Int) ≤ (jz : Int) := by omega
      have b5 : (jz : Int) < (q.bods.length : Int) := by omega
      have f8 := (HB5.out.cell (p := ⟨g5, o5 + (m + 1), none⟩) lg5).trans HA1.out
      have f9 := (HB5.out.cell (p := ⟨g5, o5 + m, none⟩) lg5).trans HA0.out
      have f7 := (HB5.out.cell (p := ⟨w4.heap.size, 1, none⟩) lw4).trans HX5.out.c1
      have f6 := (HB5.out.cell (p := ⟨gb, offb + jz, none⟩) lgb).trans HCE.out
      obtain ⟨f0, f1, f2, f3, f4⟩ := HA5.out.keep HB5.out lgl
      go_wp2_with fail
      go_region_held3 (fun w'' => w''.cell? ⟨g5, o5 + (m + 1), none⟩ = some (.int .i64 a1) ∧ w''.cell? ⟨g5, o5 + m, none⟩ = some (.int .i64 a0) ∧ w''.cell? ⟨w4.heap.size, 1, none⟩ = some (.slice (some ⟨gb, offb, none⟩) q.bods.length e1) ∧ w''.cell? ⟨gb, offb + jz, none⟩ = some (.slice (some ⟨gl, off, none⟩) l.length c1) ∧ w''.cell? ⟨gl, off + m * 5, none⟩ = some (.int .i64 xo) ∧ w''.cell? ⟨gl, off + m * 5 + 1, none⟩ = some (.int .i64 xr) ∧ w''.cell? ⟨gl, off + m * 5 + 2, none⟩ = some (.int .i64 xa) ∧ w''.cell? ⟨gl, off + m * 5 + 3, none⟩ = some (.int .i64 xb) ∧ w''.cell? ⟨gl, off + m * 5 + 4, none⟩ = some (.int .i64 xn)) (go_keep) (first | (go_at_call 18; refine (implSize_any xo xr xa xb xn wr.drew).mono ?_; rintro e y1 ⟨rfl, hbu⟩; rw [HSZ.out]; have kbu : Below wr.heap.size wr y1 := ⟨hbu.os, hbu.tape, hbu.output, hbu.size, hbu.block⟩; have KU := hidP (HB5.out.trans (kbu.mono HB5.out.size)); have KW6 := hidP (HB6.out.trans (kbu.mono HB6.out.size)); clear f0 f1 f2 f3 f4 f6 f7 f8 f9 hbu kbu; have f8 := (KU.out.cell (p := ⟨g5, o5 + (m + 1), none⟩) lg5).trans HA1.out; have f9 := (KU.out.cell (p := ⟨g5, o5 + m, none⟩) lg5).trans HA0.out; have f7 := (KU.out.cell (p := ⟨w4.heap.size, 1, none⟩) lw4).trans HX5.out.c1; have f6 := (KU.out.cell (p := ⟨gb, offb + jz, none⟩) lgb).trans HCE.out; obtain ⟨f0, f1, f2, f3, f4⟩ := HA5.out.keep KU.out lgl) | fail)
      clear f0 f1 f2 f3 f4 f6 f7 f8 f9
      go_wp2
      exact ⟨⟨m + 1 + 1, by omega, by go_num, KW6.out⟩, by simp [intOf]; omega⟩
    · rcases hform with hf | ⟨hf, hf2⟩
      · have h1 : ¬ pa < 0 := by omega
        go_wp2
        go_ret
        exact ⟨rfl, K5.out.trans ((K56.out.trans (HB6.out.mono hz6)).mono (by omega))⟩
      · subst hf hf2
        go_wp2
        go_ret
        exact ⟨rfl, K5.out.trans ((K56.out.trans (HB6.out.mono hz6)).mono (by omega))⟩

set_option maxRecDepth 100000 in
theorem liftedFnPlaces (os : Os) (started : os.Started) (H : Type) (enc : TypeId × Value → H) :
    ReturnsInHanded {} Tryz.checked os 4 .any (Rows.fnPlacesSpec.pre6 enc Tryz.prog Tryz.f4 Rows.fnPlacesRow.domain false) (Rows.fnPlacesSpec.post enc Tryz.prog Tryz.f4 false true false false) := by
  refine returnsInHanded_of_change (C := Tryz.checked) ownS started (by kernel_rfl) Tryz.func4
    (ChangeSpec.witness6 (enc := enc) (C := Tryz.checked) false ⟨#[], #[.slice none 0 0], []⟩ 8 (by kernel_rfl) (by kernel_rfl) (by kernel_rfl) (by kernel_rfl)) ?_
  intro W base args ds gs before hval0 hW hcnd _
  have hval : ∀ (j : Nat) t v, Tryz.f4.params[j]? = some t → args[j]? = some v → Value.okWide Tryz.prog W .any base t v := hval0
  have hW' := hW
  obtain ⟨p, q, hA0, hV, rfl, hfz, hnd⟩ := hW
  have hA : DataW.TrodAll enc Tryz.prog W 0 (fun _ => true) true Tryz.f4.params.toList args.toList ds p := hA0
  rw [Tryz.params4] at hA hval
  obtain ⟨v0, d0, hargs, rfl, h0⟩ := trodAll_one hA
  obtain rfl : args = #[v0] := by cases args; simp_all
  obtain ⟨rfl, rfl⟩ := trodVars_none hV
  have k0 := h0
  have lt0 : ∀ x ∈ p, x.block < W.heap.size := by obtain ⟨m, hm⟩ := k0; exact DataW.trod_lt m _ _ _ hm
  obtain ⟨s, n, c, rfl, hn, hB⟩ := bytes_read (hval 0 22 v0 rfl rfl) h0
  clear hA0 hval0
  refine (walkFnPlaces s n c W hB hn).mono fun e W' ⟨he, bel⟩ => ?_
  subst he
  exact ⟨_, rfl, _, _, _, [], _, [], hW', trodAll_mk1 (shut_bool Tryz.underlying4 _), trodAll_mk1 (Below.trod laidOutS (by kernel_rfl) (of_decide_eq_true (by kernel_rfl)) k0 bel lt0), rfl, bel.frame _, fun h => by cases h⟩

theorem fnPlaces_holds : Rows.FnPlacesSaid :=
  OpenClaim.holds_of_wide 4 Tryz.f4 rfl rfl rfl rfl rfl rfl rfl ⟨rfl, rfl, rfl, rfl, rfl⟩ rfl rfl rfl rfl rfl (by kernel_rfl) Tryz.func4 (by kernel_rfl)
    (of_decide_eq_true (by kernel_rfl)) (by unfold Func.isWrapper; first | (rw [if_pos (by decide +kernel)]; kernel_rfl) | (rw [if_neg (by decide +kernel)]; exact ⟨rfl, rfl⟩))
    (fun os started H enc _ => liftedFnPlaces os started H enc)
#print axioms fnPlaces_holds

end Go.Proofs.YteddmadbegpecaaGreat
