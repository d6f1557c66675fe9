/- The law FnCompiled of the given statements: a drawn program that is compiled has for each place its steps, one behind the other; each step belongs to one place. No condition. -/
import Derived.Test.YteddmadbegpecaaGreatRows
import Derived.WalkKit
import Derived.ProofKit
import Derived.OpenShut
import Derived.ShutString
import Derived.ChangeOld
import Derived.Below
import Derived.Test.YteddmadbegpecaaGreatX6
import Derived.Deep.RegionHeld3
namespace Go.Proofs.YteddmadbegpecaaGreat
set_option linter.unusedSimpArgs false
set_option linter.unusedVariables false
set_option maxRecDepth 100000
open Go.ChangeShapes Go.WideShapes Go.ChangeAt Go.RowKit Go.Deep

set_option maxRecDepth 100000 in
set_option maxHeartbeats 8000000 in
theorem walkFnCompiled (s : Option Addr) (n c : Nat) (w : World) (hb : Bytes w w.heap.size s n) (hn : n ≤ maxLen) :
    Calls Tryz.prog 3 #[.slice s n c] w fun e w' => e = .returned (.bool true) ∧ Below w.heap.size w w' := by
  have HBy := hidP hb
  clear hb
  by_cases hbig : 1048576 < n
  · go_enter Tryz.func3, Tryz.ntmps3
    go_wp2_with (go_at_call 5; refine (big_any s n c w).mono ?_; rintro e w0 ⟨rfl, h0⟩; rw [h0, decide_eq_true hbig]; clear h0 w0)
    go_ret
    exact ⟨rfl, Below.refl _ _⟩
  go_enter Tryz.func3, Tryz.ntmps3
  go_wp2_with (go_at_call 5; refine (big_any s n c w).mono ?_; rintro e w0 ⟨rfl, h0⟩; rw [h0, decide_eq_false hbig]; clear h0 w0)
  refine (drawCompile_any s n c w HBy.out hn).mono ?_
  rintro e w1 ⟨s0, d0, s1, d1, p, rfl, ⟨hpr, hb1⟩, hft⟩
  have hz1 := hb1.size
  obtain ⟨W1, hW1, bx1, kb1, zb1⟩ := Bo2.new w1 (.slice s0 p.caps.length d0) (.slice s1 p.bods.length d1) 27
  have HP1 := hidP (ProgR.keep' hpr (Keep.of_below kb1 (Nat.le_refl _)))
  have HF1 := hidP hft
  have HX1 := hidP bx1
  have K1 := hidP (hb1.trans (kb1.mono hz1))
  have zW1 : w1.heap.size + 1 ≤ W1.heap.size := by omega
  obtain ⟨x0, x1⟩ := bx1
  clear hpr hft hb1 kb1 zb1
  go_wp2_with fail
  refine (implCompile_any s0 s1 d0 d1 _ _ p W1 HP1.out (by omega) HF1.out).mono ?_
  rintro e w2 ⟨v2, rfl, ho2, hb2⟩
  have hz2 := hb2.size
  have HP2 := hidP (ProgR.keep' HP1.out (Keep.of_below hb2 (by omega)))
  have K2 := hidP (K1.out.trans (hb2.mono (by omega)))
  have HX2 := hidP (HX1.out.keep (Keep.of_below hb2 (by omega)))
  obtain ⟨sa, ca, ea, hia⟩ := ho2.bods
  subst ea
  have HIA := hidP hia
  clear x0 x1 hia ho2
  obtain ⟨x0, x1⟩ := HX2.out
  clear hb2 hW1
  go_wp2_with fail
  refine (specCompile_any s0 s1 d0 d1 _ _ p w2 HP2.out (by omega) HF1.out).mono ?_
  rintro e w3 ⟨v3, rfl, ho3, hb3⟩
  have hz3 := hb3.size
  have K3 := hidP (K2.out.trans (hb3.mono (by omega)))
  have HP3 := hidP (ProgR.keep' HP2.out (Keep.of_below hb3 (by omega)))
  have HX3 := hidP (HX2.out.keep (Keep.of_below hb3 (by omega)))
  have HIA3 := hidP (HIA.out.keep (Keep.of_below hb3 (Nat.le_refl _)))
  obtain ⟨sb, cb, eb, hib⟩ := ho3.bods
  subst eb
  have HIB := hidP hib
  clear x0 x1 hib ho3 hb3 HIA HP1 HP2 HX1 HX2
  by_cases hgood : progB p = true ∧ ∀ i, i < p.bods.length → codeB (cdAt p i) = true
  · have ECP := cpM_yes hgood.1 hgood.2
    have HPB := hidP hgood.1
    have HOK := hidP hgood.2
    rw [ECP] at HIA3 HIB ⊢
    have hlc := cdL_len p p.bods.length
    dsimp only at HIA3 HIB ⊢
    rw [hlc]
    clear ECP hgood
    go_wp2
    go_loopw [8] (fun i wr => ∃ k : Nat, k ≤ p.bods.length ∧ i = .int .i64 k ∧ Below w3.heap.size w3 wr) (fun i _ => p.bods.length - (intOf i).toNat)
    case atStart => exact ⟨0, Nat.zero_le _, rfl, Below.refl _ _⟩
    case round =>
      obtain ⟨wo, hwo⟩ : ∃ wo : World, wo = wr := ⟨_, rfl⟩
      subst hwo
      obtain ⟨k, hk, rfl, hb⟩ := hrel
      have HB := hidP hb
      have hzo := hb.size
      clear hb
      by_cases hlt : k < p.bods.length
      · obtain ⟨x0, x1⟩ := HX3.out.keep (Keep.of_below HB.out (by omega))
        have b0 : (0 : Int) ≤ (k : Int) := by omega
        have b1 : (k : Int) < (p.bods.length : Int) := by omega
        go_wp2_with fail
        refine (implStarts_any s0 s1 d0 d1 _ _ p (k : Int) wo (ProgR.keep' HP3.out (Keep.of_below HB.out (by omega))) (by omega) HF1.out).mono ?_
        rintro e w4 ⟨v4, rfl, ho4, hb4⟩
        rw [stB_body HPB.out hlt] at ho4
        have hz4 := hb4.size
        have K34 := hidP (HB.out.trans (hb4.mono hzo))
        obtain ⟨ga, oa, hsa, hga, ra, rca, hca, hra⟩ := bods_at (HIA3.out.keep (Keep.of_below K34.out (by omega))) (i := k) (by rw [hlc]; exact hlt)
        obtain ⟨gb, ob, hsb, hgb, rb, rcb, hcb, hrb⟩ := bods_at (HIB.out.keep (Keep.of_below K34.out (Nat.le_refl _))) (i := k) (by rw [hlc]; exact hlt)
        obtain ⟨gp, op, hsp, hgp, sp, cp, hcp, hrp⟩ := bods_at ((ProgR.keep' HP3.out (Keep.of_below K34.out (by omega))).2) (i := k) hlt
        rw [cdL_at p hlt] at hca hra hcb hrb
        have hsz := cdAt_size HPB.out hlt
        obtain ⟨hrt, hl1⟩ := progB_body HPB.out (i := k) hlt
        have hcn : (cdAt p k).length ≤ 960 := by have a := cdM_len p.caps (p.bods.getD k []) (p.bods.getD k []).length; have b := hrt.len; unfold cdAt; omega
        have HCB := hidP (HOK.out k hlt)
        have HBV := hidP (bodV_yes HPB.out b0 b1)
        obtain ⟨l, hl⟩ : ∃ l, p.bods.getD k [] = l := ⟨_, rfl⟩
        rw [show (k : Int).toNat = k from rfl, hl] at HBV
        rw [hl] at hcp hrp hsz hrt hl1 ho4
        clear hl
        have HRT := hidP hrt
        have hl24 := hrt.len
        obtain ⟨s5, c5, e5, hi5⟩ := ownN_ints ho4
        rw [stL_len] at e5
        subst e5
        have HI5 := hidP hi5
        have IA4 := hidP (hra.insB.mono (show _ ≤ w4.heap.size by omega))
        have IB4 := hidP (hrb.insB.mono (show _ ≤ w4.heap.size by omega))
        have F0 := hidP hca
        have F1 := hidP hcb
        have F2 := hidP (HX3.out.keep (Keep.of_below K34.out (by omega))).c1
        have F3 := hidP hcp
        have F4 := hidP (HX3.out.keep (Keep.of_below K34.out (by omega))).c0
        have HSZ := hidP hsz
        subst hsa hsb hsp
        have lga : ga < w4.heap.size := by omega
        have lgb : gb < w4.heap.size := by omega
        have lgp : gp < w4.heap.size := by omega
        have lw1 : w1.heap.size < w4.heap.size := by omega
        have hN1 : (cdAt p k).length ≤ 1000 := by omega
        have hN2 : (cdAt p k).length ≤ 1048576 := by omega
        have hne : ((l.length : Int) != (l.length : Int)) = false := by simp
        clear x0 x1 hrt hca hcb hcp hra hrb hrp ho4 hi5 hb4 hsz
        have f0 := F0.out
        have f1 := F1.out
        have f2 := F2.out
        have f3 := F3.out
        go_wp2_with fail
        go_region_held3 (fun w'' => w''.cell? ⟨ga, oa + k, none⟩ = some (.slice ra (cdAt p k).length rca) ∧ w''.cell? ⟨gb, ob + k, none⟩ = some (.slice rb (cdAt p k).length rcb) ∧ w''.cell? ⟨w1.heap.size, 1, none⟩ = some (.slice (some ⟨gp, op, none⟩) p.bods.length d1) ∧ w''.cell? ⟨gp, op + k, none⟩ = some (.slice sp l.length cp)) (go_keep) (first | (go_at_call 10; refine (sameSteps_same ra rb rca rcb w4.heap.size (cdAt p k) w4.drew (show InsB w4.drew w4.heap.size ra (cdAt p k) from IA4.out) (show InsB w4.drew w4.heap.size rb (cdAt p k) from IB4.out) (show w4.heap.size ≤ w4.heap.size from Nat.le_refl _) hN1).mono ?_; rintro e y1 ⟨rfl, nn, hy⟩; have KY : Hid (Below w4.heap.size w4 y1) := hy ▸ ⟨rfl, rfl, rfl, Nat.le_refl _, fun _ _ => rfl⟩; clear f0 f1 f2 f3 hy; have f0 := (KY.out.cell (p := ⟨ga, oa + k, none⟩) lga).trans F0.out; have f1 := (KY.out.cell (p := ⟨gb, ob + k, none⟩) lgb).trans F1.out; have f2 := (KY.out.cell (p := ⟨w1.heap.size, 1, none⟩) lw1).trans F2.out; have f3 := (KY.out.cell (p := ⟨gp, op + k, none⟩) lgp).trans F3.out) | (go_at_call 11; refine (implCode_any ra rca w4.heap.size (cdAt p k) y1 (IA4.out.keep KY.out) KY.out.size hN2).mono ?_; rintro e y2 ⟨rfl, hbu⟩; rw [HCB.out]; have KU := hidP (KY.out.trans (hbu.mono KY.out.size)); clear f0 f1 f2 f3 hbu; have f0 := (KU.out.cell (p := ⟨ga, oa + k, none⟩) lga).trans F0.out; have f1 := (KU.out.cell (p := ⟨gb, ob + k, none⟩) lgb).trans F1.out; have f2 := (KU.out.cell (p := ⟨w1.heap.size, 1, none⟩) lw1).trans F2.out; have f3 := (KU.out.cell (p := ⟨gp, op + k, none⟩) lgp).trans F3.out) | fail)
        clear f0 f1 f2 f3
        have hbz := belN_zero HRT.out
        go_wp2
        go_loopw [10, 11] (fun v i wz => ∃ m : Nat, m ≤ (cdAt p k).length ∧ i = .int .i64 m ∧ v = .int .i64 (belN l m) ∧ Below w4.heap.size w4 wz) (fun _ i _ => (cdAt p k).length - (intOf i).toNat)
        case atStart => exact ⟨0, Nat.zero_le _, rfl, by rw [show ((0 : Nat) : Int) = 0 from rfl, hbz]; rfl, KU.out⟩
        case round =>
          obtain ⟨m, hm, rfl, rfl, hb⟩ := hrel
          have HBm := hidP hb
          have hzm := hb.size
          have f0 := (hb.cell (p := ⟨ga, oa + k, none⟩) lga).trans F0.out
          have x0 := (hb.cell (p := ⟨w1.heap.size, 0, none⟩) lw1).trans F4.out
          have x1 := (hb.cell (p := ⟨w1.heap.size, 1, none⟩) lw1).trans F2.out
          clear hb
          by_cases hml : m < (cdAt p k).length
          · have hmi : (m : Int) < ((cdAt p k).length : Int) := by omega
            obtain ⟨j, hj, j1, j2⟩ := place_is (l := l) (at' := (m : Int)) l.length (by omega) (by rw [← HSZ.out]; exact hmi)
            have EPL := hidP (placeV_at HRT.out hj j1 j2)
            have HST := hidP (belN_step HRT.out hj j1 j2)
            obtain ⟨g5, o5, hs5, hg5b, hgc⟩ : ∃ g o, s5 = some ⟨g, o, none⟩ ∧ g < w4.heap.size ∧ w4.cell? ⟨g, o + j, none⟩ = some (.int .i64 (stV l j)) := by
              rcases HI5.out with h0 | ⟨g, o, h1, h2, h3, h4⟩
              · exfalso
                have h9 := congrArg List.length h0
                rw [stL_len, List.length_nil] at h9
                omega
              · exact ⟨g, o, h1, h3, by have := h4 j (by rw [stL_len]; exact hj); rw [stL_at l hj] at this; exact this⟩
            have HGC := hidP hgc
            obtain ⟨sj, hsj⟩ : ∃ sj, stV l j = sj := ⟨_, rfl⟩
            rw [hsj] at HGC EPL HST j1
            clear hsj hgc j2
            subst hs5
            have hbn : belN l (m : Int) ≤ l.length := by unfold belN; exact Nat.le_trans (List.length_filter_le _ _) (by simp)
            have hbn2 : ((belN l (m : Int) : Nat) : Int) ≤ 24 := by omega
            have hbn3 : (0 : Int) ≤ ((belN l (m : Int) : Nat) : Int) := by omega
            have c1 : ¬ (j : Int) < 0 := by omega
            have c2 : ¬ (l.length : Int) ≤ (j : Int) := by omega
            have c3 : ¬ (m : Int) < sj := by omega
            have c4 : (0 : Int) ≤ (j : Int) := by omega
            have c5' : (j : Int) < (l.length : Int) := by omega
            go_wp2_with fail
            refine (implPlace_any s0 (some ⟨gp, op, none⟩) d0 d1 _ _ p (k : Int) (m : Int) wr (ProgR.keep' HP3.out (Keep.of_below (K34.out.trans (HBm.out.mono (by omega))) (by omega))) (by omega) HF1.out).mono ?_
            rintro e w6 ⟨rfl, hb6⟩
            rw [HBV.out, EPL.out]
            have HB6 := hidP (HBm.out.trans (hb6.mono hzm))
            have f5 := (HB6.out.cell (p := ⟨g5, o5 + j, none⟩) hg5b).trans HGC.out
            clear hb6 x0 x1 f0
            by_cases e : sj = (m : Int)
            · have he := decide_eq_true e
              rw [if_pos e] at HST
              have hbe : (sj == (m : Int)) = true := beq_iff_eq.2 e
              dsimp only
              rw [he]
              clear he e
              go_wp2
              exact ⟨⟨m + 1, by omega, by go_num, by rw [show ((m + 1 : Nat) : Int) = (m : Int) + 1 by omega, HST.out]; go_num, HB6.out⟩, by simp [intOf]; omega⟩
            · have he := decide_eq_false e
              rw [if_neg e] at HST
              have hbe : (sj == (m : Int)) = false := beq_eq_false_iff_ne.2 e
              dsimp only
              rw [he]
              clear he e
              go_wp2
              exact ⟨⟨m + 1, by omega, by go_num, by rw [show ((m + 1 : Nat) : Int) = (m : Int) + 1 by omega, HST.out]; rfl, HB6.out⟩, by simp [intOf]; omega⟩
          · have hmn : m = (cdAt p k).length := by omega
            subst hmn
            have hba : belN l ((cdAt p k).length : Int) = l.length := by rw [HSZ.out]; exact belN_all HRT.out
            rw [hba]
            have hnl : ((l.length : Int) != (l.length : Int)) = false := by simp
            have hk4 : p.bods.length ≤ 4 := (progB_len HPB.out).2.1
            have hk5 : (k : Int) ≤ 4 := by omega
            go_wp2
            exact ⟨⟨k + 1, by omega, by go_num, K34.out.trans (HBm.out.mono (by omega))⟩, by simp [intOf]; omega⟩
      · have hkn : k = p.bods.length := by omega
        subst hkn
        obtain ⟨x0, x1⟩ := HX3.out.keep (Keep.of_below HB.out (by omega))
        have heq : ((p.bods.length : Int) == (p.bods.length : Int)) = true := by simp
        go_wp2
        go_ret
        exact ⟨rfl, K3.out.trans (HB.out.mono (by omega))⟩
  · have ECP : cpM p = ([], false) := by unfold cpM; rw [if_neg hgood]
    rw [ECP]
    clear ECP hgood
    go_wp2
    go_ret
    exact ⟨rfl, K3.out⟩

set_option maxRecDepth 100000 in
theorem liftedFnCompiled (os : Os) (started : os.Started) (H : Type) (enc : TypeId × Value → H) :
    ReturnsInHanded {} Tryz.checked os 3 .any (Rows.fnCompiledSpec.pre6 enc Tryz.prog Tryz.f3 Rows.fnCompiledRow.domain false) (Rows.fnCompiledSpec.post enc Tryz.prog Tryz.f3 false true false false) := by
  refine returnsInHanded_of_change (C := Tryz.checked) ownS started (by kernel_rfl) Tryz.func3
    (ChangeSpec.witness6 (enc := enc) (C := Tryz.checked) false ⟨#[], #[.slice none 0 0], []⟩ 8 (by kernel_rfl) (by kernel_rfl) (by kernel_rfl) (by kernel_rfl)) ?_
  intro W base args ds gs before hval0 hW hcnd _
  have hval : ∀ (j : Nat) t v, Tryz.f3.params[j]? = some t → args[j]? = some v → Value.okWide Tryz.prog W .any base t v := hval0
  have hW' := hW
  obtain ⟨p, q, hA0, hV, rfl, hfz, hnd⟩ := hW
  have hA : DataW.TrodAll enc Tryz.prog W 0 (fun _ => true) true Tryz.f3.params.toList args.toList ds p := hA0
  rw [Tryz.params3] at hA hval
  obtain ⟨v0, d0, hargs, rfl, h0⟩ := trodAll_one hA
  obtain rfl : args = #[v0] := by cases args; simp_all
  obtain ⟨rfl, rfl⟩ := trodVars_none hV
  have k0 := h0
  have lt0 : ∀ x ∈ p, x.block < W.heap.size := by obtain ⟨m, hm⟩ := k0; exact DataW.trod_lt m _ _ _ hm
  obtain ⟨s, n, c, rfl, hn, hB⟩ := bytes_read (hval 0 22 v0 rfl rfl) h0
  clear hA0 hval0
  refine (walkFnCompiled s n c W hB hn).mono fun e W' ⟨he, bel⟩ => ?_
  subst he
  exact ⟨_, rfl, _, _, _, [], _, [], hW', trodAll_mk1 (shut_bool Tryz.underlying4 _), trodAll_mk1 (Below.trod laidOutS (by kernel_rfl) (of_decide_eq_true (by kernel_rfl)) k0 bel lt0), rfl, bel.frame _, fun h => by cases h⟩

theorem fnCompiled_holds : Rows.FnCompiledSaid :=
  OpenClaim.holds_of_wide 3 Tryz.f3 rfl rfl rfl rfl rfl rfl rfl ⟨rfl, rfl, rfl, rfl, rfl⟩ rfl rfl rfl rfl rfl (by kernel_rfl) Tryz.func3 (by kernel_rfl)
    (of_decide_eq_true (by kernel_rfl)) (by unfold Func.isWrapper; first | (rw [if_pos (by decide +kernel)]; kernel_rfl) | (rw [if_neg (by decide +kernel)]; exact ⟨rfl, rfl⟩))
    (fun os started H enc _ => liftedFnCompiled os started H enc)
#print axioms fnCompiled_holds

end Go.Proofs.YteddmadbegpecaaGreat
