/- The law FnEmitted of the given statements: the code of a drawn place is as long as it is told, each of its steps is right, and its jumps stay within it or go to first steps. No condition. -/
import Derived.Test.YtjnfmecfpjchnaaGreatF10Same
import Derived.Test.YtjnfmecfpjchnaaGreatE10SpA
import Derived.Deep.RegionHeld3
import Derived.Deep.DeepCutAuto
namespace Go.Proofs.YtjnfmecfpjchnaaGreat
set_option linter.unusedSimpArgs false
set_option linter.unusedVariables false
set_option maxRecDepth 100000
open Go.ChangeShapes Go.WideShapes Go.ChangeAt Go.RowKit

theorem own5_sl {w : World} {lo : Nat} {v : Value} {l : List I5} (h : OwnT5 w lo v l) : ∃ s c, v = .slice s l.length c := by
  rcases h.2 with ⟨h1, h2⟩ | ⟨g, cap, cur, a, -⟩
  · exact ⟨none, 0, by rw [h1, h2]⟩
  · exact ⟨_, _, a⟩
theorem own5_insB {w : World} {lo : Nat} {s : Option Addr} {c : Nat} {l : List I5} (h : OwnT5 w lo (.slice s l.length c) l) : InsB w w.heap.size s l := by
  rcases Nat.eq_zero_or_pos l.length with h0 | hp
  · exact .inl (List.length_eq_zero_iff.1 h0)
  · obtain ⟨g, cap, e, -, hlt⟩ := World.ownsRow.form h hp
    injection e with e1 e2 e3
    subst e1
    rcases h.insR with e | ⟨g', o', e, -, hl, hc⟩
    · rw [e] at hp; simp at hp
    · injection e with e
      injection e with e1 e2
      subst e1 e2
      exact .inr ⟨g, 0, rfl, hlt, hc⟩
theorem InsB.up {w w' : World} {s : Option Addr} {l : List I5} (h : InsB w w.heap.size s l) (hb : Below w.heap.size w w') : InsB w' w'.heap.size s l := by
  rcases h with h | ⟨g, o, e, hg, hc⟩
  · exact .inl h
  · exact .inr ⟨g, o, e, by have := hb.size; omega, fun i hi => (hc i hi).keep hb hg⟩
theorem own_ints {w : World} {base : Nat} {s : Option Addr} {c : Nat} {l : List Int} (h : OwnN w base (.slice s l.length c) l) : IntsR w 0 w.heap.size s l := by
  obtain ⟨s', c', e, hi⟩ := ownN_ints h
  injection e with e1 e2 e3
  rw [e1]
  exact hi.mono (Nat.zero_le _) (Nat.le_refl _)
theorem below_drewN' (w : World) (n : Nat) : Below w.heap.size w (w.drewN n) := ⟨rfl, rfl, rfl, Nat.le_refl _, fun _ _ => rfl⟩
set_option maxRecDepth 100000 in
set_option maxHeartbeats 16000000 in
theorem walkFnEmitted (s : Option Addr) (n c : Nat) (w : World) (hb : Bytes w w.heap.size s n) (hn : n ≤ maxLen) : Calls Tryz.prog 3 #[.slice s n c] w fun e w' => e = .returned (.bool true) ∧ Below w.heap.size w w' := by
  have HB := hid_of hb
  have HN := hid_of hn
  clear hb hn
  by_cases hbig : 1048576 < n
  · have e : decide (1048576 < n) = true := decide_eq_true hbig
    have BG := big_any s n c w
    rw [e] at BG
    clear e hbig
    go_enter Tryz.func3, Tryz.ntmps3
    go_wp2_with (go_at_call 4; refine BG.mono ?_; rintro e w1 ⟨rfl, hw⟩; subst w1)
    go_ret
    exact ⟨rfl, Below.refl _ _⟩
  have e : decide (1048576 < n) = false := decide_eq_false hbig
  have BG := big_any s n c w
  rw [e] at BG
  clear e hbig
  go_enter Tryz.func3, Tryz.ntmps3
  go_wp2_with (go_at_call 4; refine BG.mono ?_; rintro e w1 ⟨rfl, hw⟩; subst w1)
  clear BG
  refine (drawEmit_any s n c w HB.out HN.out).mono ?_
  rintro e w1 ⟨v, l, o, r, a, b, m, fr, g, rfl, hl, f0, f1, hd⟩
  obtain ⟨sv, cv, ev⟩ := hd.o.sl
  subst ev
  have HD := hid_of hd
  have z1 := hd.b.size
  clear hd
  obtain ⟨L, hL⟩ : ∃ L, emitM l [0, 1, 30, 60, 61] o r a b m fr = L := ⟨_, rfl⟩
  have HL := hid_of hL
  have HOK := hid_of (emit_ok f0 f1 L hL)
  have hLn : L.length ≤ 1000 := by
    rcases HOK.out with e | ⟨e, -⟩
    · rw [e]; simp
    · have : sizeV o ≤ 100 := by unfold sizeV; repeat' split <;> omega
      omega
  clear hL
  go_wp2_with fail
  obtain ⟨W, hW, hx, hbW, hzW⟩ := XB.new w1 o r a b m 26
  rw [hW]
  clear hW
  have HX := hid_of hx
  have HKW : Hid (Below w1.heap.size w1 W) := hbW
  obtain ⟨q0, q1, q2, q3, q4, tl⟩ := hx
  clear hbW
  have HCP := hid_of ((own_ints HD.out.o).keep (Keep.of_below HKW.out (Nat.le_refl _)))
  have HST := hid_of (HD.out.s.keep (Keep.of_below HKW.out (Nat.le_refl _)))
  refine (implEmit_any o r a b m fr (some ⟨g, 0, none⟩) sv 5 cv _ _ _ _ l [0, 1, 30, 60, 61] W HCP.out (by omega) (by omega) HST.out (by omega)).mono ?_
  rintro e w2 ⟨v2, rfl, ho2, hb2⟩
  rw [HL.out] at ho2
  obtain ⟨s2, c2, e2⟩ := own5_sl ho2
  subst e2
  have HI2 := hid_of (own5_insB ho2)
  have HK2 := hid_of hb2
  have z2 := hb2.size
  clear ho2 hb2 q0 q1 q2 q3 q4 tl
  obtain ⟨q0, q1, q2, q3, q4, tl⟩ := HX.out.keep HK2.out
  go_wp2_with fail
  refine (specEmit_any o r a b m fr (some ⟨g, 0, none⟩) sv 5 cv _ _ _ _ l [0, 1, 30, 60, 61] w2 (HCP.out.keep (Keep.of_below HK2.out (by omega))) (by omega) (by omega) (HST.out.keep (Keep.of_below HK2.out (by omega))) (by omega)).mono ?_
  rintro e w3 ⟨v3, rfl, ho3, hb3⟩
  rw [HL.out] at ho3
  obtain ⟨s3, c3, e3⟩ := own5_sl ho3
  subst e3
  have HI3 := hid_of (own5_insB ho3)
  have HI2b := hid_of (HI2.out.up hb3)
  have HK3 := hid_of (HK2.out.trans (hb3.mono z2))
  have z3 := hb3.size
  clear ho3 hb3 HI2 HK2 q0 q1 q2 q3 q4 tl
  have HKw : Hid (Below w.heap.size w w3) := (HD.out.b.trans (HKW.out.mono z1)).trans (HK3.out.mono (by omega))
  go_wp2_with fail
  refine (drawSize_any s n c w3 (HB.out.up HKw.out) HN.out).mono ?_
  rintro e w4 ⟨o', r', a', b', m', rfl, hb4⟩
  have HI3b := hid_of (HI3.out.up hb4)
  have HI2c := hid_of (HI2b.out.up hb4)
  have HK4 := hid_of (HK3.out.trans (hb4.mono (by omega)))
  have z4 := hb4.size
  clear hb4 HI3 HI2b HK3 HKw
  go_upto_region 7 with fail
  obtain ⟨Y, hY, hy, hbY, hzY⟩ := XB.new w4 o' r' a' b' m' 26
  rw [hY]
  clear hY
  have HY := hid_of hy
  have HIa := hid_of (HI2c.out.up hbY)
  have HIb := hid_of (HI3b.out.up hbY)
  have HKY : Hid (Below W.heap.size W Y) := HK4.out.trans (hbY.mono (by omega))
  obtain ⟨t0, t1, t2, t3, t4, tl⟩ := hy
  have HV : Hid (Below Y.heap.size Y Y) := Below.refl _ _
  obtain ⟨z, hz⟩ : ∃ z, sizeV o' = z := ⟨_, rfl⟩
  have HZ := hid_of hz
  have hzz : (z != z) = false := by simp
  clear hz hbY HI2c HI3b
  go_region_held3 (fun w' => w'.cell? ⟨w4.heap.size, 0, none⟩ = some (.int .i64 o') ∧ w'.cell? ⟨w4.heap.size, 1, none⟩ = some (.int .i64 r') ∧ w'.cell? ⟨w4.heap.size, 2, none⟩ = some (.int .i64 a') ∧ w'.cell? ⟨w4.heap.size, 3, none⟩ = some (.int .i64 b') ∧ w'.cell? ⟨w4.heap.size, 4, none⟩ = some (.int .i64 m')) (go_keep) (first | (go_at_call 9; refine (sameSteps_same s2 s3 c2 c3 Y.heap.size L _ (show InsB Y.drew _ _ _ from HIa.out) (show InsB Y.drew _ _ _ from HIb.out) (Nat.le_refl _) hLn).mono ?_; rintro e wq1 ⟨rfl, nn, hu⟩; have JV : Hid (Below Y.heap.size Y wq1) := (by rw [hu]; exact ⟨rfl, rfl, rfl, Nat.le_refl _, fun _ _ => rfl⟩); clear HV hu; have HV := JV; clear JV; obtain ⟨t0, t1, t2, t3, t4, tl⟩ := HY.out.keep HV.out) | (go_at_call 10; refine (implSize_any _ _ _ _ _ _).mono ?_; rintro e wq1 ⟨rfl, hb1⟩; rw [HZ.out]; have JV := hid_of (HV.out.trans (hb1.mono HV.out.size)); clear HV hb1; have HV := JV; clear JV; obtain ⟨t0, t1, t2, t3, t4, tl⟩ := HY.out.keep HV.out) | (go_at_call 11; refine (specSize_any _ _ _ _ _ _).mono ?_; rintro e wq1 ⟨rfl, hu⟩; rw [HZ.out]; have JV : Hid (Below Y.heap.size Y wq1) := (by rw [hu]; exact HV.out.alloc HV.out.size _); clear HV hu; have HV := JV; clear JV; obtain ⟨t0, t1, t2, t3, t4, tl⟩ := HY.out.keep HV.out))
  have zv := HV.out.size
  have HIc := hid_of (HIa.out.up HV.out)
  have HKU : Hid (Below W.heap.size W wq1) := HKY.out.trans (HV.out.mono (by omega))
  clear t0 t1 t2 t3 t4 tl HIa HIb HKY HY
  have HKw : Hid (Below w.heap.size w wq1) := (HD.out.b.trans (HKW.out.mono z1)).trans (HKU.out.mono (by omega))
  by_cases hL0 : L = []
  · have e0 : ((L.length : Int) == 0) = true := by rw [hL0]; rfl
    clear hL0
    go_wp2
    go_ret
    exact ⟨rfl, HKw.out⟩
  have hlp : 0 < L.length := by
    rcases Nat.eq_zero_or_pos L.length with e | e
    · exact absurd (List.length_eq_zero_iff.1 e) hL0
    · exact e
  have e0 : ((L.length : Int) == 0) = false := by simp; exact hL0
  obtain ⟨hsz, hall⟩ : (L.length : Int) = sizeV o ∧ ∀ s ∈ L, okS fr L.length [0, 1, 30, 60, 61] s := by
    rcases HOK.out with e | e
    · exact absurd e hL0
    · exact e
  have HALL := hid_of hall
  have HSZ := hid_of hsz
  have hnn : ((L.length : Int) != (L.length : Int)) = false := by simp
  clear hL0 hall hsz
  obtain ⟨q0, q1, q2, q3, q4, tl⟩ := HX.out.keep HKU.out
  go_wp2_with (go_at_call 10; refine (implSize_any _ _ _ _ _ _).mono ?_; rintro e wq2 ⟨rfl, hb1⟩; rw [← HSZ.out]; have HV2 := hid_of hb1; clear hb1)
  have zv2 := HV2.out.size
  have HId := hid_of (HIc.out.up HV2.out)
  have HSU := hid_of (HST.out.keep (Keep.of_below (HKU.out.trans (HV2.out.mono (by omega))) (by omega)))
  have HKw2 : Hid (Below w.heap.size w wq2) := HKw.out.trans (HV2.out.mono (by omega))
  clear q0 q1 q2 q3 q4 tl HIc HKU HKw
  go_loopw [10] (fun i wr => ∃ (k : Nat), k ≤ L.length ∧ i = .int .i64 k ∧ Below wq2.heap.size wq2 wr) (fun i _ => L.length - (intOf i).toNat)
  case atStart => exact ⟨0, Nat.zero_le _, rfl, Below.refl _ _⟩
  case round =>
    obtain ⟨k, hk, rfl, hbr⟩ := hrel
    have HBR := hid_of hbr
    have zr := hbr.size
    clear hbr
    by_cases hlt : k < L.length
    · obtain ⟨gl, ol, es, hgl, hcl⟩ : ∃ g o, s2 = some ⟨g, o, none⟩ ∧ g < wq2.heap.size ∧ At5 wq2 g (o + k * 5) (L.getD k z5) := by
        rcases HId.out with e | ⟨g, o, e, hg, hc⟩
        · rw [e] at hlt; simp at hlt
        · exact ⟨g, o, e, hg, hc k hlt⟩
      subst es
      have hmem : L.getD k z5 ∈ L := by
        rw [List.getD_eq_getElem?_getD, List.getElem?_eq_getElem hlt]
        exact List.getElem_mem hlt
      have HO := hid_of (HALL.out _ hmem)
      have hcr := hcl.keep HBR.out hgl
      clear hmem hcl
      generalize L.getD k z5 = x5 at HO hcr
      obtain ⟨xo, xr, xa, xb, xn⟩ := x5
      have HAT := hid_of hcr
      obtain ⟨c0, c1, c2', c3', c4⟩ := hcr
      simp only at c0 c1 c2' c3' c4
      have b0 : (0 : Int) ≤ (k : Int) := by omega
      have b1 : (k : Int) < (L.length : Int) := by omega
      have hgr : gl < wr.heap.size := by omega
      have hSO := fun w => stepOk_is xo xr xa xb xn 800 true w HO.out.1
      have HJ : Hid (xo = 10 ∨ xo = 11 → (fr ≤ xn ∧ xn ≤ fr + L.length) ∨ xn ∈ ([0, 1, 30, 60, 61] : List Int)) := fun e => HO.out.2 (decide_eq_true e)
      by_cases hj : xo = 10 ∨ xo = 11
      · have hjj := HJ.out hj
        by_cases hr : fr ≤ xn ∧ xn ≤ fr + L.length
        · have r1 : ¬ xn < fr := by omega
          have r2 : ¬ xn > fr + (L.length : Int) := by omega
          rcases hj with rfl | rfl
          · go_wp2_with (go_at_call 12; refine (hSO _).mono ?_; rintro e wq3 ⟨rfl, hb3⟩; have HB3 := hid_of hb3; have z3' := hb3.size; obtain ⟨d0, d1, d2, d3, d4⟩ := HAT.out.keep hb3 hgr; simp only at d0 d1 d2 d3 d4; clear hb3)
            go_roundw
            case rel => exact ⟨k + 1, by omega, by go_num, HBR.out.trans (HB3.out.mono (by omega))⟩
            case measure => simp [intOf]; omega
          · go_wp2_with (go_at_call 12; refine (hSO _).mono ?_; rintro e wq3 ⟨rfl, hb3⟩; have HB3 := hid_of hb3; have z3' := hb3.size; obtain ⟨d0, d1, d2, d3, d4⟩ := HAT.out.keep hb3 hgr; simp only at d0 d1 d2 d3 d4; clear hb3)
            go_roundw
            case rel => exact ⟨k + 1, by omega, by go_num, HBR.out.trans (HB3.out.mono (by omega))⟩
            case measure => simp [intOf]; omega
        · have hmm : xn ∈ ([0, 1, 30, 60, 61] : List Int) := by
            rcases hjj with e | e
            · exact absurd e hr
            · exact e
          have hSH : w1.heap.size ≤ wq2.heap.size := by omega
          by_cases r1 : xn < fr
          · rcases hj with rfl | rfl
            · go_wp2_with (first | (go_at_call 12; refine (hSO _).mono ?_; rintro e wq3 ⟨rfl, hb3⟩; have HB3 := hid_of hb3; have z3' := hb3.size; obtain ⟨d0, d1, d2, d3, d4⟩ := HAT.out.keep hb3 hgr; simp only at d0 d1 d2 d3 d4; clear hb3) | (go_at_call 13; refine (within_true (some ⟨g, 0, none⟩) 5 _ _ [0, 1, 30, 60, 61] xn wq3 (HSU.out.keep (Keep.of_below (HBR.out.trans (HB3.out.mono zr)) hSH)) hmm (Nat.le_trans hSH (Nat.le_trans zr z3')) (by simp)).mono ?_; rintro e wq4 ⟨rfl, nn, hw4⟩; have HB4 : Hid (Below wq3.heap.size wq3 wq4) := (by rw [hw4]; exact ⟨rfl, rfl, rfl, Nat.le_refl _, fun _ _ => rfl⟩); clear hw4))
              go_roundw
              case rel => exact ⟨k + 1, by omega, by go_num, HBR.out.trans ((HB3.out.mono (by omega)).trans (HB4.out.mono (by omega)))⟩
              case measure => simp [intOf]; omega
            · go_wp2_with (first | (go_at_call 12; refine (hSO _).mono ?_; rintro e wq3 ⟨rfl, hb3⟩; have HB3 := hid_of hb3; have z3' := hb3.size; obtain ⟨d0, d1, d2, d3, d4⟩ := HAT.out.keep hb3 hgr; simp only at d0 d1 d2 d3 d4; clear hb3) | (go_at_call 13; refine (within_true (some ⟨g, 0, none⟩) 5 _ _ [0, 1, 30, 60, 61] xn wq3 (HSU.out.keep (Keep.of_below (HBR.out.trans (HB3.out.mono zr)) hSH)) hmm (Nat.le_trans hSH (Nat.le_trans zr z3')) (by simp)).mono ?_; rintro e wq4 ⟨rfl, nn, hw4⟩; have HB4 : Hid (Below wq3.heap.size wq3 wq4) := (by rw [hw4]; exact ⟨rfl, rfl, rfl, Nat.le_refl _, fun _ _ => rfl⟩); clear hw4))
              go_roundw
              case rel => exact ⟨k + 1, by omega, by go_num, HBR.out.trans ((HB3.out.mono (by omega)).trans (HB4.out.mono (by omega)))⟩
              case measure => simp [intOf]; omega
          · have r2 : xn > fr + (L.length : Int) := by omega
            rcases hj with rfl | rfl
            · go_wp2_with (first | (go_at_call 12; refine (hSO _).mono ?_; rintro e wq3 ⟨rfl, hb3⟩; have HB3 := hid_of hb3; have z3' := hb3.size; obtain ⟨d0, d1, d2, d3, d4⟩ := HAT.out.keep hb3 hgr; simp only at d0 d1 d2 d3 d4; clear hb3) | (go_at_call 13; refine (within_true (some ⟨g, 0, none⟩) 5 _ _ [0, 1, 30, 60, 61] xn wq3 (HSU.out.keep (Keep.of_below (HBR.out.trans (HB3.out.mono zr)) hSH)) hmm (Nat.le_trans hSH (Nat.le_trans zr z3')) (by simp)).mono ?_; rintro e wq4 ⟨rfl, nn, hw4⟩; have HB4 : Hid (Below wq3.heap.size wq3 wq4) := (by rw [hw4]; exact ⟨rfl, rfl, rfl, Nat.le_refl _, fun _ _ => rfl⟩); clear hw4))
              go_roundw
              case rel => exact ⟨k + 1, by omega, by go_num, HBR.out.trans ((HB3.out.mono (by omega)).trans (HB4.out.mono (by omega)))⟩
              case measure => simp [intOf]; omega
            · go_wp2_with (first | (go_at_call 12; refine (hSO _).mono ?_; rintro e wq3 ⟨rfl, hb3⟩; have HB3 := hid_of hb3; have z3' := hb3.size; obtain ⟨d0, d1, d2, d3, d4⟩ := HAT.out.keep hb3 hgr; simp only at d0 d1 d2 d3 d4; clear hb3) | (go_at_call 13; refine (within_true (some ⟨g, 0, none⟩) 5 _ _ [0, 1, 30, 60, 61] xn wq3 (HSU.out.keep (Keep.of_below (HBR.out.trans (HB3.out.mono zr)) hSH)) hmm (Nat.le_trans hSH (Nat.le_trans zr z3')) (by simp)).mono ?_; rintro e wq4 ⟨rfl, nn, hw4⟩; have HB4 : Hid (Below wq3.heap.size wq3 wq4) := (by rw [hw4]; exact ⟨rfl, rfl, rfl, Nat.le_refl _, fun _ _ => rfl⟩); clear hw4))
              go_roundw
              case rel => exact ⟨k + 1, by omega, by go_num, HBR.out.trans ((HB3.out.mono (by omega)).trans (HB4.out.mono (by omega)))⟩
              case measure => simp [intOf]; omega
      · have e1 : (xo == 10) = false := by simp; omega
        have e2 : (xo == 11) = false := by simp; omega
        go_wp2_with (go_at_call 12; refine (hSO _).mono ?_; rintro e wq3 ⟨rfl, hb3⟩; have HB3 := hid_of hb3; have z3' := hb3.size; obtain ⟨d0, d1, d2, d3, d4⟩ := HAT.out.keep hb3 hgr; simp only at d0 d1 d2 d3 d4; clear hb3)
        go_roundw
        case rel => exact ⟨k + 1, by omega, by go_num, HBR.out.trans (HB3.out.mono (by omega))⟩
        case measure => simp [intOf]; omega
    · have ek : k = L.length := by omega
      go_wp2
      go_ret
      exact ⟨rfl, HKw2.out.trans (HBR.out.mono (by omega))⟩

set_option maxRecDepth 100000 in
theorem liftedFnEmitted (os : Os) (started : os.Started) (H : Type) (enc : TypeId × Value → H) :
    ReturnsInHanded {} Tryz.checked os 3 .any (Rows.fnEmittedSpec.pre6 enc Tryz.prog Tryz.f3 Rows.fnEmittedRow.domain false) (Rows.fnEmittedSpec.post enc Tryz.prog Tryz.f3 false true false false) := by
  refine returnsInHanded_of_change (C := Tryz.checked) ownS started (by kernel_rfl) Tryz.func3
    (ChangeSpec.witness6 (enc := enc) (C := Tryz.checked) false ⟨#[], #[.slice none 0 0], []⟩ 8 (by kernel_rfl) (by kernel_rfl) (by kernel_rfl) (by kernel_rfl)) ?_
  intro W base args ds gs before hval0 hW hcnd _
  have hval : ∀ (j : Nat) t v, Tryz.f3.params[j]? = some t → args[j]? = some v → Value.okWide Tryz.prog W .any base t v := hval0
  have hW' := hW
  obtain ⟨p, q, hA0, hV, rfl, hfz, hnd⟩ := hW
  have hA : DataW.TrodAll enc Tryz.prog W 0 (fun _ => true) true Tryz.f3.params.toList args.toList ds p := hA0
  rw [Tryz.params3] at hA hval
  obtain ⟨v0, d0, hargs, rfl, h0⟩ := trodAll_one hA
  obtain rfl : args = #[v0] := by cases args; simp_all
  obtain ⟨rfl, rfl⟩ := trodVars_none hV
  have k0 := h0
  have lt0 : ∀ x ∈ p, x.block < W.heap.size := by obtain ⟨m, hm⟩ := k0; exact DataW.trod_lt m _ _ _ hm
  obtain ⟨s, n, c, rfl, hn, hB⟩ := bytes_read (hval 0 22 v0 rfl rfl) h0
  clear hA0 hval0
  refine (walkFnEmitted s n c W hB hn).mono fun e W' ⟨he, bel⟩ => ?_
  subst he
  exact ⟨_, rfl, _, _, _, [], _, [], hW', trodAll_mk1 (shut_bool Tryz.underlying4 _), trodAll_mk1 (Below.trod laidOutS (by kernel_rfl) (of_decide_eq_true (by kernel_rfl)) k0 bel lt0), rfl, bel.frame _, fun h => by cases h⟩

theorem fnEmitted_holds : Rows.FnEmittedSaid :=
  OpenClaim.holds_of_wide 3 Tryz.f3 rfl rfl rfl rfl rfl rfl rfl ⟨rfl, rfl, rfl, rfl, rfl⟩ rfl rfl rfl rfl rfl (by kernel_rfl) Tryz.func3 (by kernel_rfl)
    (of_decide_eq_true (by kernel_rfl)) (by unfold Func.isWrapper; first | (rw [if_pos (by decide +kernel)]; kernel_rfl) | (rw [if_neg (by decide +kernel)]; exact ⟨rfl, rfl⟩))
    (fun os started H enc _ => liftedFnEmitted os started H enc)
#print axioms fnEmitted_holds

end Go.Proofs.YtjnfmecfpjchnaaGreat
