/- PlaceOf of the specification. Conditions: programs that fit. -/
import Derived.Test.YtplncjlcejaabaaGreatJP11Pl
import Derived.Test.YtplncjlcejaabaaGreatJP11SpS
import Derived.Test.YtplncjlcejaabaaGreatJProgOk
import Derived.Deep.QuietTactic
import Derived.BigQuiet
namespace Go.Proofs.YtplncjlcejaabaaGreat
set_option linter.unusedSimpArgs false
set_option linter.unusedVariables false
set_option maxRecDepth 100000
open Go.RowKit
theorem l1In_is11 (x lo hi : Int) (v : Bool) (w : World) (h : Plain.inB x lo hi = v) : Calls Tryz.prog 24 #[.int .i64 x, .int .i64 lo, .int .i64 hi] w fun e w' => e = .returned (.bool v) ∧ w' = w := by
 subst h
 exact l1In_any x lo hi w
theorem placeV_none {p : PD} {b q : Int} (h : bodV p b = []) : placeV (bodV p b) q = (-1, false) := by rw [h]; rfl
set_option maxRecDepth 100000 in
set_option maxHeartbeats 4000000 in
theorem specPlace_any (s s' : Option Addr) (c c' lo hi : Nat) (p : PD) (b q : Int) (w : World) (h : ProgR w lo hi s s' p) (hB : hi ≤ w.heap.size) (hf : Fits p) :
  Calls Tryz.prog 25 #[.agg #[.slice s p.caps.length c, .slice s' p.bods.length c'], .int .i64 b, .int .i64 q] w fun e w' => e = .returned (.tuple #[.int .i64 (placeV (bodV p b) q).1, .bool (placeV (bodV p b) q).2]) ∧ Below w.heap.size w w' := by
 have HP := hidP h
 have HF := hidP hf
 have hfn := hf.2.1
 clear h hf
 obtain ⟨W, hW, bx, kb, zb⟩ := Bo2.new w (.slice s p.caps.length c) (.slice s' p.bods.length c') 39
 have HB2 := hidP bx
 have HK := hidP kb
 obtain ⟨x0, x1⟩ := bx
 clear kb
 go_enter Tryz.func25, Tryz.ntmps25
 go_wp2_with fail
 refine (specProg_any s s' c c' lo hi p W (ProgR.keep' HP.out (Keep.of_below HK.out hB)) (by omega) HF.out).mono ?_
 rintro e w1 ⟨rfl, hb1⟩
 have K1 := hidP (HK.out.trans (hb1.mono (by omega)))
 clear x0 x1
 obtain ⟨x0, x1⟩ := HB2.out.keep (Keep.of_below hb1 (by omega))
 have hz1 := hb1.size
 clear hb1
 cases hp : progB p
 ·have E := hidP (placeV_none (q := q) (bodV_no (p := p) (b := b) (fun h => by rw [hp] at h; cases h.1)))
  clear hp
  go_wp2
  refine bodyPost_ret (v := .tuple #[.int .i64 (-1), .bool false]) (by simp [results, Tryz.results25, go_sem]) rfl ?_
  exact ⟨by rw [E.out], K1.out⟩
 ·have E := hidP hp
  have hbn := (progB_len hp).1
  clear hp
  cases hq : Plain.inB b 0 ((p.bods.length : Int) - 1)
  ·have E2 := hidP (placeV_none (q := q) (bodV_no (p := p) (b := b) (fun h => by simp only [Plain.inB, decide_eq_false_iff_not] at hq; exact hq ⟨h.2.1, by omega⟩)))
   have HQ := hidP hq
   clear hq
   go_wp2_with (go_at_call 24; refine (l1In_is11 _ _ _ false _ HQ.out).mono ?_; rintro e w2 ⟨rfl, h2⟩; rw [h2]; clear h2 w2)
   refine bodyPost_ret (v := .tuple #[.int .i64 (-1), .bool false]) (by simp [results, Tryz.results25, go_sem]) rfl ?_
   exact ⟨by rw [E2.out], K1.out⟩
  ·have HQ := hidP hq
   simp only [Plain.inB, decide_eq_true_eq] at hq
   obtain ⟨q0, q1⟩ := hq
   obtain ⟨j, rfl⟩ : ∃ j : Nat, b = j := ⟨b.toNat, by omega⟩
   have E2 := hidP (bodV_yes E.out q0 (by omega : (j : Int) < p.bods.length))
   have HR := hidP (bodV_rt p (j : Int))
   obtain ⟨g, off, rfl, hg, s1, c1, hcell, hin⟩ := bods_at ((ProgR.keep' HP.out (Keep.of_below K1.out hB)).2) (i := j) (by omega)
   have e3 : p.bods.getD j [] = bodV p (j : Int) := by rw [E2.out]; rfl
   rw [e3] at hcell hin
   clear e3 E2
   obtain ⟨l, hl⟩ : ∃ l, bodV p (j : Int) = l := ⟨_, rfl⟩
   have HL := hidP hl
   rw [hl] at hcell hin HR
   clear hl
   have HIN := hidP hin
   have hl24 := HR.out.len
   clear hin
   have b1 : (j : Int) < (p.bods.length : Int) := by omega
   go_wp2_with (go_at_call 24; refine (l1In_is11 _ _ _ true _ HQ.out).mono ?_; rintro e w2 ⟨rfl, h2⟩; rw [h2]; clear h2 w2)
   refine (l11Starts_any s1 c1 lo hi l w1 HIN.out (by omega) HR.out).mono ?_
   rintro e w2 ⟨⟨g2, cap2, rfl, ho2, hg2⟩, hb2⟩
   have K2 := hidP (K1.out.trans (hb2.mono (by omega)))
   have hz2 := hb2.size
   have cells : ∀ i, i ≤ l.length → w2.cell? ⟨g2, i, none⟩ = some (.int .i64 (stV l i)) := fun i hi => by
    have := OwnN.cell (w := w2) (base := w1.heap.size) (g := g2) (cap := cap2) (ls := stL l (l.length + 1)) (by rw [stL_len]; exact ho2) (i := i) (by rw [stL_len]; omega)
    rw [stL_at l (by omega : i < l.length + 1)] at this
    exact this
   have HC := hidP cells
   have c0 := cells l.length (Nat.le_refl _)
   have hbd := stV_big HR.out (Nat.le_refl l.length)
   clear hb2 ho2 cells HIN hcell x0 x1
   obtain ⟨sn, hsn⟩ : ∃ sn, stV l l.length = sn := ⟨_, rfl⟩
   have HSN := hidP hsn
   rw [hsn] at c0 hbd
   clear hsn
   cases hq2 : Plain.inB q 0 (sn - 1)
   ·have E3 := hidP (placeV_no HR.out (q := q) (fun h => by rw [HSN.out] at h; simp only [Plain.inB, decide_eq_false_iff_not] at hq2; exact hq2 ⟨h.1, by omega⟩))
    have HQ2 := hidP hq2
    clear hq2
    go_wp2_with (go_at_call 24; refine (l1In_is11 _ _ _ false _ HQ2.out).mono ?_; rintro e w3 ⟨rfl, h2⟩; rw [h2]; clear h2 w3)
    refine bodyPost_ret (v := .tuple #[.int .i64 (-1), .bool false]) (by simp [results, Tryz.results25, go_sem]) rfl ?_
    exact ⟨by rw [HL.out, E3.out], K2.out⟩
   ·have HQ2 := hidP hq2
    simp only [Plain.inB, decide_eq_true_eq] at hq2
    obtain ⟨r0, r1⟩ := hq2
    go_wp2_with (go_at_call 24; refine (l1In_is11 _ _ _ true _ HQ2.out).mono ?_; rintro e w3 ⟨rfl, h2⟩; rw [h2]; clear h2 w3)
    go_loopw [10] (fun i wr => ∃ k : Nat, k ≤ l.length ∧ i = .int .i64 k ∧ stV l k ≤ q ∧ wr = w2) (fun i _ => l.length - (intOf i).toNat)
    case atStart => exact ⟨0, Nat.zero_le _, rfl, r0, rfl⟩
    case round =>
     obtain ⟨k, hk, rfl, hkq, rfl⟩ := hrel
     by_cases hlt : k < l.length
     ·have ck := HC.out k hk
      have ck1 := HC.out (k + 1) hlt
      have b2 : (k : Int) < (l.length : Int) := by omega
      by_cases hs : q < stV l (k + 1)
      ·have EP := hidP (placeV_at HR.out hlt hkq hs)
       generalize stV l k = a1 at ck hkq EP
       generalize stV l (k + 1) = a2 at ck1 hs
       go_wp2_with fail
       go_quiet (fail)
       go_wp2
       refine bodyPost_ret (v := .tuple #[.int .i64 k, .bool (q == a1)]) (by simp [results, Tryz.results25, go_sem]) rfl ?_
       refine ⟨?_, K2.out.trans ((below_drewN wr nq).mono K2.out.size)⟩
       rw [HL.out, EP.out]
       simp [BEq.comm (a := q), Bool.beq_eq_decide_eq, eq_comm]
      ·have hk2 : stV l (k + 1) ≤ q := by omega
       have HK2 := hidP hk2
       generalize stV l (k + 1) = a2 at ck1 hs hk2
       go_wp2
       go_roundw
       case rel => exact ⟨k + 1, by omega, by go_num, HK2.out, by first | trivial | rfl⟩
       case measure => simp [intOf]; omega
     ·have : k = l.length := by omega
      subst this
      rw [HSN.out] at hkq
      omega
end Go.Proofs.YtplncjlcejaabaaGreat
