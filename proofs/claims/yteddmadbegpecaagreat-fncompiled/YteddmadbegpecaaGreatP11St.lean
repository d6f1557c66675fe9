/- Starts of the program and of the specification. Conditions: programs that fit. -/
import Derived.Test.YteddmadbegpecaaGreatP11SpP
import Derived.Test.YteddmadbegpecaaGreatP11Sort
import Derived.Test.YteddmadbegpecaaGreatP11Body
import Derived.Test.YteddmadbegpecaaGreatP11SpS
namespace Go.Proofs.YteddmadbegpecaaGreat
set_option linter.unusedSimpArgs false
set_option linter.unusedVariables false
set_option maxRecDepth 100000
open Go.RowKit

def stB (p : PD) (b : Int) : List Int := stL (bodV p b) (bodV p b).length
theorem stB_none {p : PD} {b : Int} (h : bodV p b = []) : stB p b = [] := by unfold stB; rw [h]; rfl

set_option maxRecDepth 100000 in
set_option maxHeartbeats 4000000 in
theorem implStarts_any (s s' : Option Addr) (c c' lo hi : Nat) (p : PD) (b : Int) (w : World) (h : ProgR w lo hi s s' p) (hB : hi ≤ w.heap.size) (hf : Fits p) :
    Calls Tryz.prog 9 #[.agg #[.slice s p.caps.length c, .slice s' p.bods.length c'], .int .i64 b] w fun e w' => ∃ v, e = .returned v ∧ OwnN w' w.heap.size v (stB p b) ∧ Below w.heap.size w w' := by
  have HP := hidP h
  have HF := hidP hf
  obtain ⟨l, hl⟩ : ∃ l, bodV p b = l := ⟨_, rfl⟩
  have HR := hidP (hl ▸ bodV_rt p b)
  have HL := hidP hl
  have HS : Hid (stB p b = stL l l.length) := by show stB p b = stL l l.length; unfold stB; rw [hl]
  clear h hf hl
  obtain ⟨W, hW, bx, kb, zb⟩ := Bo2.new w (.slice s p.caps.length c) (.slice s' p.bods.length c') 27
  have HK := hidP kb
  have zb' : w.heap.size ≤ W.heap.size := by omega
  clear zb
  obtain ⟨x0, x1⟩ := bx
  clear kb
  go_enter Tryz.func9, Tryz.ntmps9
  go_wp2_with fail
  refine (bodyOf_any s s' c c' lo hi p b W (ProgR.keep' HP.out (Keep.of_below HK.out hB)) (by omega) HF.out).mono ?_
  rintro e w1 ⟨⟨s1, c1, rfl, hin⟩, hb1⟩
  rw [HL.out] at hin ⊢
  have K1 := hidP (HK.out.trans (hb1.mono (by omega)))
  have HI := hidP hin
  have hz1 := hb1.size
  clear hb1 hin x0 x1
  go_wp2_with fail
  refine (startsOf_any s1 c1 lo hi l w1 HI.out (by omega) HR.out).mono ?_
  rintro e w2 ⟨⟨g, cap, rfl, ho2⟩, hb2⟩
  have K2 := hidP (K1.out.trans (hb2.mono (by omega)))
  have HO := hidP ho2
  clear hb2 ho2 HI
  go_wp2
  go_ret
  exact ⟨_, rfl, by rw [HS.out]; exact ownLow' HO.out (by omega), K2.out⟩

set_option maxRecDepth 100000 in
set_option maxHeartbeats 4000000 in
theorem specStarts_any (s s' : Option Addr) (c c' lo hi : Nat) (p : PD) (b : Int) (w : World) (h : ProgR w lo hi s s' p) (hB : hi ≤ w.heap.size) (hf : Fits p) :
    Calls Tryz.prog 17 #[.agg #[.slice s p.caps.length c, .slice s' p.bods.length c'], .int .i64 b] w fun e w' => ∃ v, e = .returned v ∧ OwnN w' w.heap.size v (stB p b) ∧ Below w.heap.size w w' := by
  have HP := hidP h
  have HF := hidP hf
  have hfn := hf.2.1
  clear h hf
  obtain ⟨W, hW, bx, kb, zb⟩ := Bo2.new w (.slice s p.caps.length c) (.slice s' p.bods.length c') 27
  have HB2 := hidP bx
  have HK := hidP kb
  have zb' : w.heap.size + 1 ≤ W.heap.size := by omega
  clear zb
  obtain ⟨x0, x1⟩ := bx
  clear kb
  go_enter Tryz.func17, Tryz.ntmps17
  go_wp2_with fail
  refine (specProg_any s s' c c' lo hi p W (ProgR.keep' HP.out (Keep.of_below HK.out hB)) (by omega) HF.out).mono ?_
  rintro e w1 ⟨rfl, hb1⟩
  have K1 := hidP (HK.out.trans (hb1.mono (by omega)))
  clear x0 x1
  obtain ⟨x0, x1⟩ := HB2.out.keep (Keep.of_below hb1 (by omega))
  have hz1 := hb1.size
  clear hb1
  cases hp : progB p
  · have E := hidP (stB_none (bodV_no (p := p) (b := b) (fun h => by rw [hp] at h; cases h.1)))
    clear hp
    go_wp2
    go_ret
    exact ⟨_, rfl, by rw [E.out]; exact ownN_empty (by omega), K1.out.alloc (by omega) _⟩
  · have E := hidP hp
    have hbn := (progB_len hp).1
    clear hp
    cases hq : Plain.inB b 0 ((p.bods.length : Int) - 1)
    · have E2 := hidP (stB_none (bodV_no (p := p) (b := b) (fun h => by simp only [Plain.inB, decide_eq_false_iff_not] at hq; exact hq ⟨h.2.1, by omega⟩)))
      have HQ := hidP hq
      clear hq
      go_wp2_with (go_at_call 35; refine (l1In_is11 _ _ _ false _ HQ.out).mono ?_; rintro e w2 ⟨rfl, h2⟩; rw [h2]; clear h2 w2)
      go_ret
      exact ⟨_, rfl, by rw [E2.out]; exact ownN_empty (by omega), K1.out.alloc (by omega) _⟩
    · have HQ := hidP hq
      simp only [Plain.inB, decide_eq_true_eq] at hq
      obtain ⟨q0, q1⟩ := hq
      obtain ⟨j, rfl⟩ : ∃ j : Nat, b = j := ⟨b.toNat, by omega⟩
      have E2 := hidP (bodV_yes E.out q0 (by omega : (j : Int) < p.bods.length))
      have HR := hidP (bodV_rt p (j : Int))
      obtain ⟨g, off, rfl, hg, s1, c1, hcell, hin⟩ := bods_at ((ProgR.keep' HP.out (Keep.of_below K1.out hB)).2) (i := j) (by omega)
      have e3 : p.bods.getD j [] = bodV p (j : Int) := by rw [E2.out]; rfl
      have hl1 := (progB_body E.out (i := j) (by omega)).2
      rw [e3] at hcell hin hl1
      clear e3 E2
      obtain ⟨l, hl⟩ : ∃ l, bodV p (j : Int) = l := ⟨_, rfl⟩
      have HS : Hid (stB p (j : Int) = stL l l.length) := by show stB p (j : Int) = stL l l.length; unfold stB; rw [hl]
      rw [hl] at hcell hin HR hl1
      clear hl
      have HIN := hidP hin
      have hl24 := HR.out.len
      clear hin
      have b1 : (j : Int) < (p.bods.length : Int) := by omega
      go_wp2_with (go_at_call 35; refine (l1In_is11 _ _ _ true _ HQ.out).mono ?_; rintro e w2 ⟨rfl, h2⟩; rw [h2]; clear h2 w2)
      refine (l11Starts_any s1 c1 lo hi l w1 HIN.out (by omega) HR.out).mono ?_
      rintro e w2 ⟨⟨g2, cap2, rfl, ho2, hg2⟩, hb2⟩
      have K2 := hidP (K1.out.trans (hb2.mono (by omega)))
      have hz2 := hb2.size
      have hcp : l.length + 1 ≤ cap2 := by
        rcases ho2.2 with ⟨h0, _⟩ | ⟨g', cap', cur, hv, hbg, hgc, hnc, hcm, hcs, htake⟩
        · cases h0
        · simp only [Value.slice.injEq] at hv
          obtain ⟨-, e1, e2⟩ := hv
          rw [stL_len] at hnc
          omega
      have cells : ∀ i, i < (stL l l.length).length → (w2.alloc (.cells #[] 3)).cell? ⟨g2, 0 + i, none⟩ = some (.int .i64 ((stL l l.length).getD i 0)) := fun i hi => by
        rw [stL_len] at hi
        have := OwnN.cell (w := w2) (base := w1.heap.size) (g := g2) (cap := cap2) (ls := stL l (l.length + 1)) (by rw [stL_len]; exact ho2) (i := i) (by rw [stL_len]; omega)
        rw [stL_at l (by omega : i < l.length + 1)] at this
        rw [stL_at l hi, Nat.zero_add]
        exact (((Below.refl _ _).alloc (Nat.le_refl _) _).cell (p := ⟨g2, i, none⟩) hg2).trans this
      have HC := hidP cells
      clear hb2 ho2 cells HIN hcell x0 x1
      have hcp' : (l.length : Int) ≤ (cap2 : Int) := by omega
      go_wp2_with (first | (at_builtin; refine app_row rfl _ _ rfl _ w.heap.size (.slice (some ⟨w2.heap.size, 0, none⟩) 0 0) [] rfl (ownN_empty (by omega)) g2 0 cap2 (stL l l.length) (by rw [stL_len]; rfl) HC.out (by rw [stL_len]; omega) (by rw [stL_len]; simp; omega) (by simp; omega) ?_; intro g3 cap3 w3 ho3 hb3 hg3 hg3'; rw [List.nil_append, List.length_nil, Nat.zero_add] at ho3) | go_in)
      go_ret
      exact ⟨.slice (some ⟨g3, 0, none⟩) (stL l l.length).length cap3, rfl, by rw [HS.out]; exact ho3, K2.out.trans ((show Below w.heap.size w2 _ from (Below.refl _ _).alloc (by omega) _).trans hb3)⟩


end Go.Proofs.YteddmadbegpecaaGreat
