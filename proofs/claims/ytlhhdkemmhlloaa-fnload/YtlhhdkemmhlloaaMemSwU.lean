/- Swap of the specification: its memory may be written. Conditions: memories that are counted, views of at most 2^20. -/
import Derived.Test.YtlhhdkemmhlloaaMemU
import Derived.Test.YtlhhdkemmhlloaaMemSwI
namespace Go.Proofs.Ytlhhdkemmhlloaa
set_option linter.unusedSimpArgs false
set_option linter.unusedVariables false
set_option maxRecDepth 100000
open Go.RowKit

set_option maxHeartbeats 4000000 in
theorem specSwapU_any (s s' : Option Addr) (c c' lo hi lo' hi' : Nat) (m : List (List WD)) (l : List Int) (cell z : Int) (w : World) (h : MemR w lo hi s m) (h' : IntsR w lo' hi' s' l) (hB : hi ≤ w.heap.size) (hB' : hi' ≤ w.heap.size) (hl : l.length ≤ 1048577) (hm : MFits m) :
    Calls Try.prog 24 #[.agg #[.slice s m.length c], .slice s' l.length c', .int .i64 cell, .int .i64 z] w fun e w' => ∃ sM cM n v, e = .returned (.tuple #[.agg #[.slice sM n cM], v, .int .i64 (swV m l cell)]) ∧ n = (swM m l cell z).length ∧ MU w' w.heap.size sM cM (swM m l cell z) ∧ OwnN w' w.heap.size v (swW m l cell) ∧ Below w.heap.size w w' := by
  have H : Hid (MemR w lo hi s m) := h
  have H' : Hid (IntsR w lo' hi' s' l) := h'
  have HM : Hid (MFits m) := hm
  have HM2 : Hid (m.length + szR m ≤ 1048676) := by show m.length + szR m ≤ 1048676; unfold MFits at hm; omega
  clear h h' hm
  go_enter Try.func24, Try.ntmps24
  go_wp2_with fail
  obtain ⟨W, hW⟩ : ∃ W, (w.alloc (.cells #[.slice s m.length c] 26)).alloc (.cells #[.slice none 0 0] 26) = W := ⟨_, rfl⟩
  have c0 : W.cell? ⟨w.heap.size, 0, none⟩ = some (.slice s m.length c) := by subst hW; simp [go_sem]
  have c1 : W.cell? ⟨w.heap.size + 1, 0, none⟩ = some (.slice none 0 0) := by subst hW; simp [go_sem]
  have f1 : ∀ j, W.frozen? ⟨w.heap.size + 1, j, none⟩ = false := fun j => by subst hW; simp [go_sem]
  have kW : Below w.heap.size w W := by subst hW; exact ((Below.refl _ _).alloc (Nat.le_refl _) _).alloc (by simp) _
  have sW : W.heap.size = w.heap.size + 2 := by subst hW; simp
  rw [hW]
  clear hW
  have HKW : Hid (Below w.heap.size w W) := kW
  have SW : Hid (W.heap.size = w.heap.size + 2) := sW
  have z0 : w.heap.size + 1 < W.heap.size := by omega
  have z9 : hi ≤ W.heap.size := by omega
  have z8 : hi' ≤ W.heap.size := by omega
  have HW : Hid (MemR W lo hi s m) := H.out.keep (Keep.of_below kW hB)
  have HW' : Hid (IntsR W lo' hi' s' l) := H'.out.keep (Keep.of_below kW hB')
  clear kW sW
  refine (l6Right_any s s' c c' lo hi lo' hi' m l cell W HW.out HW'.out z9 z8 (by omega) HM2.out).mono ?_
  rintro e w1 ⟨rfl, hb1⟩
  have HB1 : Hid (Below W.heap.size W w1) := hb1
  have y1 := hb1.size
  have d1 := (hb1.cell (p := ⟨w.heap.size, 0, none⟩) (by show w.heap.size < _; omega)).trans c0
  have g1 := (hb1.cell (p := ⟨w.heap.size + 1, 0, none⟩) z0).trans c1
  have h1 : ∀ j, w1.frozen? ⟨w.heap.size + 1, j, none⟩ = false := fun j => (hb1.frozen (p := ⟨w.heap.size + 1, j, none⟩) z0).trans (f1 j)
  have y8 : w.heap.size < w1.heap.size := by omega
  have y9 : w.heap.size + 1 < w1.heap.size := by omega
  clear hb1
  by_cases hr : rightB m l cell = true
  · obtain ⟨k, r, rfl, hrt⟩ := right_of hr
    rw [hr]
    obtain ⟨gm, om, s1, cx, es, a1, a2, a3, -⟩ := (HW.out.keep (Keep.of_below HB1.out z9)).row hrt.hr
    subst es
    have hk := hrt.hk
    have hml := hrt.hm
    have b0 : (0 : Int) ≤ (k : Int) := by omega
    have b1 : (k : Int) < (m.length : Int) := by omega
    have gl : gm < w1.heap.size := by omega
    have HML : Hid (m.length = 24) := hml
    clear hml
    by_cases hn : r.length < 4000
    · have hne4 : ((r.length : Int) == 4000) = false := by simp; omega
      obtain ⟨j, x, t1, t2, t3, t4, t5⟩ := hrt.at' 0
      obtain ⟨em, ew, ev⟩ := sw_yes (v := z) hrt hr hn t1 t4
      have EM : Hid (swM m l k z = m.set k (r ++ [⟨z, (joinL (l.set k j) x.vw).set k (r.length : Int)⟩])) := em
      have EW : Hid (swW m l k = (joinL (l.set k j) x.vw).set k (r.length : Int)) := ew
      have EV : Hid (swV m l k = x.v) := ev
      have hjl : (joinL (l.set k (j : Int)) x.vw).length = l.length := by rw [join_len, List.length_set, hrt.hl, hrt.hw j x t3]; rfl
      have HJL : Hid ((joinL (l.set k (j : Int)) x.vw).length = l.length) := hjl
      have ld := l6Load_any (some ⟨gm, om, none⟩) s' c c' lo hi lo' hi' m l k r 0 true j x w1 (HW.out.keep (Keep.of_below HB1.out z9)) (HW'.out.keep (Keep.of_below HB1.out z8)) (by omega) (by omega) hrt (by omega) t5 t3
      have HRT : Hid (Rt m l k r) := hrt
      have HRP : Hid (∀ (i : Nat) (q : List WD), m[i]? = some q → 1 ≤ q.length) := rows_pos hr
      have hr4 : r.length ≤ 4000 := by omega
      clear em ew ev hrt hr hn t1 t2 t3 t4 t5 hjl
      go_wp2_with fail
      refine ld.mono ?_
      rintro e w9 ⟨v9, rfl, n9, b9⟩
      generalize hlj : joinL (l.set k (j : Int)) x.vw = lj at EM EW HJL n9
      have n9b : OwnN w9 w1.heap.size v9 lj := by simpa [hlj] using n9
      obtain ⟨s9, c9, rfl, i9, -⟩ := NB.ints n9b
      rw [HJL.out]
      have HI9 : Hid (IntsR w9 w1.heap.size w9.heap.size s9 lj) := i9
      have HB9 : Hid (Below w1.heap.size w1 w9) := b9
      have d9 := (b9.cell (p := ⟨w.heap.size, 0, none⟩) y8).trans d1
      have g9 := (b9.cell (p := ⟨w.heap.size + 1, 0, none⟩) y9).trans g1
      have h9 : ∀ j, w9.frozen? ⟨w.heap.size + 1, j, none⟩ = false := fun j => (b9.frozen (p := ⟨w.heap.size + 1, j, none⟩) y9).trans (h1 j)
      have s9s := b9.size
      have v8 : w.heap.size < w9.heap.size := by omega
      have v9' : w.heap.size + 1 < w9.heap.size := by omega
      clear n9 n9b b9 i9 ld hlj
      go_wp2_with fail
      refine (l6Copy_any (some ⟨gm, om, none⟩) c lo hi m w9 ((HW.out.keep (Keep.of_below HB1.out z9)).keep (Keep.of_below HB9.out (by omega))) (by omega) HM.out).mono ?_
      rintro e w2 ⟨vM, S, rfl, hO2, hb2⟩
      have hml := HML.out
      obtain ⟨gO, cO, eO, -⟩ := World.ownsRow.form hO2.row (by rw [hO2.n]; omega)
      rw [hO2.n] at eO
      subst eO
      have hne : ∀ (i : Nat) (q : RS), S[i]? = some q → 0 < q.vs.length := fun i q hq => by
        obtain ⟨lq, hlq⟩ := at_same hO2.n.symm hq
        have h1 := (hO2.r i q lq hq hlq).n
        have h2 := HRP.out i lq hlq
        omega
      obtain ⟨rk, hrk⟩ := at_same hO2.n HRT.out.hr
      have y2 := hb2.size
      have st := l6Store_any gO cO w9.heap.size S m rk r s9 c9 w1.heap.size w9.heap.size lj k z true w2 (HI9.out.keep (Keep.of_below hb2 (Nat.le_refl _))) y2 hO2 hne hrk HRT.out.hr (by rw [HJL.out]; exact HRT.out.hl) hk hml hr4 y2
      rw [HJL.out] at st
      have HB2 : Hid (Below w9.heap.size w9 w2) := hb2
      have g2 := (hb2.cell (p := ⟨w.heap.size + 1, 0, none⟩) v9').trans g9
      have h2 : ∀ j, w2.frozen? ⟨w.heap.size + 1, j, none⟩ = false := fun j => (hb2.frozen (p := ⟨w.heap.size + 1, j, none⟩) v9').trans (h9 j)
      have z2 : w.heap.size + 1 < w2.heap.size := by omega
      clear hO2 hb2 hne hrk hml
      go_wp2_with fail
      refine st.mono ?_
      rintro e w3 ⟨v3, r3, rfl, n3, o3, b3⟩
      obtain ⟨s3, c3, rfl⟩ := ownSl n3
      have g3 := (b3.cell (p := ⟨w.heap.size + 1, 0, none⟩) v9').trans g2
      have h3 : ∀ j, w3.frozen? ⟨w.heap.size + 1, j, none⟩ = false := fun j => (b3.frozen (p := ⟨w.heap.size + 1, j, none⟩) v9').trans (h2 j)
      obtain ⟨sx, cx3, ex, mx3⟩ := o3.om.mo
      injection ex with ex1 ex2 ex3
      subst ex1
      have M3 : Hid (MU w3 w9.heap.size (some ⟨gO, 0, none⟩) cO (m.set k (r ++ [⟨z, lj.set k (r.length : Int)⟩]))) := ⟨_, by rw [List.length_set]; exact o3.om⟩
      have hls : (lj.set k (r.length : Int)).length = l.length := by rw [List.length_set]; exact HJL.out
      have N3 : Hid (OwnN w3 w2.heap.size (.slice s3 l.length c3) (lj.set k (r.length : Int))) := by show OwnN _ _ _ _; rw [← hls]; exact n3
      have B3 : Hid (Below w9.heap.size w2 w3) := b3
      have y3 := b3.size
      have z3 : w.heap.size + 1 < w3.heap.size := by omega
      rw [hls]
      clear n3 o3 b3 st mx3 ex2 ex3 hls
      go_wp2
      have kX : ∀ b, b < w3.heap.size → b ≠ w.heap.size + 1 → ((w3.setCell ⟨w.heap.size + 1, 0, none⟩ (.slice (some ⟨gO, 0, none⟩) m.length cO)).alloc (.cells #[.slice (some ⟨gO, 0, none⟩) m.length cO] 26)).heap[b]? = w3.heap[b]? := fun b q1 q2 => by rw [Below.heap_alloc _ _ _ (by simpa using q1), Below.heap_setCell _ _ _ b q2]
      have hX0 : ((w3.setCell ⟨w.heap.size + 1, 0, none⟩ (.slice (some ⟨gO, 0, none⟩) m.length cO)).alloc (.cells #[.slice (some ⟨gO, 0, none⟩) m.length cO] 26)).cell? ⟨w.heap.size + 1, 0, none⟩ = some (.slice (some ⟨gO, 0, none⟩) m.length cO) := (World.cell?_of_block (w := w3.setCell ⟨w.heap.size + 1, 0, none⟩ (.slice (some ⟨gO, 0, none⟩) m.length cO)) (a := ⟨w.heap.size + 1, 0, none⟩) (Below.heap_alloc _ _ _ (by simpa using z3))).trans (setC_at (by rw [g3]; rfl))
      refine bodyPost_ret (v := .tuple #[.agg #[.slice (some ⟨gO, 0, none⟩) m.length cO], .slice s3 l.length c3, .int .i64 x.v]) (by simp [results, Try.results24, go_sem, hX0]) rfl ⟨_, _, _, _, by rw [EV.out], by rw [EM.out, List.length_set], ?_, ?_, ?_⟩
      · rw [EM.out]
        exact (M3.out.kept (fun b q1 q2 => kX b q2 (by omega)) (by simp)).low (by omega)
      · rw [EW.out]
        exact ownLow' (ownKeep' N3.out (fun b e => kX b (World.ownsRow.lt N3.out _ e).2 (by have := (World.ownsRow.lt N3.out _ e).1; omega))) (by omega)
      · exact (((HKW.out.trans ((HB1.out.mono (by omega)).trans ((HB9.out.mono (by omega)).trans ((HB2.out.mono (by omega)).trans (B3.out.mono (by omega))))))).setCell (p := ⟨w.heap.size + 1, 0, none⟩) (by show w.heap.size ≤ w.heap.size + 1; omega) _).alloc (by simp; omega) _
    · have hr4 : r.length = 4000 := by have := hrt.n2; omega
      have hne4 : ((r.length : Int) == 4000) = true := by simp; omega
      obtain ⟨em, ew, ev⟩ := sw_no (v := z) (show canB m l k = false by unfold canB; rw [hrt.row, decide_eq_false hn]; simp)
      clear hr4
      go_wp2_with fail
      refine (l6Copy_any (some ⟨gm, om, none⟩) c lo hi m w1 (HW.out.keep (Keep.of_below HB1.out z9)) (by omega) HM.out).mono ?_
      rintro e w2 ⟨vM, S, rfl, hO2, hb2⟩
      obtain ⟨sv, cv, ev, hmo⟩ := hO2.om.mo
      subst ev
      have HR2 : Hid (MU w2 w1.heap.size sv cv m) := ⟨_, hO2.om⟩
      have HB2 : Hid (Below w1.heap.size w1 w2) := hb2
      have y2 := hb2.size
      have g2 := (hb2.cell (p := ⟨w.heap.size + 1, 0, none⟩) y9).trans g1
      have h2 : ∀ j, w2.frozen? ⟨w.heap.size + 1, j, none⟩ = false := fun j => (hb2.frozen (p := ⟨w.heap.size + 1, j, none⟩) y9).trans (h1 j)
      have L2 : Hid (IntsR (w2.alloc (.cells #[] 3)) lo' hi' s' l) := (HW'.out.keep (Keep.of_below HB1.out z8)).keep (Keep.of_below (hb2.trans (((Below.refl w2.heap.size w2).alloc (Nat.le_refl _) _).mono y2)) (by omega))
      have z2 : w.heap.size + 1 < w2.heap.size := by omega
      clear hO2 hb2 hmo
      go_wp2_with (at_builtin; refine app_copyI rfl _ _ rfl rfl _ w2.heap.size (some ⟨w2.heap.size, 0, none⟩) 0 rfl (ownN_empty (Nat.le_refl _)) s' c' l rfl L2.out (by omega) (by simp) ?_; intro s5 c5 w5 ho5 hc5; have HO5 := (show Hid (OwnN w5 w2.heap.size (.slice s5 l.length c5) l) from ho5); have hb5 : Below w2.heap.size w2 w5 := ((Below.refl _ _).alloc (Nat.le_refl _) _).trans hc5.low; have HB5 : Hid (Below w2.heap.size w2 w5) := hb5; have g5 := (hb5.cell (p := ⟨w.heap.size + 1, 0, none⟩) z2).trans g2; have h5 : ∀ j, w5.frozen? ⟨w.heap.size + 1, j, none⟩ = false := (fun j => (hb5.frozen (p := ⟨w.heap.size + 1, j, none⟩) z2).trans (h2 j)); have y5 := hb5.size; clear ho5 hc5 hb5)
      refine bodyPost_ret (v := .tuple #[.agg #[.slice sv m.length cv], .slice s5 l.length c5, .int .i64 0]) (by simp [results, Try.results24, go_sem, g5]) rfl ⟨sv, cv, m.length, _, by rw [ev], by rw [em], ?_, ?_, ?_⟩
      · rw [em]
        exact ((HR2.out.kept (fun b _ q => HB5.out.block b q) HB5.out.size).kept (fun b q1 q2 => Below.heap_setCell _ _ _ b (by show b ≠ w.heap.size + 1; omega)) (by simp)).low (by omega)
      · rw [ew]
        exact ownLow' (ownKeep' HO5.out (fun b e => Below.heap_setCell _ _ _ b (by have := (World.ownsRow.lt HO5.out _ e).1; show b ≠ w.heap.size + 1; omega))) (by omega)
      · exact (HKW.out.trans ((HB1.out.mono (by omega)).trans ((HB2.out.mono (by omega)).trans (HB5.out.mono (by omega))))).setCell (p := ⟨w.heap.size + 1, 0, none⟩) (by show w.heap.size ≤ w.heap.size + 1; omega) _
  · have hf : rightB m l cell = false := by simpa using hr
    rw [hf]
    obtain ⟨em, ew, ev⟩ := sw_no (v := z) (show canB m l cell = false by unfold canB; rw [hf]; rfl)
    go_wp2_with fail
    refine (l6Copy_any s c lo hi m w1 (HW.out.keep (Keep.of_below HB1.out z9)) (by omega) HM.out).mono ?_
    rintro e w2 ⟨vM, S, rfl, hO2, hb2⟩
    obtain ⟨sv, cv, ev, hmo⟩ := hO2.om.mo
    subst ev
    have HR2 : Hid (MU w2 w1.heap.size sv cv m) := ⟨_, hO2.om⟩
    have HB2 : Hid (Below w1.heap.size w1 w2) := hb2
    have y2 := hb2.size
    have g2 := (hb2.cell (p := ⟨w.heap.size + 1, 0, none⟩) y9).trans g1
    have h2 : ∀ j, w2.frozen? ⟨w.heap.size + 1, j, none⟩ = false := fun j => (hb2.frozen (p := ⟨w.heap.size + 1, j, none⟩) y9).trans (h1 j)
    have L2 : Hid (IntsR (w2.alloc (.cells #[] 3)) lo' hi' s' l) := (HW'.out.keep (Keep.of_below HB1.out z8)).keep (Keep.of_below (hb2.trans (((Below.refl w2.heap.size w2).alloc (Nat.le_refl _) _).mono y2)) (by omega))
    have z2 : w.heap.size + 1 < w2.heap.size := by omega
    clear hO2 hb2 hmo
    go_wp2_with (at_builtin; refine app_copyI rfl _ _ rfl rfl _ w2.heap.size (some ⟨w2.heap.size, 0, none⟩) 0 rfl (ownN_empty (Nat.le_refl _)) s' c' l rfl L2.out (by omega) (by simp) ?_; intro s5 c5 w5 ho5 hc5; have HO5 := (show Hid (OwnN w5 w2.heap.size (.slice s5 l.length c5) l) from ho5); have hb5 : Below w2.heap.size w2 w5 := ((Below.refl _ _).alloc (Nat.le_refl _) _).trans hc5.low; have HB5 : Hid (Below w2.heap.size w2 w5) := hb5; have g5 := (hb5.cell (p := ⟨w.heap.size + 1, 0, none⟩) z2).trans g2; have h5 : ∀ j, w5.frozen? ⟨w.heap.size + 1, j, none⟩ = false := (fun j => (hb5.frozen (p := ⟨w.heap.size + 1, j, none⟩) z2).trans (h2 j)); have y5 := hb5.size; clear ho5 hc5 hb5)
    refine bodyPost_ret (v := .tuple #[.agg #[.slice sv m.length cv], .slice s5 l.length c5, .int .i64 0]) (by simp [results, Try.results24, go_sem, g5]) rfl ⟨sv, cv, m.length, _, by rw [ev], by rw [em], ?_, ?_, ?_⟩
    · rw [em]
      exact ((HR2.out.kept (fun b _ q => HB5.out.block b q) HB5.out.size).kept (fun b q1 q2 => Below.heap_setCell _ _ _ b (by show b ≠ w.heap.size + 1; omega)) (by simp)).low (by omega)
    · rw [ew]
      exact ownLow' (ownKeep' HO5.out (fun b e => Below.heap_setCell _ _ _ b (by have := (World.ownsRow.lt HO5.out _ e).1; show b ≠ w.heap.size + 1; omega))) (by omega)
    · exact (HKW.out.trans ((HB1.out.mono (by omega)).trans ((HB2.out.mono (by omega)).trans (HB5.out.mono (by omega))))).setCell (p := ⟨w.heap.size + 1, 0, none⟩) (by show w.heap.size ≤ w.heap.size + 1; omega) _

end Go.Proofs.Ytlhhdkemmhlloaa
