/- Store of the program. Conditions: memories that are counted, views of at most 2^20. -/
import Derived.Test.YtlhhdkemmhlloaaMemStoD
namespace Go.Proofs.Ytlhhdkemmhlloaa
set_option linter.unusedSimpArgs false
set_option linter.unusedVariables false
set_option maxRecDepth 100000
open Go.RowKit

set_option maxHeartbeats 4000000 in
theorem implStore_any (s s' : Option Addr) (c c' lo hi lo' hi' : Nat) (m : List (List WD)) (l : List Int) (cell z : Int) (b : Bool) (w : World) (h : MemR w lo hi s m) (h' : IntsR w lo' hi' s' l) (hB : hi ≤ w.heap.size) (hB' : hi' ≤ w.heap.size) (hl : l.length ≤ 1048577) (hm : MFits m) :
    Calls Try.prog 10 #[.agg #[.slice s m.length c], .slice s' l.length c', .int .i64 cell, .int .i64 z, .bool b] w fun e w' => ∃ vM S v, e = .returned (.tuple #[.agg #[vM], v]) ∧ OW w' w.heap.size vM S (stoM m l cell z b) ∧ OwnN w' w.heap.size v (stoW m l cell) ∧ (∀ a ∈ mAs S, v.ownBlock ≠ some a.block) ∧ Below w.heap.size w w' := by
  have H : Hid (MemR w lo hi s m) := h
  have H' : Hid (IntsR w lo' hi' s' l) := h'
  have HM : Hid (MFits m) := hm
  have HM2 : Hid (m.length + szR m ≤ 1048676) := by show m.length + szR m ≤ 1048676; unfold MFits at hm; omega
  clear h h' hm
  go_enter Try.func10, Try.ntmps10
  go_wp2_with fail
  obtain ⟨W, hW⟩ : ∃ W, (w.alloc (.cells #[.slice s m.length c] 26)).alloc (.cells #[.slice none 0 0] 26) = W := ⟨_, rfl⟩
  have c0 : W.cell? ⟨w.heap.size, 0, none⟩ = some (.slice s m.length c) := by subst hW; simp [go_sem]
  have c1 : W.cell? ⟨w.heap.size + 1, 0, none⟩ = some (.slice none 0 0) := by subst hW; simp [go_sem]
  have f1 : ∀ j, W.frozen? ⟨w.heap.size + 1, j, none⟩ = false := fun j => by subst hW; simp [go_sem]
  have kW : Below w.heap.size w W := by subst hW; exact ((Below.refl _ _).alloc (Nat.le_refl _) _).alloc (by simp) _
  have sW : W.heap.size = w.heap.size + 2 := by subst hW; simp
  rw [hW]
  clear hW
  have HKW : Hid (Below w.heap.size w W) := kW
  have SW : Hid (W.heap.size = w.heap.size + 2) := sW
  have z0 : w.heap.size + 1 < W.heap.size := by omega
  have z9 : hi ≤ W.heap.size := by omega
  have z8 : hi' ≤ W.heap.size := by omega
  have HW : Hid (MemR W lo hi s m) := H.out.keep (Keep.of_below kW hB)
  have HW' : Hid (IntsR W lo' hi' s' l) := H'.out.keep (Keep.of_below kW hB')
  clear kW sW
  refine (sameMemory_any s c lo hi m W HW.out z9 HM.out).mono ?_
  rintro e w1 ⟨vM, S, rfl, hO1, hb1⟩
  obtain ⟨sv, cv, ev, -⟩ := hO1.om.mo
  subst ev
  have HO1 : Hid (OW w1 (w.heap.size + 2) (.slice sv m.length cv) S m) := by show OW _ _ _ _ _; rw [← SW.out]; exact hO1
  have HB1 : Hid (Below W.heap.size W w1) := hb1
  have y1 := hb1.size
  have HSB : Hid (∀ a ∈ mAs S, a.block < w1.heap.size) := fun a ha => (hO1.om.blk ha).2
  clear hO1 hb1
  go_wp2_with fail
  refine (copied_any s' c' lo' hi' l w1 (HW'.out.keep (Keep.of_below HB1.out z8)) (by omega) hl).mono ?_
  rintro e w2 ⟨rfl, ho2, hb2⟩
  obtain ⟨G, hG⟩ : ∃ G, w1.heap.size = G := ⟨_, rfl⟩
  have hG2 := (World.ownsRow.lt ho2 w1.heap.size rfl).2
  have HO2 : Hid (OwnN w2 (w.heap.size + 2) (.slice (some ⟨G, 0, none⟩) l.length l.length) l) := by show OwnN _ _ _ _; rw [← hG]; exact ownLow' ho2 (by have := SW.out; omega)
  have HB2 : Hid (Below w1.heap.size w1 w2) := hb2
  have y2 := hb2.size
  have HGE : Hid (w1.heap.size = G) := hG
  have y3 : G < w2.heap.size := by omega
  have y4 : w.heap.size + 2 ≤ G := by have := SW.out; omega
  have d2 := (hb2.cell (p := ⟨w.heap.size, 0, none⟩) (by show w.heap.size < _; omega)).trans ((HB1.out.cell (p := ⟨w.heap.size, 0, none⟩) (by show w.heap.size < _; omega)).trans c0)
  have y10 : w.heap.size < w2.heap.size := by omega
  rw [hG]
  clear hG ho2 hb2 hG2
  go_wp2_with fail
  obtain ⟨Y, hY, bY, kY, sY⟩ := Bo1.new w2 (.slice sv m.length cv) 26
  rw [hY]
  clear hY
  have e0 := bY.c0
  have HKY : Hid (Below W.heap.size W Y) := (HB1.out.trans (HB2.out.mono y1)).trans (kY.mono (by omega))
  have OY : Hid (OW Y (w.heap.size + 2) (.slice sv m.length cv) S m) := (HO1.out.below HB2.out).below kY
  have NY : Hid (OwnN Y (w.heap.size + 2) (.slice (some ⟨G, 0, none⟩) l.length l.length) l) := HO2.out.below kY
  have y5 : w2.heap.size < Y.heap.size := by omega
  have y6 : w.heap.size + 1 < Y.heap.size := by omega
  have d0 := (HKY.out.cell (p := ⟨w.heap.size, 0, none⟩) (by show w.heap.size < _; omega)).trans c0
  clear bY kY sY
  have HSep : Hid (∀ a ∈ mAs S, a.block ≠ G) := fun a ha => by have h1 := HSB.out a ha; have h2 := HGE.out; omega
  refine (reaches_any s s' c c' lo hi lo' hi' m l cell Y (HW.out.keep (Keep.of_below HKY.out z9)) (HW'.out.keep (Keep.of_below HKY.out z8)) (by omega) (by omega) (by omega) HM2.out).mono ?_
  rintro e w3 ⟨rfl, hb3⟩
  have HB3 : Hid (Below Y.heap.size Y w3) := hb3
  have y7 := hb3.size
  have e3 := (hb3.cell (p := ⟨w2.heap.size, 0, none⟩) y5).trans e0
  have d3 := (hb3.cell (p := ⟨w.heap.size, 0, none⟩) (by show w.heap.size < _; omega)).trans d0
  have KW3 : Hid (Below W.heap.size W w3) := HKY.out.trans (hb3.mono (by omega))
  have g3 := (KW3.out.cell (p := ⟨w.heap.size + 1, 0, none⟩) z0).trans c1
  have h3 : ∀ j, w3.frozen? ⟨w.heap.size + 1, j, none⟩ = false := fun j => (KW3.out.frozen (p := ⟨w.heap.size + 1, j, none⟩) z0).trans (f1 j)
  have O3 : Hid (OW w3 (w.heap.size + 2) (.slice sv m.length cv) S m) := OY.out.below hb3
  have N3 : Hid (OwnN w3 (w.heap.size + 2) (.slice (some ⟨G, 0, none⟩) l.length l.length) l) := NY.out.below hb3
  have y8 : w2.heap.size < w3.heap.size := by omega
  have y9 : w.heap.size + 1 < w3.heap.size := by omega
  clear hb3
  by_cases hr : rightB m l cell = true
  · obtain ⟨k, r, rfl, hrt⟩ := right_of hr
    rw [hr]
    go_wp2_with fail
    refine (hasRoom_any s c lo hi m k r w3 ((HW.out.keep (Keep.of_below HKY.out z9)).keep (Keep.of_below HB3.out (by omega))) (by omega) hrt.hr).mono ?_
    rintro e w4 ⟨rfl, hb4⟩
    have HB4 : Hid (Below w3.heap.size w3 w4) := hb4
    have x7 := hb4.size
    have e4 := (hb4.cell (p := ⟨w2.heap.size, 0, none⟩) y8).trans e3
    have g4 := (hb4.cell (p := ⟨w.heap.size + 1, 0, none⟩) y9).trans g3
    have h4 : ∀ j, w4.frozen? ⟨w.heap.size + 1, j, none⟩ = false := fun j => (hb4.frozen (p := ⟨w.heap.size + 1, j, none⟩) y9).trans (h3 j)
    have O4 : Hid (OW w4 (w.heap.size + 2) (.slice sv m.length cv) S m) := O3.out.below hb4
    have N4 : Hid (OwnN w4 (w.heap.size + 2) (.slice (some ⟨G, 0, none⟩) l.length l.length) l) := N3.out.below hb4
    have x8 : w2.heap.size < w4.heap.size := by omega
    have x9 : w.heap.size + 1 < w4.heap.size := by omega
    have KW4 : Hid (Below W.heap.size W w4) := KW3.out.trans (hb4.mono (by omega))
    clear hb4
    by_cases hn : r.length < 4000
    · rw [decide_eq_true hn]
      obtain ⟨em, ew⟩ := sto_yes (v := z) (b := b) hrt hr hn
      have EM : Hid (stoM m l k z b = m.set k (r ++ [⟨z, toldL l k r.length b⟩])) := em
      have EW : Hid (stoW m l k = l.set k (r.length : Int)) := ew
      have hml := hrt.hm
      have hrp := rows_pos hr
      have hne : ∀ (i : Nat) (q : RS), S[i]? = some q → 0 < q.vs.length := fun i q hq => by
        obtain ⟨lq, hlq⟩ := at_same O4.out.n.symm hq
        have h1 := (O4.out.r i q lq hq hlq).n
        have h2 := hrp i lq hlq
        omega
      obtain ⟨gO, capO, eO, -⟩ := World.ownsRow.form O4.out.row (by rw [O4.out.n]; omega)
      rw [O4.out.n] at eO
      injection eO with eO1 eO2 eO3
      subst eO1
      clear eO2 eO3
      obtain ⟨rk, hrk⟩ := at_same O4.out.n hrt.hr
      have st := store_any gO cv (w.heap.size + 2) (w.heap.size + 2) G l.length S m rk r l k z b w4 N4.out O4.out hne hrk hrt.hr hrt.hl hrt.hk hml (by omega) y4 HSep.out
      have HLM : Hid (m.length = 24) := hml
      have hgO1 := (World.ownsRow.lt HO1.out.row gO rfl).2
      have hrk1 : ∀ b, rk.val.ownBlock = some b → b < w1.heap.size := fun b e => (World.ownsRow.lt (HO1.out.r k rk r hrk hrt.hr).own _ e).2
      have hG1 : w1.heap.size ≤ G := by have := HGE.out; omega
      clear em ew hml hrp hne hrk hrt hr hn
      go_wp2_with fail
      refine st.mono ?_
      rintro e w5 ⟨rfl, r5, n5, o5, b5, p5, q5⟩
      have t0 : w5.cell? ⟨w2.heap.size, 0, none⟩ = some (.slice (some ⟨gO, 0, none⟩) m.length cv) := (World.cell?_of_block (w := w4) (q5 w2.heap.size x8 (by omega) (by omega) (fun e => by have := hrk1 _ e; omega))).trans e4
      have t1 : w5.cell? ⟨w.heap.size + 1, 0, none⟩ = some (.slice none 0 0) := (b5.cell (p := ⟨w.heap.size + 1, 0, none⟩) (by show w.heap.size + 1 < w.heap.size + 2; omega)).trans g4
      have t2 : ∀ j, w5.frozen? ⟨w.heap.size + 1, j, none⟩ = false := fun j => (b5.frozen (p := ⟨w.heap.size + 1, j, none⟩) (by show w.heap.size + 1 < w.heap.size + 2; omega)).trans (h4 j)
      have t3 := b5.size
      have t4 : w2.heap.size < w5.heap.size := by omega
      have O5 := (show Hid _ from o5)
      have N5 := (show Hid _ from n5)
      have B5 : Hid (Below (w.heap.size + 2) w4 w5) := b5
      have P5 := (show Hid (∀ a ∈ mAs (S.set k r5), a.block ≠ G) from p5)
      clear o5 n5 b5 p5 q5
      go_wp2
      refine bodyPost_ret (v := .tuple #[.agg #[.slice (some ⟨gO, 0, none⟩) m.length cv], .slice (some ⟨G, 0, none⟩) l.length l.length]) (by simp [results, Try.results10, go_sem, t1]) rfl ⟨_, S.set k r5, _, rfl, ?_, ?_, ?_, ?_⟩
      · rw [EM.out]
        have h9 : OW w5 (w.heap.size + 2) (.slice (some ⟨gO, 0, none⟩) m.length cv) (S.set k r5) (m.set k (r ++ [⟨z, toldL l k r.length b⟩])) := O5.out
        exact (h9.kept (fun b h1 _ => Below.heap_setCell _ _ _ b (by show b ≠ w.heap.size + 1; omega)) (by simp)).low (by omega)
      · rw [EW.out]
        exact ownLow' (ownKeep' N5.out (fun b e => by have e9 : some G = some b := e; injection e9 with e9; subst e9; exact Below.heap_setCell _ _ _ _ (by show G ≠ w.heap.size + 1; omega))) (by omega)
      · exact fun a ha e => by have e9 : some G = some a.block := e; injection e9 with e9; exact absurd e9.symm (P5.out a ha)
      · exact (HKW.out.trans ((KW4.out.mono (by omega)).trans (B5.out.mono (by omega)))).setCell (p := ⟨w.heap.size + 1, 0, none⟩) (by show w.heap.size ≤ w.heap.size + 1; omega) _
    · rw [decide_eq_false hn]
      obtain ⟨em, ew⟩ := sto_no (v := z) (b := b) (show canB m l k = false by unfold canB; rw [hrt.row, decide_eq_false hn]; simp)
      go_wp2
      refine bodyPost_ret (v := .tuple #[.agg #[.slice sv m.length cv], .slice (some ⟨G, 0, none⟩) l.length l.length]) (by simp [results, Try.results10, go_sem, g4]) rfl ⟨_, S, _, rfl, ?_, ?_, ?_, ?_⟩
      · rw [em]
        exact ((O4.out).kept (fun b h1 _ => Below.heap_setCell _ _ _ b (by show b ≠ w.heap.size + 1; omega)) (by simp)).low (by omega)
      · rw [ew]
        exact ownLow' (ownKeep' (N4.out) (fun b e => by have e9 : some G = some b := e; injection e9 with e9; subst e9; exact Below.heap_setCell _ _ _ _ (by show G ≠ w.heap.size + 1; omega))) (by omega)
      · exact fun a ha e => by have e9 : some G = some a.block := e; injection e9 with e9; exact absurd e9.symm (HSep.out a ha)
      · exact (HKW.out.trans (KW4.out.mono (by omega))).setCell (p := ⟨w.heap.size + 1, 0, none⟩) (by show w.heap.size ≤ w.heap.size + 1; omega) _
  · have hf : rightB m l cell = false := by simpa using hr
    rw [hf]
    obtain ⟨em, ew⟩ := sto_no (v := z) (b := b) (show canB m l cell = false by unfold canB; rw [hf]; rfl)
    go_wp2
    refine bodyPost_ret (v := .tuple #[.agg #[.slice sv m.length cv], .slice (some ⟨G, 0, none⟩) l.length l.length]) (by simp [results, Try.results10, go_sem, g3]) rfl ⟨_, S, _, rfl, ?_, ?_, ?_, ?_⟩
    · rw [em]
      exact ((O3.out).kept (fun b h1 _ => Below.heap_setCell _ _ _ b (by show b ≠ w.heap.size + 1; omega)) (by simp)).low (by omega)
    · rw [ew]
      exact ownLow' (ownKeep' (N3.out) (fun b e => by have e9 : some G = some b := e; injection e9 with e9; subst e9; exact Below.heap_setCell _ _ _ _ (by show G ≠ w.heap.size + 1; omega))) (by omega)
    · exact fun a ha e => by have e9 : some G = some a.block := e; injection e9 with e9; exact absurd e9.symm (HSep.out a ha)
    · exact (HKW.out.trans (KW3.out.mono (by omega))).setCell (p := ⟨w.heap.size + 1, 0, none⟩) (by show w.heap.size ≤ w.heap.size + 1; omega) _

end Go.Proofs.Ytlhhdkemmhlloaa
