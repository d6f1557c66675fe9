/- Swap of the program. Conditions: memories that are counted, views of at most 2^20. -/
import Derived.Test.YtlhhdkemmhlloaaMemStoD
namespace Go.Proofs.Ytlhhdkemmhlloaa
set_option linter.unusedSimpArgs false
set_option linter.unusedVariables false
set_option maxRecDepth 100000
open Go.RowKit

def swV (m : List (List WD)) (l : List Int) (cell : Int) : Int := if canB m l cell = true then loadV m l cell 0 else 0
def swL (m : List (List WD)) (l : List Int) (cell : Int) : List Int := (loadW m l cell 0 true)
def swM (m : List (List WD)) (l : List Int) (cell v : Int) : List (List WD) := if canB m l cell = true then m.set cell.toNat (rowAt m cell ++ [⟨v, (swL m l cell).set cell.toNat ((rowAt m cell).length : Int)⟩]) else m
def swW (m : List (List WD)) (l : List Int) (cell : Int) : List Int := if canB m l cell = true then (swL m l cell).set cell.toNat ((rowAt m cell).length : Int) else l
theorem sw_no {m : List (List WD)} {l : List Int} {cell : Int} {v : Int} (h : canB m l cell = false) : swM m l cell v = m ∧ swW m l cell = l ∧ swV m l cell = 0 := by
  unfold swM swW swV
  rw [if_neg (by rw [h]; decide), if_neg (by rw [h]; decide), if_neg (by rw [h]; decide)]
  exact ⟨rfl, rfl, rfl⟩
theorem sw_yes {m : List (List WD)} {l : List Int} {k : Nat} {r : List WD} {v : Int} {j : Nat} {x : WD} (hr : Rt m l k r) (h : rightB m l k = true) (hn : r.length < 4000) (he : atL m l k 0 = j) (hw : wrAt m k (atL m l k 0) = x) :
    swM m l k v = m.set k (r ++ [⟨v, (joinL (l.set k j) x.vw).set k (r.length : Int)⟩]) ∧ swW m l k = (joinL (l.set k j) x.vw).set k (r.length : Int) ∧ swV m l k = x.v := by
  have hc : canB m l k = true := by unfold canB; rw [h, hr.row, decide_eq_true hn]; rfl
  have hL : swL m l k = joinL (l.set k j) x.vw := by unfold swL; rw [loadW_yes h he hw]; rfl
  unfold swM swW swV
  rw [if_pos hc, if_pos hc, if_pos hc, hr.row, Int.toNat_natCast, hL, loadV_yes (j := j) h hw]
  exact ⟨rfl, rfl, rfl⟩

set_option maxHeartbeats 4000000 in
theorem implSwap_any (s s' : Option Addr) (c c' lo hi lo' hi' : Nat) (m : List (List WD)) (l : List Int) (cell z : Int) (w : World) (h : MemR w lo hi s m) (h' : IntsR w lo' hi' s' l) (hB : hi ≤ w.heap.size) (hB' : hi' ≤ w.heap.size) (hl : l.length ≤ 1048577) (hm : MFits m) :
    Calls Try.prog 23 #[.agg #[.slice s m.length c], .slice s' l.length c', .int .i64 cell, .int .i64 z] w fun e w' => ∃ vM S v, e = .returned (.tuple #[.agg #[vM], v, .int .i64 (swV m l cell)]) ∧ OW w' w.heap.size vM S (swM m l cell z) ∧ OwnN w' w.heap.size v (swW m l cell) ∧ (∀ a ∈ mAs S, v.ownBlock ≠ some a.block) ∧ Below w.heap.size w w' := by
  have H : Hid (MemR w lo hi s m) := h
  have H' : Hid (IntsR w lo' hi' s' l) := h'
  have HM : Hid (MFits m) := hm
  have HM2 : Hid (m.length + szR m ≤ 1048676) := by show m.length + szR m ≤ 1048676; unfold MFits at hm; omega
  clear h h' hm
  go_enter Try.func23, Try.ntmps23
  go_wp2_with fail
  obtain ⟨W, hW⟩ : ∃ W, (w.alloc (.cells #[.slice s m.length c] 26)).alloc (.cells #[.slice none 0 0] 26) = W := ⟨_, rfl⟩
  have c0 : W.cell? ⟨w.heap.size, 0, none⟩ = some (.slice s m.length c) := by subst hW; simp [go_sem]
  have c1 : W.cell? ⟨w.heap.size + 1, 0, none⟩ = some (.slice none 0 0) := by subst hW; simp [go_sem]
  have f1 : ∀ j, W.frozen? ⟨w.heap.size + 1, j, none⟩ = false := fun j => by subst hW; simp [go_sem]
  have kW : Below w.heap.size w W := by subst hW; exact ((Below.refl _ _).alloc (Nat.le_refl _) _).alloc (by simp) _
  have sW : W.heap.size = w.heap.size + 2 := by subst hW; simp
  rw [hW]
  clear hW
  have HKW : Hid (Below w.heap.size w W) := kW
  have SW : Hid (W.heap.size = w.heap.size + 2) := sW
  have z0 : w.heap.size + 1 < W.heap.size := by omega
  have z9 : hi ≤ W.heap.size := by omega
  have z8 : hi' ≤ W.heap.size := by omega
  have HW : Hid (MemR W lo hi s m) := H.out.keep (Keep.of_below kW hB)
  have HW' : Hid (IntsR W lo' hi' s' l) := H'.out.keep (Keep.of_below kW hB')
  clear kW sW
  refine (sameMemory_any s c lo hi m W HW.out z9 HM.out).mono ?_
  rintro e w1 ⟨vM, S, rfl, hO1, hb1⟩
  obtain ⟨sv, cv, ev, -⟩ := hO1.om.mo
  subst ev
  have HO1 : Hid (OW w1 (w.heap.size + 2) (.slice sv m.length cv) S m) := by show OW _ _ _ _ _; rw [← SW.out]; exact hO1
  have HB1 : Hid (Below W.heap.size W w1) := hb1
  have y1 := hb1.size
  have HSB : Hid (∀ a ∈ mAs S, a.block < w1.heap.size) := fun a ha => (hO1.om.blk ha).2
  clear hO1 hb1
  go_wp2_with fail
  refine (copied_any s' c' lo' hi' l w1 (HW'.out.keep (Keep.of_below HB1.out z8)) (by omega) hl).mono ?_
  rintro e w2 ⟨rfl, ho2, hb2⟩
  obtain ⟨G, hG⟩ : ∃ G, w1.heap.size = G := ⟨_, rfl⟩
  have hG2 := (World.ownsRow.lt ho2 w1.heap.size rfl).2
  have HO2 : Hid (OwnN w2 (w.heap.size + 2) (.slice (some ⟨G, 0, none⟩) l.length l.length) l) := by show OwnN _ _ _ _; rw [← hG]; exact ownLow' ho2 (by have := SW.out; omega)
  have HB2 : Hid (Below w1.heap.size w1 w2) := hb2
  have y2 := hb2.size
  have HGE : Hid (w1.heap.size = G) := hG
  have y3 : G < w2.heap.size := by omega
  have y4 : w.heap.size + 2 ≤ G := by have := SW.out; omega
  have d2 := (hb2.cell (p := ⟨w.heap.size, 0, none⟩) (by show w.heap.size < _; omega)).trans ((HB1.out.cell (p := ⟨w.heap.size, 0, none⟩) (by show w.heap.size < _; omega)).trans c0)
  have y10 : w.heap.size < w2.heap.size := by omega
  rw [hG]
  clear hG ho2 hb2 hG2
  go_wp2_with fail
  obtain ⟨Y, hY, bY, kY, sY⟩ := Bo1.new w2 (.slice sv m.length cv) 26
  rw [hY]
  clear hY
  have e0 := bY.c0
  have HKY : Hid (Below W.heap.size W Y) := (HB1.out.trans (HB2.out.mono y1)).trans (kY.mono (by omega))
  have OY : Hid (OW Y (w.heap.size + 2) (.slice sv m.length cv) S m) := (HO1.out.below HB2.out).below kY
  have NY : Hid (OwnN Y (w.heap.size + 2) (.slice (some ⟨G, 0, none⟩) l.length l.length) l) := HO2.out.below kY
  have y5 : w2.heap.size < Y.heap.size := by omega
  have y6 : w.heap.size + 1 < Y.heap.size := by omega
  have d0 := (HKY.out.cell (p := ⟨w.heap.size, 0, none⟩) (by show w.heap.size < _; omega)).trans c0
  have KY2 : Hid (Below w2.heap.size w2 Y) := kY
  clear bY kY sY
  have HSep : Hid (∀ a ∈ mAs S, a.block ≠ G) := fun a ha => by have h1 := HSB.out a ha; have h2 := HGE.out; omega
  refine (reaches_any s s' c c' lo hi lo' hi' m l cell Y (HW.out.keep (Keep.of_below HKY.out z9)) (HW'.out.keep (Keep.of_below HKY.out z8)) (by omega) (by omega) (by omega) HM2.out).mono ?_
  rintro e w3 ⟨rfl, hb3⟩
  have HB3 : Hid (Below Y.heap.size Y w3) := hb3
  have y7 := hb3.size
  have e3 := (hb3.cell (p := ⟨w2.heap.size, 0, none⟩) y5).trans e0
  have d3 := (hb3.cell (p := ⟨w.heap.size, 0, none⟩) (by show w.heap.size < _; omega)).trans d0
  have KW3 : Hid (Below W.heap.size W w3) := HKY.out.trans (hb3.mono (by omega))
  have g3 := (KW3.out.cell (p := ⟨w.heap.size + 1, 0, none⟩) z0).trans c1
  have h3 : ∀ j, w3.frozen? ⟨w.heap.size + 1, j, none⟩ = false := fun j => (KW3.out.frozen (p := ⟨w.heap.size + 1, j, none⟩) z0).trans (f1 j)
  have O3 : Hid (OW w3 (w.heap.size + 2) (.slice sv m.length cv) S m) := OY.out.below hb3
  have N3 : Hid (OwnN w3 (w.heap.size + 2) (.slice (some ⟨G, 0, none⟩) l.length l.length) l) := NY.out.below hb3
  have y8 : w2.heap.size < w3.heap.size := by omega
  have y9 : w.heap.size + 1 < w3.heap.size := by omega
  clear hb3
  by_cases hr : rightB m l cell = true
  · obtain ⟨k, r, rfl, hrt⟩ := right_of hr
    rw [hr]
    go_wp2_with fail
    refine (hasRoom_any s c lo hi m k r w3 ((HW.out.keep (Keep.of_below HKY.out z9)).keep (Keep.of_below HB3.out (by omega))) (by omega) hrt.hr).mono ?_
    rintro e w4 ⟨rfl, hb4⟩
    have HB4 : Hid (Below w3.heap.size w3 w4) := hb4
    have x7 := hb4.size
    have e4 := (hb4.cell (p := ⟨w2.heap.size, 0, none⟩) y8).trans e3
    have g4 := (hb4.cell (p := ⟨w.heap.size + 1, 0, none⟩) y9).trans g3
    have h4 : ∀ j, w4.frozen? ⟨w.heap.size + 1, j, none⟩ = false := fun j => (hb4.frozen (p := ⟨w.heap.size + 1, j, none⟩) y9).trans (h3 j)
    have O4 : Hid (OW w4 (w.heap.size + 2) (.slice sv m.length cv) S m) := O3.out.below hb4
    have N4 : Hid (OwnN w4 (w.heap.size + 2) (.slice (some ⟨G, 0, none⟩) l.length l.length) l) := N3.out.below hb4
    have x8 : w2.heap.size < w4.heap.size := by omega
    have x9 : w.heap.size + 1 < w4.heap.size := by omega
    have KW4 : Hid (Below W.heap.size W w4) := KW3.out.trans (hb4.mono (by omega))
    have K14 : Hid (Below w1.heap.size w1 w4) := (HB2.out.trans (Hid.out KY2 |>.mono (by omega))).trans ((HB3.out.mono (by omega)).trans (hb4.mono (by omega)))
    clear hb4
    by_cases hn : r.length < 4000
    · rw [decide_eq_true hn]
      obtain ⟨j, x, t1, t2, t3, t4, t5⟩ := hrt.at' 0
      obtain ⟨em, ew, ev⟩ := sw_yes (v := z) hrt hr hn t1 t4
      have EM : Hid (swM m l k z = m.set k (r ++ [⟨z, (joinL (l.set k j) x.vw).set k (r.length : Int)⟩])) := em
      have EW : Hid (swW m l k = (joinL (l.set k j) x.vw).set k (r.length : Int)) := ew
      have EV : Hid (swV m l k = x.v) := ev
      have hml := hrt.hm
      have hrp := rows_pos hr
      have hne : ∀ (i : Nat) (q : RS), S[i]? = some q → 0 < q.vs.length := fun i q hq => by
        obtain ⟨lq, hlq⟩ := at_same O4.out.n.symm hq
        have h1 := (O4.out.r i q lq hq hlq).n
        have h2 := hrp i lq hlq
        omega
      obtain ⟨gO, capO, eO, -⟩ := World.ownsRow.form O4.out.row (by rw [O4.out.n]; omega)
      rw [O4.out.n] at eO
      injection eO with eO1 eO2 eO3
      subst eO1
      clear eO2 eO3
      obtain ⟨rk, hrk⟩ := at_same O4.out.n hrt.hr
      have hgO1 := (World.ownsRow.lt HO1.out.row gO rfl).2
      have hrk1 : ∀ b, rk.val.ownBlock = some b → b < w1.heap.size := fun b e => (World.ownsRow.lt (HO1.out.r k rk r hrk hrt.hr).own _ e).2
      have hG1 : w1.heap.size ≤ G := by have := HGE.out; omega
      obtain ⟨sx, cx, ex, mx⟩ := HO1.out.om.mo
      injection ex with ex1 ex2 ex3
      subst ex1
      clear ex2 ex3
      have M4 : MemR w4 (w.heap.size + 2) w1.heap.size (some ⟨gO, 0, none⟩) m := mx.mem.keep (Keep.of_below K14.out (Nat.le_refl _))
      have ld := load_any (some ⟨gO, 0, none⟩) cv (w.heap.size + 2) w1.heap.size (w.heap.size + 2) G l.length m l k r 0 true j x w4 M4 N4.out hG1 hrt (by omega) t5 t3
      have hjl : (joinL (l.set k (j : Int)) x.vw).length = l.length := by rw [join_len, List.length_set, hrt.hl, hrt.hw j x t3]; rfl
      have HJL : Hid ((joinL (l.set k (j : Int)) x.vw).length = l.length) := hjl
      have HNE : Hid (∀ (i : Nat) (q : RS), S[i]? = some q → 0 < q.vs.length) := hne
      have HRK : Hid (S[k]? = some rk ∧ m[k]? = some r ∧ l.length = 24 ∧ k < 24 ∧ m.length = 24) := ⟨hrk, hrt.hr, hrt.hl, hrt.hk, hml⟩
      have hr4 : r.length ≤ 4000 := by omega
      clear em ew ev hml hrp hne hrk hrt hr hn t1 t2 t3 t4 t5 M4 mx hjl
      go_wp2_with fail
      refine ld.mono ?_
      rintro e w5 ⟨rfl, n5, x5⟩
      generalize hlj : joinL (l.set k (j : Int)) x.vw = lj at EM EW HJL n5
      have n5b : OwnN w5 (w.heap.size + 2) (.slice (some ⟨G, 0, none⟩) l.length l.length) lj := by simpa [hlj] using n5
      have s5 := x5.size
      have k5 : ∀ b, b < w4.heap.size → b ≠ G → w5.heap[b]? = w4.heap[b]? := fun b q1 q2 => x5.blk b q1 (by omega)
      have O5 : OW w5 (w.heap.size + 2) (.slice (some ⟨gO, 0, none⟩) m.length cv) S m := O4.out.far HNE.out (fun e => by have e : some gO = some G := e; injection e with e; omega) HSep.out k5 s5
      have e5 : w5.cell? ⟨w2.heap.size, 0, none⟩ = some (.slice (some ⟨gO, 0, none⟩) m.length cv) := (World.cell?_of_block (w := w4) (k5 w2.heap.size x8 (by omega))).trans e4
      have g5 : w5.cell? ⟨w.heap.size + 1, 0, none⟩ = some (.slice none 0 0) := (World.cell?_of_block (w := w4) (k5 (w.heap.size + 1) x9 (by omega))).trans g4
      have h5 : ∀ j, w5.frozen? ⟨w.heap.size + 1, j, none⟩ = false := fun j => (World.frozen?_of_block (w := w4) (a := ⟨w.heap.size + 1, j, none⟩) (k5 (w.heap.size + 1) x9 (by omega))).trans (h4 j)
      have B45 : Hid (Below (w.heap.size + 2) w4 w5) := x5.below (by omega) (by omega)
      obtain ⟨rq1, rq2, rq3, rq4, rq5⟩ := HRK.out
      have st := store_any gO cv (w.heap.size + 2) (w.heap.size + 2) G l.length S m rk r lj k z true w5 (by rw [HJL.out]; exact n5b) O5 HNE.out rq1 rq2 (by rw [HJL.out]; exact rq3) rq4 rq5 hr4 y4 HSep.out
      rw [HJL.out] at st
      have u8 : w2.heap.size < w5.heap.size := by omega
      have u9 : w.heap.size + 1 < w5.heap.size := by omega
      clear ld n5 n5b x5 k5 O5 rq1 rq2 rq3 rq4 rq5 hlj
      go_wp2_with fail
      refine st.mono ?_
      rintro e w6 ⟨rfl, r6, n6, o6, b6, p6, q6⟩
      have t0 : w6.cell? ⟨w2.heap.size, 0, none⟩ = some (.slice (some ⟨gO, 0, none⟩) m.length cv) := (World.cell?_of_block (w := w5) (q6 w2.heap.size u8 (by omega) (by omega) (fun e => by have := hrk1 _ e; omega))).trans e5
      have t1 : w6.cell? ⟨w.heap.size + 1, 0, none⟩ = some (.slice none 0 0) := (b6.cell (p := ⟨w.heap.size + 1, 0, none⟩) (by show w.heap.size + 1 < w.heap.size + 2; omega)).trans g5
      have t2 : ∀ j, w6.frozen? ⟨w.heap.size + 1, j, none⟩ = false := fun j => (b6.frozen (p := ⟨w.heap.size + 1, j, none⟩) (by show w.heap.size + 1 < w.heap.size + 2; omega)).trans (h5 j)
      have t3 := b6.size
      have t4 : w2.heap.size < w6.heap.size := by omega
      have O6 : Hid (OW w6 (w.heap.size + 2) (.slice (some ⟨gO, 0, none⟩) m.length cv) (S.set k r6) (m.set k (r ++ [⟨z, lj.set k (r.length : Int)⟩]))) := o6
      have N6 := (show Hid (OwnN w6 (w.heap.size + 2) (.slice (some ⟨G, 0, none⟩) l.length l.length) (lj.set k (r.length : Int))) from n6)
      have B6 : Hid (Below (w.heap.size + 2) w5 w6) := b6
      have P6 := (show Hid (∀ a ∈ mAs (S.set k r6), a.block ≠ G) from p6)
      clear o6 n6 b6 p6 q6 st
      go_wp2
      refine bodyPost_ret (v := .tuple #[.agg #[.slice (some ⟨gO, 0, none⟩) m.length cv], .slice (some ⟨G, 0, none⟩) l.length l.length, .int .i64 x.v]) (by simp [results, Try.results23, go_sem, t1]) rfl ⟨_, S.set k r6, _, by rw [EV.out], ?_, ?_, ?_, ?_⟩
      · rw [EM.out]
        exact ((O6.out).kept (fun b h1 _ => Below.heap_setCell _ _ _ b (by show b ≠ w.heap.size + 1; omega)) (by simp)).low (by omega)
      · rw [EW.out]
        exact ownLow' (ownKeep' (N6.out) (fun b e => by have e9 : some G = some b := e; injection e9 with e9; subst e9; exact Below.heap_setCell _ _ _ _ (by show G ≠ w.heap.size + 1; omega))) (by omega)
      · exact fun a ha e => by have e9 : some G = some a.block := e; injection e9 with e9; exact absurd e9.symm (P6.out a ha)
      · exact (HKW.out.trans ((KW4.out.mono (by omega)).trans ((B45.out.trans B6.out).mono (by omega)))).setCell (p := ⟨w.heap.size + 1, 0, none⟩) (by show w.heap.size ≤ w.heap.size + 1; omega) _
    · rw [decide_eq_false hn]
      obtain ⟨em, ew, ev⟩ := sw_no (v := z) (show canB m l k = false by unfold canB; rw [hrt.row, decide_eq_false hn]; simp)
      go_wp2
      refine bodyPost_ret (v := .tuple #[.agg #[.slice sv m.length cv], .slice (some ⟨G, 0, none⟩) l.length l.length, .int .i64 0]) (by simp [results, Try.results23, go_sem, g4]) rfl ⟨_, S, _, by rw [ev], ?_, ?_, ?_, ?_⟩
      · rw [em]
        exact ((O4.out).kept (fun b h1 _ => Below.heap_setCell _ _ _ b (by show b ≠ w.heap.size + 1; omega)) (by simp)).low (by omega)
      · rw [ew]
        exact ownLow' (ownKeep' (N4.out) (fun b e => by have e9 : some G = some b := e; injection e9 with e9; subst e9; exact Below.heap_setCell _ _ _ _ (by show G ≠ w.heap.size + 1; omega))) (by omega)
      · exact fun a ha e => by have e9 : some G = some a.block := e; injection e9 with e9; exact absurd e9.symm (HSep.out a ha)
      · exact (HKW.out.trans (KW4.out.mono (by omega))).setCell (p := ⟨w.heap.size + 1, 0, none⟩) (by show w.heap.size ≤ w.heap.size + 1; omega) _
  · have hf : rightB m l cell = false := by simpa using hr
    rw [hf]
    obtain ⟨em, ew, ev⟩ := sw_no (v := z) (show canB m l cell = false by unfold canB; rw [hf]; rfl)
    go_wp2
    refine bodyPost_ret (v := .tuple #[.agg #[.slice sv m.length cv], .slice (some ⟨G, 0, none⟩) l.length l.length, .int .i64 0]) (by simp [results, Try.results23, go_sem, g3]) rfl ⟨_, S, _, by rw [ev], ?_, ?_, ?_, ?_⟩
    · rw [em]
      exact ((O3.out).kept (fun b h1 _ => Below.heap_setCell _ _ _ b (by show b ≠ w.heap.size + 1; omega)) (by simp)).low (by omega)
    · rw [ew]
      exact ownLow' (ownKeep' (N3.out) (fun b e => by have e9 : some G = some b := e; injection e9 with e9; subst e9; exact Below.heap_setCell _ _ _ _ (by show G ≠ w.heap.size + 1; omega))) (by omega)
    · exact fun a ha e => by have e9 : some G = some a.block := e; injection e9 with e9; exact absurd e9.symm (HSep.out a ha)
    · exact (HKW.out.trans (KW3.out.mono (by omega))).setCell (p := ⟨w.heap.size + 1, 0, none⟩) (by show w.heap.size ≤ w.heap.size + 1; omega) _

end Go.Proofs.Ytlhhdkemmhlloaa
