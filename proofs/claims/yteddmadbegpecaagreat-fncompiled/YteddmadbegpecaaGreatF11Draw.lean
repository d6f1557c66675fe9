/- A program, a body and a step are drawn. Conditions: the code lies in memory. -/
import Derived.Test.YteddmadbegpecaaGreatDrawR
import Derived.Test.YteddmadbegpecaaGreatP11Body
import Derived.Test.YteddmadbegpecaaGreatP11SpP
import Derived.Test.YteddmadbegpecaaGreatP11St
import Derived.Test.YteddmadbegpecaaGreatFnBytes
import Derived.Deep.RegionLaw
import Derived.Deep.RegionHeld3
namespace Go.Proofs.YteddmadbegpecaaGreat
set_option linter.unusedSimpArgs false
set_option linter.unusedVariables false
set_option maxRecDepth 100000
open Go.RowKit

theorem entBelow (args : Array Value) (w : World) : (callFunc 34 args).run Tryz.prog w = .ok (.enter 34 args) w := by kernel_rfl
structure E11 (w w' : World) (p : Nat) (s : Option Addr) (n c R P lo hi : Nat) (s0 : Option Addr) (d0 : Nat) (s1 : Option Addr) (d1 : Nat) (pd : PD) : Prop where
  cb : CB w' p s n c
  bel : Below w.heap.size w w'
  c0 : w'.cell? ⟨P, 0, none⟩ = some (.slice s0 pd.caps.length d0)
  c1 : w'.cell? ⟨P, 1, none⟩ = some (.slice s1 pd.bods.length d1)
  r0 : w'.cell? ⟨R, 0, none⟩ = some (.slice none 0 0)
  r1 : w'.cell? ⟨R, 1, none⟩ = some (.slice none 0 0)
  fR : ∀ j, w'.frozen? ⟨R, j, none⟩ = false
  pr : ProgR w' lo hi s0 s1 pd
  ft : Fits pd
  lt : P < w'.heap.size
  ltR : R < w'.heap.size
  nP : P ≠ p
  nR : R ≠ p
  RP : R ≠ P
  side : p < lo ∨ hi ≤ p
  Rlo : R < lo
  hih : hi ≤ w'.heap.size
  wp : w.heap.size ≤ p
  wR : w.heap.size ≤ R
theorem keep_but {lo hi p : Nat} {w w' : World} (h : But p w w') (hs : p < lo ∨ hi ≤ p) (hh : hi ≤ w.heap.size) : Keep lo hi w w' := fun k h1 h2 => h.block k (by omega) (by omega)
theorem E11.but {w w' w'' : World} {p n c R P lo hi d0 d1 : Nat} {s s0 s1 : Option Addr} {pd : PD} (h : E11 w w' p s n c R P lo hi s0 d0 s1 d1 pd) (hc : CB w'' p s n c) (hb : But p w' w'') : E11 w w'' p s n c R P lo hi s0 d0 s1 d1 pd :=
  ⟨hc, h.bel.trans (hb.below h.wp h.bel.size), (hb.cell (p := ⟨P, 0, none⟩) h.lt h.nP).trans h.c0, (hb.cell (p := ⟨P, 1, none⟩) h.lt h.nP).trans h.c1, (hb.cell (p := ⟨R, 0, none⟩) h.ltR h.nR).trans h.r0, (hb.cell (p := ⟨R, 1, none⟩) h.ltR h.nR).trans h.r1, fun j => (hb.frozen (p := ⟨R, j, none⟩) h.ltR h.nR).trans (h.fR j),
    ⟨h.pr.1.keep (keep_but hb h.side h.hih), h.pr.2.keep (keep_but hb h.side h.hih)⟩, h.ft, Nat.lt_of_lt_of_le h.lt hb.size, Nat.lt_of_lt_of_le h.ltR hb.size, h.nP, h.nR, h.RP, h.side, h.Rlo, Nat.le_trans h.hih hb.size, h.wp, h.wR⟩
theorem E11.belowC {w w' : World} {p n c R P lo hi d0 d1 : Nat} {s s0 s1 : Option Addr} {pd : PD} (h : E11 w w' p s n c R P lo hi s0 d0 s1 d1 pd) (q : Int) (y : World) (hy : E11 w y p s n c R P lo hi s0 d0 s1 d1 pd) (hq0 : 0 < q) (hq : q ≤ 256) :
    Calls Tryz.prog 34 #[.pointer (some ⟨p, 0, none⟩), .int .i64 q] y fun e w'' => ∃ x : Int, e = .returned (.int .i64 x) ∧ 0 ≤ x ∧ x < q ∧ E11 w w'' p s n c R P lo hi s0 d0 s1 d1 pd := by
  refine (below_cb p s n c q y hy.cb hq0 hq).mono ?_
  rintro e w'' ⟨x, rfl, x0, x1, hc, hb⟩
  exact ⟨x, rfl, x0, x1, hy.but hc hb⟩
theorem E11.done {w w' : World} {p n c R P lo hi d0 d1 : Nat} {s s0 s1 : Option Addr} {pd : PD} (h : E11 w w' p s n c R P lo hi s0 d0 s1 d1 pd) (x y : Value) (hlo : w.heap.size ≤ lo) : ProgR ((w'.setCell ⟨R, 0, none⟩ x).setCell ⟨R, 1, none⟩ y) w.heap.size ((w'.setCell ⟨R, 0, none⟩ x).setCell ⟨R, 1, none⟩ y).heap.size s0 s1 pd ∧ Below w.heap.size w ((w'.setCell ⟨R, 0, none⟩ x).setCell ⟨R, 1, none⟩ y) := by
  have k1 : Keep lo hi w' ((w'.setCell ⟨R, 0, none⟩ x).setCell ⟨R, 1, none⟩ y) := (Keep.of_set (a := ⟨R, 0, none⟩) h.Rlo).trans (Keep.of_set (a := ⟨R, 1, none⟩) h.Rlo)
  refine ⟨⟨(h.pr.1.keep k1).mono hlo (by simp; exact h.hih), (h.pr.2.keep k1).mono hlo (by simp; exact h.hih)⟩, (h.bel.setCell (p := ⟨R, 0, none⟩) h.wR _).setCell (p := ⟨R, 1, none⟩) h.wR _⟩

set_option maxRecDepth 100000 in
set_option maxHeartbeats 4000000 in
theorem drawStarts_any (s : Option Addr) (n c : Nat) (w : World) (hb : Bytes w w.heap.size s n) (hn : n ≤ maxLen) :
    Calls Tryz.prog 15 #[.slice s n c] w fun e w' => ∃ (s0 : Option Addr) (d0 : Nat) (s1 : Option Addr) (d1 : Nat) (pd : PD) (z : Int), e = .returned (.tuple #[.agg #[.slice s0 pd.caps.length d0, .slice s1 pd.bods.length d1], .int .i64 z]) ∧ (ProgR w' w.heap.size w'.heap.size s0 s1 pd ∧ Below w.heap.size w w') ∧ Fits pd := by
  have HB : Hid (Bytes (w.alloc (.cells #[.slice none 0 0, .slice none 0 0] 27)) (w.heap.size + 1) s n) := bytes_up hb ((Below.refl w.heap.size w).alloc (Nat.le_refl _) _) (by omega)
  clear hb
  go_enter Tryz.func15, Tryz.ntmps15
  go_wp2_with fail
  refine (new_cb s n c _ (by simpa using HB.out) hn).mono ?_
  rintro e w1 ⟨rfl, hc1, hb1, hz1⟩
  simp only [World.size_alloc] at hc1 hz1
  have r0 : w1.cell? ⟨w.heap.size, 0, none⟩ = some (.slice none 0 0) := by rw [hb1.cell (by simp)]; simp [go_sem]
  have r1 : w1.cell? ⟨w.heap.size, 1, none⟩ = some (.slice none 0 0) := by rw [hb1.cell (by simp)]; simp [go_sem]
  have fR : ∀ j, w1.frozen? ⟨w.heap.size, j, none⟩ = false := fun j => by rw [hb1.frozen (by simp)]; simp [go_sem]
  have K1 : Hid (Below w.heap.size w w1) := ((Below.refl _ _).alloc (Nat.le_refl _) _).trans (hb1.mono (by simp))
  have HC : Hid (CB w1 (w.heap.size + 1) s n c) := hc1
  have hz1' : w.heap.size + 1 < w1.heap.size := hc1.lt
  clear hb1 hc1 hz1
  go_wp2_with fail
  refine (draw_cb2 (w.heap.size + 1) s n c w1 HC.out).mono ?_
  rintro e w2 ⟨v0, v1, a, b, rfl, hC, hS, ha, hb, hb2, hcb2⟩
  obtain ⟨s0, d0, caps, rfl, hca, hIC⟩ := hC.ints
  obtain ⟨s1, d1, bods, rfl, hbo, hbl, hIS⟩ := hS.bods
  have hz2 := hb2.size
  obtain ⟨W2, hW2⟩ : ∃ W2, w2.alloc (.cells #[.slice s0 caps.length d0, .slice s1 bods.length d1] 27) = W2 := ⟨_, rfl⟩
  have GD : Hid (E11 w W2 (w.heap.size + 1) s n c w.heap.size w2.heap.size w1.heap.size w2.heap.size s0 d0 s1 d1 ⟨caps, bods⟩) := by
    have ka : Below w2.heap.size w2 W2 := hW2 ▸ (Below.refl _ _).alloc (Nat.le_refl _) _
    have nn : w.heap.size ≠ w.heap.size + 1 := by omega
    refine ⟨hcb2.keep ka, K1.out.trans ((hb2.below (by omega) (by omega)).trans (ka.mono (by omega))), by rw [← hW2]; simp [go_sem], by rw [← hW2]; simp [go_sem], ?_, ?_, fun j => ?_, ⟨hIC.keep (Keep.of_below ka (Nat.le_refl _)), hIS.keep (Keep.of_below ka (Nat.le_refl _))⟩, ⟨by show caps.length ≤ _; omega, by show bods.length ≤ _; omega, fun i hi => by have := hbl i hi; show (bods.getD i []).length ≤ _; omega⟩, by rw [← hW2]; simp, by rw [← hW2]; simp; omega, by omega, nn, by omega, .inl (by omega), by omega, by rw [← hW2]; simp, by omega, Nat.le_refl _⟩
    · exact (ka.cell (p := ⟨w.heap.size, 0, none⟩) (show w.heap.size < w2.heap.size by omega)).trans ((hb2.cell (p := ⟨w.heap.size, 0, none⟩) (show w.heap.size < w1.heap.size by omega) nn).trans r0)
    · exact (ka.cell (p := ⟨w.heap.size, 1, none⟩) (show w.heap.size < w2.heap.size by omega)).trans ((hb2.cell (p := ⟨w.heap.size, 1, none⟩) (show w.heap.size < w1.heap.size by omega) nn).trans r1)
    · exact (ka.frozen (p := ⟨w.heap.size, j, none⟩) (show w.heap.size < w2.heap.size by omega)).trans ((hb2.frozen (p := ⟨w.heap.size, j, none⟩) (show w.heap.size < w1.heap.size by omega) nn).trans (fR j))
  have v0 := GD.out.c0
  have v1 := GD.out.c1
  have n1 : ¬ w.heap.size = w2.heap.size := by omega
  have n2 : ¬ w2.heap.size = w.heap.size := by omega
  have hlo : w.heap.size ≤ w1.heap.size := by omega
  clear hC hS hb2 r0 r1 fR hIC hIS hbl hcb2 hca hbo
  go_wp2_with fail
  have GE := hidP (GD.out.but (GD.out.cb.keep (Below.drew (Below.refl _ _))) (But.of_below (Below.drew (Below.refl _ _))))
  clear hW2
  go_region_law (first | (refine step_call 34 #[.pointer (some ⟨w.heap.size + 1, 0, none⟩), .int .i64 5] (by rfl) _ _ (by rfl) (by simp [go_sem]) entBelow ?_; refine (GD.out.belowC 5 W2.drew GE.out (by omega) (by omega)).mono ?_; rintro e w4 ⟨x, rfl, xa, xb, hg⟩; refine ⟨_, rfl, ?_⟩; have G4 := hidP hg; clear hg; have u0 := G4.out.c0; have u1 := G4.out.c1; have ul := G4.out.lt) | (refine step_call 34 #[.pointer (some ⟨w.heap.size + 1, 0, none⟩), .int .i64 12] (by rfl) _ _ (by rfl) (by simp [go_sem]) entBelow ?_; refine (G4.out.belowC 12 w4 G4.out (by omega) (by omega)).mono ?_; rintro e w5 ⟨y, rfl, ya, yb, hg⟩; refine ⟨_, rfl, ?_⟩; have G5 := hidP hg; clear hg; have y0 := G5.out.c0; have y1 := G5.out.c1; have yl := G5.out.lt; have z0 := G5.out.r0; have z1 := G5.out.r1; have zf := G5.out.fR; have zl := G5.out.ltR) | fail)
  all_goals
    go_wp2
    exact bodyPost_ret (v := .tuple #[.agg #[.slice s0 caps.length d0, .slice s1 bods.length d1], .int .i64 (IntKind.i64.wrap (x - IntKind.i64.wrap (y.tdiv 11)))]) (by simp [results, Tryz.results15, go_sem, z0, z1]) rfl ⟨s0, d0, s1, d1, ⟨caps, bods⟩, ⟨_, rfl⟩, G5.out.done _ _ hlo, G5.out.ft⟩

set_option maxRecDepth 100000 in
set_option maxHeartbeats 4000000 in
theorem drawPlaceOf_any (s : Option Addr) (n c : Nat) (w : World) (hb : Bytes w w.heap.size s n) (hn : n ≤ maxLen) :
    Calls Tryz.prog 13 #[.slice s n c] w fun e w' => ∃ (s0 : Option Addr) (d0 : Nat) (s1 : Option Addr) (d1 : Nat) (pd : PD) (z k : Int), e = .returned (.tuple #[.agg #[.slice s0 pd.caps.length d0, .slice s1 pd.bods.length d1], .int .i64 z, .int .i64 k]) ∧ (ProgR w' w.heap.size w'.heap.size s0 s1 pd ∧ Below w.heap.size w w') ∧ Fits pd := by
  obtain ⟨W, hW⟩ : ∃ W, w.alloc (.cells #[.slice none 0 0, .slice none 0 0] 27) = W := ⟨_, rfl⟩
  have KW : Hid (Below w.heap.size w W) := hW ▸ (Below.refl _ _).alloc (Nat.le_refl _) _
  have r0 : W.cell? ⟨w.heap.size, 0, none⟩ = some (.slice none 0 0) := by rw [← hW]; simp [go_sem]
  have r1 : W.cell? ⟨w.heap.size, 1, none⟩ = some (.slice none 0 0) := by rw [← hW]; simp [go_sem]
  have fR : ∀ j, W.frozen? ⟨w.heap.size, j, none⟩ = false := fun j => by rw [← hW]; simp [go_sem]
  have hzW : w.heap.size < W.heap.size := by rw [← hW]; simp
  have HBW := hidP (bytes_up hb KW.out (Nat.le_of_lt hzW))
  have HBS := hidP hb
  clear hb
  go_enter Tryz.func13, Tryz.ntmps13
  go_wp2_with fail
  refine (drawStarts_any s n c W HBW.out hn).mono ?_
  rintro e w1 ⟨s0, d0, s1, d1, pd, z, rfl, ⟨hpr, hb1⟩, hft⟩
  have hz1 := hb1.size
  obtain ⟨W1, hW1⟩ : ∃ W1, w1.alloc (.cells #[.slice s0 pd.caps.length d0, .slice s1 pd.bods.length d1] 27) = W1 := ⟨_, rfl⟩
  have ka : Below w1.heap.size w1 W1 := hW1 ▸ (Below.refl _ _).alloc (Nat.le_refl _) _
  have hz11 : w1.heap.size < W1.heap.size := by rw [← hW1]; simp
  have K1 := hidP (KW.out.trans ((hb1.trans (ka.mono hz1)).mono (Nat.le_of_lt hzW)))
  have p0 : W1.cell? ⟨w1.heap.size, 0, none⟩ = some (.slice s0 pd.caps.length d0) := by rw [← hW1]; simp [go_sem]
  have p1 : W1.cell? ⟨w1.heap.size, 1, none⟩ = some (.slice s1 pd.bods.length d1) := by rw [← hW1]; simp [go_sem]
  have q0 := ((hb1.trans (ka.mono hz1)).cell (p := ⟨w.heap.size, 0, none⟩) hzW).trans r0
  have q1 := ((hb1.trans (ka.mono hz1)).cell (p := ⟨w.heap.size, 1, none⟩) hzW).trans r1
  have qf : ∀ j, W1.frozen? ⟨w.heap.size, j, none⟩ = false := fun j => ((hb1.trans (ka.mono hz1)).frozen (p := ⟨w.heap.size, j, none⟩) hzW).trans (fR j)
  have hpr1 : ProgR W1 W.heap.size w1.heap.size s0 s1 pd := ProgR.keep' hpr (Keep.of_below ka (Nat.le_refl _))
  have HB1 := hidP (bytes_up HBS.out K1.out (Nat.le_of_lt (Nat.lt_of_lt_of_le hzW (Nat.le_trans hz1 (Nat.le_of_lt hz11)))))
  clear r0 r1 fR hpr hb1
  go_wp2_with fail
  refine (new_cb s n c W1 HB1.out hn).mono ?_
  rintro e w2 ⟨rfl, hc2, hb2, hz2⟩
  have hW2l : W1.heap.size < w2.heap.size := hc2.lt
  have GD : Hid (E11 w w2 W1.heap.size s n c w.heap.size w1.heap.size W.heap.size w1.heap.size s0 d0 s1 d1 pd) :=
    ⟨hc2, K1.out.trans (hb2.mono (by omega)), (hb2.cell (p := ⟨w1.heap.size, 0, none⟩) hz11).trans p0, (hb2.cell (p := ⟨w1.heap.size, 1, none⟩) hz11).trans p1, (hb2.cell (p := ⟨w.heap.size, 0, none⟩) (show w.heap.size < W1.heap.size by omega)).trans q0, (hb2.cell (p := ⟨w.heap.size, 1, none⟩) (show w.heap.size < W1.heap.size by omega)).trans q1, fun j => (hb2.frozen (p := ⟨w.heap.size, j, none⟩) (show w.heap.size < W1.heap.size by omega)).trans (qf j), ProgR.keep' hpr1 (Keep.of_below hb2 (by omega)), hft, by omega, by omega, by omega, by omega, by omega, .inr (by omega), by omega, by omega, by omega, Nat.le_refl _⟩
  have v0 := GD.out.c0
  have v1 := GD.out.c1
  have n1 : ¬ w.heap.size = w1.heap.size := by omega
  have n2 : ¬ w1.heap.size = w.heap.size := by omega
  have hlo : w.heap.size ≤ W.heap.size := by omega
  clear hc2 hb2 hz2 p0 p1 q0 q1 qf hpr1 hft ka hW hW1
  go_wp2_with fail
  have GE := hidP (GD.out.but (GD.out.cb.keep (Below.drew (Below.refl _ _))) (But.of_below (Below.drew (Below.refl _ _))))
  go_region_law (first | (refine step_call 34 #[.pointer (some ⟨W1.heap.size, 0, none⟩), .int .i64 120] (by rfl) _ _ (by rfl) (by simp [go_sem]) entBelow ?_; refine (GD.out.belowC 120 w2.drew GE.out (by omega) (by omega)).mono ?_; rintro e w4 ⟨x, rfl, xa, xb, hg⟩; refine ⟨_, rfl, ?_⟩; have G4 := hidP hg; clear hg; have u0 := G4.out.c0; have u1 := G4.out.c1; have ul := G4.out.lt) | (refine step_call 34 #[.pointer (some ⟨W1.heap.size, 0, none⟩), .int .i64 12] (by rfl) _ _ (by rfl) (by simp [go_sem]) entBelow ?_; refine (G4.out.belowC 12 w4 G4.out (by omega) (by omega)).mono ?_; rintro e w5 ⟨y, rfl, ya, yb, hg⟩; refine ⟨_, rfl, ?_⟩; have G5 := hidP hg; clear hg; have y0 := G5.out.c0; have y1 := G5.out.c1; have yl := G5.out.lt; have z0 := G5.out.r0; have z1 := G5.out.r1; have zf := G5.out.fR; have zl := G5.out.ltR) | fail)
  all_goals
    go_wp2
    exact bodyPost_ret (v := .tuple #[.agg #[.slice s0 pd.caps.length d0, .slice s1 pd.bods.length d1], .int .i64 z, .int .i64 (IntKind.i64.wrap (x - IntKind.i64.wrap (y.tdiv 11)))]) (by simp [results, Tryz.results13, go_sem, z0, z1]) rfl ⟨s0, d0, s1, d1, pd, z, _, rfl, G5.out.done _ _ hlo, G5.out.ft⟩

end Go.Proofs.YteddmadbegpecaaGreat
