/- A row of rooms, a place, a number and five starts are drawn. Conditions: the code lies in memory. -/
import Derived.Test.YtjnfmecfpjchnaaGreatF10Caps
import Derived.Test.YtjnfmecfpjchnaaGreatE10Row
import Derived.Deep.RegionHeld3
import Derived.Deep.DeepCutAuto
namespace Go.Proofs.YtjnfmecfpjchnaaGreat
set_option linter.unusedSimpArgs false
set_option linter.unusedVariables false
set_option maxRecDepth 100000
open Go.RowKit

structure DE (w w' : World) (v : Value) (l : List Int) (g : Nat) : Prop where
  o : OwnN w' w.heap.size v l
  s : IntsR w' 0 w'.heap.size (some ⟨g, 0, none⟩) [0, 1, 30, 60, 61]
  b : Below w.heap.size w w'
theorem deSet {w w1 w6 : World} {v : Value} {l : List Int} (hb : Below w.heap.size w w6) (ho : OwnN w6 w1.heap.size v l) (h1 : w.heap.size < w1.heap.size) (v0 v1 v2 v3 v4 : Value) : OwnN (set5v w6 w.heap.size v0 v1 v2 v3 v4) w.heap.size v l ∧ Below w.heap.size w (set5v w6 w.heap.size v0 v1 v2 v3 v4) := by
  refine ⟨?_, below_set5v hb (Nat.le_refl _)⟩
  have q : OwnN (set5v w6 w.heap.size v0 v1 v2 v3 v4) w1.heap.size v l := ownKeep' ho (fun k hk => by
    have := (World.ownsRow.lt ho _ hk).1
    unfold set5v
    rw [Below.heap_setCell _ _ _ k (by show k ≠ w.heap.size; omega), Below.heap_setCell _ _ _ k (by show k ≠ w.heap.size; omega), Below.heap_setCell _ _ _ k (by show k ≠ w.heap.size; omega), Below.heap_setCell _ _ _ k (by show k ≠ w.heap.size; omega), Below.heap_setCell _ _ _ k (by show k ≠ w.heap.size; omega)])
  exact ownLow' q (Nat.le_of_lt h1)
theorem deNew {w Z : World} {v : Value} {l : List Int} (h : OwnN Z w.heap.size v l ∧ Below w.heap.size w Z) : DE w (Z.alloc (.cells #[.int .i64 0, .int .i64 1, .int .i64 30, .int .i64 60, .int .i64 61] 3)) v l Z.heap.size := by
  have z := h.2.size
  refine ⟨h.1.alloc _, .inr ⟨Z.heap.size, 0, rfl, Nat.zero_le _, by simp, fun i hi => ?_⟩, h.2.alloc z _⟩
  match i, hi with
  | 0, _ => simp [go_sem]
  | 1, _ => simp [go_sem]
  | 2, _ => simp [go_sem]
  | 3, _ => simp [go_sem]
  | 4, _ => simp [go_sem]
theorem deOld {w w6 : World} {v v0 v1 v2 v3 v4 : Value} {l : List Int} {g : Nat} (h : OwnN (set5v w6 w.heap.size v0 v1 v2 v3 v4) w.heap.size v l ∧ Below w.heap.size w (set5v w6 w.heap.size v0 v1 v2 v3 v4)) (hg : g < w6.heap.size) (hne : w.heap.size ≠ g) (hc : ∀ i, i < 5 → w6.cell? ⟨g, i, none⟩ = some (.int .i64 ([0, 1, 30, 60, 61].getD i 0))) : DE w (set5v w6 w.heap.size v0 v1 v2 v3 v4) v l g := by
  refine ⟨h.1, .inr ⟨g, 0, rfl, Nat.zero_le _, by simp [set5v]; exact hg, fun i hi => ?_⟩, h.2⟩
  rw [Nat.zero_add]
  unfold set5v
  rw [setC_blk hne, setC_blk hne, setC_blk hne, setC_blk hne, setC_blk hne]
  exact hc i hi
set_option maxHeartbeats 4000000 in
theorem drawEmit_any (s : Option Addr) (n c : Nat) (w : World) (hb : Bytes w w.heap.size s n) (hn : n ≤ maxLen) :
    Calls Tryz.prog 5 #[.slice s n c] w fun e w' => ∃ (v : Value) (l : List Int) (o r a b m : Int) (fr : Int) (g : Nat), e = .returned (.tuple #[v, .agg #[.int .i64 o, .int .i64 r, .int .i64 a, .int .i64 b, .int .i64 m], .int .i64 fr, .slice (some ⟨g, 0, none⟩) 5 5]) ∧ l.length ≤ 9 ∧ 0 ≤ fr ∧ fr < 200 ∧ DE w w' v l g := by
  have HB : Hid (Bytes (w.alloc (.cells #[.int .i64 0, .int .i64 0, .int .i64 0, .int .i64 0, .int .i64 0] 26)) (w.heap.size + 1) s n) := by
    have h1 := hb.below ((Below.refl w.heap.size w).alloc (Nat.le_refl _) (.cells #[.int .i64 0, .int .i64 0, .int .i64 0, .int .i64 0, .int .i64 0] 26)) (Nat.le_refl _)
    rcases h1 with h1 | ⟨g, o, hs, hg, hc⟩
    · exact .inl h1
    · exact .inr ⟨g, o, hs, by omega, hc⟩
  obtain ⟨W, hW⟩ : ∃ W, w.alloc (.cells #[.int .i64 0, .int .i64 0, .int .i64 0, .int .i64 0, .int .i64 0] 26) = W := ⟨_, rfl⟩
  have hWs : W.heap.size = w.heap.size + 1 := by rw [← hW]; simp
  have HKW : Hid (Below w.heap.size w W) := by rw [← hW]; exact (Below.refl _ _).alloc (Nat.le_refl _) _
  have R0 : Res W w.heap.size := by rw [← hW]; exact res_new w _ _ _ _ _ _
  have HR0 := hid2 R0
  rw [hW] at HB
  have HBW : Hid (Bytes W W.heap.size s n) := by show Bytes _ _ _ _; rw [hWs]; exact HB.out
  have hWl : w.heap.size < W.heap.size := by omega
  have HN := hid2 hn
  clear hb hn R0 hWs HB
  go_enter Tryz.func5, Tryz.ntmps5
  go_wp2_with fail
  clear hW
  refine (new_cb s n c W HBW.out HN.out).mono ?_
  rintro e w1 ⟨rfl, hc1, hb1, hz1⟩
  have HC1 := hid2 hc1
  have HB1 := hid2 hb1
  have hz1' : W.heap.size < w1.heap.size := by omega
  clear hc1 hb1 hz1
  go_wp2_with fail
  refine (drawCaps_cb W.heap.size s n c w1 HC1.out).mono ?_
  rintro e w2 ⟨v, l, rfl, hl, hd2⟩
  obtain ⟨sv, cv, ev⟩ := hd2.o.sl
  subst ev
  have HD2 := hid2 hd2
  have HL := hid2 hl
  clear hd2 hl
  have hz2 := HD2.out.t.size
  go_wp2_with fail
  refine (drawIns_cb W.heap.size s n c 5 l.length w2 HD2.out.b (by omega) (by omega) (by omega) (by have := HL.out; omega)).mono ?_
  rintro e w3 ⟨o, r, a, b, m, rfl, hc3, hb3⟩
  have HD3 := hid2 (HD2.out.but hz1' hc3 hb3)
  clear hc3 hb3 HD2
  have hz3 := HD3.out.t.size
  have HRK := hid2 (fun k hk => (World.ownsRow.lt HD3.out.o k hk).2)
  have ka : Below w3.heap.size w3 (w3.alloc (.cells #[.int .i64 o, .int .i64 r, .int .i64 a, .int .i64 b, .int .i64 m] 26)) := (Below.refl _ _).alloc (Nat.le_refl _) _
  have HDa := hid2 (show DC w1 (w3.alloc (.cells #[.int .i64 o, .int .i64 r, .int .i64 a, .int .i64 b, .int .i64 m] 26)) W.heap.size s n c (.slice sv l.length cv) l from ⟨HD3.out.o.alloc _, HD3.out.b.alloc _, but_low HD3.out.t (ka.mono hz3)⟩)
  obtain ⟨X, hX⟩ : ∃ X, w3.alloc (.cells #[.int .i64 o, .int .i64 r, .int .i64 a, .int .i64 b, .int .i64 m] 26) = X := ⟨_, rfl⟩
  have HH : Hid (Has X w3.heap.size o r a b m ∧ Res X w3.heap.size) := by rw [← hX]; exact ⟨⟨by simp [go_sem], by simp [go_sem], by simp [go_sem], by simp [go_sem], by simp [go_sem]⟩, res_new _ _ _ _ _ _ _⟩
  have hXs : w3.heap.size < X.heap.size := by rw [← hX]; simp
  rw [hX] at HDa
  clear ka HD3
  go_wp2_with fail
  clear hX
  refine (once_cb W.heap.size s n c 6 X HDa.out.b (by omega) (by omega)).mono ?_
  rintro e w4 ⟨q, rfl, hc4, hb4⟩
  have HD4 := hid2 (HDa.out.but hz1' hc4 hb4)
  have HH4 := hid2 (show Has w4 w3.heap.size o r a b m ∧ Res w4 w3.heap.size from ⟨HH.out.1.but hb4 (by omega) (by omega), HH.out.2.but hb4 (by omega)⟩)
  have hz4 := hb4.size
  clear hc4 hb4 HDa HH
  cases q
  · obtain ⟨Y, eY⟩ : ∃ Y, w4 = Y := ⟨_, rfl⟩
    subst eY
    obtain ⟨o5, r5, a5, b5, m5, eo⟩ : ∃ o5 r5 a5 b5 m5 : Int, (⟨o, r, a, b, m⟩ : I5) = ⟨o5, r5, a5, b5, m5⟩ := ⟨_, _, _, _, _, rfl⟩
    injection eo with e1 e2 e3 e4 e5
    subst e1 e2 e3 e4 e5
    have HD5 := HD4
    have HH5 := HH4
    clear HD4 HH4
    have HR5 := hid2 ((HR0.out.of_below HB1.out hWl).but HD5.out.t (by omega))
    obtain ⟨d0, d1, d2, d3, d4⟩ := HH5.out.1
    obtain ⟨u0, u1, u2, u3, u4, t0, t1, t2, t3, t4⟩ := HR5.out.at
    have tf := HR5.out.2.1
    have n1 : ¬ w.heap.size = w3.heap.size := by omega
    have n2 : ¬ w3.heap.size = w.heap.size := by omega
    have n3 : ¬ w.heap.size = w4.heap.size := by omega
    have n4 : ¬ w3.heap.size = w4.heap.size := by omega
    have n5 : w.heap.size < w4.heap.size := by omega
    have n9 : w3.heap.size < w4.heap.size := by omega
    go_upto_region 6 with fail
    go_region_held3 (fun w' => w'.cell? ⟨w3.heap.size, 0, none⟩ = some (.int .i64 o) ∧ w'.cell? ⟨w3.heap.size, 1, none⟩ = some (.int .i64 r) ∧ w'.cell? ⟨w3.heap.size, 2, none⟩ = some (.int .i64 a) ∧ w'.cell? ⟨w3.heap.size, 3, none⟩ = some (.int .i64 b) ∧ w'.cell? ⟨w3.heap.size, 4, none⟩ = some (.int .i64 m)) (go_keep) (first | (go_at_call 19; refine (below_cb W.heap.size s n c 200 _ (by first | exact (show CB w4.drew W.heap.size s n c from HD5.out.b) | exact (show CB (w4.alloc _).drew W.heap.size s n c from HD5.out.b.alloc _)) (by omega) (by omega)).mono ?_; rintro e w6 ⟨fr, rfl, f0, f1, hc6, hb6⟩; have ZS := hid2 hb6.size; have HS6 := hid2 (fun b o (hb : b < _) (hne : b ≠ W.heap.size) => hb6.cell (p := ⟨b, o, none⟩) hb hne); have hb7 : But W.heap.size w4 w6 := (by first | exact ⟨hb6.os, hb6.tape, hb6.output, hb6.size, hb6.block⟩ | exact ((But.refl _ _).alloc _).trans ⟨hb6.os, hb6.tape, hb6.output, hb6.size, hb6.block⟩); have HD6 := hid2 (HD5.out.but hz1' hc6 hb7); obtain ⟨d0, d1, d2, d3, d4⟩ := HH5.out.1.but hb7 (by omega) (by omega); have HR6 := hid2 (HR5.out.but hb7 (by omega)); obtain ⟨v0, v1, v2, v3, v4, t0, t1, t2, t3, t4⟩ := HR6.out.at; have tf := HR6.out.2.1; have z6 := hb7.size; have n6 : ¬ w.heap.size = w6.heap.size := Nat.ne_of_lt (Nat.lt_of_lt_of_le n5 z6); have n7 : ¬ w6.heap.size = w.heap.size := Nat.ne_of_gt (Nat.lt_of_lt_of_le n5 z6); have n8 : ¬ w3.heap.size = w6.heap.size := Nat.ne_of_lt (Nat.lt_of_lt_of_le n9 z6); have n10 : ¬ w6.heap.size = w3.heap.size := Nat.ne_of_gt (Nat.lt_of_lt_of_le n9 z6); have n11 := Nat.lt_of_lt_of_le n5 z6; have n12 := Nat.lt_of_lt_of_le n9 z6; clear hc6 hb6))
    all_goals go_wp2
    all_goals
      have KB6 : Below w.heap.size w w6 := (HKW.out.trans (HB1.out.mono (by omega))).trans ((HD6.out.t.below (B := w.heap.size) (by omega) (by omega)))
      have hw1 : w.heap.size < w1.heap.size := by omega
      have EB := deSet KB6 HD6.out.o hw1 (.int .i64 o) (.int .i64 r) (.int .i64 a) (.int .i64 b) (.int .i64 m)
      have hs6 : (set5v w6 w.heap.size (.int .i64 o) (.int .i64 r) (.int .i64 a) (.int .i64 b) (.int .i64 m)).heap.size = w6.heap.size := by simp [set5v]
      first
        | (refine bodyPost_ret (v := .tuple #[.slice sv l.length cv, .agg #[.int .i64 o, .int .i64 r, .int .i64 a, .int .i64 b, .int .i64 m], .int .i64 fr, .slice (some ⟨w6.heap.size, 0, none⟩) 5 5]) ?_ rfl ?_
           · simp [results, Tryz.results5, go_sem, t0, t1, t2, t3, t4, n11]
           · have D := deNew EB
             rw [hs6] at D
             exact ⟨_, l, o, r, a, b, m, fr, w6.heap.size, rfl, HL.out, f0, f1, D⟩)
        | (refine bodyPost_ret (v := .tuple #[.slice sv l.length cv, .agg #[.int .i64 o, .int .i64 r, .int .i64 a, .int .i64 b, .int .i64 m], .int .i64 fr, .slice (some ⟨w4.heap.size, 0, none⟩) 5 5]) ?_ rfl ?_
           · simp [results, Tryz.results5, go_sem, t0, t1, t2, t3, t4]
           · have D := deOld (g := w4.heap.size) EB (by have q2 : (World.alloc w4 _).heap.size ≤ w6.heap.size := ZS.out; simp at q2; omega) (by omega) (fun i hi => by have q := HS6.out w4.heap.size i (by show _ < (World.alloc _ _).heap.size; simp) (by omega); rw [q]; match i, hi with | 0, _ => simp [go_sem] | 1, _ => simp [go_sem] | 2, _ => simp [go_sem] | 3, _ => simp [go_sem] | 4, _ => simp [go_sem])
             exact ⟨_, l, o, r, a, b, m, fr, w4.heap.size, rfl, HL.out, f0, f1, D⟩)
  · obtain ⟨d0, d1, d2, d3, d4⟩ := HH4.out.1
    obtain ⟨u0, u1, u2, u3, u4, t0, t1, t2, t3, t4⟩ := HH4.out.2.at
    go_wp2_with (go_at_call 18; refine (spoil_cb W.heap.size s n c o r a b m w4 HD4.out.b).mono ?_; rintro e w5 ⟨o5, r5, a5, b5, m5, rfl, hc5, hb5⟩; have HD5a := hid2 (HD4.out.but hz1' hc5 hb5); have HRx := hid2 (HH4.out.2.but hb5 (by omega)); have z5 := hb5.size; obtain ⟨v0, v1, v2, v3, v4, x0, x1, x2, x3, x4⟩ := HRx.out.at; have xf := HRx.out.2.1; clear hc5 hb5)
    obtain ⟨Y, hY⟩ : ∃ Y, set5v w5 w3.heap.size (.int .i64 o5) (.int .i64 r5) (.int .i64 a5) (.int .i64 b5) (.int .i64 m5) = Y := ⟨_, rfl⟩
    have HD5 : Hid (DC w1 Y W.heap.size s n c (.slice sv l.length cv) l) := by
      rw [← hY]
      refine ⟨?_, HD5a.out.b.set5v (by omega), but_low HD5a.out.t (below_set5v (Below.refl _ _) (by omega))⟩
      refine ownKeep' HD5a.out.o (fun k hk => ?_)
      have := HRK.out k hk
      unfold set5v
      rw [Below.heap_setCell _ _ _ k (by show k ≠ w3.heap.size; omega), Below.heap_setCell _ _ _ k (by show k ≠ w3.heap.size; omega), Below.heap_setCell _ _ _ k (by show k ≠ w3.heap.size; omega), Below.heap_setCell _ _ _ k (by show k ≠ w3.heap.size; omega), Below.heap_setCell _ _ _ k (by show k ≠ w3.heap.size; omega)]
    have HH5 : Hid (Has Y w3.heap.size o5 r5 a5 b5 m5 ∧ True) := by
      refine ⟨?_, trivial⟩
      rw [← hY]
      unfold set5v
      refine ⟨?_, ?_, ?_, ?_, ?_⟩
      · rw [setC_off (by omega), setC_off (by omega), setC_off (by omega), setC_off (by omega), setC_at (by rw [x0]; rfl)]
      · rw [setC_off (by omega), setC_off (by omega), setC_off (by omega), setC_at (setC_some (by rw [x1]; rfl))]
      · rw [setC_off (by omega), setC_off (by omega), setC_at (setC_some (setC_some (by rw [x2]; rfl)))]
      · rw [setC_off (by omega), setC_at (setC_some (setC_some (setC_some (by rw [x3]; rfl))))]
      · rw [setC_at (setC_some (setC_some (setC_some (setC_some (by rw [x4]; rfl)))))]
    have hYs : w5.heap.size ≤ Y.heap.size := by rw [← hY]; simp [set5v]
    have hY' : ((((w5.setCell ⟨w3.heap.size, 0, none⟩ (.int .i64 o5)).setCell ⟨w3.heap.size, 1, none⟩ (.int .i64 r5)).setCell ⟨w3.heap.size, 2, none⟩ (.int .i64 a5)).setCell ⟨w3.heap.size, 3, none⟩ (.int .i64 b5)).setCell ⟨w3.heap.size, 4, none⟩ (.int .i64 m5) = Y := hY
    rw [hY']
    clear hY hY' x0 x1 x2 x3 x4 xf d0 d1 d2 d3 d4 t0 t1 t2 t3 t4 HD5a HRx
    have HR5 := hid2 ((HR0.out.of_below HB1.out hWl).but HD5.out.t (by omega))
    obtain ⟨d0, d1, d2, d3, d4⟩ := HH5.out.1
    obtain ⟨u0, u1, u2, u3, u4, t0, t1, t2, t3, t4⟩ := HR5.out.at
    have tf := HR5.out.2.1
    have n1 : ¬ w.heap.size = w3.heap.size := by omega
    have n2 : ¬ w3.heap.size = w.heap.size := by omega
    have n3 : ¬ w.heap.size = Y.heap.size := by omega
    have n4 : ¬ w3.heap.size = Y.heap.size := by omega
    have n5 : w.heap.size < Y.heap.size := by omega
    have n9 : w3.heap.size < Y.heap.size := by omega
    go_upto_region 6 with fail
    go_region_held3 (fun w' => w'.cell? ⟨w3.heap.size, 0, none⟩ = some (.int .i64 o5) ∧ w'.cell? ⟨w3.heap.size, 1, none⟩ = some (.int .i64 r5) ∧ w'.cell? ⟨w3.heap.size, 2, none⟩ = some (.int .i64 a5) ∧ w'.cell? ⟨w3.heap.size, 3, none⟩ = some (.int .i64 b5) ∧ w'.cell? ⟨w3.heap.size, 4, none⟩ = some (.int .i64 m5)) (go_keep) (first | (go_at_call 19; refine (below_cb W.heap.size s n c 200 _ (by first | exact (show CB Y.drew W.heap.size s n c from HD5.out.b) | exact (show CB (Y.alloc _).drew W.heap.size s n c from HD5.out.b.alloc _)) (by omega) (by omega)).mono ?_; rintro e w6 ⟨fr, rfl, f0, f1, hc6, hb6⟩; have ZS := hid2 hb6.size; have HS6 := hid2 (fun b o (hb : b < _) (hne : b ≠ W.heap.size) => hb6.cell (p := ⟨b, o, none⟩) hb hne); have hb7 : But W.heap.size Y w6 := (by first | exact ⟨hb6.os, hb6.tape, hb6.output, hb6.size, hb6.block⟩ | exact ((But.refl _ _).alloc _).trans ⟨hb6.os, hb6.tape, hb6.output, hb6.size, hb6.block⟩); have HD6 := hid2 (HD5.out.but hz1' hc6 hb7); obtain ⟨d0, d1, d2, d3, d4⟩ := HH5.out.1.but hb7 (by omega) (by omega); have HR6 := hid2 (HR5.out.but hb7 (by omega)); obtain ⟨v0, v1, v2, v3, v4, t0, t1, t2, t3, t4⟩ := HR6.out.at; have tf := HR6.out.2.1; have z6 := hb7.size; have n6 : ¬ w.heap.size = w6.heap.size := Nat.ne_of_lt (Nat.lt_of_lt_of_le n5 z6); have n7 : ¬ w6.heap.size = w.heap.size := Nat.ne_of_gt (Nat.lt_of_lt_of_le n5 z6); have n8 : ¬ w3.heap.size = w6.heap.size := Nat.ne_of_lt (Nat.lt_of_lt_of_le n9 z6); have n10 : ¬ w6.heap.size = w3.heap.size := Nat.ne_of_gt (Nat.lt_of_lt_of_le n9 z6); have n11 := Nat.lt_of_lt_of_le n5 z6; have n12 := Nat.lt_of_lt_of_le n9 z6; clear hc6 hb6))
    all_goals go_wp2
    all_goals
      have KB6 : Below w.heap.size w w6 := (HKW.out.trans (HB1.out.mono (by omega))).trans ((HD6.out.t.below (B := w.heap.size) (by omega) (by omega)))
      have hw1 : w.heap.size < w1.heap.size := by omega
      have EB := deSet KB6 HD6.out.o hw1 (.int .i64 o5) (.int .i64 r5) (.int .i64 a5) (.int .i64 b5) (.int .i64 m5)
      have hs6 : (set5v w6 w.heap.size (.int .i64 o5) (.int .i64 r5) (.int .i64 a5) (.int .i64 b5) (.int .i64 m5)).heap.size = w6.heap.size := by simp [set5v]
      first
        | (refine bodyPost_ret (v := .tuple #[.slice sv l.length cv, .agg #[.int .i64 o5, .int .i64 r5, .int .i64 a5, .int .i64 b5, .int .i64 m5], .int .i64 fr, .slice (some ⟨w6.heap.size, 0, none⟩) 5 5]) ?_ rfl ?_
           · simp [results, Tryz.results5, go_sem, t0, t1, t2, t3, t4, n11]
           · have D := deNew EB
             rw [hs6] at D
             exact ⟨_, l, o5, r5, a5, b5, m5, fr, w6.heap.size, rfl, HL.out, f0, f1, D⟩)
        | (refine bodyPost_ret (v := .tuple #[.slice sv l.length cv, .agg #[.int .i64 o5, .int .i64 r5, .int .i64 a5, .int .i64 b5, .int .i64 m5], .int .i64 fr, .slice (some ⟨Y.heap.size, 0, none⟩) 5 5]) ?_ rfl ?_
           · simp [results, Tryz.results5, go_sem, t0, t1, t2, t3, t4]
           · have D := deOld (g := Y.heap.size) EB (by have q2 : (World.alloc Y _).heap.size ≤ w6.heap.size := ZS.out; simp at q2; omega) (by omega) (fun i hi => by have q := HS6.out Y.heap.size i (by show _ < (World.alloc _ _).heap.size; simp) (by omega); rw [q]; match i, hi with | 0, _ => simp [go_sem] | 1, _ => simp [go_sem] | 2, _ => simp [go_sem] | 3, _ => simp [go_sem] | 4, _ => simp [go_sem])
             exact ⟨_, l, o5, r5, a5, b5, m5, fr, Y.heap.size, rfl, HL.out, f0, f1, D⟩)

end Go.Proofs.YtjnfmecfpjchnaaGreat
