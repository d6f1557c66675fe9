/- DrawInsOk: a place is drawn, with 8 places and so many channels; nothing that was there is turned. Conditions: the bytes lie in memory as the reading says. -/
import Derived.Test.YtfhhlahfldddfafDrawR
namespace Go.Proofs.Ytfhhlahfldddfaf
set_option linter.unusedSimpArgs false
set_option linter.unusedVariables false
open Go.RowKit Go.Deep

theorem Has.keep {w w' : World} {X B : Nat} {o r a b m : Int} (h : Has w X o r a b m) (hb : Below B w w') (hX : X < B) : Has w' X o r a b m :=
  ⟨(hb.cell (p := ⟨X, 0, none⟩) hX).trans h.1, (hb.cell (p := ⟨X, 1, none⟩) hX).trans h.2.1, (hb.cell (p := ⟨X, 2, none⟩) hX).trans h.2.2.1, (hb.cell (p := ⟨X, 3, none⟩) hX).trans h.2.2.2.1, (hb.cell (p := ⟨X, 4, none⟩) hX).trans h.2.2.2.2⟩
theorem has_set5v {w : World} {X : Nat} (h : Res w X) (o r a b m : Int) : Has (set5v w X (.int .i64 o) (.int .i64 r) (.int .i64 a) (.int .i64 b) (.int .i64 m)) X o r a b m := by
  obtain ⟨u0, u1, u2, u3, u4, g0, g1, g2, g3, g4⟩ := h.at
  unfold set5v
  refine ⟨?_, ?_, ?_, ?_, ?_⟩ <;> simp [go_sem, g0, g1, g2, g3, g4]
theorem res_set5v {w : World} {X R : Nat} {v0 v1 v2 v3 v4 : Value} (h : Res w R) (hne : X ≠ R) : Res (set5v w X v0 v1 v2 v3 v4) R := by
  have e : ∀ (w : World) (i j : Nat) (v : Value), (w.setCell ⟨X, i, none⟩ v).cell? ⟨R, j, none⟩ = w.cell? ⟨R, j, none⟩ := fun w i j v => cellOff (.inl hne)
  unfold set5v
  exact ⟨fun j hj => by rw [e, e, e, e, e]; exact h.1 j hj, fun j => by simp only [World.frozen?_setCell]; exact h.2.1 j, by simpa using h.2.2⟩

set_option maxRecDepth 100000 in
set_option maxHeartbeats 4000000 in
theorem drawInsOk_any (s : Option Addr) (n c : Nat) (w : World) (hb : Bytes w w.heap.size s n) (hn : n ≤ maxLen) :
    Calls Try.prog 5 #[.slice s n c] w fun e w' => ∃ o r a b m z : Int, e = .returned (.tuple #[.agg #[.int .i64 o, .int .i64 r, .int .i64 a, .int .i64 b, .int .i64 m], .int .i64 8, .int .i64 z]) ∧ -1 ≤ z ∧ z ≤ 4 ∧ Below w.heap.size w w' := by
  have HB : Hid (Bytes (w.alloc (.cells #[.int .i64 0, .int .i64 0, .int .i64 0, .int .i64 0, .int .i64 0] 25)) (w.heap.size + 1) s n) := bytes_up hb ((Below.refl w.heap.size w).alloc (Nat.le_refl _) _) (by omega)
  have HR0 : Hid (Res (w.alloc (.cells #[.int .i64 0, .int .i64 0, .int .i64 0, .int .i64 0, .int .i64 0] 25)) w.heap.size) := res_new w (.int .i64 0) (.int .i64 0) (.int .i64 0) (.int .i64 0) (.int .i64 0) 25
  clear hb
  go_enter Try.func5, Try.ntmps5
  go_wp2_with fail
  refine (new_cb s n c _ (by simpa using HB.out) hn).mono ?_
  rintro e w1 ⟨rfl, hc1, hb1, hz1⟩
  simp only [World.size_alloc] at hc1 hz1
  have H1 : Hid (CB w1 (w.heap.size + 1) s n c) := hc1
  have R1 : Hid (Res w1 w.heap.size) := HR0.out.of_below hb1 (by simp)
  have K1 : Hid (Below w.heap.size w w1) := ((Below.refl _ _).alloc (Nat.le_refl _) _).trans (hb1.mono (by simp))
  clear hc1 hb1 HB HR0
  go_wp2_with fail
  refine (drawIns_cb (w.heap.size + 1) s n c 8 2 w1 H1.out (by omega) (by omega) (by omega) (by omega)).mono ?_
  rintro e w2 ⟨o, r, a, b, m, rfl, hc2, hb2⟩
  have hz2 := hb2.size
  have H2 : Hid (CB (w2.alloc (.cells #[.int .i64 o, .int .i64 r, .int .i64 a, .int .i64 b, .int .i64 m] 25)) (w.heap.size + 1) s n c) := hc2.alloc _
  have B2 : Hid (But (w.heap.size + 1) w1 (w2.alloc (.cells #[.int .i64 o, .int .i64 r, .int .i64 a, .int .i64 b, .int .i64 m] 25))) := hb2.alloc _
  have X2 : Hid (Has (w2.alloc (.cells #[.int .i64 o, .int .i64 r, .int .i64 a, .int .i64 b, .int .i64 m] 25)) w2.heap.size o r a b m) := ⟨by simp [go_sem], by simp [go_sem], by simp [go_sem], by simp [go_sem], by simp [go_sem]⟩
  have Y2 : Hid (Res (w2.alloc (.cells #[.int .i64 o, .int .i64 r, .int .i64 a, .int .i64 b, .int .i64 m] 25)) w2.heap.size) := res_new _ _ _ _ _ _ _
  clear hc2 hb2 H1
  go_wp2_with fail
  refine (once_cb (w.heap.size + 1) s n c 2 _ H2.out (by omega) (by omega)).mono ?_
  rintro e w3 ⟨x, rfl, hc3, hb3⟩
  have hz3 := hb3.size
  simp only [World.size_alloc] at hz3
  have H3 : Hid (CB w3 (w.heap.size + 1) s n c) := hc3
  have B3 : Hid (But (w.heap.size + 1) w1 w3) := B2.out.trans hb3
  have X3 : Hid (Has w3 w2.heap.size o r a b m) := X2.out.but hb3 (by simp) (by omega)
  have Y3 : Hid (Res w3 w2.heap.size) := Y2.out.but hb3 (by omega)
  have R3 : Hid (Res w3 w.heap.size) := R1.out.but B3.out (by omega)
  have K3 : Hid (Below w.heap.size w w3) := K1.out.trans (B3.out.below (by omega) (by omega))
  clear hc3 hb3 H2 B2 X2 Y2 R1
  have hne : w2.heap.size ≠ w.heap.size := by omega
  have l3 : w2.heap.size < w3.heap.size := by omega
  cases x
  · obtain ⟨f0, f1, f2, f3, f4⟩ := X3.out
    have kl : Below w3.heap.size w3 ((w3.alloc (.cells #[.int .i64 2, .int .i64 2, .int .i64 3, .int .i64 0, .int .i64 4, .int .i64 (-1)] 3)).drew) := ((Below.refl _ _).alloc (Nat.le_refl _) _).drew
    have KL : Hid (Below w3.heap.size w3 ((w3.alloc (.cells #[.int .i64 2, .int .i64 2, .int .i64 3, .int .i64 0, .int .i64 4, .int .i64 (-1)] 3)).drew)) := kl
    clear kl
    go_wp2_with fail
    first | go_region_law (refine step_call 18 #[.pointer (some ⟨w.heap.size + 1, 0, none⟩), .slice (some ⟨w3.heap.size, 0, none⟩) 6 6] (by rfl) _ _ (by rfl) (by simp [go_sem]) ent_pick ?_; refine (pick_cb (w.heap.size + 1) s n c w3.heap.size 6 [2, 2, 3, 0, 4, -1] ((w3.alloc (.cells #[.int .i64 2, .int .i64 2, .int .i64 3, .int .i64 0, .int .i64 4, .int .i64 (-1)] 3)).drew) (H3.out.keep KL.out) rfl (by simp) (by simp) (by simp) (by omega) (fun i hi => by match i, hi with | 0, _ => simp [go_sem] | 1, _ => simp [go_sem] | 2, _ => simp [go_sem] | 3, _ => simp [go_sem] | 4, _ => simp [go_sem] | 5, _ => simp [go_sem])).mono ?_; rintro e w5 ⟨z, rfl, hz, hc5, hb5⟩; have hb5' := (But.of_below (g := w.heap.size + 1) KL.out).trans hb5; obtain ⟨x0, x1, x2, x3, x4⟩ := X3.out.but hb5' (by omega) (by omega); have R5 := R3.out.but hb5' (by omega); obtain ⟨u0, u1, u2, u3, u4, e0, e1, e2, e3, e4⟩ := R5.at; have fz := R5.2.1; refine ⟨_, rfl, ?_⟩) | fail
    all_goals
      have hzz : -1 ≤ z ∧ z ≤ 4 := by simp at hz; omega
      have K5 : Hid (Below w.heap.size w w5) := K3.out.trans (hb5'.below (by omega) (by omega))
      clear hc5 hb5 hb5' R5 hz
      go_wp2
      exact bodyPost_ret (v := .tuple #[.agg #[.int .i64 o, .int .i64 r, .int .i64 a, .int .i64 b, .int .i64 m], .int .i64 8, .int .i64 z]) (by simp [results, Try.results5, go_sem, e0, e1, e2, e3, e4]) rfl ⟨_, _, _, _, _, _, rfl, hzz.1, hzz.2, below_set5v K5.out (Nat.le_refl _)⟩
  · obtain ⟨f0, f1, f2, f3, f4⟩ := X3.out
    go_wp2_with fail
    refine (spoil_cb (w.heap.size + 1) s n c o r a b m w3 H3.out).mono ?_
    rintro e w4 ⟨o', r', a', b', m', rfl, hc4, hb4⟩
    have hz4 := hb4.size
    have l4 : w2.heap.size < w4.heap.size := by omega
    have Y4 : Hid (Res w4 w2.heap.size) := Y3.out.but hb4 (by omega)
    have R4 : Hid (Res w4 w.heap.size) := R3.out.but hb4 (by omega)
    have K4 : Hid (Below w.heap.size w w4) := K3.out.trans (hb4.below (by omega) (by omega))
    have H4 : Hid (CB w4 (w.heap.size + 1) s n c) := hc4
    clear f0 f1 f2 f3 f4 hc4 hb4
    obtain ⟨t0, t1, t2, t3, t4, y0, y1, y2, y3, y4⟩ := Y4.out.at
    have z' := Y4.out.2.1
    have H5 : Hid (CB (set5v w4 w2.heap.size (.int .i64 o') (.int .i64 r') (.int .i64 a') (.int .i64 b') (.int .i64 m')) (w.heap.size + 1) s n c) := H4.out.set5v (by omega)
    have X5 : Hid (Has (set5v w4 w2.heap.size (.int .i64 o') (.int .i64 r') (.int .i64 a') (.int .i64 b') (.int .i64 m')) w2.heap.size o' r' a' b' m') := has_set5v Y4.out o' r' a' b' m'
    have R5 : Hid (Res (set5v w4 w2.heap.size (.int .i64 o') (.int .i64 r') (.int .i64 a') (.int .i64 b') (.int .i64 m')) w.heap.size) := res_set5v R4.out hne
    have K5 : Hid (Below w.heap.size w (set5v w4 w2.heap.size (.int .i64 o') (.int .i64 r') (.int .i64 a') (.int .i64 b') (.int .i64 m'))) := below_set5v K4.out (by omega)
    have S5 : (set5v w4 w2.heap.size (.int .i64 o') (.int .i64 r') (.int .i64 a') (.int .i64 b') (.int .i64 m')).heap.size = w4.heap.size := by simp [set5v]
    have HS5 : Hid ((set5v w4 w2.heap.size (.int .i64 o') (.int .i64 r') (.int .i64 a') (.int .i64 b') (.int .i64 m')).heap.size = w4.heap.size) := S5
    have kl : Below w4.heap.size (set5v w4 w2.heap.size (.int .i64 o') (.int .i64 r') (.int .i64 a') (.int .i64 b') (.int .i64 m')) (((set5v w4 w2.heap.size (.int .i64 o') (.int .i64 r') (.int .i64 a') (.int .i64 b') (.int .i64 m')).alloc (.cells #[.int .i64 2, .int .i64 2, .int .i64 3, .int .i64 0, .int .i64 4, .int .i64 (-1)] 3)).drew) := ((Below.refl _ _).alloc (by omega) _).drew
    have KL : Hid (Below (set5v w4 w2.heap.size (.int .i64 o') (.int .i64 r') (.int .i64 a') (.int .i64 b') (.int .i64 m')).heap.size (set5v w4 w2.heap.size (.int .i64 o') (.int .i64 r') (.int .i64 a') (.int .i64 b') (.int .i64 m')) (((set5v w4 w2.heap.size (.int .i64 o') (.int .i64 r') (.int .i64 a') (.int .i64 b') (.int .i64 m')).alloc (.cells #[.int .i64 2, .int .i64 2, .int .i64 3, .int .i64 0, .int .i64 4, .int .i64 (-1)] 3)).drew)) := by rw [S5]; exact kl
    clear kl S5 H4 K4 R4 R3 K3 X3 Y3 H3
    go_wp2_with fail
    first | go_region_law (refine step_call 18 #[.pointer (some ⟨w.heap.size + 1, 0, none⟩), .slice (some ⟨w4.heap.size, 0, none⟩) 6 6] (by rfl) _ _ (by rfl) (by simp [go_sem]) ent_pick ?_; refine (pick_cb (w.heap.size + 1) s n c w4.heap.size 6 [2, 2, 3, 0, 4, -1] (((set5v w4 w2.heap.size (.int .i64 o') (.int .i64 r') (.int .i64 a') (.int .i64 b') (.int .i64 m')).alloc (.cells #[.int .i64 2, .int .i64 2, .int .i64 3, .int .i64 0, .int .i64 4, .int .i64 (-1)] 3)).drew) (H5.out.keep KL.out) rfl (by simp) (by simp) (by simp [set5v]) (by omega) (fun i hi => by have hs5 := HS5.out; match i, hi with | 0, _ => simp [go_sem, ← hs5] | 1, _ => simp [go_sem, ← hs5] | 2, _ => simp [go_sem, ← hs5] | 3, _ => simp [go_sem, ← hs5] | 4, _ => simp [go_sem, ← hs5] | 5, _ => simp [go_sem, ← hs5])).mono ?_; rintro e w6 ⟨z, rfl, hz, hc6, hb6⟩; have hb6' := (But.of_below (g := w.heap.size + 1) KL.out).trans hb6; obtain ⟨x0, x1, x2, x3, x4⟩ := X5.out.but hb6' (by rw [HS5.out]; omega) (by omega); have R6 := R5.out.but hb6' (by omega); obtain ⟨u0, u1, u2, u3, u4, e0, e1, e2, e3, e4⟩ := R6.at; have fz := R6.2.1; refine ⟨_, rfl, ?_⟩) | fail
    all_goals
      have hzz : -1 ≤ z ∧ z ≤ 4 := by simp at hz; omega
      have K6 : Hid (Below w.heap.size w w6) := K5.out.trans (hb6'.below (by omega) (by rw [HS5.out]; omega))
      clear hc6 hb6 hb6' R6 hz
      go_wp2
      exact bodyPost_ret (v := .tuple #[.agg #[.int .i64 o', .int .i64 r', .int .i64 a', .int .i64 b', .int .i64 m'], .int .i64 8, .int .i64 z]) (by simp [results, Try.results5, go_sem, e0, e1, e2, e3, e4]) rfl ⟨_, _, _, _, _, _, rfl, hzz.1, hzz.2, below_set5v K6.out (Nat.le_refl _)⟩

end Go.Proofs.Ytfhhlahfldddfaf
