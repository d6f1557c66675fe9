/- l1Spoil: a place is perhaps spoiled. Conditions: the cursor and its bytes lie in memory as the reading says. -/
import Derived.Test.YtknffngbdakblaaJG00
import Derived.Test.YtknffngbdakblaaJDrawRightR
import Derived.Test.YtknffngbdakblaaJDraw1
import Derived.Test.YtknffngbdakblaaJCursor
import Derived.Test.YtknffngbdakblaaJDraw2
namespace Go.Proofs.Ytknffngbdakblaa
set_option linter.unusedSimpArgs false
set_option linter.unusedVariables false
set_option maxRecDepth 100000
open Go.RowKit
theorem Res.of_below {w w' : World} {R B : Nat} (h : Res w R) (hb : Below B w w') (hR : R < B) : Res w' R :=
 ⟨fun j hj => by rw [hb.cell (p := ⟨R, j, none⟩) hR]; exact h.1 j hj, fun j => by rw [hb.frozen (p := ⟨R, j, none⟩) hR]; exact h.2.1 j, by have := hb.size; have := h.2.2; omega⟩
/- five numbers in a block -/
def Has (w : World) (X : Nat) (o r a b m : Int) : Prop := w.cell? ⟨X, 0, none⟩ = some (.int .i64 o) ∧ w.cell? ⟨X, 1, none⟩ = some (.int .i64 r) ∧ w.cell? ⟨X, 2, none⟩ = some (.int .i64 a) ∧ w.cell? ⟨X, 3, none⟩ = some (.int .i64 b) ∧ w.cell? ⟨X, 4, none⟩ = some (.int .i64 m)
theorem Has.but {w w' : World} {X p : Nat} {o r a b m : Int} (h : Has w X o r a b m) (hb : But p w w') (hX : X < w.heap.size) (hp : X ≠ p) : Has w' X o r a b m :=
 ⟨(hb.cell (p := ⟨X, 0, none⟩) hX hp).trans h.1, (hb.cell (p := ⟨X, 1, none⟩) hX hp).trans h.2.1, (hb.cell (p := ⟨X, 2, none⟩) hX hp).trans h.2.2.1, (hb.cell (p := ⟨X, 3, none⟩) hX hp).trans h.2.2.2.1, (hb.cell (p := ⟨X, 4, none⟩) hX hp).trans h.2.2.2.2⟩
set_option maxRecDepth 100000 in
set_option maxHeartbeats 4000000 in
theorem spoil_cb (p : Nat) (s : Option Addr) (n c : Nat) (o r a b m : Int) (w : World) (h : CB w p s n c) :
  Calls Try.prog 19 #[.pointer (some ⟨p, 0, none⟩), .agg #[.int .i64 o, .int .i64 r, .int .i64 a, .int .i64 b, .int .i64 m]] w fun e w' => ∃ o r a b m : Int, e = .returned (.agg #[.int .i64 o, .int .i64 r, .int .i64 a, .int .i64 b, .int .i64 m]) ∧ CB w' p s n c ∧ But p w w' := by
 have H0 : Hid (CB ((w.alloc (.cells #[.int .i64 o, .int .i64 r, .int .i64 a, .int .i64 b, .int .i64 m] 57)).alloc (.cells #[.int .i64 0, .int .i64 0, .int .i64 0, .int .i64 0, .int .i64 0] 57)) p s n c) := (h.alloc _).alloc _
 have hp := h.lt
 have B0 : Hid (But p w ((w.alloc (.cells #[.int .i64 o, .int .i64 r, .int .i64 a, .int .i64 b, .int .i64 m] 57)).alloc (.cells #[.int .i64 0, .int .i64 0, .int .i64 0, .int .i64 0, .int .i64 0] 57))) := ((But.refl _ _).alloc _).alloc _
 have R0 : Hid (Res ((w.alloc (.cells #[.int .i64 o, .int .i64 r, .int .i64 a, .int .i64 b, .int .i64 m] 57)).alloc (.cells #[.int .i64 0, .int .i64 0, .int .i64 0, .int .i64 0, .int .i64 0] 57)) (w.heap.size + 1)) := by
  have := res_new (w.alloc (.cells #[.int .i64 o, .int .i64 r, .int .i64 a, .int .i64 b, .int .i64 m] 57)) (.int .i64 0) (.int .i64 0) (.int .i64 0) (.int .i64 0) (.int .i64 0) 57
  simp only [World.size_alloc] at this
  exact this
 have X0 : Hid (Has ((w.alloc (.cells #[.int .i64 o, .int .i64 r, .int .i64 a, .int .i64 b, .int .i64 m] 57)).alloc (.cells #[.int .i64 0, .int .i64 0, .int .i64 0, .int .i64 0, .int .i64 0] 57)) w.heap.size o r a b m) := ⟨by simp [go_sem], by simp [go_sem], by simp [go_sem], by simp [go_sem], by simp [go_sem]⟩
 have Y0 : Hid (Res ((w.alloc (.cells #[.int .i64 o, .int .i64 r, .int .i64 a, .int .i64 b, .int .i64 m] 57)).alloc (.cells #[.int .i64 0, .int .i64 0, .int .i64 0, .int .i64 0, .int .i64 0] 57)) w.heap.size) := (res_new w (.int .i64 o) (.int .i64 r) (.int .i64 a) (.int .i64 b) (.int .i64 m) 57).of_below ((Below.refl _ _).alloc (Nat.le_refl _) _) (by simp)
 clear h
 go_enter Try.func19, Try.ntmps19
 go_wp2_with fail
 refine (below_cb p s n c 8 _ H0.out (by omega) (by omega)).mono ?_
 rintro e w1 ⟨t, rfl, t0, t1, hc, hb⟩
 have H1 : Hid (CB w1 p s n c) := hc
 have B1 : Hid (But p w w1) := B0.out.trans hb
 have R1 : Hid (Res w1 (w.heap.size + 1)) := R0.out.but hb (by omega)
 have X1 : Hid (Has w1 w.heap.size o r a b m) := X0.out.but hb (by simp; omega) (by omega)
 have Y1 : Hid (Res w1 w.heap.size) := Y0.out.but hb (by omega)
 have hz1 : w.heap.size + 1 < w1.heap.size := R1.out.2.2
 clear hc hb H0 B0 R0 X0 Y0
 have ht : t = 0 ∨ t = 1 ∨ t = 2 ∨ t = 3 ∨ t = 4 ∨ (t = 5 ∨ t = 6 ∨ t = 7) := by omega
 clear t0 t1
 rcases ht with rfl | rfl | rfl | rfl | rfl | ht
 ·go_wp2_with fail
  refine (below_cb p s n c 16 _ H1.out (by omega) (by omega)).mono ?_
  rintro e w2 ⟨x, rfl, x0, x1, hc, hb⟩
  have H2 : Hid (CB w2 p s n c) := hc
  have B2 : Hid (But p w w2) := B1.out.trans hb
  have R2 : Hid (Res w2 (w.heap.size + 1)) := R1.out.but hb (by omega)
  have X2 : Hid (Has w2 w.heap.size o r a b m) := X1.out.but hb (by omega) (by omega)
  have Y2 : Hid (Res w2 w.heap.size) := Y1.out.but hb (by omega)
  clear hc hb H1 B1 R1 X1 Y1
  obtain ⟨f0, f1, f2, f3, f4⟩ := X2.out
  have z := Y2.out.2.1
  obtain ⟨u0, u1, u2, u3, u4, g0, g1, g2, g3, g4⟩ := R2.out.at
  have z' := R2.out.2.1
  go_wp2
  exact bodyPost_ret (v := .agg #[.int .i64 (x - 1), .int .i64 r, .int .i64 a, .int .i64 b, .int .i64 m]) (by simp [results, Try.results19, go_sem, g0, g1, g2, g3, g4]) rfl ⟨_, _, _, _, _, rfl, (H2.out.set (a := ⟨w.heap.size, 0, none⟩) hp).set5v (by omega), but_set5v (but_set1 B2.out (Nat.le_refl _)) (by omega)⟩
 ·go_wp2_with fail
  refine (below_cb p s n c 6 _ H1.out (by omega) (by omega)).mono ?_
  rintro e w2 ⟨x, rfl, x0, x1, hc, hb⟩
  have H2 : Hid (CB w2 p s n c) := hc
  have B2 : Hid (But p w w2) := B1.out.trans hb
  have R2 : Hid (Res w2 (w.heap.size + 1)) := R1.out.but hb (by omega)
  have X2 : Hid (Has w2 w.heap.size o r a b m) := X1.out.but hb (by omega) (by omega)
  have Y2 : Hid (Res w2 w.heap.size) := Y1.out.but hb (by omega)
  clear hc hb H1 B1 R1 X1 Y1
  obtain ⟨f0, f1, f2, f3, f4⟩ := X2.out
  have z := Y2.out.2.1
  obtain ⟨u0, u1, u2, u3, u4, g0, g1, g2, g3, g4⟩ := R2.out.at
  have z' := R2.out.2.1
  go_wp2
  exact bodyPost_ret (v := .agg #[.int .i64 o, .int .i64 (x - 1), .int .i64 a, .int .i64 b, .int .i64 m]) (by simp [results, Try.results19, go_sem, g0, g1, g2, g3, g4]) rfl ⟨_, _, _, _, _, rfl, (H2.out.set (a := ⟨w.heap.size, 1, none⟩) hp).set5v (by omega), but_set5v (but_set1 B2.out (Nat.le_refl _)) (by omega)⟩
 ·go_wp2_with fail
  refine (below_cb p s n c 6 _ H1.out (by omega) (by omega)).mono ?_
  rintro e w2 ⟨x, rfl, x0, x1, hc, hb⟩
  have H2 : Hid (CB w2 p s n c) := hc
  have B2 : Hid (But p w w2) := B1.out.trans hb
  have R2 : Hid (Res w2 (w.heap.size + 1)) := R1.out.but hb (by omega)
  have X2 : Hid (Has w2 w.heap.size o r a b m) := X1.out.but hb (by omega) (by omega)
  have Y2 : Hid (Res w2 w.heap.size) := Y1.out.but hb (by omega)
  clear hc hb H1 B1 R1 X1 Y1
  obtain ⟨f0, f1, f2, f3, f4⟩ := X2.out
  have z := Y2.out.2.1
  obtain ⟨u0, u1, u2, u3, u4, g0, g1, g2, g3, g4⟩ := R2.out.at
  have z' := R2.out.2.1
  go_wp2
  exact bodyPost_ret (v := .agg #[.int .i64 o, .int .i64 r, .int .i64 (x - 1), .int .i64 b, .int .i64 m]) (by simp [results, Try.results19, go_sem, g0, g1, g2, g3, g4]) rfl ⟨_, _, _, _, _, rfl, (H2.out.set (a := ⟨w.heap.size, 2, none⟩) hp).set5v (by omega), but_set5v (but_set1 B2.out (Nat.le_refl _)) (by omega)⟩
 ·go_wp2_with fail
  refine (below_cb p s n c 6 _ H1.out (by omega) (by omega)).mono ?_
  rintro e w2 ⟨x, rfl, x0, x1, hc, hb⟩
  have H2 : Hid (CB w2 p s n c) := hc
  have B2 : Hid (But p w w2) := B1.out.trans hb
  have R2 : Hid (Res w2 (w.heap.size + 1)) := R1.out.but hb (by omega)
  have X2 : Hid (Has w2 w.heap.size o r a b m) := X1.out.but hb (by omega) (by omega)
  have Y2 : Hid (Res w2 w.heap.size) := Y1.out.but hb (by omega)
  clear hc hb H1 B1 R1 X1 Y1
  obtain ⟨f0, f1, f2, f3, f4⟩ := X2.out
  have z := Y2.out.2.1
  obtain ⟨u0, u1, u2, u3, u4, g0, g1, g2, g3, g4⟩ := R2.out.at
  have z' := R2.out.2.1
  go_wp2
  exact bodyPost_ret (v := .agg #[.int .i64 o, .int .i64 r, .int .i64 a, .int .i64 (x - 1), .int .i64 m]) (by simp [results, Try.results19, go_sem, g0, g1, g2, g3, g4]) rfl ⟨_, _, _, _, _, rfl, (H2.out.set (a := ⟨w.heap.size, 3, none⟩) hp).set5v (by omega), but_set5v (but_set1 B2.out (Nat.le_refl _)) (by omega)⟩
 ·go_wp2_with fail
  have kl : Below w1.heap.size w1 (w1.alloc (.cells #[.int .i64 (-1), .int .i64 0, .int .i64 3, .int .i64 23, .int .i64 24, .int .i64 1000000000, .int .i64 1000000001] 3)) := (Below.refl _ _).alloc (Nat.le_refl _) _
  refine (pick_cb p s n c w1.heap.size 7 [-1, 0, 3, 23, 24, 1000000000, 1000000001] _ (H1.out.keep kl) rfl (by simp) (by simp) (by simp) (by omega) (fun i hi => by match i, hi with | 0, _ => simp [go_sem] | 1, _ => simp [go_sem] | 2, _ => simp [go_sem] | 3, _ => simp [go_sem] | 4, _ => simp [go_sem] | 5, _ => simp [go_sem] | 6, _ => simp [go_sem])).mono ?_
  rintro e w2 ⟨x, rfl, -, hc, hb⟩
  have H2 : Hid (CB w2 p s n c) := hc
  have hb2 : But p w1 w2 := (But.of_below kl).trans hb
  have B2 : Hid (But p w w2) := B1.out.trans hb2
  have R2 : Hid (Res w2 (w.heap.size + 1)) := R1.out.but hb2 (by omega)
  have X2 : Hid (Has w2 w.heap.size o r a b m) := X1.out.but hb2 (by omega) (by omega)
  have Y2 : Hid (Res w2 w.heap.size) := Y1.out.but hb2 (by omega)
  clear hc hb hb2 kl H1 B1 R1 X1 Y1
  obtain ⟨f0, f1, f2, f3, f4⟩ := X2.out
  have z := Y2.out.2.1
  obtain ⟨u0, u1, u2, u3, u4, g0, g1, g2, g3, g4⟩ := R2.out.at
  have z' := R2.out.2.1
  go_wp2
  exact bodyPost_ret (v := .agg #[.int .i64 o, .int .i64 r, .int .i64 a, .int .i64 b, .int .i64 x]) (by simp [results, Try.results19, go_sem, g0, g1, g2, g3, g4]) rfl ⟨_, _, _, _, _, rfl, (H2.out.set (a := ⟨w.heap.size, 4, none⟩) hp).set5v (by omega), but_set5v (but_set1 B2.out (Nat.le_refl _)) (by omega)⟩
 ·have n0 : (t == 0) = false := by simp; omega
  have n1 : (t == 1) = false := by simp; omega
  have n2 : (t == 2) = false := by simp; omega
  have n3 : (t == 3) = false := by simp; omega
  have n4 : (t == 4) = false := by simp; omega
  clear ht
  obtain ⟨f0, f1, f2, f3, f4⟩ := X1.out
  have z := Y1.out.2.1
  obtain ⟨u0, u1, u2, u3, u4, g0, g1, g2, g3, g4⟩ := R1.out.at
  have z' := R1.out.2.1
  go_wp2
  exact bodyPost_ret (v := .agg #[.int .i64 o, .int .i64 r, .int .i64 a, .int .i64 b, .int .i64 m]) (by simp [results, Try.results19, go_sem, g0, g1, g2, g3, g4]) rfl ⟨_, _, _, _, _, rfl, H1.out.set5v (by omega), but_set5v B1.out (by omega)⟩
end Go.Proofs.Ytknffngbdakblaa
