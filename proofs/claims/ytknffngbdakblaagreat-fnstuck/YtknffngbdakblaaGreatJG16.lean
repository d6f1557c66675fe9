/- l1Spoil: a place is perhaps spoiled. Conditions: the cursor and its bytes lie in memory as the reading says. Rows of places that a draw makes and grows: as long as every cell is a number they read as a list of places. No condition. -/
import Derived.Test.YtknffngbdakblaaGreatJG00
import Derived.Test.YtknffngbdakblaaGreatJDrawRightR
import Derived.Test.YtknffngbdakblaaGreatJG10
import Derived.Test.YtknffngbdakblaaGreatJG14
import Derived.Test.YtknffngbdakblaaGreatJDraw2
import Derived.Test.YtknffngbdakblaaGreatJG01
import Derived.Test.YtknffngbdakblaaGreatJDrawBodyR
import Derived.Deep.AppendLies
import Derived.Deep.Slices
import Derived.Laws.OwnMore
namespace Go.Proofs.YtknffngbdakblaaGreat
section
set_option linter.unusedSimpArgs false
set_option linter.unusedVariables false
set_option maxRecDepth 100000
open Go.RowKit
theorem Res.of_below {w w' : World} {R B : Nat} (h : Res w R) (hb : Below B w w') (hR : R < B) : Res w' R :=
 ⟨fun j hj => by rw [hb.cell (p := ⟨R, j, none⟩) hR]; exact h.1 j hj, fun j => by rw [hb.frozen (p := ⟨R, j, none⟩) hR]; exact h.2.1 j, by have := hb.size; have := h.2.2; omega⟩
/- five numbers in a block -/
def Has (w : World) (X : Nat) (o r a b m : Int) : Prop := w.cell? ⟨X, 0, none⟩ = some (.int .i64 o) ∧ w.cell? ⟨X, 1, none⟩ = some (.int .i64 r) ∧ w.cell? ⟨X, 2, none⟩ = some (.int .i64 a) ∧ w.cell? ⟨X, 3, none⟩ = some (.int .i64 b) ∧ w.cell? ⟨X, 4, none⟩ = some (.int .i64 m)
theorem Has.but {w w' : World} {X p : Nat} {o r a b m : Int} (h : Has w X o r a b m) (hb : But p w w') (hX : X < w.heap.size) (hp : X ≠ p) : Has w' X o r a b m :=
 ⟨(hb.cell (p := ⟨X, 0, none⟩) hX hp).trans h.1, (hb.cell (p := ⟨X, 1, none⟩) hX hp).trans h.2.1, (hb.cell (p := ⟨X, 2, none⟩) hX hp).trans h.2.2.1, (hb.cell (p := ⟨X, 3, none⟩) hX hp).trans h.2.2.2.1, (hb.cell (p := ⟨X, 4, none⟩) hX hp).trans h.2.2.2.2⟩
set_option maxRecDepth 100000 in
set_option maxHeartbeats 4000000 in
theorem spoil_cb (p : Nat) (s : Option Addr) (n c : Nat) (o r a b m : Int) (w : World) (h : CB w p s n c) :
  Calls Tryz.prog 60 #[.pointer (some ⟨p, 0, none⟩), .agg #[.int .i64 o, .int .i64 r, .int .i64 a, .int .i64 b, .int .i64 m]] w fun e w' => ∃ o r a b m : Int, e = .returned (.agg #[.int .i64 o, .int .i64 r, .int .i64 a, .int .i64 b, .int .i64 m]) ∧ CB w' p s n c ∧ But p w w' := by
 have H0 : Hid (CB ((w.alloc (.cells #[.int .i64 o, .int .i64 r, .int .i64 a, .int .i64 b, .int .i64 m] 85)).alloc (.cells #[.int .i64 0, .int .i64 0, .int .i64 0, .int .i64 0, .int .i64 0] 85)) p s n c) := (h.alloc _).alloc _
 have hp := h.lt
 have B0 : Hid (But p w ((w.alloc (.cells #[.int .i64 o, .int .i64 r, .int .i64 a, .int .i64 b, .int .i64 m] 85)).alloc (.cells #[.int .i64 0, .int .i64 0, .int .i64 0, .int .i64 0, .int .i64 0] 85))) := ((But.refl _ _).alloc _).alloc _
 have R0 : Hid (Res ((w.alloc (.cells #[.int .i64 o, .int .i64 r, .int .i64 a, .int .i64 b, .int .i64 m] 85)).alloc (.cells #[.int .i64 0, .int .i64 0, .int .i64 0, .int .i64 0, .int .i64 0] 85)) (w.heap.size + 1)) := by
  have := res_new (w.alloc (.cells #[.int .i64 o, .int .i64 r, .int .i64 a, .int .i64 b, .int .i64 m] 85)) (.int .i64 0) (.int .i64 0) (.int .i64 0) (.int .i64 0) (.int .i64 0) 85
  simp only [World.size_alloc] at this
  exact this
 have X0 : Hid (Has ((w.alloc (.cells #[.int .i64 o, .int .i64 r, .int .i64 a, .int .i64 b, .int .i64 m] 85)).alloc (.cells #[.int .i64 0, .int .i64 0, .int .i64 0, .int .i64 0, .int .i64 0] 85)) w.heap.size o r a b m) := ⟨by simp [go_sem], by simp [go_sem], by simp [go_sem], by simp [go_sem], by simp [go_sem]⟩
 have Y0 : Hid (Res ((w.alloc (.cells #[.int .i64 o, .int .i64 r, .int .i64 a, .int .i64 b, .int .i64 m] 85)).alloc (.cells #[.int .i64 0, .int .i64 0, .int .i64 0, .int .i64 0, .int .i64 0] 85)) w.heap.size) := (res_new w (.int .i64 o) (.int .i64 r) (.int .i64 a) (.int .i64 b) (.int .i64 m) 85).of_below ((Below.refl _ _).alloc (Nat.le_refl _) _) (by simp)
 clear h
 go_enter Tryz.func60, Tryz.ntmps60
 go_wp2_with fail
 refine (below_cb p s n c 8 _ H0.out (by omega) (by omega)).mono ?_
 rintro e w1 ⟨t, rfl, t0, t1, hc, hb⟩
 have H1 : Hid (CB w1 p s n c) := hc
 have B1 : Hid (But p w w1) := B0.out.trans hb
 have R1 : Hid (Res w1 (w.heap.size + 1)) := R0.out.but hb (by omega)
 have X1 : Hid (Has w1 w.heap.size o r a b m) := X0.out.but hb (by simp; omega) (by omega)
 have Y1 : Hid (Res w1 w.heap.size) := Y0.out.but hb (by omega)
 have hz1 : w.heap.size + 1 < w1.heap.size := R1.out.2.2
 clear hc hb H0 B0 R0 X0 Y0
 have ht : t = 0 ∨ t = 1 ∨ t = 2 ∨ t = 3 ∨ t = 4 ∨ (t = 5 ∨ t = 6 ∨ t = 7) := by omega
 clear t0 t1
 rcases ht with rfl | rfl | rfl | rfl | rfl | ht
 ·go_wp2_with fail
  refine (below_cb p s n c 16 _ H1.out (by omega) (by omega)).mono ?_
  rintro e w2 ⟨x, rfl, x0, x1, hc, hb⟩
  have H2 : Hid (CB w2 p s n c) := hc
  have B2 : Hid (But p w w2) := B1.out.trans hb
  have R2 : Hid (Res w2 (w.heap.size + 1)) := R1.out.but hb (by omega)
  have X2 : Hid (Has w2 w.heap.size o r a b m) := X1.out.but hb (by omega) (by omega)
  have Y2 : Hid (Res w2 w.heap.size) := Y1.out.but hb (by omega)
  clear hc hb H1 B1 R1 X1 Y1
  obtain ⟨f0, f1, f2, f3, f4⟩ := X2.out
  have z := Y2.out.2.1
  obtain ⟨u0, u1, u2, u3, u4, g0, g1, g2, g3, g4⟩ := R2.out.at
  have z' := R2.out.2.1
  go_wp2
  exact bodyPost_ret (v := .agg #[.int .i64 (x - 1), .int .i64 r, .int .i64 a, .int .i64 b, .int .i64 m]) (by simp [results, Tryz.results60, go_sem, g0, g1, g2, g3, g4]) rfl ⟨_, _, _, _, _, rfl, (H2.out.set (a := ⟨w.heap.size, 0, none⟩) hp).set5v (by omega), but_set5v (but_set1 B2.out (Nat.le_refl _)) (by omega)⟩
 ·go_wp2_with fail
  refine (below_cb p s n c 6 _ H1.out (by omega) (by omega)).mono ?_
  rintro e w2 ⟨x, rfl, x0, x1, hc, hb⟩
  have H2 : Hid (CB w2 p s n c) := hc
  have B2 : Hid (But p w w2) := B1.out.trans hb
  have R2 : Hid (Res w2 (w.heap.size + 1)) := R1.out.but hb (by omega)
  have X2 : Hid (Has w2 w.heap.size o r a b m) := X1.out.but hb (by omega) (by omega)
  have Y2 : Hid (Res w2 w.heap.size) := Y1.out.but hb (by omega)
  clear hc hb H1 B1 R1 X1 Y1
  obtain ⟨f0, f1, f2, f3, f4⟩ := X2.out
  have z := Y2.out.2.1
  obtain ⟨u0, u1, u2, u3, u4, g0, g1, g2, g3, g4⟩ := R2.out.at
  have z' := R2.out.2.1
  go_wp2
  exact bodyPost_ret (v := .agg #[.int .i64 o, .int .i64 (x - 1), .int .i64 a, .int .i64 b, .int .i64 m]) (by simp [results, Tryz.results60, go_sem, g0, g1, g2, g3, g4]) rfl ⟨_, _, _, _, _, rfl, (H2.out.set (a := ⟨w.heap.size, 1, none⟩) hp).set5v (by omega), but_set5v (but_set1 B2.out (Nat.le_refl _)) (by omega)⟩
 ·go_wp2_with fail
  refine (below_cb p s n c 6 _ H1.out (by omega) (by omega)).mono ?_
  rintro e w2 ⟨x, rfl, x0, x1, hc, hb⟩
  have H2 : Hid (CB w2 p s n c) := hc
  have B2 : Hid (But p w w2) := B1.out.trans hb
  have R2 : Hid (Res w2 (w.heap.size + 1)) := R1.out.but hb (by omega)
  have X2 : Hid (Has w2 w.heap.size o r a b m) := X1.out.but hb (by omega) (by omega)
  have Y2 : Hid (Res w2 w.heap.size) := Y1.out.but hb (by omega)
  clear hc hb H1 B1 R1 X1 Y1
  obtain ⟨f0, f1, f2, f3, f4⟩ := X2.out
  have z := Y2.out.2.1
  obtain ⟨u0, u1, u2, u3, u4, g0, g1, g2, g3, g4⟩ := R2.out.at
  have z' := R2.out.2.1
  go_wp2
  exact bodyPost_ret (v := .agg #[.int .i64 o, .int .i64 r, .int .i64 (x - 1), .int .i64 b, .int .i64 m]) (by simp [results, Tryz.results60, go_sem, g0, g1, g2, g3, g4]) rfl ⟨_, _, _, _, _, rfl, (H2.out.set (a := ⟨w.heap.size, 2, none⟩) hp).set5v (by omega), but_set5v (but_set1 B2.out (Nat.le_refl _)) (by omega)⟩
 ·go_wp2_with fail
  refine (below_cb p s n c 6 _ H1.out (by omega) (by omega)).mono ?_
  rintro e w2 ⟨x, rfl, x0, x1, hc, hb⟩
  have H2 : Hid (CB w2 p s n c) := hc
  have B2 : Hid (But p w w2) := B1.out.trans hb
  have R2 : Hid (Res w2 (w.heap.size + 1)) := R1.out.but hb (by omega)
  have X2 : Hid (Has w2 w.heap.size o r a b m) := X1.out.but hb (by omega) (by omega)
  have Y2 : Hid (Res w2 w.heap.size) := Y1.out.but hb (by omega)
  clear hc hb H1 B1 R1 X1 Y1
  obtain ⟨f0, f1, f2, f3, f4⟩ := X2.out
  have z := Y2.out.2.1
  obtain ⟨u0, u1, u2, u3, u4, g0, g1, g2, g3, g4⟩ := R2.out.at
  have z' := R2.out.2.1
  go_wp2
  exact bodyPost_ret (v := .agg #[.int .i64 o, .int .i64 r, .int .i64 a, .int .i64 (x - 1), .int .i64 m]) (by simp [results, Tryz.results60, go_sem, g0, g1, g2, g3, g4]) rfl ⟨_, _, _, _, _, rfl, (H2.out.set (a := ⟨w.heap.size, 3, none⟩) hp).set5v (by omega), but_set5v (but_set1 B2.out (Nat.le_refl _)) (by omega)⟩
 ·go_wp2_with fail
  have kl : Below w1.heap.size w1 (w1.alloc (.cells #[.int .i64 (-1), .int .i64 0, .int .i64 3, .int .i64 23, .int .i64 24, .int .i64 1000000000, .int .i64 1000000001] 3)) := (Below.refl _ _).alloc (Nat.le_refl _) _
  refine (pick_cb p s n c w1.heap.size 7 [-1, 0, 3, 23, 24, 1000000000, 1000000001] _ (H1.out.keep kl) rfl (by simp) (by simp) (by simp) (by omega) (fun i hi => by match i, hi with | 0, _ => simp [go_sem] | 1, _ => simp [go_sem] | 2, _ => simp [go_sem] | 3, _ => simp [go_sem] | 4, _ => simp [go_sem] | 5, _ => simp [go_sem] | 6, _ => simp [go_sem])).mono ?_
  rintro e w2 ⟨x, rfl, -, hc, hb⟩
  have H2 : Hid (CB w2 p s n c) := hc
  have hb2 : But p w1 w2 := (But.of_below kl).trans hb
  have B2 : Hid (But p w w2) := B1.out.trans hb2
  have R2 : Hid (Res w2 (w.heap.size + 1)) := R1.out.but hb2 (by omega)
  have X2 : Hid (Has w2 w.heap.size o r a b m) := X1.out.but hb2 (by omega) (by omega)
  have Y2 : Hid (Res w2 w.heap.size) := Y1.out.but hb2 (by omega)
  clear hc hb hb2 kl H1 B1 R1 X1 Y1
  obtain ⟨f0, f1, f2, f3, f4⟩ := X2.out
  have z := Y2.out.2.1
  obtain ⟨u0, u1, u2, u3, u4, g0, g1, g2, g3, g4⟩ := R2.out.at
  have z' := R2.out.2.1
  go_wp2
  exact bodyPost_ret (v := .agg #[.int .i64 o, .int .i64 r, .int .i64 a, .int .i64 b, .int .i64 x]) (by simp [results, Tryz.results60, go_sem, g0, g1, g2, g3, g4]) rfl ⟨_, _, _, _, _, rfl, (H2.out.set (a := ⟨w.heap.size, 4, none⟩) hp).set5v (by omega), but_set5v (but_set1 B2.out (Nat.le_refl _)) (by omega)⟩
 ·have n0 : (t == 0) = false := by simp; omega
  have n1 : (t == 1) = false := by simp; omega
  have n2 : (t == 2) = false := by simp; omega
  have n3 : (t == 3) = false := by simp; omega
  have n4 : (t == 4) = false := by simp; omega
  clear ht
  obtain ⟨f0, f1, f2, f3, f4⟩ := X1.out
  have z := Y1.out.2.1
  obtain ⟨u0, u1, u2, u3, u4, g0, g1, g2, g3, g4⟩ := R1.out.at
  have z' := R1.out.2.1
  go_wp2
  exact bodyPost_ret (v := .agg #[.int .i64 o, .int .i64 r, .int .i64 a, .int .i64 b, .int .i64 m]) (by simp [results, Tryz.results60, go_sem, g0, g1, g2, g3, g4]) rfl ⟨_, _, _, _, _, rfl, H1.out.set5v (by omega), but_set5v B1.out (by omega)⟩
end
section
set_option linter.unusedSimpArgs false
set_option linter.unusedVariables false
set_option maxRecDepth 100000
open Go.RowKit Go.Deep
def AllInt (xs : List Value) : Prop := ∀ u ∈ xs, ∃ z : Int, u = .int .i64 z
/- v is a row of n places in a block from base on -/
def OwnI (w : World) (base : Nat) (v : Value) (n : Nat) : Prop := ∃ xs, w.ownsRow base 85 5 v n xs ∧ AllInt xs
/- v is a row of n numbers -/
def OwnC (w : World) (base : Nat) (v : Value) (n : Nat) : Prop := ∃ xs, w.ownsRow base 3 1 v n xs ∧ AllInt xs
theorem AllInt.set {xs : List Value} (h : AllInt xs) (k : Nat) (z : Int) : AllInt (xs.set k (.int .i64 z)) := by
 intro u hu
 rcases List.mem_or_eq_of_mem_set hu with h1 | h1
 ·exact h u h1
 ·exact ⟨z, h1⟩
theorem AllInt.append {xs ys : List Value} (h : AllInt xs) (h' : AllInt ys) : AllInt (xs ++ ys) := by
 intro u hu
 rcases List.mem_append.1 hu with h1 | h1
 ·exact h u h1
 ·exact h' u h1
theorem OwnI.but {w w' : World} {base n p : Nat} {v : Value} (h : OwnI w base v n) (hb : But p w w') (hp : p < base) : OwnI w' base v n := by
 obtain ⟨xs, h1, h2⟩ := h
 exact ⟨xs, own_block h1 (fun k h3 h4 => hb.block k h4 (by omega)), h2⟩
theorem OwnC.but {w w' : World} {base n p : Nat} {v : Value} (h : OwnC w base v n) (hb : But p w w') (hp : p < base) : OwnC w' base v n := by
 obtain ⟨xs, h1, h2⟩ := h
 exact ⟨xs, own_block h1 (fun k h3 h4 => hb.block k h4 (by omega)), h2⟩
theorem OwnI.keep {w w' : World} {base n : Nat} {v : Value} (h : OwnI w base v n) (hb : Below w.heap.size w w') : OwnI w' base v n := by
 obtain ⟨xs, h1, h2⟩ := h
 exact ⟨xs, own_block h1 (fun k h3 h4 => hb.block k h4), h2⟩
theorem OwnC.keep {w w' : World} {base n : Nat} {v : Value} (h : OwnC w base v n) (hb : Below w.heap.size w w') : OwnC w' base v n := by
 obtain ⟨xs, h1, h2⟩ := h
 exact ⟨xs, own_block h1 (fun k h3 h4 => hb.block k h4), h2⟩
theorem heap_set {w : World} {g k : Nat} {v : Value} {cur : Array Value} {e : TypeId} {fr : Nat × Nat} (h : w.heap[g]? = some (.cells cur e fr)) : (w.setCell ⟨g, k, none⟩ v).heap[g]? = some (.cells (cur.setIfInBounds k v) e fr) := by
 simp only [World.setCell, Array.getElem?_modify, h]
 simp
theorem OwnI.set {w : World} {base n g' k : Nat} {v : Value} (h : OwnI w base v n) (z : Int) : OwnI (w.setCell ⟨g', k, none⟩ (.int .i64 z)) base v n := by
 obtain ⟨xs, ⟨h1, h2⟩, h3⟩ := h
 rcases h2 with h2 | ⟨g, cap, cur, rfl, hb, hg, hr⟩
 ·exact ⟨xs, ⟨h1, .inl h2⟩, h3⟩
 ·by_cases e : g = g'
  ·subst e
   have := (World.ownsRow.stored (w := w) (base := base) (e := 85) (size := 5) (g := g) (n := n) (cap := cap) (xs := xs) ⟨h1, .inr ⟨g, cap, cur, rfl, hb, hg, hr⟩⟩ k (.int .i64 z)).1
   exact ⟨_, this, h3.set k z⟩
  ·refine ⟨xs, ⟨h1, .inr ⟨g, cap, cur, rfl, hb, ?_, hr⟩⟩, h3⟩
   rw [Below.heap_setCell w ⟨g', k, none⟩ _ g e]
   exact hg
theorem own_cell {w : World} {base size n g cap k : Nat} {e : TypeId} {xs : List Value} (h : w.ownsRow base e size (.slice (some ⟨g, 0, none⟩) n cap) n xs) (hk : k < n * size) : ∃ u, w.cell? ⟨g, k, none⟩ = some u ∧ u ∈ xs ∧ w.frozen? ⟨g, k, none⟩ = false ∧ base ≤ g ∧ g < w.heap.size := by
 obtain ⟨h1, h2⟩ := h
 rcases h2 with ⟨h2, -⟩ | ⟨g', cap', cur, hv, hb, hg, hnc, hcm, hcs, htake⟩
 ·cases h2
 ·simp only [Value.slice.injEq, Option.some.injEq, Addr.mk.injEq, and_true, true_and] at hv
  obtain ⟨rfl, rfl⟩ := hv
  have hlt : g < w.heap.size := by
   apply Classical.byContradiction
   intro hn
   rw [Array.getElem?_eq_none (by omega)] at hg
   cases hg
  have hkc : k < cur.size := by
   rw [hcs]
   exact Nat.lt_of_lt_of_le hk (Nat.mul_le_mul_right _ hnc)
  refine ⟨cur[k], ?_, ?_, ?_, hb, hlt⟩
  ·simp [World.cell?, hg, hkc]
  ·rw [← htake]
   have : (cur.toList.take (n * size))[k]? = some cur[k] := by
    rw [List.getElem?_take, if_pos hk]
    simp [hkc]
   exact List.mem_of_getElem? this
  ·simp [World.frozen?, hg]
theorem OwnI.ins {w : World} {base n : Nat} {v : Value} (h : OwnI w base v n) : ∃ (s : Option Addr) (c : Nat) (l : List I5), v = .slice s l.length c ∧ l.length = n ∧ InsR w base w.heap.size s l := by
 obtain ⟨xs, h1, h2⟩ := h
 rcases h1.2 with ⟨rfl, rfl⟩ | ⟨g, cap, cur, rfl, hb, hg, hr⟩
 ·exact ⟨none, 0, [], rfl, rfl, .inl rfl⟩
 ·obtain ⟨Z, hZ⟩ := @choose_lt Int ⟨0⟩ (n * 5) (fun k z => w.cell? ⟨g, k, none⟩ = some (.int .i64 z)) (fun k hk => by
   obtain ⟨u, h3, h4, -⟩ := own_cell h1 hk
   obtain ⟨z, rfl⟩ := h2 u h4
   exact ⟨z, h3⟩)
  refine ⟨some ⟨g, 0, none⟩, cap, (List.range n).map fun i => ⟨Z (i * 5), Z (i * 5 + 1), Z (i * 5 + 2), Z (i * 5 + 3), Z (i * 5 + 4)⟩, by simp, by simp, ?_⟩
  by_cases h0 : n = 0
  ·left; subst h0; rfl
  ·right
   obtain ⟨u, -, -, -, h5, h6⟩ := own_cell (k := 0) h1 (by omega)
   refine ⟨g, 0, rfl, h5, h6, ?_⟩
   intro i hi
   simp at hi
   have e : ((List.range n).map fun i => (⟨Z (i * 5), Z (i * 5 + 1), Z (i * 5 + 2), Z (i * 5 + 3), Z (i * 5 + 4)⟩ : I5)).getD i z5 = ⟨Z (i * 5), Z (i * 5 + 1), Z (i * 5 + 2), Z (i * 5 + 3), Z (i * 5 + 4)⟩ := by simp [hi]
   rw [e, Nat.zero_add]
   exact ⟨hZ _ (by omega), hZ _ (by omega), hZ _ (by omega), hZ _ (by omega), hZ _ (by omega)⟩
theorem OwnC.ints {w : World} {base n : Nat} {v : Value} (h : OwnC w base v n) : ∃ (s : Option Addr) (c : Nat) (l : List Int), v = .slice s l.length c ∧ l.length = n ∧ IntsR w base w.heap.size s l := by
 obtain ⟨xs, h1, h2⟩ := h
 rcases h1.2 with ⟨rfl, rfl⟩ | ⟨g, cap, cur, rfl, hb, hg, hr⟩
 ·exact ⟨none, 0, [], rfl, rfl, .inl rfl⟩
 ·obtain ⟨Z, hZ⟩ := @choose_lt Int ⟨0⟩ n (fun k z => w.cell? ⟨g, k, none⟩ = some (.int .i64 z)) (fun k hk => by
   obtain ⟨u, h3, h4, -⟩ := own_cell h1 (k := k) (by omega)
   obtain ⟨z, rfl⟩ := h2 u h4
   exact ⟨z, h3⟩)
  refine ⟨some ⟨g, 0, none⟩, cap, (List.range n).map Z, by simp, by simp, ?_⟩
  by_cases h0 : n = 0
  ·left; subst h0; rfl
  ·right
   obtain ⟨u, -, -, -, h5, h6⟩ := own_cell (k := 0) h1 (by omega)
   refine ⟨g, 0, rfl, h5, h6, ?_⟩
   intro i hi
   simp at hi
   have e : ((List.range n).map Z).getD i 0 = Z i := by simp [hi]
   rw [e, Nat.zero_add]
   exact hZ _ (by omega)
end
end Go.Proofs.YtknffngbdakblaaGreat
