/- Steps of a site: what loads and stores a cell of its channel. Conditions: the channel lies in memory. -/
import Derived.Test.YtehjbpjjegajjaaGreatJG00
import Derived.Test.YtehjbpjjegajjaaGreatJG07
namespace Go.Proofs.YtehjbpjjegajjaaGreat
set_option linter.unusedSimpArgs false
set_option linter.unusedVariables false
set_option maxRecDepth 100000
open Go.RowKit
theorem cell_is (b : Nat) (base part : Int) (w : World) (h : w.cell? ⟨b, 0, none⟩ = some (.int .i64 base)) (h0 : 0 ≤ base) (h1 : base ≤ 24) (p0 : 0 ≤ part) (p1 : part ≤ 8) :
  Calls Tryz.prog 122 #[.int .i64 part, .pointer (some ⟨b, 0, none⟩)] w fun e w' => e = .returned (.int .i64 (base + part)) ∧ w' = w := by
 go_enter Tryz.func122, Tryz.ntmps122
 go_wp2
 go_ret
 exact ⟨rfl, rfl⟩
theorem cellsFrom_is (base : Int) (w : World) :
  Calls Tryz.prog 110 #[.int .i64 base] w fun e w' => e = .returned (.func (.func 122) #[] #[.pointer (some ⟨w.heap.size, 0, none⟩)]) ∧ w' = w.alloc (.cells #[.int .i64 base] 3) := by
 go_enter Tryz.func110, Tryz.ntmps110
 go_wp2
 go_ret
 exact ⟨rfl, rfl⟩
theorem hid_of {p : Prop} (h : p) : Hid p := h
/- a channel's cells: the box of the closure holds where they begin -/
structure CB (w : World) (pb : Nat) (b : Int) : Prop where
 c : w.cell? ⟨pb, 0, none⟩ = some (.int .i64 b)
 lt : pb < w.heap.size
 lo : 0 ≤ b
 hi : b ≤ 20
theorem CB.keep {w w' : World} {pb : Nat} {b : Int} (h : CB w pb b) (hb : Below w.heap.size w w') : CB w' pb b := ⟨(hb.cell (p := ⟨pb, 0, none⟩) h.lt).trans h.c, by have := hb.size; have := h.lt; omega, h.lo, h.hi⟩
/- a site in a box -/
structure SX (w : World) (G : Nat) (v0 v1 v2 v3 v4 v5 v6 v7 v8 : Value) : Prop where
 c0 : w.cell? ⟨G, 0, none⟩ = some v0
 c1 : w.cell? ⟨G, 1, none⟩ = some v1
 c2 : w.cell? ⟨G, 2, none⟩ = some v2
 c3 : w.cell? ⟨G, 3, none⟩ = some v3
 c4 : w.cell? ⟨G, 4, none⟩ = some v4
 c5 : w.cell? ⟨G, 5, none⟩ = some v5
 c6 : w.cell? ⟨G, 6, none⟩ = some v6
 c7 : w.cell? ⟨G, 7, none⟩ = some v7
 c8 : w.cell? ⟨G, 8, none⟩ = some v8
 lt : G < w.heap.size
theorem SX.keep {w w' : World} {G : Nat} {v0 v1 v2 v3 v4 v5 v6 v7 v8 : Value} (h : SX w G v0 v1 v2 v3 v4 v5 v6 v7 v8) (hb : Below w.heap.size w w') : SX w' G v0 v1 v2 v3 v4 v5 v6 v7 v8 :=
 ⟨(hb.cell (p := ⟨G, 0, none⟩) h.lt).trans h.c0, (hb.cell (p := ⟨G, 1, none⟩) h.lt).trans h.c1, (hb.cell (p := ⟨G, 2, none⟩) h.lt).trans h.c2, (hb.cell (p := ⟨G, 3, none⟩) h.lt).trans h.c3, (hb.cell (p := ⟨G, 4, none⟩) h.lt).trans h.c4, (hb.cell (p := ⟨G, 5, none⟩) h.lt).trans h.c5, (hb.cell (p := ⟨G, 6, none⟩) h.lt).trans h.c6, (hb.cell (p := ⟨G, 7, none⟩) h.lt).trans h.c7, (hb.cell (p := ⟨G, 8, none⟩) h.lt).trans h.c8, by have := hb.size; have := h.lt; omega⟩
theorem SX.new (w : World) (v0 v1 v2 v3 v4 v5 v6 v7 v8 : Value) (T : TypeId) : ∃ W, w.alloc (.cells #[v0, v1, v2, v3, v4, v5, v6, v7, v8] T) = W ∧ SX W w.heap.size v0 v1 v2 v3 v4 v5 v6 v7 v8 ∧ Below w.heap.size w W ∧ w.heap.size < W.heap.size :=
 ⟨_, rfl, ⟨by simp [go_sem], by simp [go_sem], by simp [go_sem], by simp [go_sem], by simp [go_sem], by simp [go_sem], by simp [go_sem], by simp [go_sem], by simp [go_sem], by simp⟩, (Below.refl _ _).alloc (Nat.le_refl _) _, by simp⟩
theorem iLoad (o r a x n fr : Int) (ss : Option Addr) (sl sc pb : Nat) (rm b : Int) (y : Int) (p : Int) (hp : 0 ≤ p ∧ p ≤ 8) (w : World) (h : CB w pb b) : Calls Tryz.prog 173 #[.agg #[.int .i64 o, .int .i64 r, .int .i64 a, .int .i64 x, .int .i64 n, .int .i64 fr, .slice ss sl sc, .func (.func 122) #[] #[.pointer (some ⟨pb, 0, none⟩)], .int .i64 rm], .int .i64 y, .int .i64 p] w fun e w' => e = .returned (.agg #[.int .i64 5, .int .i64 y, .int .i64 (-1), .int .i64 0, .int .i64 (b + p)]) ∧ Below w.heap.size w w' := by
 obtain ⟨W, hW, hx, hb, hz⟩ := SX.new w (.int .i64 o) (.int .i64 r) (.int .i64 a) (.int .i64 x) (.int .i64 n) (.int .i64 fr) (.slice ss sl sc) (.func (.func 122) #[] #[.pointer (some ⟨pb, 0, none⟩)]) (.int .i64 rm) 127
 have HC : Hid (CB W pb b) := h.keep hb
 have t7 := hx.c7
 clear hx
 go_enter Tryz.func173, Tryz.ntmps173
 go_wp2_with (go_at_call 122; refine (cell_is pb b p _ (HC.out.keep ((Below.refl _ _).alloc (Nat.le_refl _) _)).c HC.out.lo (by have := HC.out.hi; omega) (by omega) (by omega)).mono ?_; rintro e w9 ⟨rfl, hw⟩; subst w9)
 exact bodyPost_ret (v := .agg #[.int .i64 5, .int .i64 y, .int .i64 (-1), .int .i64 0, .int .i64 (b + p)]) (by simp [results, Tryz.results173, go_sem]) rfl ⟨rfl, hb.trans ((Below.refl _ _).alloc (by omega) _)⟩
theorem iStore (o r a x n fr : Int) (ss : Option Addr) (sl sc pb : Nat) (rm b : Int) (p : Int) (y : Int) (hp : 0 ≤ p ∧ p ≤ 8) (w : World) (h : CB w pb b) : Calls Tryz.prog 166 #[.agg #[.int .i64 o, .int .i64 r, .int .i64 a, .int .i64 x, .int .i64 n, .int .i64 fr, .slice ss sl sc, .func (.func 122) #[] #[.pointer (some ⟨pb, 0, none⟩)], .int .i64 rm], .int .i64 p, .int .i64 y] w fun e w' => e = .returned (.agg #[.int .i64 6, .int .i64 0, .int .i64 (-1), .int .i64 y, .int .i64 (b + p)]) ∧ Below w.heap.size w w' := by
 obtain ⟨W, hW, hx, hb, hz⟩ := SX.new w (.int .i64 o) (.int .i64 r) (.int .i64 a) (.int .i64 x) (.int .i64 n) (.int .i64 fr) (.slice ss sl sc) (.func (.func 122) #[] #[.pointer (some ⟨pb, 0, none⟩)]) (.int .i64 rm) 127
 have HC : Hid (CB W pb b) := h.keep hb
 have t7 := hx.c7
 clear hx
 go_enter Tryz.func166, Tryz.ntmps166
 go_wp2_with (go_at_call 122; refine (cell_is pb b p _ (HC.out.keep ((Below.refl _ _).alloc (Nat.le_refl _) _)).c HC.out.lo (by have := HC.out.hi; omega) (by omega) (by omega)).mono ?_; rintro e w9 ⟨rfl, hw⟩; subst w9)
 exact bodyPost_ret (v := .agg #[.int .i64 6, .int .i64 0, .int .i64 (-1), .int .i64 y, .int .i64 (b + p)]) (by simp [results, Tryz.results166, go_sem]) rfl ⟨rfl, hb.trans ((Below.refl _ _).alloc (by omega) _)⟩
theorem iLoadN (o r a x n fr : Int) (ss : Option Addr) (sl sc pb : Nat) (rm b : Int) (y : Int) (w : World) (h : CB w pb b) : Calls Tryz.prog 178 #[.agg #[.int .i64 o, .int .i64 r, .int .i64 a, .int .i64 x, .int .i64 n, .int .i64 fr, .slice ss sl sc, .func (.func 122) #[] #[.pointer (some ⟨pb, 0, none⟩)], .int .i64 rm], .int .i64 y] w fun e w' => e = .returned (.agg #[.int .i64 5, .int .i64 y, .int .i64 4, .int .i64 0, .int .i64 (b + 4)]) ∧ Below w.heap.size w w' := by
 obtain ⟨W, hW, hx, hb, hz⟩ := SX.new w (.int .i64 o) (.int .i64 r) (.int .i64 a) (.int .i64 x) (.int .i64 n) (.int .i64 fr) (.slice ss sl sc) (.func (.func 122) #[] #[.pointer (some ⟨pb, 0, none⟩)]) (.int .i64 rm) 127
 have HC : Hid (CB W pb b) := h.keep hb
 have t7 := hx.c7
 clear hx
 go_enter Tryz.func178, Tryz.ntmps178
 go_wp2_with (go_at_call 122; refine (cell_is pb b 4 _ (HC.out.keep ((Below.refl _ _).alloc (Nat.le_refl _) _)).c HC.out.lo (by have := HC.out.hi; omega) (by omega) (by omega)).mono ?_; rintro e w9 ⟨rfl, hw⟩; subst w9)
 exact bodyPost_ret (v := .agg #[.int .i64 5, .int .i64 y, .int .i64 4, .int .i64 0, .int .i64 (b + 4)]) (by simp [results, Tryz.results178, go_sem]) rfl ⟨rfl, hb.trans ((Below.refl _ _).alloc (by omega) _)⟩
theorem iStoreN (o r a x n fr : Int) (ss : Option Addr) (sl sc pb : Nat) (rm b : Int) (y : Int) (w : World) (h : CB w pb b) : Calls Tryz.prog 176 #[.agg #[.int .i64 o, .int .i64 r, .int .i64 a, .int .i64 x, .int .i64 n, .int .i64 fr, .slice ss sl sc, .func (.func 122) #[] #[.pointer (some ⟨pb, 0, none⟩)], .int .i64 rm], .int .i64 y] w fun e w' => e = .returned (.agg #[.int .i64 6, .int .i64 0, .int .i64 4, .int .i64 y, .int .i64 (b + 4)]) ∧ Below w.heap.size w w' := by
 obtain ⟨W, hW, hx, hb, hz⟩ := SX.new w (.int .i64 o) (.int .i64 r) (.int .i64 a) (.int .i64 x) (.int .i64 n) (.int .i64 fr) (.slice ss sl sc) (.func (.func 122) #[] #[.pointer (some ⟨pb, 0, none⟩)]) (.int .i64 rm) 127
 have HC : Hid (CB W pb b) := h.keep hb
 have t7 := hx.c7
 clear hx
 go_enter Tryz.func176, Tryz.ntmps176
 go_wp2_with (go_at_call 122; refine (cell_is pb b 4 _ (HC.out.keep ((Below.refl _ _).alloc (Nat.le_refl _) _)).c HC.out.lo (by have := HC.out.hi; omega) (by omega) (by omega)).mono ?_; rintro e w9 ⟨rfl, hw⟩; subst w9)
 exact bodyPost_ret (v := .agg #[.int .i64 6, .int .i64 0, .int .i64 4, .int .i64 y, .int .i64 (b + 4)]) (by simp [results, Tryz.results176, go_sem]) rfl ⟨rfl, hb.trans ((Below.refl _ _).alloc (by omega) _)⟩
end Go.Proofs.YtehjbpjjegajjaaGreat
