/- l7DrawStep: a step is drawn; the cursor's own block alone is turned. Conditions: the cursor and its bytes lie in memory as the reading says; 1 to 256 places. -/
import Derived.Test.YtepfpbcjklaenaaNG00
import Derived.Test.YtepfpbcjklaenaaNG02
import Derived.Test.YtepfpbcjklaenaaNG07
namespace Go.Proofs.Ytepfpbcjklaenaa
set_option linter.unusedSimpArgs false
set_option linter.unusedVariables false
set_option maxRecDepth 100000
open Go.RowKit
def Res (w : World) (R : Nat) : Prop := (∀ j, j < 5 → (w.cell? ⟨R, j, none⟩).isSome = true) ∧ (∀ j, w.frozen? ⟨R, j, none⟩ = false) ∧ R < w.heap.size
theorem Res.but {w w' : World} {R p : Nat} (h : Res w R) (hb : But p w w') (hp : R ≠ p) : Res w' R :=
 ⟨fun j hj => by rw [hb.cell (p := ⟨R, j, none⟩) h.2.2 hp]; exact h.1 j hj, fun j => by rw [hb.frozen (p := ⟨R, j, none⟩) h.2.2 hp]; exact h.2.1 j, by have := hb.size; have := h.2.2; omega⟩
theorem Res.at {w : World} {R : Nat} (h : Res w R) : ∃ u0 u1 u2 u3 u4, w.cell? ⟨R, 0, none⟩ = some u0 ∧ w.cell? ⟨R, 1, none⟩ = some u1 ∧ w.cell? ⟨R, 2, none⟩ = some u2 ∧ w.cell? ⟨R, 3, none⟩ = some u3 ∧ w.cell? ⟨R, 4, none⟩ = some u4 := by
 obtain ⟨u0, h0⟩ := Option.isSome_iff_exists.1 (h.1 0 (by omega))
 obtain ⟨u1, h1⟩ := Option.isSome_iff_exists.1 (h.1 1 (by omega))
 obtain ⟨u2, h2⟩ := Option.isSome_iff_exists.1 (h.1 2 (by omega))
 obtain ⟨u3, h3⟩ := Option.isSome_iff_exists.1 (h.1 3 (by omega))
 obtain ⟨u4, h4⟩ := Option.isSome_iff_exists.1 (h.1 4 (by omega))
 exact ⟨u0, u1, u2, u3, u4, h0, h1, h2, h3, h4⟩
theorem res_new (w : World) (v0 v1 v2 v3 v4 : Value) (T : TypeId) : Res (w.alloc (.cells #[v0, v1, v2, v3, v4] T)) w.heap.size := by
 refine ⟨fun j hj => ?_, fun j => by simp [go_sem], by simp⟩
 match j, hj with
 | 0, _ => simp [go_sem]
 | 1, _ => simp [go_sem]
 | 2, _ => simp [go_sem]
 | 3, _ => simp [go_sem]
 | 4, _ => simp [go_sem]
/- five numbers in a block that may be written -/
structure Bo (w : World) (X : Nat) (o r a b m : Int) : Prop where
 c0 : w.cell? ⟨X, 0, none⟩ = some (.int .i64 o)
 c1 : w.cell? ⟨X, 1, none⟩ = some (.int .i64 r)
 c2 : w.cell? ⟨X, 2, none⟩ = some (.int .i64 a)
 c3 : w.cell? ⟨X, 3, none⟩ = some (.int .i64 b)
 c4 : w.cell? ⟨X, 4, none⟩ = some (.int .i64 m)
 fz : ∀ j, w.frozen? ⟨X, j, none⟩ = false
 lt : X < w.heap.size
theorem Bo.of {w w' : World} {X : Nat} {o r a b m : Int} (h : Bo w X o r a b m) (hb : w'.heap[X]? = w.heap[X]?) (hs : w.heap.size ≤ w'.heap.size) : Bo w' X o r a b m :=
 ⟨(World.cell?_of_block (w := w) (a := ⟨X, 0, none⟩) hb).trans h.c0, (World.cell?_of_block (w := w) (a := ⟨X, 1, none⟩) hb).trans h.c1, (World.cell?_of_block (w := w) (a := ⟨X, 2, none⟩) hb).trans h.c2, (World.cell?_of_block (w := w) (a := ⟨X, 3, none⟩) hb).trans h.c3, (World.cell?_of_block (w := w) (a := ⟨X, 4, none⟩) hb).trans h.c4, fun j => (World.frozen?_of_block (w := w) (a := ⟨X, j, none⟩) hb).trans (h.fz j), Nat.lt_of_lt_of_le h.lt hs⟩
theorem Bo.new {w : World} {o r a b m : Int} {T : TypeId} : Bo (w.alloc (.cells #[.int .i64 o, .int .i64 r, .int .i64 a, .int .i64 b, .int .i64 m] T)) w.heap.size o r a b m :=
 ⟨by simp [go_sem], by simp [go_sem], by simp [go_sem], by simp [go_sem], by simp [go_sem], fun j => by simp [go_sem], by simp⟩
theorem Bo.set0 {w : World} {X : Nat} {o r a b m v : Int} (h : Bo w X o r a b m) : Bo (w.setCell ⟨X, 0, none⟩ (.int .i64 v)) X v r a b m := by
 obtain ⟨h0, h1, h2, h3, h4, hf, hl⟩ := h
 exact ⟨by simp [go_sem, h0], by simp [go_sem, h1], by simp [go_sem, h2], by simp [go_sem, h3], by simp [go_sem, h4], fun j => by rw [World.frozen?_setCell]; exact hf j, by simpa using hl⟩
theorem Bo.set1 {w : World} {X : Nat} {o r a b m v : Int} (h : Bo w X o r a b m) : Bo (w.setCell ⟨X, 1, none⟩ (.int .i64 v)) X o v a b m := by
 obtain ⟨h0, h1, h2, h3, h4, hf, hl⟩ := h
 exact ⟨by simp [go_sem, h0], by simp [go_sem, h1], by simp [go_sem, h2], by simp [go_sem, h3], by simp [go_sem, h4], fun j => by rw [World.frozen?_setCell]; exact hf j, by simpa using hl⟩
theorem Bo.set2 {w : World} {X : Nat} {o r a b m v : Int} (h : Bo w X o r a b m) : Bo (w.setCell ⟨X, 2, none⟩ (.int .i64 v)) X o r v b m := by
 obtain ⟨h0, h1, h2, h3, h4, hf, hl⟩ := h
 exact ⟨by simp [go_sem, h0], by simp [go_sem, h1], by simp [go_sem, h2], by simp [go_sem, h3], by simp [go_sem, h4], fun j => by rw [World.frozen?_setCell]; exact hf j, by simpa using hl⟩
theorem Bo.set3 {w : World} {X : Nat} {o r a b m v : Int} (h : Bo w X o r a b m) : Bo (w.setCell ⟨X, 3, none⟩ (.int .i64 v)) X o r a v m := by
 obtain ⟨h0, h1, h2, h3, h4, hf, hl⟩ := h
 exact ⟨by simp [go_sem, h0], by simp [go_sem, h1], by simp [go_sem, h2], by simp [go_sem, h3], by simp [go_sem, h4], fun j => by rw [World.frozen?_setCell]; exact hf j, by simpa using hl⟩
theorem Bo.set4 {w : World} {X : Nat} {o r a b m v : Int} (h : Bo w X o r a b m) : Bo (w.setCell ⟨X, 4, none⟩ (.int .i64 v)) X o r a b v := by
 obtain ⟨h0, h1, h2, h3, h4, hf, hl⟩ := h
 exact ⟨by simp [go_sem, h0], by simp [go_sem, h1], by simp [go_sem, h2], by simp [go_sem, h3], by simp [go_sem, h4], fun j => by rw [World.frozen?_setCell]; exact hf j, by simpa using hl⟩
/- the state of a draw: the cursor, the place of the answer, the step so far, what was there -/
structure D7 (w0 w : World) (p : Nat) (s : Option Addr) (n c R X : Nat) (o r a b m : Int) : Prop where
 cb : CB w p s n c
 res : Res w R
 bo : Bo w X o r a b m
 but : But p w0 w
 pR : p < R
 RX : R < X
 old : w0.heap.size ≤ R
theorem D7.step {w0 w w' : World} {p n c R X : Nat} {s : Option Addr} {o r a b m : Int} (h : D7 w0 w p s n c R X o r a b m) (hc : CB w' p s n c) (hb : But p w w') : D7 w0 w' p s n c R X o r a b m :=
 have h1 := h.pR
 have h2 := h.RX
 ⟨hc, h.res.but hb (by omega), h.bo.of (hb.block X h.bo.lt (by omega)) hb.size, h.but.trans hb, h1, h2, h.old⟩
theorem D7.alloc {w0 w : World} {p n c R X : Nat} {s : Option Addr} {o r a b m : Int} (h : D7 w0 w p s n c R X o r a b m) (x : Obj) : D7 w0 (w.alloc x) p s n c R X o r a b m :=
 h.step (h.cb.alloc x) ((But.refl _ _).alloc x)
theorem but_at {w0 w : World} {p X i : Nat} {v : Value} (h : But p w0 w) (hX : w0.heap.size ≤ X) : But p w0 (w.setCell ⟨X, i, none⟩ v) := by
 have b : Below w0.heap.size w (w.setCell ⟨X, i, none⟩ v) := (Below.refl _ _).setCell (p := ⟨X, i, none⟩) hX _
 exact ⟨b.os.trans h.os, b.tape.trans h.tape, b.output.trans h.output, Nat.le_trans h.size b.size, fun k hk hp => (b.block k hk).trans (h.block k hk hp)⟩
theorem Res.off {w : World} {R X i : Nat} {v : Value} (h : Res w R) (hX : R ≠ X) : Res (w.setCell ⟨X, i, none⟩ v) R :=
 have e : (w.setCell ⟨X, i, none⟩ v).heap[R]? = w.heap[R]? := Below.heap_setCell w ⟨X, i, none⟩ v R hX
 ⟨fun j hj => by rw [World.cell?_of_block (w := w) (a := ⟨R, j, none⟩) e]; exact h.1 j hj, fun j => by rw [World.frozen?_setCell]; exact h.2.1 j, by simpa using h.2.2⟩
theorem D7.set0 {w0 w : World} {p n c R X : Nat} {s : Option Addr} {o r a b m v : Int} (h : D7 w0 w p s n c R X o r a b m) : D7 w0 (w.setCell ⟨X, 0, none⟩ (.int .i64 v)) p s n c R X v r a b m :=
 have h1 := h.pR
 have h2 := h.RX
 have h3 := h.old
 ⟨h.cb.set (by show p < X; omega), h.res.off (by omega), h.bo.set0, but_at h.but (by omega), h1, h2, h3⟩
theorem D7.set1 {w0 w : World} {p n c R X : Nat} {s : Option Addr} {o r a b m v : Int} (h : D7 w0 w p s n c R X o r a b m) : D7 w0 (w.setCell ⟨X, 1, none⟩ (.int .i64 v)) p s n c R X o v a b m :=
 have h1 := h.pR
 have h2 := h.RX
 have h3 := h.old
 ⟨h.cb.set (by show p < X; omega), h.res.off (by omega), h.bo.set1, but_at h.but (by omega), h1, h2, h3⟩
theorem D7.set2 {w0 w : World} {p n c R X : Nat} {s : Option Addr} {o r a b m v : Int} (h : D7 w0 w p s n c R X o r a b m) : D7 w0 (w.setCell ⟨X, 2, none⟩ (.int .i64 v)) p s n c R X o r v b m :=
 have h1 := h.pR
 have h2 := h.RX
 have h3 := h.old
 ⟨h.cb.set (by show p < X; omega), h.res.off (by omega), h.bo.set2, but_at h.but (by omega), h1, h2, h3⟩
theorem D7.set3 {w0 w : World} {p n c R X : Nat} {s : Option Addr} {o r a b m v : Int} (h : D7 w0 w p s n c R X o r a b m) : D7 w0 (w.setCell ⟨X, 3, none⟩ (.int .i64 v)) p s n c R X o r a v m :=
 have h1 := h.pR
 have h2 := h.RX
 have h3 := h.old
 ⟨h.cb.set (by show p < X; omega), h.res.off (by omega), h.bo.set3, but_at h.but (by omega), h1, h2, h3⟩
theorem D7.set4 {w0 w : World} {p n c R X : Nat} {s : Option Addr} {o r a b m v : Int} (h : D7 w0 w p s n c R X o r a b m) : D7 w0 (w.setCell ⟨X, 4, none⟩ (.int .i64 v)) p s n c R X o r a b v :=
 have h1 := h.pR
 have h2 := h.RX
 have h3 := h.old
 ⟨h.cb.set (by show p < X; omega), h.res.off (by omega), h.bo.set4, but_at h.but (by omega), h1, h2, h3⟩
theorem d7_below {w0 : World} {p n c R X : Nat} {s : Option Addr} {o r a b m : Int} (q : Int) (w : World) (h : D7 w0 w p s n c R X o r a b m) (hq0 : 0 < q) (hq : q ≤ 256) :
  Calls Try.prog 31 #[.pointer (some ⟨p, 0, none⟩), .int .i64 q] w fun e w' => ∃ x : Int, e = .returned (.int .i64 x) ∧ 0 ≤ x ∧ x < q ∧ D7 w0 w' p s n c R X o r a b m := by
 refine (below_cb p s n c q w h.cb hq0 hq).mono ?_
 rintro e w' ⟨x, rfl, x0, x1, hc, hb⟩
 exact ⟨x, rfl, x0, x1, h.step hc hb⟩
def set5v (w : World) (R : Nat) (v0 v1 v2 v3 v4 : Value) : World := ((((w.setCell ⟨R, 0, none⟩ v0).setCell ⟨R, 1, none⟩ v1).setCell ⟨R, 2, none⟩ v2).setCell ⟨R, 3, none⟩ v3).setCell ⟨R, 4, none⟩ v4
theorem CB.set5v {w : World} {p n c R : Nat} {s : Option Addr} {v0 v1 v2 v3 v4 : Value} (h : CB w p s n c) (hR : p < R) : CB (set5v w R v0 v1 v2 v3 v4) p s n c := ((((h.set hR).set hR).set hR).set hR).set hR
theorem D7.fin {w0 w : World} {p n c R X : Nat} {s : Option Addr} {o r a b m : Int} {v0 v1 v2 v3 v4 : Value} (h : D7 w0 w p s n c R X o r a b m) : CB (set5v w R v0 v1 v2 v3 v4) p s n c ∧ But p w0 (set5v w R v0 v1 v2 v3 v4) :=
 ⟨h.cb.set5v h.pR, but_at (but_at (but_at (but_at (but_at h.but h.old) h.old) h.old) h.old) h.old⟩
end Go.Proofs.Ytepfpbcjklaenaa
