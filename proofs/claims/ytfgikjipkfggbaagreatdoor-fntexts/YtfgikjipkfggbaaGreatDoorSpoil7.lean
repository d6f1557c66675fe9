/- l7Spoil: a step is drawn and perhaps spoiled. Conditions: the cursor and its bytes lie in memory as the reading says; 1 to 256 places. -/
import Derived.Test.YtfgikjipkfggbaaGreatDoorQuietC
import Derived.Test.YtfgikjipkfggbaaGreatDoorDraw1c
import Derived.Test.YtfgikjipkfggbaaGreatDoorCursor
import Derived.Test.YtfgikjipkfggbaaGreatDoorDraw7
namespace Go.Proofs.YtfgikjipkfggbaaGreatDoor
set_option linter.unusedSimpArgs false
set_option linter.unusedVariables false
set_option maxRecDepth 100000
open Go.RowKit

theorem d7s {w0 w : World} {p n c R X : Nat} {s : Option Addr} (hc : CB w p s n c) (hr : Res w R) {o r a b m : Int} (hx : Bo w X o r a b m) (hb : But p w0 w) (h1 : p < X) (h2 : X < R) (h3 : w0.heap.size ≤ X) {v0 v1 v2 v3 v4 : Value} : CB (set5v w R v0 v1 v2 v3 v4) p s n c ∧ But p w0 (set5v w R v0 v1 v2 v3 v4) :=
  ⟨hc.set5v (by omega), but_at (but_at (but_at (but_at (but_at hb (by omega)) (by omega)) (by omega)) (by omega)) (by omega)⟩
/- the state of a spoiling: the step's box lies ahead of the answer's -/
structure E7 (w0 w : World) (p : Nat) (s : Option Addr) (n c X R : Nat) (o r a b m : Int) : Prop where
  cb : CB w p s n c
  res : Res w R
  bo : Bo w X o r a b m
  but : But p w0 w
  pX : p < X
  XR : X < R
  old : w0.heap.size ≤ X
theorem E7.step {w0 w w' : World} {p n c R X : Nat} {s : Option Addr} {o r a b m : Int} (h : E7 w0 w p s n c X R o r a b m) (hc : CB w' p s n c) (hb : But p w w') : E7 w0 w' p s n c X R o r a b m :=
  have h1 := h.pX
  have h2 := h.XR
  ⟨hc, h.res.but hb (by omega), h.bo.of (hb.block X h.bo.lt (by omega)) hb.size, h.but.trans hb, h1, h2, h.old⟩
theorem E7.alloc {w0 w : World} {p n c R X : Nat} {s : Option Addr} {o r a b m : Int} (h : E7 w0 w p s n c X R o r a b m) (x : Obj) : E7 w0 (w.alloc x) p s n c X R o r a b m :=
  h.step (h.cb.alloc x) ((But.refl _ _).alloc x)
theorem E7.fin {w0 w : World} {p n c R X : Nat} {s : Option Addr} {o r a b m : Int} {v0 v1 v2 v3 v4 : Value} (h : E7 w0 w p s n c X R o r a b m) : CB (set5v w R v0 v1 v2 v3 v4) p s n c ∧ But p w0 (set5v w R v0 v1 v2 v3 v4) :=
  d7s h.cb h.res h.bo h.but h.pX h.XR h.old
theorem e7_below {w0 : World} {p n c R X : Nat} {s : Option Addr} {o r a b m : Int} (q : Int) (w : World) (h : E7 w0 w p s n c X R o r a b m) (hq0 : 0 < q) (hq : q ≤ 256) :
    Calls Tryz.prog 23 #[.pointer (some ⟨p, 0, none⟩), .int .i64 q] w fun e w' => ∃ x : Int, e = .returned (.int .i64 x) ∧ 0 ≤ x ∧ x < q ∧ E7 w0 w' p s n c X R o r a b m := by
  refine (below_cb p s n c q w h.cb hq0 hq).mono ?_
  rintro e w' ⟨x, rfl, x0, x1, hc, hb⟩
  exact ⟨x, rfl, x0, x1, h.step hc hb⟩
theorem e7_pick {w0 : World} {p n c R X : Nat} {s : Option Addr} {o r a b m : Int} (g k : Nat) (l : List Int) (w : World) (h : E7 w0 w p s n c X R o r a b m) (hm : k = l.length) (hl0 : 0 < l.length) (hl : l.length ≤ 256) (hg : g < w.heap.size) (hX : R < g) (hcell : ∀ i, i < l.length → w.cell? ⟨g, 0 + i, none⟩ = some (.int .i64 (l.getD i 0))) :
    Calls Tryz.prog 24 #[.pointer (some ⟨p, 0, none⟩), .slice (some ⟨g, 0, none⟩) k k] w fun e w' => ∃ x : Int, e = .returned (.int .i64 x) ∧ E7 w0 w' p s n c X R o r a b m := by
  have h1 := h.pX
  have h2 := h.XR
  refine (pick_cb p s n c g k l w h.cb hm hl0 hl hg (by omega) hcell).mono ?_
  rintro e w' ⟨x, rfl, x0, hc, hb⟩
  exact ⟨x, rfl, h.step hc hb⟩
theorem E7.set0 {w0 w : World} {p n c R X : Nat} {s : Option Addr} {o r a b m v : Int} (h : E7 w0 w p s n c X R o r a b m) : E7 w0 (w.setCell ⟨X, 0, none⟩ (.int .i64 v)) p s n c X R v r a b m :=
  have h1 := h.pX
  have h2 := h.XR
  have h3 := h.old
  ⟨h.cb.set (by show p < X; omega), h.res.off (by omega), h.bo.set0, but_at h.but (by omega), h1, h2, h3⟩
theorem E7.set1 {w0 w : World} {p n c R X : Nat} {s : Option Addr} {o r a b m v : Int} (h : E7 w0 w p s n c X R o r a b m) : E7 w0 (w.setCell ⟨X, 1, none⟩ (.int .i64 v)) p s n c X R o v a b m :=
  have h1 := h.pX
  have h2 := h.XR
  have h3 := h.old
  ⟨h.cb.set (by show p < X; omega), h.res.off (by omega), h.bo.set1, but_at h.but (by omega), h1, h2, h3⟩
theorem E7.set2 {w0 w : World} {p n c R X : Nat} {s : Option Addr} {o r a b m v : Int} (h : E7 w0 w p s n c X R o r a b m) : E7 w0 (w.setCell ⟨X, 2, none⟩ (.int .i64 v)) p s n c X R o r v b m :=
  have h1 := h.pX
  have h2 := h.XR
  have h3 := h.old
  ⟨h.cb.set (by show p < X; omega), h.res.off (by omega), h.bo.set2, but_at h.but (by omega), h1, h2, h3⟩
theorem E7.set3 {w0 w : World} {p n c R X : Nat} {s : Option Addr} {o r a b m v : Int} (h : E7 w0 w p s n c X R o r a b m) : E7 w0 (w.setCell ⟨X, 3, none⟩ (.int .i64 v)) p s n c X R o r a v m :=
  have h1 := h.pX
  have h2 := h.XR
  have h3 := h.old
  ⟨h.cb.set (by show p < X; omega), h.res.off (by omega), h.bo.set3, but_at h.but (by omega), h1, h2, h3⟩
theorem E7.set4 {w0 w : World} {p n c R X : Nat} {s : Option Addr} {o r a b m v : Int} (h : E7 w0 w p s n c X R o r a b m) : E7 w0 (w.setCell ⟨X, 4, none⟩ (.int .i64 v)) p s n c X R o r a b v :=
  have h1 := h.pX
  have h2 := h.XR
  have h3 := h.old
  ⟨h.cb.set (by show p < X; omega), h.res.off (by omega), h.bo.set4, but_at h.but (by omega), h1, h2, h3⟩

set_option maxRecDepth 100000 in
set_option maxHeartbeats 4000000 in
theorem spoil_cb (p : Nat) (s : Option Addr) (n c : Nat) (o r a b m : Int) (w : World) (h : CB w p s n c) :
    Calls Tryz.prog 47 #[.pointer (some ⟨p, 0, none⟩), .agg #[.int .i64 o, .int .i64 r, .int .i64 a, .int .i64 b, .int .i64 m]] w fun e w' => ∃ o r a b m : Int, e = .returned (.agg #[.int .i64 o, .int .i64 r, .int .i64 a, .int .i64 b, .int .i64 m]) ∧ CB w' p s n c ∧ But p w w' := by
  have hpw := h.lt
  have H0 : Hid (E7 w ((w.alloc (.cells #[.int .i64 o, .int .i64 r, .int .i64 a, .int .i64 b, .int .i64 m] 25)).alloc (.cells #[.int .i64 0, .int .i64 0, .int .i64 0, .int .i64 0, .int .i64 0] 25)) p s n c w.heap.size (w.heap.size + 1) o r a b m) := by
    have e := res_new (w.alloc (.cells #[.int .i64 o, .int .i64 r, .int .i64 a, .int .i64 b, .int .i64 m] 25)) (.int .i64 0) (.int .i64 0) (.int .i64 0) (.int .i64 0) (.int .i64 0) 25
    simp only [World.size_alloc] at e
    exact ⟨(h.alloc _).alloc _, e, Bo.new.of ((MapKept.heap_alloc _ _).2 _ (by simp)) (by simp), ((But.refl _ _).alloc _).alloc _, hpw, by omega, Nat.le_refl _⟩
  clear h
  go_enter Tryz.func47, Tryz.ntmps47
  go_wp2_with fail
  refine (e7_below 6 _ H0.out (by omega) (by omega)).mono ?_
  rintro e w1 ⟨t, rfl, t0, t1, hd⟩
  have D1 : Hid (E7 w w1 p s n c w.heap.size (w.heap.size + 1) o r a b m) := hd
  clear hd H0
  have hz1 : w.heap.size + 1 < w1.heap.size := D1.out.res.2.2
  have ht : t = 0 ∨ t = 1 ∨ t = 2 ∨ t = 3 ∨ (t = 4 ∨ t = 5) := by omega
  clear t0 t1
  rcases ht with rfl | rfl | rfl | rfl | ht
  · go_wp2_with fail
    refine (e7_below 16 _ D1.out (by omega) (by omega)).mono ?_
    rintro e w2 ⟨y, rfl, y0, y1, hd⟩
    have D2 : Hid (E7 w w2 p s n c w.heap.size (w.heap.size + 1) o r a b m) := hd
    clear hd
    have hz2 : w.heap.size + 1 < w2.heap.size := D2.out.res.2.2
    obtain ⟨c0, c1, c2, c3, c4, fz, lx⟩ := D2.out.bo
    have f0 := fz 0
    have f1 := fz 1
    have f2 := fz 2
    have f3 := fz 3
    have f4 := fz 4
    clear fz
    obtain ⟨u0, u1, u2, u3, u4, g0, g1, g2, g3, g4⟩ := D2.out.res.at
    have z := D2.out.res.2.1
    go_wp2
    exact bodyPost_ret (v := .agg #[.int .i64 (y - 1), .int .i64 r, .int .i64 a, .int .i64 b, .int .i64 m]) (by simp [results, Tryz.results47, go_sem, g0, g1, g2, g3, g4]) rfl ⟨_, _, _, _, _, rfl, (D2.out.set0).fin⟩
  · go_wp2_with fail
    refine (e7_pick w1.heap.size 3 [-1, 7, 8] _ (D1.out.alloc _) rfl (by simp) (by simp) (by simp) hz1 (fun i hi => by match i, hi with | 0, _ => simp [go_sem] | 1, _ => simp [go_sem] | 2, _ => simp [go_sem])).mono ?_
    rintro e w2 ⟨y, rfl, hd⟩
    have D2 : Hid (E7 w w2 p s n c w.heap.size (w.heap.size + 1) o r a b m) := hd
    clear hd
    have hz2 : w.heap.size + 1 < w2.heap.size := D2.out.res.2.2
    obtain ⟨c0, c1, c2, c3, c4, fz, lx⟩ := D2.out.bo
    have f0 := fz 0
    have f1 := fz 1
    have f2 := fz 2
    have f3 := fz 3
    have f4 := fz 4
    clear fz
    obtain ⟨u0, u1, u2, u3, u4, g0, g1, g2, g3, g4⟩ := D2.out.res.at
    have z := D2.out.res.2.1
    go_wp2
    exact bodyPost_ret (v := .agg #[.int .i64 o, .int .i64 y, .int .i64 a, .int .i64 b, .int .i64 m]) (by simp [results, Tryz.results47, go_sem, g0, g1, g2, g3, g4]) rfl ⟨_, _, _, _, _, rfl, (D2.out.set1).fin⟩
  · go_wp2_with fail
    refine (e7_pick w1.heap.size 4 [-2, -1, 7, 8] _ (D1.out.alloc _) rfl (by simp) (by simp) (by simp) hz1 (fun i hi => by match i, hi with | 0, _ => simp [go_sem] | 1, _ => simp [go_sem] | 2, _ => simp [go_sem] | 3, _ => simp [go_sem])).mono ?_
    rintro e w2 ⟨y, rfl, hd⟩
    have D2 : Hid (E7 w w2 p s n c w.heap.size (w.heap.size + 1) o r a b m) := hd
    clear hd
    have hz2 : w.heap.size + 1 < w2.heap.size := D2.out.res.2.2
    obtain ⟨c0, c1, c2, c3, c4, fz, lx⟩ := D2.out.bo
    have f0 := fz 0
    have f1 := fz 1
    have f2 := fz 2
    have f3 := fz 3
    have f4 := fz 4
    clear fz
    obtain ⟨u0, u1, u2, u3, u4, g0, g1, g2, g3, g4⟩ := D2.out.res.at
    have z := D2.out.res.2.1
    go_wp2
    exact bodyPost_ret (v := .agg #[.int .i64 o, .int .i64 r, .int .i64 y, .int .i64 b, .int .i64 m]) (by simp [results, Tryz.results47, go_sem, g0, g1, g2, g3, g4]) rfl ⟨_, _, _, _, _, rfl, (D2.out.set2).fin⟩
  · go_wp2_with fail
    refine (e7_pick w1.heap.size 6 [-1, 24, 1000000000, 1000000001, 699, 700] _ (D1.out.alloc _) rfl (by simp) (by simp) (by simp) hz1 (fun i hi => by match i, hi with | 0, _ => simp [go_sem] | 1, _ => simp [go_sem] | 2, _ => simp [go_sem] | 3, _ => simp [go_sem] | 4, _ => simp [go_sem] | 5, _ => simp [go_sem])).mono ?_
    rintro e w2 ⟨y, rfl, hd⟩
    have D2 : Hid (E7 w w2 p s n c w.heap.size (w.heap.size + 1) o r a b m) := hd
    clear hd
    have hz2 : w.heap.size + 1 < w2.heap.size := D2.out.res.2.2
    obtain ⟨c0, c1, c2, c3, c4, fz, lx⟩ := D2.out.bo
    have f0 := fz 0
    have f1 := fz 1
    have f2 := fz 2
    have f3 := fz 3
    have f4 := fz 4
    clear fz
    obtain ⟨u0, u1, u2, u3, u4, g0, g1, g2, g3, g4⟩ := D2.out.res.at
    have z := D2.out.res.2.1
    go_wp2
    exact bodyPost_ret (v := .agg #[.int .i64 o, .int .i64 r, .int .i64 a, .int .i64 b, .int .i64 y]) (by simp [results, Tryz.results47, go_sem, g0, g1, g2, g3, g4]) rfl ⟨_, _, _, _, _, rfl, (D2.out.set4).fin⟩
  · have n0 : (t == 0) = false := by simp; omega
    have n1 : (t == 1) = false := by simp; omega
    have n2 : (t == 2) = false := by simp; omega
    have n3 : (t == 3) = false := by simp; omega
    clear ht
    obtain ⟨c0, c1, c2, c3, c4, fz, lx⟩ := D1.out.bo
    have f0 := fz 0
    have f1 := fz 1
    have f2 := fz 2
    have f3 := fz 3
    have f4 := fz 4
    clear fz
    obtain ⟨u0, u1, u2, u3, u4, g0, g1, g2, g3, g4⟩ := D1.out.res.at
    have z := D1.out.res.2.1
    go_wp2
    exact bodyPost_ret (v := .agg #[.int .i64 o, .int .i64 r, .int .i64 a, .int .i64 b, .int .i64 m]) (by simp [results, Tryz.results47, go_sem, g0, g1, g2, g3, g4]) rfl ⟨_, _, _, _, _, rfl, D1.out.fin⟩


end Go.Proofs.YtfgikjipkfggbaaGreatDoor
