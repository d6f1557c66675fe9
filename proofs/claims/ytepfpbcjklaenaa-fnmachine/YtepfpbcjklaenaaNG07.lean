/- The cursor over a draw's bytes: each function that draws a number turns the cursor's own block alone, and its number lies within its bounds. Conditions: the cursor and its bytes lie in memory as the reading says. The draws of chapter 1 of a place: each makes a place of five numbers, and turns the cursor's own block alone. Conditions: the cursor and its bytes lie in memory as the reading says. -/
import Derived.Test.YtepfpbcjklaenaaNG00
import Derived.Test.YtepfpbcjklaenaaChecked
import Derived.WalkKit
import Derived.KernelRfl
import Derived.WalkSpells
import Derived.WalkLawsBesides
import Derived.Deep.QuietTactic
import Derived.BigQuiet
namespace Go.Proofs.Ytepfpbcjklaenaa
section
set_option linter.unusedSimpArgs false
set_option linter.unusedVariables false
set_option maxRecDepth 100000
open Go.RowKit
structure But (g : Nat) (w w' : World) : Prop where
 os : w'.os = w.os
 tape : w'.tape = w.tape
 output : w'.output = w.output
 size : w.heap.size ≤ w'.heap.size
 block : ∀ k, k < w.heap.size → k ≠ g → w'.heap[k]? = w.heap[k]?
theorem But.refl (g : Nat) (w : World) : But g w w := ⟨rfl, rfl, rfl, Nat.le_refl _, fun _ _ _ => rfl⟩
theorem But.trans {g : Nat} {a b c : World} (h : But g a b) (k : But g b c) : But g a c :=
 ⟨k.os.trans h.os, k.tape.trans h.tape, k.output.trans h.output, Nat.le_trans h.size k.size, fun i hi hg => (k.block i (Nat.lt_of_lt_of_le hi h.size) hg).trans (h.block i hi hg)⟩
theorem But.drewN {g : Nat} {w w' : World} (h : But g w w') (n : Nat) : But g w (w'.drewN n) := ⟨h.os, h.tape, h.output, h.size, h.block⟩
theorem But.setCell {g : Nat} {w w' : World} (h : But g w w') (o : Nat) (v : Value) : But g w (w'.setCell ⟨g, o, none⟩ v) :=
 ⟨h.os, h.tape, h.output, by simpa using h.size, fun k hk hg => (Below.heap_setCell w' ⟨g, o, none⟩ v k hg).trans (h.block k hk hg)⟩
theorem But.alloc {g : Nat} {w w' : World} (h : But g w w') (o : Obj) : But g w (w'.alloc o) :=
 h.trans ⟨rfl, rfl, rfl, by simp, fun k hk _ => Below.heap_alloc _ _ _ hk⟩
theorem But.cell {g : Nat} {w w' : World} (h : But g w w') {p : Addr} (hp : p.block < w.heap.size) (hg : p.block ≠ g) : w'.cell? p = w.cell? p := World.cell?_of_block (w := w) (h.block p.block hp hg)
theorem But.frozen {g : Nat} {w w' : World} (h : But g w w') {p : Addr} (hp : p.block < w.heap.size) (hg : p.block ≠ g) : w'.frozen? p = w.frozen? p := World.frozen?_of_block (w := w) (h.block p.block hp hg)
theorem But.below {g B : Nat} {w w' : World} (h : But g w w') (hB : B ≤ g) (hs : B ≤ w.heap.size) : Below B w w' :=
 ⟨h.os, h.tape, h.output, h.size, fun k hk => h.block k (by omega) (by omega)⟩
theorem But.of_below {g : Nat} {w w' : World} (h : Below w.heap.size w w') : But g w w' := ⟨h.os, h.tape, h.output, h.size, fun k hk _ => h.block k hk⟩
/- the bytes of a draw lie below block p -/
def Bytes (w : World) (p : Nat) (s : Option Addr) (n : Nat) : Prop :=
 n = 0 ∨ ∃ g o, s = some ⟨g, o, none⟩ ∧ g < p ∧ ∀ k, k < n → ∃ b : Int, w.cell? ⟨g, o + k, none⟩ = some (.int .u8 b) ∧ 0 ≤ b ∧ b ≤ 255
def Cur (w : World) (p : Nat) (s : Option Addr) (n c : Nat) : Prop :=
 ∃ i h : Int, w.cell? ⟨p, 0, none⟩ = some (.slice s n c) ∧ w.cell? ⟨p, 1, none⟩ = some (.int .i64 i) ∧ w.cell? ⟨p, 2, none⟩ = some (.int .i64 h) ∧ (∀ j, w.frozen? ⟨p, j, none⟩ = false) ∧ 0 ≤ i ∧ i ≤ n ∧ p < w.heap.size
theorem and255 (y : Int) : 0 ≤ bits .and .i64 y 255 ∧ bits .and .i64 y 255 ≤ 255 := by
 unfold bits
 have e : (255 : Nat) % 2 ^ IntKind.i64.bits = 255 := by decide
 simp
 rw [e]
 have h : (y % 2 ^ IntKind.i64.bits).toNat &&& 255 ≤ 255 := Nat.and_le_right
 generalize (y % 2 ^ IntKind.i64.bits).toNat &&& 255 = z at h
 rw [IntKind.wrap_i64]
 omega
theorem Bytes.but {w w' : World} {p n : Nat} {s : Option Addr} (h : Bytes w p s n) (hb : But p w w') (hp : p ≤ w.heap.size) : Bytes w' p s n := by
 rcases h with h | ⟨g, o, hs, hg, hc⟩
 ·exact .inl h
 ·refine .inr ⟨g, o, hs, hg, fun k hk => ?_⟩
  obtain ⟨b, h1, h2⟩ := hc k hk
  exact ⟨b, (hb.cell (p := ⟨g, o + k, none⟩) (by show g < _; omega) (by show g ≠ p; omega)).trans h1, h2⟩
theorem cur_set {w : World} {p n c : Nat} {s : Option Addr} {i h i' h' : Int} {m m' : Nat} (c0 : w.cell? ⟨p, 0, none⟩ = some (.slice s n c)) (c1 : w.cell? ⟨p, 1, none⟩ = some (.int .i64 i)) (c2 : w.cell? ⟨p, 2, none⟩ = some (.int .i64 h)) (hf : ∀ j, w.frozen? ⟨p, j, none⟩ = false) (hi : 0 ≤ i') (hi' : i' ≤ n) (hp : p < w.heap.size) :
  Cur ((((w.setCell ⟨p, 2, none⟩ (.int .i64 h')).drewN m).setCell ⟨p, 1, none⟩ (.int .i64 i')).drewN m') p s n c := by
 refine ⟨i', h', ?_, ?_, ?_, ?_, hi, hi', by simpa using hp⟩
 ·simp [go_sem, c0]
 ·simp [go_sem, c1]
 ·simp [go_sem, c2]
 ·intro j; simp [hf]
theorem cur_set2 {w : World} {p n c : Nat} {s : Option Addr} {i h h' : Int} {m : Nat} (c0 : w.cell? ⟨p, 0, none⟩ = some (.slice s n c)) (c1 : w.cell? ⟨p, 1, none⟩ = some (.int .i64 i)) (c2 : w.cell? ⟨p, 2, none⟩ = some (.int .i64 h)) (hf : ∀ j, w.frozen? ⟨p, j, none⟩ = false) (hi : 0 ≤ i) (hi' : i ≤ n) (hp : p < w.heap.size) :
  Cur ((w.setCell ⟨p, 2, none⟩ (.int .i64 h')).drewN m) p s n c := by
 refine ⟨i, h', ?_, ?_, ?_, ?_, hi, hi', by simpa using hp⟩
 ·simp [go_sem, c0]
 ·simp [go_sem, c1]
 ·simp [go_sem, c2]
 ·intro j; simp [hf]
set_option maxRecDepth 100000 in
set_option maxHeartbeats 1000000 in
theorem l1Byte_t (p : Nat) (s : Option Addr) (n c : Nat) (w : World) (hc : Cur w p s n c) (hb : Bytes w p s n) (hn : n ≤ maxLen) :
  Calls Try.prog 54 #[.pointer (some ⟨p, 0, none⟩)] w fun e w' => ∃ x : Int, e = .returned (.int .i64 x) ∧ 0 ≤ x ∧ x ≤ 255 ∧ Cur w' p s n c ∧ But p w w' := by
 obtain ⟨i, h, c0, c1, c2, hf, hi, hi', hp⟩ := hc
 unfold maxLen at hn
 by_cases hin : i < (n : Int)
 ·obtain ⟨k, rfl⟩ := Int.eq_ofNat_of_zero_le hi
  rcases hb with rfl | ⟨g, o, rfl, hg, hbs⟩
  ·exact absurd hin (by omega)
  obtain ⟨b, hb, b0, b1⟩ := hbs k (by omega)
  clear hbs
  have hgp : g ≠ p := by omega
  go_enter Try.func54, Try.ntmps54
  go_wp2
  go_quiet (fail)
  go_wp2
  go_quiet (fail)
  go_wp2
  go_quiet (fail)
  go_wp2
  go_ret
  refine ⟨_, rfl, (and255 _).1, (and255 _).2, ?_, ?_⟩
  ·exact cur_set (m' := 0) c0 c1 c2 hf (by omega) (by omega) hp
  ·exact ((((But.refl p w).setCell 2 _).drewN _).setCell 1 _)
 ·go_enter Try.func54, Try.ntmps54
  go_wp2
  go_quiet (fail)
  go_wp2
  go_quiet (fail)
  go_wp2
  go_ret
  refine ⟨_, rfl, (and255 _).1, (and255 _).2, ?_, ?_⟩
  ·rw [World.drewN_drewN]
   exact cur_set2 c0 c1 c2 hf hi hi' hp
  ·exact ((((But.refl p w).setCell 2 _).drewN _).drewN _)
set_option maxHeartbeats 400000 in
theorem l1Below_t (p : Nat) (s : Option Addr) (n c : Nat) (q : Int) (w : World) (hc : Cur w p s n c) (hb : Bytes w p s n) (hn : n ≤ maxLen) (hq0 : 0 < q) (hq : q ≤ 256) :
  Calls Try.prog 31 #[.pointer (some ⟨p, 0, none⟩), .int .i64 q] w fun e w' => ∃ x : Int, e = .returned (.int .i64 x) ∧ 0 ≤ x ∧ x < q ∧ Cur w' p s n c ∧ But p w w' := by
 have h1 : ¬ q ≤ 0 := by omega
 have h2 : (q == 0) = false := by simp; omega
 go_enter Try.func31, Try.ntmps31
 go_wp2_with fail
 refine (l1Byte_t p s n c w hc hb hn).mono ?_
 rintro e w1 ⟨x, rfl, x0, x1, hc1, hb1⟩
 have HC : Hid (Cur w1 p s n c) := hc1
 clear hc1 hc hb
 go_wp2
 go_ret
 exact ⟨x % q, rfl, Int.emod_nonneg _ (by omega), Int.emod_lt_of_pos _ hq0, HC.out, hb1⟩
end
section
set_option linter.unusedSimpArgs false
set_option linter.unusedVariables false
set_option maxRecDepth 100000
open Go.RowKit
theorem Cur.but {w w' : World} {p n c : Nat} {s : Option Addr} (h : Cur w p s n c) (hb : Below w.heap.size w w') : Cur w' p s n c := by
 obtain ⟨i, h, c0, c1, c2, hf, hi, hi', hp⟩ := h
 exact ⟨i, h, (hb.cell (p := ⟨p, 0, none⟩) hp).trans c0, (hb.cell (p := ⟨p, 1, none⟩) hp).trans c1, (hb.cell (p := ⟨p, 2, none⟩) hp).trans c2, fun j => (hb.frozen (p := ⟨p, j, none⟩) hp).trans (hf j), hi, hi', by have := hb.size; omega⟩
theorem Cur.lt {w : World} {p n c : Nat} {s : Option Addr} (h : Cur w p s n c) : p < w.heap.size := by
 obtain ⟨i, h, c0, c1, c2, hf, hi, hi', hp⟩ := h
 exact hp
theorem Cur.set {w : World} {p n c : Nat} {s : Option Addr} {a : Addr} {v : Value} (h : Cur w p s n c) (ha : a.block ≠ p) : Cur (w.setCell a v) p s n c := by
 obtain ⟨i, h, c0, c1, c2, hf, hi, hi', hp⟩ := h
 have e : ∀ j, (w.setCell a v).cell? ⟨p, j, none⟩ = w.cell? ⟨p, j, none⟩ := fun j => by
  apply World.cell?_setCell_other
  intro e
  subst e
  exact ha rfl
 exact ⟨i, h, (e 0).trans c0, (e 1).trans c1, (e 2).trans c2, fun j => by rw [World.frozen?_setCell]; exact hf j, hi, hi', by simpa using hp⟩
theorem Bytes.below {w w' : World} {p n B : Nat} {s : Option Addr} (h : Bytes w p s n) (hb : Below B w w') (hp : p ≤ B) : Bytes w' p s n := by
 rcases h with h | ⟨g, o, hs, hg, hc⟩
 ·exact .inl h
 ·refine .inr ⟨g, o, hs, hg, fun k hk => ?_⟩
  obtain ⟨b, h1, h2⟩ := hc k hk
  exact ⟨b, (hb.cell (p := ⟨g, o + k, none⟩) (by show g < _; omega)).trans h1, h2⟩
/- the cursor and the bytes together -/
def CB (w : World) (p : Nat) (s : Option Addr) (n c : Nat) : Prop := Cur w p s n c ∧ Bytes w p s n ∧ n ≤ maxLen
theorem CB.lt {w : World} {p n c : Nat} {s : Option Addr} (h : CB w p s n c) : p < w.heap.size := h.1.lt
theorem CB.alloc {w : World} {p n c : Nat} {s : Option Addr} (h : CB w p s n c) (o : Obj) : CB (w.alloc o) p s n c :=
 ⟨h.1.but ((Below.refl _ _).alloc (Nat.le_refl _) _), h.2.1.below ((Below.refl w.heap.size w).alloc (Nat.le_refl _) o) (Nat.le_of_lt h.1.lt), h.2.2⟩
theorem CB.keep {w w' : World} {p n c : Nat} {s : Option Addr} (h : CB w p s n c) (hb : Below w.heap.size w w') : CB w' p s n c :=
 ⟨h.1.but hb, h.2.1.below hb (Nat.le_of_lt h.1.lt), h.2.2⟩
theorem CB.set {w : World} {p n c : Nat} {s : Option Addr} {a : Addr} {v : Value} (h : CB w p s n c) (ha : p < a.block) : CB (w.setCell a v) p s n c :=
 ⟨h.1.set (by omega), h.2.1.below ((Below.refl a.block w).setCell (p := a) (Nat.le_refl _) v) (by omega), h.2.2⟩
theorem below_cb (p : Nat) (s : Option Addr) (n c : Nat) (q : Int) (w : World) (h : CB w p s n c) (hq0 : 0 < q) (hq : q ≤ 256) :
  Calls Try.prog 31 #[.pointer (some ⟨p, 0, none⟩), .int .i64 q] w fun e w' => ∃ x : Int, e = .returned (.int .i64 x) ∧ 0 ≤ x ∧ x < q ∧ CB w' p s n c ∧ But p w w' := by
 refine (l1Below_t p s n c q w h.1 h.2.1 h.2.2 hq0 hq).mono ?_
 rintro e w' ⟨x, rfl, x0, x1, hc, hb⟩
 exact ⟨x, rfl, x0, x1, ⟨hc, h.2.1.but hb (Nat.le_of_lt h.lt), h.2.2⟩, hb⟩
/- a slice literal of integers, picked from -/
set_option maxHeartbeats 400000 in
theorem pick_cb (p : Nat) (s : Option Addr) (n c : Nat) (g m : Nat) (l : List Int) (w : World) (h : CB w p s n c) (hm : m = l.length) (hl0 : 0 < l.length) (hl : l.length ≤ 256) (hg : g < w.heap.size) (hgp : g ≠ p) (hcell : ∀ i, i < l.length → w.cell? ⟨g, 0 + i, none⟩ = some (.int .i64 (l.getD i 0))) :
  Calls Try.prog 32 #[.pointer (some ⟨p, 0, none⟩), .slice (some ⟨g, 0, none⟩) m m] w fun e w' => ∃ x : Int, e = .returned (.int .i64 x) ∧ x ∈ l ∧ CB w' p s n c ∧ But p w w' := by
 subst hm
 have H : Hid (CB w p s n c) := h
 have HC : Hid (∀ i, i < l.length → w.cell? ⟨g, 0 + i, none⟩ = some (.int .i64 (l.getD i 0))) := hcell
 clear h hcell
 go_enter Try.func32, Try.ntmps32
 go_wp2_with fail
 refine (below_cb p s n c (l.length : Int) w H.out (by omega) (by omega)).mono ?_
 rintro e w1 ⟨x, rfl, x0, x1, hc, hb⟩
 obtain ⟨k, rfl⟩ := Int.eq_ofNat_of_zero_le x0
 have hk : k < l.length := by omega
 have f0 := (hb.cell (p := ⟨g, 0 + k, none⟩) hg hgp).trans (HC.out k hk)
 rw [Nat.zero_add] at f0
 have HM : Hid (l.getD k 0 ∈ l) := by
  show _ ∈ _
  rw [List.getD_eq_getElem?_getD, List.getElem?_eq_getElem hk]
  exact List.getElem_mem hk
 generalize l.getD k 0 = y at f0 HM
 have HC1 : Hid (CB w1 p s n c) := hc
 clear hc
 go_wp2
 go_ret
 exact ⟨y, rfl, HM.out, HC1.out, hb⟩
set_option maxHeartbeats 1000000 in
theorem new_cb (s : Option Addr) (n c : Nat) (w : World) (hb : Bytes w w.heap.size s n) (hn : n ≤ maxLen) :
  Calls Try.prog 29 #[.slice s n c] w fun e w' => e = .returned (.pointer (some ⟨w.heap.size, 0, none⟩)) ∧ CB w' w.heap.size s n c ∧ Below w.heap.size w w' ∧ w'.heap.size = w.heap.size + 1 := by
 have HB : Hid (Bytes w w.heap.size s n) := hb
 have HN : Hid (n ≤ maxLen) := hn
 clear hb
 unfold maxLen at hn
 go_enter Try.func29, Try.ntmps29
 go_wp2
 go_loop [3, 4] (fun a i => ∃ (k : Nat) (x : Int), k ≤ n ∧ k ≤ 4000 ∧ i = .int .i64 k ∧ a = .int .i64 x) (fun _ i => n - (intOf i).toNat)
 case atStart => exact ⟨0, _, Nat.zero_le _, by omega, rfl, rfl⟩
 case round =>
  obtain ⟨k, x, hk, hk', rfl, rfl⟩ := hrel
  by_cases h : k < n ∧ k < 4000
  ·obtain ⟨h1, h2⟩ := h
   obtain ⟨g, off, hs, hc⟩ : ∃ g off, s = some ⟨g, off, none⟩ ∧ ∃ b : Int, w.cell? ⟨g, off + k, none⟩ = some (.int .u8 b) ∧ 0 ≤ b ∧ b ≤ 255 := by
    rcases HB.out with h | ⟨g, off, a, b, d⟩
    ·omega
    ·exact ⟨g, off, a, d k h1⟩
   subst hs
   obtain ⟨b, f0, b0, b1⟩ := hc
   have i0 : (0 : Int) ≤ (k : Int) := by omega
   have i1 : (k : Int) < (n : Int) := by omega
   have i2 : (k : Int) < 4000 := by omega
   go_wp2
   go_round
   case rel => exact ⟨k + 1, _, by omega, by omega, by go_num, rfl⟩
   case measure => simp [intOf]; omega
  ·have i2 : (k : Int) < (n : Int) → ¬ (k : Int) < 4000 := by omega
   by_cases h1 : k < n
   ·have i1 : (k : Int) < (n : Int) := by omega
    have i3 : ¬ (k : Int) < 4000 := by omega
    clear i2 h
    go_wp2
    go_ret
    refine ⟨rfl, ⟨?_, HB.out.below ((Below.refl w.heap.size w).alloc (Nat.le_refl _) _) (Nat.le_refl _), HN.out⟩, (Below.refl _ _).alloc (Nat.le_refl _) _, by simp⟩
    exact ⟨0, x, by simp [go_sem], by simp [go_sem], by simp [go_sem], fun j => by simp [go_sem], by omega, by omega, by simp⟩
   ·have i1 : ¬ (k : Int) < (n : Int) := by omega
    clear i2 h
    go_wp2
    go_ret
    refine ⟨rfl, ⟨?_, HB.out.below ((Below.refl w.heap.size w).alloc (Nat.le_refl _) _) (Nat.le_refl _), HN.out⟩, (Below.refl _ _).alloc (Nat.le_refl _) _, by simp⟩
    exact ⟨0, x, by simp [go_sem], by simp [go_sem], by simp [go_sem], fun j => by simp [go_sem], by omega, by omega, by simp⟩
end
end Go.Proofs.Ytepfpbcjklaenaa
