/- The cursor over a draw's bytes: each function that draws a number turns the cursor's own block alone, and its number lies within its bounds. Conditions: the cursor and its bytes lie in memory as the reading says. The draws of chapter 1 of a place: each makes a place of five numbers, and turns the cursor's own block alone. Conditions: the cursor and its bytes lie in memory as the reading says. l1New, l1DrawIns, l1Spoil: a place is drawn; the cursor's own block alone is turned. Conditions: the cursor and its bytes lie in memory as the reading says; 1 to 256 places, 0 to 256 channels. l1Spoil: a place is perhaps spoiled. Conditions: the cursor and its bytes lie in memory as the reading says. Rows of places that a draw makes and grows: as long as every cell is a number they read as a list of places. No condition. l1DrawBody: a body is drawn into new memory; the cursor's own block alone is turned. Conditions: the cursor and its bytes lie in memory as the reading says; 1 to 256 channels. DrawInsOk and DrawBodyOk: what they draw lies in new memory; nothing that was there is turned. Conditions: the bytes lie in memory as the reading says. Rows of numbers and rows of rows that a draw makes and grows. No condition. l1DrawRight: a program is drawn into new memory; the cursor's own block alone is turned. Conditions: the cursor and its bytes lie in memory as the reading says. l1Draw and DrawProgOk: a program is drawn and perhaps spoiled. Conditions: the bytes lie in memory as the reading says. l1Draw and DrawProgOk: a program is drawn and perhaps spoiled; nothing that was there is turned. Conditions: the bytes lie in memory as the reading says. l1Below of more than 256: four bytes. Conditions: the cursor and its bytes lie in memory as the reading says. -/
import Derived.Test.YtajblippcnidiaaGreatDoorChecked
import Derived.WalkKit
import Derived.KernelRfl
import Derived.WalkSpells
import Derived.WalkLawsBesides
import Derived.Deep.QuietTactic
import Derived.BigQuiet
import Derived.Test.YtajblippcnidiaaGreatDoorProgDefs
import Derived.Deep.AppendLies
import Derived.Deep.Slices
import Derived.Laws.OwnMore
import Derived.Deep.RegionLaw
namespace Go.Proofs.YtajblippcnidiaaGreatDoor
set_option linter.unusedSimpArgs false
set_option linter.unusedVariables false
set_option maxRecDepth 100000
section
open Go.RowKit

structure But (g : Nat) (w w' : World) : Prop where
  os : w'.os = w.os
  tape : w'.tape = w.tape
  output : w'.output = w.output
  size : w.heap.size ≤ w'.heap.size
  block : ∀ k, k < w.heap.size → k ≠ g → w'.heap[k]? = w.heap[k]?

theorem But.refl (g : Nat) (w : World) : But g w w := ⟨rfl, rfl, rfl, Nat.le_refl _, fun _ _ _ => rfl⟩
theorem But.trans {g : Nat} {a b c : World} (h : But g a b) (k : But g b c) : But g a c :=
  ⟨k.os.trans h.os, k.tape.trans h.tape, k.output.trans h.output, Nat.le_trans h.size k.size, fun i hi hg => (k.block i (Nat.lt_of_lt_of_le hi h.size) hg).trans (h.block i hi hg)⟩
theorem But.drewN {g : Nat} {w w' : World} (h : But g w w') (n : Nat) : But g w (w'.drewN n) := ⟨h.os, h.tape, h.output, h.size, h.block⟩
theorem But.setCell {g : Nat} {w w' : World} (h : But g w w') (o : Nat) (v : Value) : But g w (w'.setCell ⟨g, o, none⟩ v) :=
  ⟨h.os, h.tape, h.output, by simpa using h.size, fun k hk hg => (Below.heap_setCell w' ⟨g, o, none⟩ v k hg).trans (h.block k hk hg)⟩
theorem But.alloc {g : Nat} {w w' : World} (h : But g w w') (o : Obj) : But g w (w'.alloc o) :=
  h.trans ⟨rfl, rfl, rfl, by simp, fun k hk _ => Below.heap_alloc _ _ _ hk⟩
theorem But.cell {g : Nat} {w w' : World} (h : But g w w') {p : Addr} (hp : p.block < w.heap.size) (hg : p.block ≠ g) : w'.cell? p = w.cell? p := World.cell?_of_block (w := w) (h.block p.block hp hg)
theorem But.frozen {g : Nat} {w w' : World} (h : But g w w') {p : Addr} (hp : p.block < w.heap.size) (hg : p.block ≠ g) : w'.frozen? p = w.frozen? p := World.frozen?_of_block (w := w) (h.block p.block hp hg)
theorem But.below {g B : Nat} {w w' : World} (h : But g w w') (hB : B ≤ g) (hs : B ≤ w.heap.size) : Below B w w' :=
  ⟨h.os, h.tape, h.output, h.size, fun k hk => h.block k (by omega) (by omega)⟩
theorem But.of_below {g : Nat} {w w' : World} (h : Below w.heap.size w w') : But g w w' := ⟨h.os, h.tape, h.output, h.size, fun k hk _ => h.block k hk⟩

/- the bytes of a draw lie below block p -/
def Bytes (w : World) (p : Nat) (s : Option Addr) (n : Nat) : Prop :=
  n = 0 ∨ ∃ g o, s = some ⟨g, o, none⟩ ∧ g < p ∧ ∀ k, k < n → ∃ b : Int, w.cell? ⟨g, o + k, none⟩ = some (.int .u8 b) ∧ 0 ≤ b ∧ b ≤ 255
def Cur (w : World) (p : Nat) (s : Option Addr) (n c : Nat) : Prop :=
  ∃ i h : Int, w.cell? ⟨p, 0, none⟩ = some (.slice s n c) ∧ w.cell? ⟨p, 1, none⟩ = some (.int .i64 i) ∧ w.cell? ⟨p, 2, none⟩ = some (.int .i64 h) ∧ (∀ j, w.frozen? ⟨p, j, none⟩ = false) ∧ 0 ≤ i ∧ i ≤ n ∧ p < w.heap.size

theorem and255 (y : Int) : 0 ≤ bits .and .i64 y 255 ∧ bits .and .i64 y 255 ≤ 255 := by
  unfold bits
  have e : (255 : Nat) % 2 ^ IntKind.i64.bits = 255 := by decide
  simp
  rw [e]
  have h : (y % 2 ^ IntKind.i64.bits).toNat &&& 255 ≤ 255 := Nat.and_le_right
  generalize (y % 2 ^ IntKind.i64.bits).toNat &&& 255 = z at h
  rw [IntKind.wrap_i64]
  omega

theorem Bytes.but {w w' : World} {p n : Nat} {s : Option Addr} (h : Bytes w p s n) (hb : But p w w') (hp : p ≤ w.heap.size) : Bytes w' p s n := by
  rcases h with h | ⟨g, o, hs, hg, hc⟩
  · exact .inl h
  · refine .inr ⟨g, o, hs, hg, fun k hk => ?_⟩
    obtain ⟨b, h1, h2⟩ := hc k hk
    exact ⟨b, (hb.cell (p := ⟨g, o + k, none⟩) (by show g < _; omega) (by show g ≠ p; omega)).trans h1, h2⟩

theorem cur_set {w : World} {p n c : Nat} {s : Option Addr} {i h i' h' : Int} {m m' : Nat} (c0 : w.cell? ⟨p, 0, none⟩ = some (.slice s n c)) (c1 : w.cell? ⟨p, 1, none⟩ = some (.int .i64 i)) (c2 : w.cell? ⟨p, 2, none⟩ = some (.int .i64 h)) (hf : ∀ j, w.frozen? ⟨p, j, none⟩ = false) (hi : 0 ≤ i') (hi' : i' ≤ n) (hp : p < w.heap.size) :
    Cur ((((w.setCell ⟨p, 2, none⟩ (.int .i64 h')).drewN m).setCell ⟨p, 1, none⟩ (.int .i64 i')).drewN m') p s n c := by
  refine ⟨i', h', ?_, ?_, ?_, ?_, hi, hi', by simpa using hp⟩
  · simp [go_sem, c0]
  · simp [go_sem, c1]
  · simp [go_sem, c2]
  · intro j; simp [hf]

theorem cur_set2 {w : World} {p n c : Nat} {s : Option Addr} {i h h' : Int} {m : Nat} (c0 : w.cell? ⟨p, 0, none⟩ = some (.slice s n c)) (c1 : w.cell? ⟨p, 1, none⟩ = some (.int .i64 i)) (c2 : w.cell? ⟨p, 2, none⟩ = some (.int .i64 h)) (hf : ∀ j, w.frozen? ⟨p, j, none⟩ = false) (hi : 0 ≤ i) (hi' : i ≤ n) (hp : p < w.heap.size) :
    Cur ((w.setCell ⟨p, 2, none⟩ (.int .i64 h')).drewN m) p s n c := by
  refine ⟨i, h', ?_, ?_, ?_, ?_, hi, hi', by simpa using hp⟩
  · simp [go_sem, c0]
  · simp [go_sem, c1]
  · simp [go_sem, c2]
  · intro j; simp [hf]

set_option maxRecDepth 100000 in
set_option maxHeartbeats 1000000 in
theorem l1Byte_t (p : Nat) (s : Option Addr) (n c : Nat) (w : World) (hc : Cur w p s n c) (hb : Bytes w p s n) (hn : n ≤ maxLen) :
    Calls Tryz.prog 56 #[.pointer (some ⟨p, 0, none⟩)] w fun e w' => ∃ x : Int, e = .returned (.int .i64 x) ∧ 0 ≤ x ∧ x ≤ 255 ∧ Cur w' p s n c ∧ But p w w' := by
  obtain ⟨i, h, c0, c1, c2, hf, hi, hi', hp⟩ := hc
  unfold maxLen at hn
  by_cases hin : i < (n : Int)
  · obtain ⟨k, rfl⟩ := Int.eq_ofNat_of_zero_le hi
    rcases hb with rfl | ⟨g, o, rfl, hg, hbs⟩
    · exact absurd hin (by omega)
    obtain ⟨b, hb, b0, b1⟩ := hbs k (by omega)
    clear hbs
    have hgp : g ≠ p := by omega
    go_enter Tryz.func56, Tryz.ntmps56
    go_wp2
    go_quiet (fail)
    go_wp2
    go_quiet (fail)
    go_wp2
    go_quiet (fail)
    go_wp2
    go_ret
    refine ⟨_, rfl, (and255 _).1, (and255 _).2, ?_, ?_⟩
    · exact cur_set (m' := 0) c0 c1 c2 hf (by omega) (by omega) hp
    · exact ((((But.refl p w).setCell 2 _).drewN _).setCell 1 _)
  · go_enter Tryz.func56, Tryz.ntmps56
    go_wp2
    go_quiet (fail)
    go_wp2
    go_quiet (fail)
    go_wp2
    go_ret
    refine ⟨_, rfl, (and255 _).1, (and255 _).2, ?_, ?_⟩
    · rw [World.drewN_drewN]
      exact cur_set2 c0 c1 c2 hf hi hi' hp
    · exact ((((But.refl p w).setCell 2 _).drewN _).drewN _)

set_option maxHeartbeats 400000 in
theorem l1Below_t (p : Nat) (s : Option Addr) (n c : Nat) (q : Int) (w : World) (hc : Cur w p s n c) (hb : Bytes w p s n) (hn : n ≤ maxLen) (hq0 : 0 < q) (hq : q ≤ 256) :
    Calls Tryz.prog 30 #[.pointer (some ⟨p, 0, none⟩), .int .i64 q] w fun e w' => ∃ x : Int, e = .returned (.int .i64 x) ∧ 0 ≤ x ∧ x < q ∧ Cur w' p s n c ∧ But p w w' := by
  have h1 : ¬ q ≤ 0 := by omega
  have h2 : (q == 0) = false := by simp; omega
  go_enter Tryz.func30, Tryz.ntmps30
  go_wp2_with fail
  refine (l1Byte_t p s n c w hc hb hn).mono ?_
  rintro e w1 ⟨x, rfl, x0, x1, hc1, hb1⟩
  have HC : Hid (Cur w1 p s n c) := hc1
  clear hc1 hc hb
  go_wp2
  go_ret
  exact ⟨x % q, rfl, Int.emod_nonneg _ (by omega), Int.emod_lt_of_pos _ hq0, HC.out, hb1⟩
end

section
open Go.RowKit

theorem Cur.but {w w' : World} {p n c : Nat} {s : Option Addr} (h : Cur w p s n c) (hb : Below w.heap.size w w') : Cur w' p s n c := by
  obtain ⟨i, h, c0, c1, c2, hf, hi, hi', hp⟩ := h
  exact ⟨i, h, (hb.cell (p := ⟨p, 0, none⟩) hp).trans c0, (hb.cell (p := ⟨p, 1, none⟩) hp).trans c1, (hb.cell (p := ⟨p, 2, none⟩) hp).trans c2, fun j => (hb.frozen (p := ⟨p, j, none⟩) hp).trans (hf j), hi, hi', by have := hb.size; omega⟩
theorem Cur.lt {w : World} {p n c : Nat} {s : Option Addr} (h : Cur w p s n c) : p < w.heap.size := by
  obtain ⟨i, h, c0, c1, c2, hf, hi, hi', hp⟩ := h
  exact hp
theorem Cur.set {w : World} {p n c : Nat} {s : Option Addr} {a : Addr} {v : Value} (h : Cur w p s n c) (ha : a.block ≠ p) : Cur (w.setCell a v) p s n c := by
  obtain ⟨i, h, c0, c1, c2, hf, hi, hi', hp⟩ := h
  have e : ∀ j, (w.setCell a v).cell? ⟨p, j, none⟩ = w.cell? ⟨p, j, none⟩ := fun j => by
    apply World.cell?_setCell_other
    intro e
    subst e
    exact ha rfl
  exact ⟨i, h, (e 0).trans c0, (e 1).trans c1, (e 2).trans c2, fun j => by rw [World.frozen?_setCell]; exact hf j, hi, hi', by simpa using hp⟩
theorem Bytes.below {w w' : World} {p n B : Nat} {s : Option Addr} (h : Bytes w p s n) (hb : Below B w w') (hp : p ≤ B) : Bytes w' p s n := by
  rcases h with h | ⟨g, o, hs, hg, hc⟩
  · exact .inl h
  · refine .inr ⟨g, o, hs, hg, fun k hk => ?_⟩
    obtain ⟨b, h1, h2⟩ := hc k hk
    exact ⟨b, (hb.cell (p := ⟨g, o + k, none⟩) (by show g < _; omega)).trans h1, h2⟩
/- the cursor and the bytes together -/
def CB (w : World) (p : Nat) (s : Option Addr) (n c : Nat) : Prop := Cur w p s n c ∧ Bytes w p s n ∧ n ≤ maxLen
theorem CB.lt {w : World} {p n c : Nat} {s : Option Addr} (h : CB w p s n c) : p < w.heap.size := h.1.lt
theorem CB.alloc {w : World} {p n c : Nat} {s : Option Addr} (h : CB w p s n c) (o : Obj) : CB (w.alloc o) p s n c :=
  ⟨h.1.but ((Below.refl _ _).alloc (Nat.le_refl _) _), h.2.1.below ((Below.refl w.heap.size w).alloc (Nat.le_refl _) o) (Nat.le_of_lt h.1.lt), h.2.2⟩
theorem CB.keep {w w' : World} {p n c : Nat} {s : Option Addr} (h : CB w p s n c) (hb : Below w.heap.size w w') : CB w' p s n c :=
  ⟨h.1.but hb, h.2.1.below hb (Nat.le_of_lt h.1.lt), h.2.2⟩
theorem CB.set {w : World} {p n c : Nat} {s : Option Addr} {a : Addr} {v : Value} (h : CB w p s n c) (ha : p < a.block) : CB (w.setCell a v) p s n c :=
  ⟨h.1.set (by omega), h.2.1.below ((Below.refl a.block w).setCell (p := a) (Nat.le_refl _) v) (by omega), h.2.2⟩

theorem below_cb (p : Nat) (s : Option Addr) (n c : Nat) (q : Int) (w : World) (h : CB w p s n c) (hq0 : 0 < q) (hq : q ≤ 256) :
    Calls Tryz.prog 30 #[.pointer (some ⟨p, 0, none⟩), .int .i64 q] w fun e w' => ∃ x : Int, e = .returned (.int .i64 x) ∧ 0 ≤ x ∧ x < q ∧ CB w' p s n c ∧ But p w w' := by
  refine (l1Below_t p s n c q w h.1 h.2.1 h.2.2 hq0 hq).mono ?_
  rintro e w' ⟨x, rfl, x0, x1, hc, hb⟩
  exact ⟨x, rfl, x0, x1, ⟨hc, h.2.1.but hb (Nat.le_of_lt h.lt), h.2.2⟩, hb⟩

theorem max_any (a b : Int) (w : World) : Calls Tryz.prog 78 #[.int .i64 a, .int .i64 b] w fun e w' => e = .returned (.int .i64 (if b < a then a else b)) ∧ w' = w := by
  by_cases h : b < a
  · rw [if_pos h]
    go_enter Tryz.func78, Tryz.ntmps78
    go_wp2
    go_ret
    exact ⟨rfl, rfl⟩
  · rw [if_neg h]
    go_enter Tryz.func78, Tryz.ntmps78
    go_wp2
    go_ret
    exact ⟨rfl, rfl⟩

set_option maxHeartbeats 400000 in
theorem once_cb (p : Nat) (s : Option Addr) (n c : Nat) (q : Int) (w : World) (h : CB w p s n c) (hq0 : 0 < q) (hq : q ≤ 256) :
    Calls Tryz.prog 79 #[.pointer (some ⟨p, 0, none⟩), .int .i64 q] w fun e w' => ∃ x : Bool, e = .returned (.bool x) ∧ CB w' p s n c ∧ But p w w' := by
  have H : Hid (CB w p s n c) := h
  clear h
  go_enter Tryz.func79, Tryz.ntmps79
  go_wp2_with fail
  refine (below_cb p s n c q w H.out hq0 hq).mono ?_
  rintro e w1 ⟨x, rfl, x0, x1, hc, hb⟩
  have HC : Hid (CB w1 p s n c) := hc
  clear hc
  go_wp2
  go_ret
  exact ⟨_, rfl, HC.out, hb⟩

/- a slice literal of integers, picked from -/
set_option maxHeartbeats 400000 in
theorem pick_cb (p : Nat) (s : Option Addr) (n c : Nat) (g m : Nat) (l : List Int) (w : World) (h : CB w p s n c) (hm : m = l.length) (hl0 : 0 < l.length) (hl : l.length ≤ 256) (hg : g < w.heap.size) (hgp : g ≠ p) (hcell : ∀ i, i < l.length → w.cell? ⟨g, 0 + i, none⟩ = some (.int .i64 (l.getD i 0))) :
    Calls Tryz.prog 31 #[.pointer (some ⟨p, 0, none⟩), .slice (some ⟨g, 0, none⟩) m m] w fun e w' => ∃ x : Int, e = .returned (.int .i64 x) ∧ x ∈ l ∧ CB w' p s n c ∧ But p w w' := by
  subst hm
  have H : Hid (CB w p s n c) := h
  have HC : Hid (∀ i, i < l.length → w.cell? ⟨g, 0 + i, none⟩ = some (.int .i64 (l.getD i 0))) := hcell
  clear h hcell
  go_enter Tryz.func31, Tryz.ntmps31
  go_wp2_with fail
  refine (below_cb p s n c (l.length : Int) w H.out (by omega) (by omega)).mono ?_
  rintro e w1 ⟨x, rfl, x0, x1, hc, hb⟩
  obtain ⟨k, rfl⟩ := Int.eq_ofNat_of_zero_le x0
  have hk : k < l.length := by omega
  have f0 := (hb.cell (p := ⟨g, 0 + k, none⟩) hg hgp).trans (HC.out k hk)
  rw [Nat.zero_add] at f0
  have HM : Hid (l.getD k 0 ∈ l) := by
    show _ ∈ _
    rw [List.getD_eq_getElem?_getD, List.getElem?_eq_getElem hk]
    exact List.getElem_mem hk
  generalize l.getD k 0 = y at f0 HM
  have HC1 : Hid (CB w1 p s n c) := hc
  clear hc
  go_wp2
  go_ret
  exact ⟨y, rfl, HM.out, HC1.out, hb⟩
end

section
open Go.RowKit

def Res (w : World) (R : Nat) : Prop := (∀ j, j < 5 → (w.cell? ⟨R, j, none⟩).isSome = true) ∧ (∀ j, w.frozen? ⟨R, j, none⟩ = false) ∧ R < w.heap.size
theorem Res.but {w w' : World} {R p : Nat} (h : Res w R) (hb : But p w w') (hp : R ≠ p) : Res w' R :=
  ⟨fun j hj => by rw [hb.cell (p := ⟨R, j, none⟩) h.2.2 hp]; exact h.1 j hj, fun j => by rw [hb.frozen (p := ⟨R, j, none⟩) h.2.2 hp]; exact h.2.1 j, by have := hb.size; have := h.2.2; omega⟩
theorem Res.at {w : World} {R : Nat} (h : Res w R) : ∃ u0 u1 u2 u3 u4, w.cell? ⟨R, 0, none⟩ = some u0 ∧ w.cell? ⟨R, 1, none⟩ = some u1 ∧ w.cell? ⟨R, 2, none⟩ = some u2 ∧ w.cell? ⟨R, 3, none⟩ = some u3 ∧ w.cell? ⟨R, 4, none⟩ = some u4 := by
  obtain ⟨u0, h0⟩ := Option.isSome_iff_exists.1 (h.1 0 (by omega))
  obtain ⟨u1, h1⟩ := Option.isSome_iff_exists.1 (h.1 1 (by omega))
  obtain ⟨u2, h2⟩ := Option.isSome_iff_exists.1 (h.1 2 (by omega))
  obtain ⟨u3, h3⟩ := Option.isSome_iff_exists.1 (h.1 3 (by omega))
  obtain ⟨u4, h4⟩ := Option.isSome_iff_exists.1 (h.1 4 (by omega))
  exact ⟨u0, u1, u2, u3, u4, h0, h1, h2, h3, h4⟩
theorem res_new (w : World) (v0 v1 v2 v3 v4 : Value) (T : TypeId) : Res (w.alloc (.cells #[v0, v1, v2, v3, v4] T)) w.heap.size := by
  refine ⟨fun j hj => ?_, fun j => by simp [go_sem], by simp⟩
  match j, hj with
  | 0, _ => simp [go_sem]
  | 1, _ => simp [go_sem]
  | 2, _ => simp [go_sem]
  | 3, _ => simp [go_sem]
  | 4, _ => simp [go_sem]
def set5v (w : World) (R : Nat) (v0 v1 v2 v3 v4 : Value) : World := ((((w.setCell ⟨R, 0, none⟩ v0).setCell ⟨R, 1, none⟩ v1).setCell ⟨R, 2, none⟩ v2).setCell ⟨R, 3, none⟩ v3).setCell ⟨R, 4, none⟩ v4
theorem CB.set5v {w : World} {p n c R : Nat} {s : Option Addr} {v0 v1 v2 v3 v4 : Value} (h : CB w p s n c) (hR : p < R) : CB (set5v w R v0 v1 v2 v3 v4) p s n c := ((((h.set hR).set hR).set hR).set hR).set hR

/- the state of a draw: the cursor, the place of the answer, what was there -/
structure Dr (w0 w : World) (p : Nat) (s : Option Addr) (n c R : Nat) : Prop where
  cb : CB w p s n c
  res : Res w R
  but : But p w0 w
  pR : p < R
  old : w0.heap.size ≤ R

theorem dr_below {w0 : World} {p n c R : Nat} {s : Option Addr} (q : Int) (w : World) (h : Dr w0 w p s n c R) (hq0 : 0 < q) (hq : q ≤ 256) :
    Calls Tryz.prog 30 #[.pointer (some ⟨p, 0, none⟩), .int .i64 q] w fun e w' => ∃ x : Int, e = .returned (.int .i64 x) ∧ 0 ≤ x ∧ x < q ∧ Dr w0 w' p s n c R := by
  refine (below_cb p s n c q w h.cb hq0 hq).mono ?_
  rintro e w' ⟨x, rfl, x0, x1, hc, hb⟩
  have := h.pR
  exact ⟨x, rfl, x0, x1, hc, h.res.but hb (by omega), h.but.trans hb, h.pR, h.old⟩
theorem dr_once {w0 : World} {p n c R : Nat} {s : Option Addr} (q : Int) (w : World) (h : Dr w0 w p s n c R) (hq0 : 0 < q) (hq : q ≤ 256) :
    Calls Tryz.prog 79 #[.pointer (some ⟨p, 0, none⟩), .int .i64 q] w fun e w' => ∃ x : Bool, e = .returned (.bool x) ∧ Dr w0 w' p s n c R := by
  refine (once_cb p s n c q w h.cb hq0 hq).mono ?_
  rintro e w' ⟨x, rfl, hc, hb⟩
  have := h.pR
  exact ⟨x, rfl, hc, h.res.but hb (by omega), h.but.trans hb, h.pR, h.old⟩
theorem but_set5v {w0 w : World} {p R : Nat} {v0 v1 v2 v3 v4 : Value} (h : But p w0 w) (hR : w0.heap.size ≤ R) : But p w0 (set5v w R v0 v1 v2 v3 v4) := by
  have b : Below w0.heap.size w (set5v w R v0 v1 v2 v3 v4) := (((((Below.refl _ _).setCell (p := ⟨R, 0, none⟩) hR _).setCell (p := ⟨R, 1, none⟩) hR _).setCell (p := ⟨R, 2, none⟩) hR _).setCell (p := ⟨R, 3, none⟩) hR _).setCell (p := ⟨R, 4, none⟩) hR _
  exact ⟨b.os.trans h.os, b.tape.trans h.tape, b.output.trans h.output, Nat.le_trans h.size b.size, fun k hk hp => (b.block k hk).trans (h.block k hk hp)⟩

set_option maxHeartbeats 1000000 in
theorem new_cb (s : Option Addr) (n c : Nat) (w : World) (hb : Bytes w w.heap.size s n) (hn : n ≤ maxLen) :
    Calls Tryz.prog 14 #[.slice s n c] w fun e w' => e = .returned (.pointer (some ⟨w.heap.size, 0, none⟩)) ∧ CB w' w.heap.size s n c ∧ Below w.heap.size w w' ∧ w'.heap.size = w.heap.size + 1 := by
  have HB : Hid (Bytes w w.heap.size s n) := hb
  have HN : Hid (n ≤ maxLen) := hn
  clear hb
  unfold maxLen at hn
  go_enter Tryz.func14, Tryz.ntmps14
  go_wp2
  go_loop [3, 4] (fun a i => ∃ (k : Nat) (x : Int), k ≤ n ∧ k ≤ 4000 ∧ i = .int .i64 k ∧ a = .int .i64 x) (fun _ i => n - (intOf i).toNat)
  case atStart => exact ⟨0, _, Nat.zero_le _, by omega, rfl, rfl⟩
  case round =>
    obtain ⟨k, x, hk, hk', rfl, rfl⟩ := hrel
    by_cases h : k < n ∧ k < 4000
    · obtain ⟨h1, h2⟩ := h
      obtain ⟨g, off, hs, hc⟩ : ∃ g off, s = some ⟨g, off, none⟩ ∧ ∃ b : Int, w.cell? ⟨g, off + k, none⟩ = some (.int .u8 b) ∧ 0 ≤ b ∧ b ≤ 255 := by
        rcases HB.out with h | ⟨g, off, a, b, d⟩
        · omega
        · exact ⟨g, off, a, d k h1⟩
      subst hs
      obtain ⟨b, f0, b0, b1⟩ := hc
      have i0 : (0 : Int) ≤ (k : Int) := by omega
      have i1 : (k : Int) < (n : Int) := by omega
      have i2 : (k : Int) < 4000 := by omega
      go_wp2
      go_round
      case rel => exact ⟨k + 1, _, by omega, by omega, by go_num, rfl⟩
      case measure => simp [intOf]; omega
    · have i2 : (k : Int) < (n : Int) → ¬ (k : Int) < 4000 := by omega
      by_cases h1 : k < n
      · have i1 : (k : Int) < (n : Int) := by omega
        have i3 : ¬ (k : Int) < 4000 := by omega
        clear i2 h
        go_wp2
        go_ret
        refine ⟨rfl, ⟨?_, HB.out.below ((Below.refl w.heap.size w).alloc (Nat.le_refl _) _) (Nat.le_refl _), HN.out⟩, (Below.refl _ _).alloc (Nat.le_refl _) _, by simp⟩
        exact ⟨0, x, by simp [go_sem], by simp [go_sem], by simp [go_sem], fun j => by simp [go_sem], by omega, by omega, by simp⟩
      · have i1 : ¬ (k : Int) < (n : Int) := by omega
        clear i2 h
        go_wp2
        go_ret
        refine ⟨rfl, ⟨?_, HB.out.below ((Below.refl w.heap.size w).alloc (Nat.le_refl _) _) (Nat.le_refl _), HN.out⟩, (Below.refl _ _).alloc (Nat.le_refl _) _, by simp⟩
        exact ⟨0, x, by simp [go_sem], by simp [go_sem], by simp [go_sem], fun j => by simp [go_sem], by omega, by omega, by simp⟩

set_option maxRecDepth 100000 in
set_option maxHeartbeats 4000000 in
theorem drawIns_cb (p : Nat) (s : Option Addr) (n c : Nat) (pl ch : Int) (w : World) (h : CB w p s n c) (hp0 : 0 < pl) (hp : pl ≤ 256) (hc0 : 0 ≤ ch) (hc : ch ≤ 256) :
    Calls Tryz.prog 65 #[.pointer (some ⟨p, 0, none⟩), .int .i64 pl, .int .i64 ch] w fun e w' => ∃ o r a b m : Int, e = .returned (.agg #[.int .i64 o, .int .i64 r, .int .i64 a, .int .i64 b, .int .i64 m]) ∧ CB w' p s n c ∧ But p w w' := by
  have H0 : Hid (Dr w (w.alloc (.cells #[.int .i64 0, .int .i64 0, .int .i64 0, .int .i64 0, .int .i64 0] 42)) p s n c w.heap.size) := ⟨h.alloc _, res_new _ _ _ _ _ _ _, (But.refl _ _).alloc _, h.lt, Nat.le_refl _⟩
  clear h
  go_enter Tryz.func65, Tryz.ntmps65
  go_wp2_with fail
  refine (dr_below 4 _ H0.out (by omega) (by omega)).mono ?_
  rintro e w1 ⟨r, rfl, r0, r1, hst⟩
  have H1 : Hid (Dr w w1 p s n c w.heap.size) := hst
  clear hst
  go_wp2_with fail
  refine (dr_below 4 _ H1.out (by omega) (by omega)).mono ?_
  rintro e w2 ⟨a, rfl, a0, a1, hst⟩
  have H2 : Hid (Dr w w2 p s n c w.heap.size) := hst
  clear hst
  go_wp2_with fail
  refine (dr_below 4 _ H2.out (by omega) (by omega)).mono ?_
  rintro e w3 ⟨b, rfl, b0, b1, hst⟩
  have H3 : Hid (Dr w w3 p s n c w.heap.size) := hst
  clear hst
  go_wp2_with fail
  refine (max_any ch 1 _).mono ?_
  rintro e w3' ⟨rfl, hw⟩
  have hw' := hw.symm
  clear hw
  subst hw'
  have hm0 : 0 < (if (1 : Int) < ch then ch else 1) := by split <;> omega
  have hm1 : (if (1 : Int) < ch then ch else 1) ≤ 256 := by split <;> omega
  generalize (if (1 : Int) < ch then ch else 1) = q at hm0 hm1
  go_wp2_with fail
  refine (dr_below q _ H3.out (by omega) (by omega)).mono ?_
  rintro e w4 ⟨m, rfl, m0, m1, hst⟩
  have H4 : Hid (Dr w w4 p s n c w.heap.size) := hst
  clear hst
  go_wp2_with fail
  refine (dr_below 16 _ H4.out (by omega) (by omega)).mono ?_
  rintro e w5 ⟨t, rfl, t0, t1, hst⟩
  have H5 : Hid (Dr w w5 p s n c w.heap.size) := hst
  clear hst
  clear H0 H1 H2 H3 H4
  have ht : t = 0 ∨ t = 1 ∨ t = 2 ∨ t = 3 ∨ t = 4 ∨ t = 5 ∨ t = 6 ∨ t = 7 ∨ t = 8 ∨ t = 9 ∨ t = 10 ∨ t = 11 ∨ t = 12 ∨ t = 13 ∨ t = 14 ∨ t = 15 := by omega
  clear t0 t1
  rcases ht with rfl | rfl | rfl | rfl | rfl | rfl | rfl | rfl | rfl | rfl | rfl | rfl | rfl | rfl | rfl | rfl
  · go_wp2_with fail
    refine (dr_below 9 _ H5.out (by omega) (by omega)).mono ?_
    rintro e w6 ⟨x, rfl, x0, x1, hst⟩
    have H6 : Hid (Dr w w6 p s n c w.heap.size) := hst
    clear hst
    obtain ⟨u0, u1, u2, u3, u4, g0, g1, g2, g3, g4⟩ := H6.out.res.at
    have z := H6.out.res.2.1
    go_wp2
    exact bodyPost_ret (v := .agg #[.int .i64 1, .int .i64 r, .int .i64 0, .int .i64 0, .int .i64 (x - 2)]) (by simp [results, Tryz.results65, go_sem, g0, g1, g2, g3, g4]) rfl ⟨_, _, _, _, _, rfl, H6.out.cb.set5v H6.out.pR, but_set5v H6.out.but H6.out.old⟩
  · go_wp2_with fail
    refine (dr_below 9 _ H5.out (by omega) (by omega)).mono ?_
    rintro e w6 ⟨x, rfl, x0, x1, hst⟩
    have H6 : Hid (Dr w w6 p s n c w.heap.size) := hst
    clear hst
    obtain ⟨u0, u1, u2, u3, u4, g0, g1, g2, g3, g4⟩ := H6.out.res.at
    have z := H6.out.res.2.1
    go_wp2
    exact bodyPost_ret (v := .agg #[.int .i64 1, .int .i64 r, .int .i64 0, .int .i64 0, .int .i64 (x - 2)]) (by simp [results, Tryz.results65, go_sem, g0, g1, g2, g3, g4]) rfl ⟨_, _, _, _, _, rfl, H6.out.cb.set5v H6.out.pR, but_set5v H6.out.but H6.out.old⟩
  · go_wp2_with fail
    refine (dr_below 3 _ H5.out (by omega) (by omega)).mono ?_
    rintro e w6 ⟨x, rfl, x0, x1, hst⟩
    have H6 : Hid (Dr w w6 p s n c w.heap.size) := hst
    clear hst
    obtain ⟨u0, u1, u2, u3, u4, g0, g1, g2, g3, g4⟩ := H6.out.res.at
    have z := H6.out.res.2.1
    go_wp2
    exact bodyPost_ret (v := .agg #[.int .i64 (2 + x), .int .i64 r, .int .i64 a, .int .i64 b, .int .i64 0]) (by simp [results, Tryz.results65, go_sem, g0, g1, g2, g3, g4]) rfl ⟨_, _, _, _, _, rfl, H6.out.cb.set5v H6.out.pR, but_set5v H6.out.but H6.out.old⟩
  · go_wp2_with fail
    refine (dr_below 3 _ H5.out (by omega) (by omega)).mono ?_
    rintro e w6 ⟨x, rfl, x0, x1, hst⟩
    have H6 : Hid (Dr w w6 p s n c w.heap.size) := hst
    clear hst
    obtain ⟨u0, u1, u2, u3, u4, g0, g1, g2, g3, g4⟩ := H6.out.res.at
    have z := H6.out.res.2.1
    go_wp2
    exact bodyPost_ret (v := .agg #[.int .i64 (2 + x), .int .i64 r, .int .i64 a, .int .i64 b, .int .i64 0]) (by simp [results, Tryz.results65, go_sem, g0, g1, g2, g3, g4]) rfl ⟨_, _, _, _, _, rfl, H6.out.cb.set5v H6.out.pR, but_set5v H6.out.but H6.out.old⟩
  · obtain ⟨u0, u1, u2, u3, u4, g0, g1, g2, g3, g4⟩ := H5.out.res.at
    have z := H5.out.res.2.1
    go_wp2
    exact bodyPost_ret (v := .agg #[.int .i64 5, .int .i64 0, .int .i64 a, .int .i64 0, .int .i64 m]) (by simp [results, Tryz.results65, go_sem, g0, g1, g2, g3, g4]) rfl ⟨_, _, _, _, _, rfl, H5.out.cb.set5v H5.out.pR, but_set5v H5.out.but H5.out.old⟩
  · obtain ⟨u0, u1, u2, u3, u4, g0, g1, g2, g3, g4⟩ := H5.out.res.at
    have z := H5.out.res.2.1
    go_wp2
    exact bodyPost_ret (v := .agg #[.int .i64 5, .int .i64 0, .int .i64 a, .int .i64 0, .int .i64 m]) (by simp [results, Tryz.results65, go_sem, g0, g1, g2, g3, g4]) rfl ⟨_, _, _, _, _, rfl, H5.out.cb.set5v H5.out.pR, but_set5v H5.out.but H5.out.old⟩
  · obtain ⟨u0, u1, u2, u3, u4, g0, g1, g2, g3, g4⟩ := H5.out.res.at
    have z := H5.out.res.2.1
    go_wp2
    exact bodyPost_ret (v := .agg #[.int .i64 5, .int .i64 0, .int .i64 a, .int .i64 0, .int .i64 m]) (by simp [results, Tryz.results65, go_sem, g0, g1, g2, g3, g4]) rfl ⟨_, _, _, _, _, rfl, H5.out.cb.set5v H5.out.pR, but_set5v H5.out.but H5.out.old⟩
  · obtain ⟨u0, u1, u2, u3, u4, g0, g1, g2, g3, g4⟩ := H5.out.res.at
    have z := H5.out.res.2.1
    go_wp2
    exact bodyPost_ret (v := .agg #[.int .i64 6, .int .i64 r, .int .i64 0, .int .i64 ((r + 1) % 4), .int .i64 m]) (by simp [results, Tryz.results65, go_sem, g0, g1, g2, g3, g4]) rfl ⟨_, _, _, _, _, rfl, H5.out.cb.set5v H5.out.pR, but_set5v H5.out.but H5.out.old⟩
  · obtain ⟨u0, u1, u2, u3, u4, g0, g1, g2, g3, g4⟩ := H5.out.res.at
    have z := H5.out.res.2.1
    go_wp2
    exact bodyPost_ret (v := .agg #[.int .i64 6, .int .i64 r, .int .i64 0, .int .i64 ((r + 1) % 4), .int .i64 m]) (by simp [results, Tryz.results65, go_sem, g0, g1, g2, g3, g4]) rfl ⟨_, _, _, _, _, rfl, H5.out.cb.set5v H5.out.pR, but_set5v H5.out.but H5.out.old⟩
  · obtain ⟨u0, u1, u2, u3, u4, g0, g1, g2, g3, g4⟩ := H5.out.res.at
    have z := H5.out.res.2.1
    go_wp2
    exact bodyPost_ret (v := .agg #[.int .i64 6, .int .i64 r, .int .i64 0, .int .i64 ((r + 1) % 4), .int .i64 m]) (by simp [results, Tryz.results65, go_sem, g0, g1, g2, g3, g4]) rfl ⟨_, _, _, _, _, rfl, H5.out.cb.set5v H5.out.pR, but_set5v H5.out.but H5.out.old⟩
  · obtain ⟨u0, u1, u2, u3, u4, g0, g1, g2, g3, g4⟩ := H5.out.res.at
    have z := H5.out.res.2.1
    go_wp2
    exact bodyPost_ret (v := .agg #[.int .i64 7, .int .i64 r, .int .i64 a, .int .i64 0, .int .i64 m]) (by simp [results, Tryz.results65, go_sem, g0, g1, g2, g3, g4]) rfl ⟨_, _, _, _, _, rfl, H5.out.cb.set5v H5.out.pR, but_set5v H5.out.but H5.out.old⟩
  · obtain ⟨u0, u1, u2, u3, u4, g0, g1, g2, g3, g4⟩ := H5.out.res.at
    have z := H5.out.res.2.1
    go_wp2
    exact bodyPost_ret (v := .agg #[.int .i64 8, .int .i64 r, .int .i64 0, .int .i64 ((r + 1) % 4), .int .i64 m]) (by simp [results, Tryz.results65, go_sem, g0, g1, g2, g3, g4]) rfl ⟨_, _, _, _, _, rfl, H5.out.cb.set5v H5.out.pR, but_set5v H5.out.but H5.out.old⟩
  · go_wp2_with fail
    refine (dr_once 3 _ H5.out (by omega) (by omega)).mono ?_
    rintro e w6 ⟨x, rfl, hst⟩
    have H6 : Hid (Dr w w6 p s n c w.heap.size) := hst
    clear hst
    cases x
    · go_wp2_with fail
      refine (dr_below pl _ H6.out (by omega) (by omega)).mono ?_
      rintro e w7 ⟨y, rfl, y0, y1, hst⟩
      have H7 : Hid (Dr w w7 p s n c w.heap.size) := hst
      clear hst
      obtain ⟨u0, u1, u2, u3, u4, g0, g1, g2, g3, g4⟩ := H7.out.res.at
      have z := H7.out.res.2.1
      go_wp2
      exact bodyPost_ret (v := .agg #[.int .i64 11, .int .i64 0, .int .i64 0, .int .i64 0, .int .i64 y]) (by simp [results, Tryz.results65, go_sem, g0, g1, g2, g3, g4]) rfl ⟨_, _, _, _, _, rfl, H7.out.cb.set5v H7.out.pR, but_set5v H7.out.but H7.out.old⟩
    · obtain ⟨u0, u1, u2, u3, u4, g0, g1, g2, g3, g4⟩ := H6.out.res.at
      have z := H6.out.res.2.1
      go_wp2
      exact bodyPost_ret (v := .agg #[.int .i64 9, .int .i64 0, .int .i64 0, .int .i64 0, .int .i64 m]) (by simp [results, Tryz.results65, go_sem, g0, g1, g2, g3, g4]) rfl ⟨_, _, _, _, _, rfl, H6.out.cb.set5v H6.out.pR, but_set5v H6.out.but H6.out.old⟩
  · go_wp2_with fail
    refine (dr_below pl _ H5.out (by omega) (by omega)).mono ?_
    rintro e w6 ⟨x, rfl, x0, x1, hst⟩
    have H6 : Hid (Dr w w6 p s n c w.heap.size) := hst
    clear hst
    obtain ⟨u0, u1, u2, u3, u4, g0, g1, g2, g3, g4⟩ := H6.out.res.at
    have z := H6.out.res.2.1
    go_wp2
    exact bodyPost_ret (v := .agg #[.int .i64 12, .int .i64 0, .int .i64 a, .int .i64 0, .int .i64 x]) (by simp [results, Tryz.results65, go_sem, g0, g1, g2, g3, g4]) rfl ⟨_, _, _, _, _, rfl, H6.out.cb.set5v H6.out.pR, but_set5v H6.out.but H6.out.old⟩
  · obtain ⟨u0, u1, u2, u3, u4, g0, g1, g2, g3, g4⟩ := H5.out.res.at
    have z := H5.out.res.2.1
    go_wp2
    exact bodyPost_ret (v := .agg #[.int .i64 10, .int .i64 0, .int .i64 a, .int .i64 0, .int .i64 0]) (by simp [results, Tryz.results65, go_sem, g0, g1, g2, g3, g4]) rfl ⟨_, _, _, _, _, rfl, H5.out.cb.set5v H5.out.pR, but_set5v H5.out.but H5.out.old⟩
  · obtain ⟨u0, u1, u2, u3, u4, g0, g1, g2, g3, g4⟩ := H5.out.res.at
    have z := H5.out.res.2.1
    go_wp2
    exact bodyPost_ret (v := .agg #[.int .i64 10, .int .i64 0, .int .i64 a, .int .i64 0, .int .i64 0]) (by simp [results, Tryz.results65, go_sem, g0, g1, g2, g3, g4]) rfl ⟨_, _, _, _, _, rfl, H5.out.cb.set5v H5.out.pR, but_set5v H5.out.but H5.out.old⟩
end

section
open Go.RowKit

theorem Res.set {w : World} {R i : Nat} {v : Value} (h : Res w R) : Res (w.setCell ⟨R, i, none⟩ v) R := by
  refine ⟨fun j hj => ?_, fun j => by rw [World.frozen?_setCell]; exact h.2.1 j, by simpa using h.2.2⟩
  by_cases e : i = j
  · subst e
    rw [World.cell?_setCell_same' w _ v (h.1 i hj)]
    rfl
  · have : (w.setCell ⟨R, i, none⟩ v).cell? ⟨R, j, none⟩ = w.cell? ⟨R, j, none⟩ := by
      apply World.cell?_setCell_other
      intro e'
      injection e' with e1 e2
      exact e e2
    rw [this]
    exact h.1 j hj
theorem Res.of_below {w w' : World} {R B : Nat} (h : Res w R) (hb : Below B w w') (hR : R < B) : Res w' R :=
  ⟨fun j hj => by rw [hb.cell (p := ⟨R, j, none⟩) hR]; exact h.1 j hj, fun j => by rw [hb.frozen (p := ⟨R, j, none⟩) hR]; exact h.2.1 j, by have := hb.size; have := h.2.2; omega⟩

theorem below_set5v {B R : Nat} {w0 w : World} {v0 v1 v2 v3 v4 : Value} (h : Below B w0 w) (hR : B ≤ R) : Below B w0 (set5v w R v0 v1 v2 v3 v4) := ((((h.setCell (p := ⟨R, 0, none⟩) hR _).setCell (p := ⟨R, 1, none⟩) hR _).setCell (p := ⟨R, 2, none⟩) hR _).setCell (p := ⟨R, 3, none⟩) hR _).setCell (p := ⟨R, 4, none⟩) hR _

/- five numbers in a block -/
def Has (w : World) (X : Nat) (o r a b m : Int) : Prop := w.cell? ⟨X, 0, none⟩ = some (.int .i64 o) ∧ w.cell? ⟨X, 1, none⟩ = some (.int .i64 r) ∧ w.cell? ⟨X, 2, none⟩ = some (.int .i64 a) ∧ w.cell? ⟨X, 3, none⟩ = some (.int .i64 b) ∧ w.cell? ⟨X, 4, none⟩ = some (.int .i64 m)
theorem Has.but {w w' : World} {X p : Nat} {o r a b m : Int} (h : Has w X o r a b m) (hb : But p w w') (hX : X < w.heap.size) (hp : X ≠ p) : Has w' X o r a b m :=
  ⟨(hb.cell (p := ⟨X, 0, none⟩) hX hp).trans h.1, (hb.cell (p := ⟨X, 1, none⟩) hX hp).trans h.2.1, (hb.cell (p := ⟨X, 2, none⟩) hX hp).trans h.2.2.1, (hb.cell (p := ⟨X, 3, none⟩) hX hp).trans h.2.2.2.1, (hb.cell (p := ⟨X, 4, none⟩) hX hp).trans h.2.2.2.2⟩

theorem but_set1 {w0 w : World} {p R i : Nat} {v : Value} (h : But p w0 w) (hR : w0.heap.size ≤ R) : But p w0 (w.setCell ⟨R, i, none⟩ v) := by
  have b : Below w0.heap.size w (w.setCell ⟨R, i, none⟩ v) := (Below.refl _ _).setCell (p := ⟨R, i, none⟩) hR _
  exact ⟨b.os.trans h.os, b.tape.trans h.tape, b.output.trans h.output, Nat.le_trans h.size b.size, fun k hk hp => (b.block k hk).trans (h.block k hk hp)⟩

set_option maxRecDepth 100000 in
set_option maxHeartbeats 4000000 in
theorem spoil_cb (p : Nat) (s : Option Addr) (n c : Nat) (o r a b m : Int) (w : World) (h : CB w p s n c) :
    Calls Tryz.prog 32 #[.pointer (some ⟨p, 0, none⟩), .agg #[.int .i64 o, .int .i64 r, .int .i64 a, .int .i64 b, .int .i64 m]] w fun e w' => ∃ o r a b m : Int, e = .returned (.agg #[.int .i64 o, .int .i64 r, .int .i64 a, .int .i64 b, .int .i64 m]) ∧ CB w' p s n c ∧ But p w w' := by
  have H0 : Hid (CB ((w.alloc (.cells #[.int .i64 o, .int .i64 r, .int .i64 a, .int .i64 b, .int .i64 m] 42)).alloc (.cells #[.int .i64 0, .int .i64 0, .int .i64 0, .int .i64 0, .int .i64 0] 42)) p s n c) := (h.alloc _).alloc _
  have hp := h.lt
  have B0 : Hid (But p w ((w.alloc (.cells #[.int .i64 o, .int .i64 r, .int .i64 a, .int .i64 b, .int .i64 m] 42)).alloc (.cells #[.int .i64 0, .int .i64 0, .int .i64 0, .int .i64 0, .int .i64 0] 42))) := ((But.refl _ _).alloc _).alloc _
  have R0 : Hid (Res ((w.alloc (.cells #[.int .i64 o, .int .i64 r, .int .i64 a, .int .i64 b, .int .i64 m] 42)).alloc (.cells #[.int .i64 0, .int .i64 0, .int .i64 0, .int .i64 0, .int .i64 0] 42)) (w.heap.size + 1)) := by
    have := res_new (w.alloc (.cells #[.int .i64 o, .int .i64 r, .int .i64 a, .int .i64 b, .int .i64 m] 42)) (.int .i64 0) (.int .i64 0) (.int .i64 0) (.int .i64 0) (.int .i64 0) 42
    simp only [World.size_alloc] at this
    exact this
  have X0 : Hid (Has ((w.alloc (.cells #[.int .i64 o, .int .i64 r, .int .i64 a, .int .i64 b, .int .i64 m] 42)).alloc (.cells #[.int .i64 0, .int .i64 0, .int .i64 0, .int .i64 0, .int .i64 0] 42)) w.heap.size o r a b m) := ⟨by simp [go_sem], by simp [go_sem], by simp [go_sem], by simp [go_sem], by simp [go_sem]⟩
  have Y0 : Hid (Res ((w.alloc (.cells #[.int .i64 o, .int .i64 r, .int .i64 a, .int .i64 b, .int .i64 m] 42)).alloc (.cells #[.int .i64 0, .int .i64 0, .int .i64 0, .int .i64 0, .int .i64 0] 42)) w.heap.size) := (res_new w (.int .i64 o) (.int .i64 r) (.int .i64 a) (.int .i64 b) (.int .i64 m) 42).of_below ((Below.refl _ _).alloc (Nat.le_refl _) _) (by simp)
  clear h
  go_enter Tryz.func32, Tryz.ntmps32
  go_wp2_with fail
  refine (below_cb p s n c 8 _ H0.out (by omega) (by omega)).mono ?_
  rintro e w1 ⟨t, rfl, t0, t1, hc, hb⟩
  have H1 : Hid (CB w1 p s n c) := hc
  have B1 : Hid (But p w w1) := B0.out.trans hb
  have R1 : Hid (Res w1 (w.heap.size + 1)) := R0.out.but hb (by omega)
  have X1 : Hid (Has w1 w.heap.size o r a b m) := X0.out.but hb (by simp; omega) (by omega)
  have Y1 : Hid (Res w1 w.heap.size) := Y0.out.but hb (by omega)
  have hz1 : w.heap.size + 1 < w1.heap.size := R1.out.2.2
  clear hc hb H0 B0 R0 X0 Y0
  have ht : t = 0 ∨ t = 1 ∨ t = 2 ∨ t = 3 ∨ t = 4 ∨ (t = 5 ∨ t = 6 ∨ t = 7) := by omega
  clear t0 t1
  rcases ht with rfl | rfl | rfl | rfl | rfl | ht
  · go_wp2_with fail
    refine (below_cb p s n c 16 _ H1.out (by omega) (by omega)).mono ?_
    rintro e w2 ⟨x, rfl, x0, x1, hc, hb⟩
    have H2 : Hid (CB w2 p s n c) := hc
    have B2 : Hid (But p w w2) := B1.out.trans hb
    have R2 : Hid (Res w2 (w.heap.size + 1)) := R1.out.but hb (by omega)
    have X2 : Hid (Has w2 w.heap.size o r a b m) := X1.out.but hb (by omega) (by omega)
    have Y2 : Hid (Res w2 w.heap.size) := Y1.out.but hb (by omega)
    clear hc hb H1 B1 R1 X1 Y1
    obtain ⟨f0, f1, f2, f3, f4⟩ := X2.out
    have z := Y2.out.2.1
    obtain ⟨u0, u1, u2, u3, u4, g0, g1, g2, g3, g4⟩ := R2.out.at
    have z' := R2.out.2.1
    go_wp2
    exact bodyPost_ret (v := .agg #[.int .i64 (x - 1), .int .i64 r, .int .i64 a, .int .i64 b, .int .i64 m]) (by simp [results, Tryz.results32, go_sem, g0, g1, g2, g3, g4]) rfl ⟨_, _, _, _, _, rfl, (H2.out.set (a := ⟨w.heap.size, 0, none⟩) hp).set5v (by omega), but_set5v (but_set1 B2.out (Nat.le_refl _)) (by omega)⟩
  · go_wp2_with fail
    refine (below_cb p s n c 6 _ H1.out (by omega) (by omega)).mono ?_
    rintro e w2 ⟨x, rfl, x0, x1, hc, hb⟩
    have H2 : Hid (CB w2 p s n c) := hc
    have B2 : Hid (But p w w2) := B1.out.trans hb
    have R2 : Hid (Res w2 (w.heap.size + 1)) := R1.out.but hb (by omega)
    have X2 : Hid (Has w2 w.heap.size o r a b m) := X1.out.but hb (by omega) (by omega)
    have Y2 : Hid (Res w2 w.heap.size) := Y1.out.but hb (by omega)
    clear hc hb H1 B1 R1 X1 Y1
    obtain ⟨f0, f1, f2, f3, f4⟩ := X2.out
    have z := Y2.out.2.1
    obtain ⟨u0, u1, u2, u3, u4, g0, g1, g2, g3, g4⟩ := R2.out.at
    have z' := R2.out.2.1
    go_wp2
    exact bodyPost_ret (v := .agg #[.int .i64 o, .int .i64 (x - 1), .int .i64 a, .int .i64 b, .int .i64 m]) (by simp [results, Tryz.results32, go_sem, g0, g1, g2, g3, g4]) rfl ⟨_, _, _, _, _, rfl, (H2.out.set (a := ⟨w.heap.size, 1, none⟩) hp).set5v (by omega), but_set5v (but_set1 B2.out (Nat.le_refl _)) (by omega)⟩
  · go_wp2_with fail
    refine (below_cb p s n c 6 _ H1.out (by omega) (by omega)).mono ?_
    rintro e w2 ⟨x, rfl, x0, x1, hc, hb⟩
    have H2 : Hid (CB w2 p s n c) := hc
    have B2 : Hid (But p w w2) := B1.out.trans hb
    have R2 : Hid (Res w2 (w.heap.size + 1)) := R1.out.but hb (by omega)
    have X2 : Hid (Has w2 w.heap.size o r a b m) := X1.out.but hb (by omega) (by omega)
    have Y2 : Hid (Res w2 w.heap.size) := Y1.out.but hb (by omega)
    clear hc hb H1 B1 R1 X1 Y1
    obtain ⟨f0, f1, f2, f3, f4⟩ := X2.out
    have z := Y2.out.2.1
    obtain ⟨u0, u1, u2, u3, u4, g0, g1, g2, g3, g4⟩ := R2.out.at
    have z' := R2.out.2.1
    go_wp2
    exact bodyPost_ret (v := .agg #[.int .i64 o, .int .i64 r, .int .i64 (x - 1), .int .i64 b, .int .i64 m]) (by simp [results, Tryz.results32, go_sem, g0, g1, g2, g3, g4]) rfl ⟨_, _, _, _, _, rfl, (H2.out.set (a := ⟨w.heap.size, 2, none⟩) hp).set5v (by omega), but_set5v (but_set1 B2.out (Nat.le_refl _)) (by omega)⟩
  · go_wp2_with fail
    refine (below_cb p s n c 6 _ H1.out (by omega) (by omega)).mono ?_
    rintro e w2 ⟨x, rfl, x0, x1, hc, hb⟩
    have H2 : Hid (CB w2 p s n c) := hc
    have B2 : Hid (But p w w2) := B1.out.trans hb
    have R2 : Hid (Res w2 (w.heap.size + 1)) := R1.out.but hb (by omega)
    have X2 : Hid (Has w2 w.heap.size o r a b m) := X1.out.but hb (by omega) (by omega)
    have Y2 : Hid (Res w2 w.heap.size) := Y1.out.but hb (by omega)
    clear hc hb H1 B1 R1 X1 Y1
    obtain ⟨f0, f1, f2, f3, f4⟩ := X2.out
    have z := Y2.out.2.1
    obtain ⟨u0, u1, u2, u3, u4, g0, g1, g2, g3, g4⟩ := R2.out.at
    have z' := R2.out.2.1
    go_wp2
    exact bodyPost_ret (v := .agg #[.int .i64 o, .int .i64 r, .int .i64 a, .int .i64 (x - 1), .int .i64 m]) (by simp [results, Tryz.results32, go_sem, g0, g1, g2, g3, g4]) rfl ⟨_, _, _, _, _, rfl, (H2.out.set (a := ⟨w.heap.size, 3, none⟩) hp).set5v (by omega), but_set5v (but_set1 B2.out (Nat.le_refl _)) (by omega)⟩
  · go_wp2_with fail
    have kl : Below w1.heap.size w1 (w1.alloc (.cells #[.int .i64 (-1), .int .i64 0, .int .i64 3, .int .i64 23, .int .i64 24, .int .i64 1000000000, .int .i64 1000000001] 3)) := (Below.refl _ _).alloc (Nat.le_refl _) _
    refine (pick_cb p s n c w1.heap.size 7 [-1, 0, 3, 23, 24, 1000000000, 1000000001] _ (H1.out.keep kl) rfl (by simp) (by simp) (by simp) (by omega) (fun i hi => by match i, hi with | 0, _ => simp [go_sem] | 1, _ => simp [go_sem] | 2, _ => simp [go_sem] | 3, _ => simp [go_sem] | 4, _ => simp [go_sem] | 5, _ => simp [go_sem] | 6, _ => simp [go_sem])).mono ?_
    rintro e w2 ⟨x, rfl, -, hc, hb⟩
    have H2 : Hid (CB w2 p s n c) := hc
    have hb2 : But p w1 w2 := (But.of_below kl).trans hb
    have B2 : Hid (But p w w2) := B1.out.trans hb2
    have R2 : Hid (Res w2 (w.heap.size + 1)) := R1.out.but hb2 (by omega)
    have X2 : Hid (Has w2 w.heap.size o r a b m) := X1.out.but hb2 (by omega) (by omega)
    have Y2 : Hid (Res w2 w.heap.size) := Y1.out.but hb2 (by omega)
    clear hc hb hb2 kl H1 B1 R1 X1 Y1
    obtain ⟨f0, f1, f2, f3, f4⟩ := X2.out
    have z := Y2.out.2.1
    obtain ⟨u0, u1, u2, u3, u4, g0, g1, g2, g3, g4⟩ := R2.out.at
    have z' := R2.out.2.1
    go_wp2
    exact bodyPost_ret (v := .agg #[.int .i64 o, .int .i64 r, .int .i64 a, .int .i64 b, .int .i64 x]) (by simp [results, Tryz.results32, go_sem, g0, g1, g2, g3, g4]) rfl ⟨_, _, _, _, _, rfl, (H2.out.set (a := ⟨w.heap.size, 4, none⟩) hp).set5v (by omega), but_set5v (but_set1 B2.out (Nat.le_refl _)) (by omega)⟩
  · have n0 : (t == 0) = false := by simp; omega
    have n1 : (t == 1) = false := by simp; omega
    have n2 : (t == 2) = false := by simp; omega
    have n3 : (t == 3) = false := by simp; omega
    have n4 : (t == 4) = false := by simp; omega
    clear ht
    obtain ⟨f0, f1, f2, f3, f4⟩ := X1.out
    have z := Y1.out.2.1
    obtain ⟨u0, u1, u2, u3, u4, g0, g1, g2, g3, g4⟩ := R1.out.at
    have z' := R1.out.2.1
    go_wp2
    exact bodyPost_ret (v := .agg #[.int .i64 o, .int .i64 r, .int .i64 a, .int .i64 b, .int .i64 m]) (by simp [results, Tryz.results32, go_sem, g0, g1, g2, g3, g4]) rfl ⟨_, _, _, _, _, rfl, H1.out.set5v (by omega), but_set5v B1.out (by omega)⟩
end

section
open Go.RowKit Go.Deep

def AllInt (xs : List Value) : Prop := ∀ u ∈ xs, ∃ z : Int, u = .int .i64 z
/- v is a row of n places in a block from base on -/
def OwnI (w : World) (base : Nat) (v : Value) (n : Nat) : Prop := ∃ xs, w.ownsRow base 42 5 v n xs ∧ AllInt xs
/- v is a row of n numbers -/
def OwnC (w : World) (base : Nat) (v : Value) (n : Nat) : Prop := ∃ xs, w.ownsRow base 3 1 v n xs ∧ AllInt xs

theorem AllInt.set {xs : List Value} (h : AllInt xs) (k : Nat) (z : Int) : AllInt (xs.set k (.int .i64 z)) := by
  intro u hu
  rcases List.mem_or_eq_of_mem_set hu with h1 | h1
  · exact h u h1
  · exact ⟨z, h1⟩
theorem AllInt.append {xs ys : List Value} (h : AllInt xs) (h' : AllInt ys) : AllInt (xs ++ ys) := by
  intro u hu
  rcases List.mem_append.1 hu with h1 | h1
  · exact h u h1
  · exact h' u h1

theorem own_block {w w' : World} {base size n : Nat} {e : TypeId} {v : Value} {xs : List Value} (h : w.ownsRow base e size v n xs) (hk : ∀ k, base ≤ k → k < w.heap.size → w'.heap[k]? = w.heap[k]?) : w'.ownsRow base e size v n xs := by
  obtain ⟨h1, h2⟩ := h
  refine ⟨h1, ?_⟩
  rcases h2 with h2 | ⟨g, cap, cur, hv, hb, hg, h3⟩
  · exact .inl h2
  · have hlt : g < w.heap.size := by
      apply Classical.byContradiction
      intro hn
      rw [Array.getElem?_eq_none (by omega)] at hg
      cases hg
    exact .inr ⟨g, cap, cur, hv, hb, (hk g hb hlt).trans hg, h3⟩
theorem OwnI.but {w w' : World} {base n p : Nat} {v : Value} (h : OwnI w base v n) (hb : But p w w') (hp : p < base) : OwnI w' base v n := by
  obtain ⟨xs, h1, h2⟩ := h
  exact ⟨xs, own_block h1 (fun k h3 h4 => hb.block k h4 (by omega)), h2⟩
theorem OwnC.but {w w' : World} {base n p : Nat} {v : Value} (h : OwnC w base v n) (hb : But p w w') (hp : p < base) : OwnC w' base v n := by
  obtain ⟨xs, h1, h2⟩ := h
  exact ⟨xs, own_block h1 (fun k h3 h4 => hb.block k h4 (by omega)), h2⟩
theorem OwnI.keep {w w' : World} {base n : Nat} {v : Value} (h : OwnI w base v n) (hb : Below w.heap.size w w') : OwnI w' base v n := by
  obtain ⟨xs, h1, h2⟩ := h
  exact ⟨xs, own_block h1 (fun k h3 h4 => hb.block k h4), h2⟩
theorem OwnC.keep {w w' : World} {base n : Nat} {v : Value} (h : OwnC w base v n) (hb : Below w.heap.size w w') : OwnC w' base v n := by
  obtain ⟨xs, h1, h2⟩ := h
  exact ⟨xs, own_block h1 (fun k h3 h4 => hb.block k h4), h2⟩

theorem heap_set {w : World} {g k : Nat} {v : Value} {cur : Array Value} {e : TypeId} {fr : Nat × Nat} (h : w.heap[g]? = some (.cells cur e fr)) : (w.setCell ⟨g, k, none⟩ v).heap[g]? = some (.cells (cur.setIfInBounds k v) e fr) := by
  simp only [World.setCell, Array.getElem?_modify, h]
  simp

theorem OwnI.set {w : World} {base n g' k : Nat} {v : Value} (h : OwnI w base v n) (z : Int) : OwnI (w.setCell ⟨g', k, none⟩ (.int .i64 z)) base v n := by
  obtain ⟨xs, ⟨h1, h2⟩, h3⟩ := h
  rcases h2 with h2 | ⟨g, cap, cur, rfl, hb, hg, hr⟩
  · exact ⟨xs, ⟨h1, .inl h2⟩, h3⟩
  · by_cases e : g = g'
    · subst e
      have := (World.ownsRow.stored (w := w) (base := base) (e := 42) (size := 5) (g := g) (n := n) (cap := cap) (xs := xs) ⟨h1, .inr ⟨g, cap, cur, rfl, hb, hg, hr⟩⟩ k (.int .i64 z)).1
      exact ⟨_, this, h3.set k z⟩
    · refine ⟨xs, ⟨h1, .inr ⟨g, cap, cur, rfl, hb, ?_, hr⟩⟩, h3⟩
      rw [Below.heap_setCell w ⟨g', k, none⟩ _ g e]
      exact hg

theorem own_cell {w : World} {base size n g cap k : Nat} {e : TypeId} {xs : List Value} (h : w.ownsRow base e size (.slice (some ⟨g, 0, none⟩) n cap) n xs) (hk : k < n * size) : ∃ u, w.cell? ⟨g, k, none⟩ = some u ∧ u ∈ xs ∧ w.frozen? ⟨g, k, none⟩ = false ∧ base ≤ g ∧ g < w.heap.size := by
  obtain ⟨h1, h2⟩ := h
  rcases h2 with ⟨h2, -⟩ | ⟨g', cap', cur, hv, hb, hg, hnc, hcm, hcs, htake⟩
  · cases h2
  · simp only [Value.slice.injEq, Option.some.injEq, Addr.mk.injEq, and_true, true_and] at hv
    obtain ⟨rfl, rfl⟩ := hv
    have hlt : g < w.heap.size := by
      apply Classical.byContradiction
      intro hn
      rw [Array.getElem?_eq_none (by omega)] at hg
      cases hg
    have hkc : k < cur.size := by
      rw [hcs]
      exact Nat.lt_of_lt_of_le hk (Nat.mul_le_mul_right _ hnc)
    refine ⟨cur[k], ?_, ?_, ?_, hb, hlt⟩
    · simp [World.cell?, hg, hkc]
    · rw [← htake]
      have : (cur.toList.take (n * size))[k]? = some cur[k] := by
        rw [List.getElem?_take, if_pos hk]
        simp [hkc]
      exact List.mem_of_getElem? this
    · simp [World.frozen?, hg]

theorem OwnI.ins {w : World} {base n : Nat} {v : Value} (h : OwnI w base v n) : ∃ (s : Option Addr) (c : Nat) (l : List I5), v = .slice s l.length c ∧ l.length = n ∧ InsR w base w.heap.size s l := by
  obtain ⟨xs, h1, h2⟩ := h
  rcases h1.2 with ⟨rfl, rfl⟩ | ⟨g, cap, cur, rfl, hb, hg, hr⟩
  · exact ⟨none, 0, [], rfl, rfl, .inl rfl⟩
  · obtain ⟨Z, hZ⟩ := @choose_lt Int ⟨0⟩ (n * 5) (fun k z => w.cell? ⟨g, k, none⟩ = some (.int .i64 z)) (fun k hk => by
      obtain ⟨u, h3, h4, -⟩ := own_cell h1 hk
      obtain ⟨z, rfl⟩ := h2 u h4
      exact ⟨z, h3⟩)
    refine ⟨some ⟨g, 0, none⟩, cap, (List.range n).map fun i => ⟨Z (i * 5), Z (i * 5 + 1), Z (i * 5 + 2), Z (i * 5 + 3), Z (i * 5 + 4)⟩, by simp, by simp, ?_⟩
    by_cases h0 : n = 0
    · left; subst h0; rfl
    · right
      obtain ⟨u, -, -, -, h5, h6⟩ := own_cell (k := 0) h1 (by omega)
      refine ⟨g, 0, rfl, h5, h6, ?_⟩
      intro i hi
      simp at hi
      have e : ((List.range n).map fun i => (⟨Z (i * 5), Z (i * 5 + 1), Z (i * 5 + 2), Z (i * 5 + 3), Z (i * 5 + 4)⟩ : I5)).getD i z5 = ⟨Z (i * 5), Z (i * 5 + 1), Z (i * 5 + 2), Z (i * 5 + 3), Z (i * 5 + 4)⟩ := by simp [hi]
      rw [e, Nat.zero_add]
      exact ⟨hZ _ (by omega), hZ _ (by omega), hZ _ (by omega), hZ _ (by omega), hZ _ (by omega)⟩

theorem OwnC.ints {w : World} {base n : Nat} {v : Value} (h : OwnC w base v n) : ∃ (s : Option Addr) (c : Nat) (l : List Int), v = .slice s l.length c ∧ l.length = n ∧ IntsR w base w.heap.size s l := by
  obtain ⟨xs, h1, h2⟩ := h
  rcases h1.2 with ⟨rfl, rfl⟩ | ⟨g, cap, cur, rfl, hb, hg, hr⟩
  · exact ⟨none, 0, [], rfl, rfl, .inl rfl⟩
  · obtain ⟨Z, hZ⟩ := @choose_lt Int ⟨0⟩ n (fun k z => w.cell? ⟨g, k, none⟩ = some (.int .i64 z)) (fun k hk => by
      obtain ⟨u, h3, h4, -⟩ := own_cell h1 (k := k) (by omega)
      obtain ⟨z, rfl⟩ := h2 u h4
      exact ⟨z, h3⟩)
    refine ⟨some ⟨g, 0, none⟩, cap, (List.range n).map Z, by simp, by simp, ?_⟩
    by_cases h0 : n = 0
    · left; subst h0; rfl
    · right
      obtain ⟨u, -, -, -, h5, h6⟩ := own_cell (k := 0) h1 (by omega)
      refine ⟨g, 0, rfl, h5, h6, ?_⟩
      intro i hi
      simp at hi
      have e : ((List.range n).map Z).getD i 0 = Z i := by simp [hi]
      rw [e, Nat.zero_add]
      exact hZ _ (by omega)

theorem But.grown {p : Nat} {w0 w w' : World} {row : Option Nat} (h : But p w0 w) (hg : w.grownBy w' row) (hr : ∀ k, row = some k → w0.heap.size ≤ k) : But p w0 w' :=
  ⟨hg.os.trans h.os, hg.tape.trans h.tape, hg.output.trans h.output, Nat.le_trans h.size hg.size, fun k hk hp => (hg.block k (Nat.lt_of_lt_of_le hk h.size) (fun e => by have := hr k e.symm; omega)).trans (h.block k hk hp)⟩
theorem CB.grown {p n c : Nat} {w w' : World} {s : Option Addr} {row : Option Nat} (h : CB w p s n c) (hg : w.grownBy w' row) (hr : ∀ k, row = some k → p < k) : CB w' p s n c := by
  have hb : Below (p + 1) w w' := ⟨hg.os, hg.tape, hg.output, hg.size, fun k hk => hg.block k (by have := h.lt; omega) (fun e => by have := hr k e.symm; omega)⟩
  obtain ⟨⟨i, hh, c0, c1, c2, hf, hi, hi', hp⟩, h2, h3⟩ := h
  exact ⟨⟨i, hh, (hb.cell (p := ⟨p, 0, none⟩) (by simp)).trans c0, (hb.cell (p := ⟨p, 1, none⟩) (by simp)).trans c1, (hb.cell (p := ⟨p, 2, none⟩) (by simp)).trans c2, fun j => (hb.frozen (p := ⟨p, j, none⟩) (by simp)).trans (hf j), hi, hi', by have := hg.size; omega⟩, h2.below hb (by omega), h3⟩
theorem own_row {w : World} {base n : Nat} {v : Value} {e : TypeId} {size : Nat} {xs : List Value} (h : w.ownsRow base e size v n xs) : ∀ k, v.ownBlock = some k → base ≤ k := by
  intro k hk
  rcases h.2 with ⟨rfl, -⟩ | ⟨g, cap, cur, rfl, hb, -⟩
  · cases hk
  · simp [Value.ownBlock] at hk
    omega
end

section
open Go.RowKit Go.Deep

theorem info25 : ∃ i, Tryz.prog.info? 42 = some i ∧ i.zero = some (.agg #[.int .i64 0, .int .i64 0, .int .i64 0, .int .i64 0, .int .i64 0]) ∧ i.size = 5 ∧ i.bytes = 40 := ⟨_, rfl, rfl, rfl, rfl⟩
theorem allInt_nil : AllInt [] := fun u hu => by cases hu
theorem allInt_cons (z : Int) {xs : List Value} (h : AllInt xs) : AllInt (.int .i64 z :: xs) := by
  intro u hu
  rcases List.mem_cons.1 hu with h1 | h1
  · exact ⟨z, h1⟩
  · exact h u h1
theorem own_lit {w : World} {base : Nat} (C : Array Value) (n : Nat) (hb : base ≤ w.heap.size) (hn : n ≤ 1000) (hC : C.size = n * 5) (hI : AllInt C.toList) : OwnI (w.alloc (.cells C 42)) base (.slice (some ⟨w.heap.size, 0, none⟩) n n) n :=
  ⟨_, World.ownsRow_lit w C n hb (by unfold maxLen; omega) hC, hI⟩
theorem new5 (w : World) (z0 z1 z2 z3 z4 : Int) : ∀ j u, [Value.int .i64 z0, .int .i64 z1, .int .i64 z2, .int .i64 z3, .int .i64 z4][j]? = some u → (w.alloc (.cells #[.int .i64 z0, .int .i64 z1, .int .i64 z2, .int .i64 z3, .int .i64 z4] 42)).cell? (Addr.add ⟨w.heap.size, 0, none⟩ j) = some u := by
  intro j u h
  match j, h with
  | 0, h => simpa [Addr.add, go_sem] using h
  | 1, h => simpa [Addr.add, go_sem] using h
  | 2, h => simpa [Addr.add, go_sem] using h
  | 3, h => simpa [Addr.add, go_sem] using h
  | 4, h => simpa [Addr.add, go_sem] using h

theorem app_step {ops : Array Oper} {rest : List Oper} {o : Oper} {a : Act} {Q : Exit → Act → World → Prop} (hgd : o.guard = none) (s x : Operand) (ho : o.op = .call { callee := .builtin .append, args := #[s, x], argTypes := #[40, 40] })
    (w : World) (z0 z1 z2 z3 z4 : Int) (base n : Nat) (v : Value) (hs : a.eval s = v) (hown : OwnI w base v n) (hx : a.eval x = .slice (some ⟨w.heap.size, 0, none⟩) 1 1) (hn : n ≤ 1000) (hbase : base ≤ w.heap.size)
    (h : ∀ g cap w', OwnI w' base (.slice (some ⟨g, 0, none⟩) (n + 1) cap) (n + 1) → (w.alloc (.cells #[.int .i64 z0, .int .i64 z1, .int .i64 z2, .int .i64 z3, .int .i64 z4] 42)).grownBy w' v.ownBlock → (∀ k, v.ownBlock = some k → base ≤ k) → wpList Tryz.prog ops Q rest (a.put o.dst (.slice (some ⟨g, 0, none⟩) (n + 1) cap)) w') :
    wpList Tryz.prog ops Q (o :: rest) a (w.alloc (.cells #[.int .i64 z0, .int .i64 z1, .int .i64 z2, .int .i64 z3, .int .i64 z4] 42)) := by
  obtain ⟨i0, hi, hz0, hz1, hz2⟩ := info25
  obtain ⟨xs, h1, h2⟩ := hown
  have h1' := own_block (w' := w.alloc (.cells #[.int .i64 z0, .int .i64 z1, .int .i64 z2, .int .i64 z3, .int .i64 z4] 42)) h1 (fun k _ hk => Below.heap_alloc _ _ _ hk)
  refine wpList_append_lies _ hgd s x 40 ho base 42 i0 _ 5 40 Tryz.underlying40 hi hz0 hz1 hz2 rfl (by decide) v n xs hs h1' ⟨w.heap.size, 0, none⟩ 1 1 [.int .i64 z0, .int .i64 z1, .int .i64 z2, .int .i64 z3, .int .i64 z4] hx rfl (new5 w z0 z1 z2 z3 z4) (fun u hu => by simp at hu; rcases hu with rfl | rfl | rfl | rfl | rfl <;> rfl) (by decide) (by unfold maxLen; omega) (by omega) (by simp; omega) _ rfl ?_
  intro g cap w' q1 q2 q3 q4
  exact h g cap w' ⟨_, q1, h2.append (allInt_cons _ (allInt_cons _ (allInt_cons _ (allInt_cons _ (allInt_cons _ allInt_nil)))))⟩ q2 (own_row h1)

set_option maxRecDepth 100000 in
set_option maxHeartbeats 4000000 in
theorem drawBody_cb (p : Nat) (s : Option Addr) (n c : Nat) (ch : Int) (w : World) (h : CB w p s n c) (hc0 : 0 < ch) (hc : ch ≤ 256) :
    Calls Tryz.prog 52 #[.pointer (some ⟨p, 0, none⟩), .int .i64 ch] w fun e w' => ∃ (v : Value) (m : Nat), e = .returned v ∧ OwnI w' w.heap.size v m ∧ 1 ≤ m ∧ m ≤ 12 ∧ CB w' p s n c ∧ But p w w' := by
  have hp := h.lt
  have H0 : Hid (CB w p s n c) := h
  clear h
  go_enter Tryz.func52, Tryz.ntmps52
  go_wp2_with fail
  refine (below_cb p s n c ch w H0.out hc0 hc).mono ?_
  rintro e w1 ⟨x, rfl, x0, x1, hc1, hb1⟩
  go_wp2_with fail
  refine (below_cb p s n c ch w1 hc1 hc0 hc).mono ?_
  rintro e w2 ⟨y, rfl, y0, y1, hc2, hb2⟩
  go_wp2_with fail
  refine (below_cb p s n c 5 w2 hc2 (by omega) (by omega)).mono ?_
  rintro e w3 ⟨t, rfl, t0, t1, hc3, hb3⟩
  have H3 : Hid (CB w3 p s n c) := hc3
  have B3 : Hid (But p w w3) := (hb1.trans hb2).trans hb3
  have hz3 : w.heap.size ≤ w3.heap.size := B3.out.size
  clear hc1 hb1 hc2 hb2 hc3 hb3
  have ht : t = 0 ∨ t = 1 ∨ t = 2 ∨ t = 3 ∨ t = 4 := by omega
  clear t0 t1
  rcases ht with rfl | rfl | rfl | rfl | rfl
  · go_wp2
    go_ret
    exact ⟨_, 7, rfl, own_lit _ 7 hz3 (by omega) rfl (by repeat (first | exact allInt_nil | refine allInt_cons _ ?_)), by omega, by omega, H3.out.alloc _, B3.out.alloc _⟩
  · go_wp2
    go_ret
    exact ⟨_, 5, rfl, own_lit _ 5 hz3 (by omega) rfl (by repeat (first | exact allInt_nil | refine allInt_cons _ ?_)), by omega, by omega, H3.out.alloc _, B3.out.alloc _⟩
  · go_wp2
    go_ret
    exact ⟨_, 5, rfl, own_lit _ 5 hz3 (by omega) rfl (by repeat (first | exact allInt_nil | refine allInt_cons _ ?_)), by omega, by omega, H3.out.alloc _, B3.out.alloc _⟩
  · go_wp2
    go_ret
    exact ⟨_, 6, rfl, own_lit _ 6 hz3 (by omega) rfl (by repeat (first | exact allInt_nil | refine allInt_cons _ ?_)), by omega, by omega, H3.out.alloc _, B3.out.alloc _⟩
  · go_wp2_with fail
    refine (below_cb p s n c 9 w3 H3.out (by omega) (by omega)).mono ?_
    rintro e w4 ⟨q, rfl, q0, q1, hc4, hb4⟩
    have H4 : Hid (CB w4 p s n c) := hc4
    have B4 : Hid (But p w w4) := B3.out.trans hb4
    have hz4 : w.heap.size ≤ w4.heap.size := B4.out.size
    clear hc4 hb4
    go_wp2
    go_loopw [8, 9] (fun v i wr => ∃ j : Nat, (j : Int) ≤ 2 + q ∧ i = .int .i64 j ∧ OwnI wr w.heap.size v j ∧ CB wr p s n c ∧ But p w wr) (fun _ i _ => 12 - (intOf i).toNat)
    case atStart => exact ⟨0, by omega, rfl, own_lit #[] 0 hz4 (by omega) rfl allInt_nil, H4.out.alloc _, B4.out.alloc _⟩
    case round =>
      obtain ⟨j, hj, rfl, ho, hcb, hbt⟩ := hrel
      have HO : Hid (OwnI wr w.heap.size u8 j) := ho
      have HC : Hid (CB wr p s n c) := hcb
      have HT : Hid (But p w wr) := hbt
      clear ho hcb hbt
      have hzr := HT.out.size
      by_cases hlt : (j : Int) < 2 + q
      · go_wp2_with fail
        refine (drawIns_cb p s n c (2 + q + 1) ch wr HC.out (by omega) (by omega) (by omega) (by omega)).mono ?_
        rintro e w5 ⟨o, r, a, b, m, rfl, hc5, hb5⟩
        have HO5 : Hid (OwnI w5 w.heap.size u8 j) := HO.out.but hb5 hp
        have HC5 : Hid (CB w5 p s n c) := hc5
        have HT5 : Hid (But p w w5) := HT.out.trans hb5
        have hz5 := HT5.out.size
        clear hc5 hb5 HO HC HT
        go_wp2_with (at_builtin; refine app_step rfl _ _ rfl w5 o r a b m w.heap.size j u8 rfl HO5.out rfl (by omega) hz5 ?_; intro g cap w6 ho6 hg6 hr6)
        go_roundw
        case rel =>
          exact ⟨j + 1, by omega, by go_num, ho6, (HC5.out.alloc _).grown hg6 (fun k hk => by have := hr6 k hk; omega), (HT5.out.alloc _).grown hg6 hr6⟩
        case measure => simp [intOf]; omega
      · have hjq : (j : Int) = 2 + q := by omega
        have kl : Below wr.heap.size wr (wr.alloc (.cells #[.int .i64 13, .int .i64 11] 3)) := (Below.refl _ _).alloc (Nat.le_refl _) _
        have KL : Hid (Below wr.heap.size wr (wr.alloc (.cells #[.int .i64 13, .int .i64 11] 3))) := kl
        have HJ : Hid ((j : Int) = 2 + q) := hjq
        clear kl hjq
        go_wp2_with fail
        refine (pick_cb p s n c wr.heap.size 2 [13, 11] _ (HC.out.keep KL.out) rfl (by simp) (by simp) (by simp) (by omega) (fun i hi => by match i, hi with | 0, _ => simp [go_sem] | 1, _ => simp [go_sem])).mono ?_
        rintro e w5 ⟨z, rfl, -, hc5, hb5⟩
        have HO5 : Hid (OwnI w5 w.heap.size u8 j) := (HO.out.keep KL.out).but hb5 hp
        have HC5 : Hid (CB w5 p s n c) := hc5
        have HT5 : Hid (But p w w5) := (HT.out.trans (But.of_below KL.out)).trans hb5
        have hz5 := HT5.out.size
        clear hc5 hb5 HO HC HT KL
        go_wp2_with (at_builtin; refine app_step rfl _ _ rfl w5 z 0 0 0 0 w.heap.size j u8 rfl HO5.out rfl (by omega) hz5 ?_; intro g cap w6 ho6 hg6 hr6)
        go_ret
        have hj2 := HJ.out
        exact ⟨_, j + 1, rfl, ho6, by omega, by omega, (HC5.out.alloc _).grown hg6 (fun k hk => by have := hr6 k hk; omega), (HT5.out.alloc _).grown hg6 hr6⟩
end

section
open Go.RowKit Go.Deep

theorem Bytes.mono {w : World} {p p' n : Nat} {s : Option Addr} (h : Bytes w p s n) (hp : p ≤ p') : Bytes w p' s n := by
  rcases h with h | ⟨g, o, hs, hg, hc⟩
  · exact .inl h
  · exact .inr ⟨g, o, hs, by omega, hc⟩
theorem OwnI.form {w : World} {base n : Nat} {v : Value} (h : OwnI w base v n) (hn : 0 < n) : ∃ g cap, v = .slice (some ⟨g, 0, none⟩) n cap ∧ base ≤ g ∧ g < w.heap.size := by
  obtain ⟨xs, h1, -⟩ := h
  exact h1.form hn
theorem OwnI.mono {w : World} {base base' n : Nat} {v : Value} (h : OwnI w base v n) (hb : base' ≤ base) : OwnI w base' v n := by
  obtain ⟨xs, ⟨h1, h2⟩, h3⟩ := h
  refine ⟨xs, ⟨h1, ?_⟩, h3⟩
  rcases h2 with h2 | ⟨g, cap, cur, hv, hb', hr⟩
  · exact .inl h2
  · exact .inr ⟨g, cap, cur, hv, by omega, hr⟩
def set5o (w : World) (g k : Nat) (z0 z1 z2 z3 z4 : Int) : World := ((((w.setCell ⟨g, k, none⟩ (.int .i64 z0)).setCell ⟨g, k + 1, none⟩ (.int .i64 z1)).setCell ⟨g, k + 2, none⟩ (.int .i64 z2)).setCell ⟨g, k + 3, none⟩ (.int .i64 z3)).setCell ⟨g, k + 4, none⟩ (.int .i64 z4)
theorem OwnI.set5o {w : World} {base n g k : Nat} {v : Value} (h : OwnI w base v n) (z0 z1 z2 z3 z4 : Int) : OwnI (set5o w g k z0 z1 z2 z3 z4) base v n := ((((h.set z0).set z1).set z2).set z3).set z4
theorem CB.set5o {w : World} {p n c g k : Nat} {s : Option Addr} (h : CB w p s n c) (hg : p < g) (z0 z1 z2 z3 z4 : Int) : CB (set5o w g k z0 z1 z2 z3 z4) p s n c := ((((h.set hg).set hg).set hg).set hg).set hg
theorem but_set5o {w0 w : World} {p g k : Nat} (h : But p w0 w) (hg : w0.heap.size ≤ g) (z0 z1 z2 z3 z4 : Int) : But p w0 (set5o w g k z0 z1 z2 z3 z4) := by
  have b : Below w0.heap.size w (set5o w g k z0 z1 z2 z3 z4) := (((((Below.refl _ _).setCell (p := ⟨g, k, none⟩) hg _).setCell (p := ⟨g, k + 1, none⟩) hg _).setCell (p := ⟨g, k + 2, none⟩) hg _).setCell (p := ⟨g, k + 3, none⟩) hg _).setCell (p := ⟨g, k + 4, none⟩) hg _
  exact ⟨b.os.trans h.os, b.tape.trans h.tape, b.output.trans h.output, Nat.le_trans h.size b.size, fun k hk hp => (b.block k hk).trans (h.block k hk hp)⟩
theorem OwnI.at {w : World} {base n g cap k : Nat} (h : OwnI w base (.slice (some ⟨g, 0, none⟩) n cap) n) (hk : k < n) : ∃ z0 z1 z2 z3 z4 : Int, w.cell? ⟨g, k * 5, none⟩ = some (.int .i64 z0) ∧ w.cell? ⟨g, k * 5 + 1, none⟩ = some (.int .i64 z1) ∧ w.cell? ⟨g, k * 5 + 2, none⟩ = some (.int .i64 z2) ∧ w.cell? ⟨g, k * 5 + 3, none⟩ = some (.int .i64 z3) ∧ w.cell? ⟨g, k * 5 + 4, none⟩ = some (.int .i64 z4) ∧ (∀ j, j < 5 → w.frozen? ⟨g, k * 5 + j, none⟩ = false) := by
  obtain ⟨xs, h1, h2⟩ := h
  have C : ∀ j, j < 5 → ∃ z : Int, w.cell? ⟨g, k * 5 + j, none⟩ = some (.int .i64 z) := fun j hj => by
    obtain ⟨u, h3, h4, -⟩ := own_cell (k := k * 5 + j) h1 (by omega)
    obtain ⟨z, rfl⟩ := h2 u h4
    exact ⟨z, h3⟩
  obtain ⟨z0, c0⟩ := C 0 (by omega)
  obtain ⟨z1, c1⟩ := C 1 (by omega)
  obtain ⟨z2, c2⟩ := C 2 (by omega)
  obtain ⟨z3, c3⟩ := C 3 (by omega)
  obtain ⟨z4, c4⟩ := C 4 (by omega)
  exact ⟨z0, z1, z2, z3, z4, c0, c1, c2, c3, c4, fun j hj => (own_cell (k := k * 5 + j) h1 (by omega)).choose_spec.2.2.1⟩
def lenOf : Value → Nat | .slice _ n _ => n | _ => 0
end

section
open Go.RowKit Go.Deep

/- v is a row of n bodies of 1 to 12 places each -/
def OwnS (w : World) (base : Nat) (v : Value) (n : Nat) : Prop := ∃ xs, w.ownsRow base 40 1 v n xs ∧ ∀ u ∈ xs, ∃ m, 1 ≤ m ∧ m ≤ 12 ∧ OwnI w base u m

theorem OwnS.but {w w' : World} {base n p : Nat} {v : Value} (h : OwnS w base v n) (hb : But p w w') (hp : p < base) : OwnS w' base v n := by
  obtain ⟨xs, h1, h2⟩ := h
  refine ⟨xs, own_block h1 (fun k h3 h4 => hb.block k h4 (by omega)), fun u hu => ?_⟩
  obtain ⟨m, m1, m2, h3⟩ := h2 u hu
  exact ⟨m, m1, m2, h3.but hb hp⟩
theorem OwnS.keep {w w' : World} {base n : Nat} {v : Value} (h : OwnS w base v n) (hb : Below w.heap.size w w') : OwnS w' base v n := by
  obtain ⟨xs, h1, h2⟩ := h
  refine ⟨xs, own_block h1 (fun k h3 h4 => hb.block k h4), fun u hu => ?_⟩
  obtain ⟨m, m1, m2, h3⟩ := h2 u hu
  exact ⟨m, m1, m2, h3.keep hb⟩
theorem OwnS.nil (w : World) (base : Nat) : OwnS w base (.slice none 0 0) 0 := ⟨[], ⟨rfl, .inl ⟨rfl, rfl⟩⟩, fun u hu => by cases hu⟩
theorem OwnC.nil (w : World) (base : Nat) : OwnC w base (.slice none 0 0) 0 := ⟨[], ⟨rfl, .inl ⟨rfl, rfl⟩⟩, fun u hu => by cases hu⟩

/- the block of a row, and its element type -/
def RowOf (w : World) (row : Option Nat) (E : TypeId) : Prop := ∀ k, row = some k → ∃ cur fr, w.heap[k]? = some (.cells cur E fr)
theorem row_of {w : World} {base size n : Nat} {e : TypeId} {v : Value} {xs : List Value} (h : w.ownsRow base e size v n xs) : RowOf w v.ownBlock e := by
  intro k hk
  rcases h.2 with ⟨rfl, -⟩ | ⟨g, cap, cur, rfl, hb, hg, -⟩
  · cases hk
  · simp [Value.ownBlock] at hk
    subst hk
    exact ⟨cur, (0, 0), hg⟩
theorem own_far {w w' : World} {base size n : Nat} {e E : TypeId} {v : Value} {xs : List Value} {row : Option Nat} (h : w.ownsRow base e size v n xs) (hg : w.grownBy w' row) (hr : RowOf w row E) (hE : e ≠ E) : w'.ownsRow base e size v n xs := by
  obtain ⟨h1, h2⟩ := h
  refine ⟨h1, ?_⟩
  rcases h2 with h2 | ⟨g, cap, cur, hv, hb, hgg, h3⟩
  · exact .inl h2
  · have hlt : g < w.heap.size := by
      apply Classical.byContradiction
      intro hn
      rw [Array.getElem?_eq_none (by omega)] at hgg
      cases hgg
    refine .inr ⟨g, cap, cur, hv, hb, (hg.block g hlt ?_).trans hgg, h3⟩
    intro e'
    obtain ⟨cur', fr', h4⟩ := hr g e'.symm
    rw [hgg] at h4
    cases h4
    exact hE rfl
theorem OwnI.far {w w' : World} {base n : Nat} {E : TypeId} {v : Value} {row : Option Nat} (h : OwnI w base v n) (hg : w.grownBy w' row) (hr : RowOf w row E) (hE : 42 ≠ E) : OwnI w' base v n := by
  obtain ⟨xs, h1, h2⟩ := h
  exact ⟨xs, own_far h1 hg hr hE, h2⟩
theorem OwnC.far {w w' : World} {base n : Nat} {E : TypeId} {v : Value} {row : Option Nat} (h : OwnC w base v n) (hg : w.grownBy w' row) (hr : RowOf w row E) (hE : 3 ≠ E) : OwnC w' base v n := by
  obtain ⟨xs, h1, h2⟩ := h
  exact ⟨xs, own_far h1 hg hr hE, h2⟩
theorem OwnS.far {w w' : World} {base n : Nat} {E : TypeId} {v : Value} {row : Option Nat} (h : OwnS w base v n) (hg : w.grownBy w' row) (hr : RowOf w row E) (hE : 40 ≠ E) (hE' : 42 ≠ E) : OwnS w' base v n := by
  obtain ⟨xs, h1, h2⟩ := h
  refine ⟨xs, own_far h1 hg hr hE, fun u hu => ?_⟩
  obtain ⟨m, m1, m2, h3⟩ := h2 u hu
  exact ⟨m, m1, m2, h3.far hg hr hE'⟩

theorem OwnC.set {w : World} {base n g' k : Nat} {v : Value} (h : OwnC w base v n) (z : Int) : OwnC (w.setCell ⟨g', k, none⟩ (.int .i64 z)) base v n := by
  obtain ⟨xs, ⟨h1, h2⟩, h3⟩ := h
  rcases h2 with h2 | ⟨g, cap, cur, rfl, hb, hg, hr⟩
  · exact ⟨xs, ⟨h1, .inl h2⟩, h3⟩
  · by_cases e : g = g'
    · subst e
      have := (World.ownsRow.stored (w := w) (base := base) (e := 3) (size := 1) (g := g) (n := n) (cap := cap) (xs := xs) ⟨h1, .inr ⟨g, cap, cur, rfl, hb, hg, hr⟩⟩ k (.int .i64 z)).1
      exact ⟨_, this, h3.set k z⟩
    · refine ⟨xs, ⟨h1, .inr ⟨g, cap, cur, rfl, hb, ?_, hr⟩⟩, h3⟩
      rw [Below.heap_setCell w ⟨g', k, none⟩ _ g e]
      exact hg
/- a number stored into a block that is no row of bodies -/
theorem OwnS.set {w : World} {base n g' k : Nat} {v : Value} {cur' : Array Value} {E : TypeId} {fr' : Nat × Nat} (h : OwnS w base v n) (hE : w.heap[g']? = some (.cells cur' E fr')) (hne : 40 ≠ E) (z : Int) : OwnS (w.setCell ⟨g', k, none⟩ (.int .i64 z)) base v n := by
  obtain ⟨xs, ⟨h1, h2⟩, h3⟩ := h
  refine ⟨xs, ⟨h1, ?_⟩, fun u hu => ?_⟩
  · rcases h2 with h2 | ⟨g, cap, cur, rfl, hb, hg, hr⟩
    · exact .inl h2
    · refine .inr ⟨g, cap, cur, rfl, hb, ?_, hr⟩
      rw [Below.heap_setCell w ⟨g', k, none⟩ _ g ?_]
      · exact hg
      · intro e
        simp at e
        subst e
        rw [hg] at hE
        cases hE
        exact hne rfl
  · obtain ⟨m, m1, m2, h4⟩ := h3 u hu
    exact ⟨m, m1, m2, h4.set z⟩
/- anything stored into a block below base -/
theorem own_low {w : World} {base size n : Nat} {e : TypeId} {v : Value} {xs : List Value} {a : Addr} {x : Value} (h : w.ownsRow base e size v n xs) (ha : a.block < base) : (w.setCell a x).ownsRow base e size v n xs := by
  obtain ⟨h1, h2⟩ := h
  refine ⟨h1, ?_⟩
  rcases h2 with h2 | ⟨g, cap, cur, hv, hb, hg, h3⟩
  · exact .inl h2
  · exact .inr ⟨g, cap, cur, hv, hb, (Below.heap_setCell w a x g (by omega)).trans hg, h3⟩
theorem OwnI.low {w : World} {base n : Nat} {v x : Value} {a : Addr} (h : OwnI w base v n) (ha : a.block < base) : OwnI (w.setCell a x) base v n := by
  obtain ⟨xs, h1, h2⟩ := h
  exact ⟨xs, own_low h1 ha, h2⟩
theorem OwnC.low {w : World} {base n : Nat} {v x : Value} {a : Addr} (h : OwnC w base v n) (ha : a.block < base) : OwnC (w.setCell a x) base v n := by
  obtain ⟨xs, h1, h2⟩ := h
  exact ⟨xs, own_low h1 ha, h2⟩
theorem OwnS.low {w : World} {base n : Nat} {v x : Value} {a : Addr} (h : OwnS w base v n) (ha : a.block < base) : OwnS (w.setCell a x) base v n := by
  obtain ⟨xs, h1, h2⟩ := h
  refine ⟨xs, own_low h1 ha, fun u hu => ?_⟩
  obtain ⟨m, m1, m2, h3⟩ := h2 u hu
  exact ⟨m, m1, m2, h3.low ha⟩

theorem OwnS.bods {w : World} {base n : Nat} {v : Value} (h : OwnS w base v n) : ∃ (s : Option Addr) (c : Nat) (l : List (List I5)), v = .slice s l.length c ∧ l.length = n ∧ (∀ i, i < l.length → (l.getD i []).length ≤ 12) ∧ BodsR w base w.heap.size s l := by
  obtain ⟨xs, h1, h2⟩ := h
  rcases h1.2 with ⟨rfl, rfl⟩ | ⟨g, cap, cur, rfl, hb, hg, hr⟩
  · exact ⟨none, 0, [], rfl, rfl, fun i hi => absurd hi (Nat.not_lt_zero _), .inl rfl⟩
  · obtain ⟨L, hL⟩ := @choose_lt (List I5) ⟨[]⟩ n (fun k l => BodR w base w.heap.size g (0 + k) l ∧ l.length ≤ 12) (fun k hk => by
      obtain ⟨u, h3, h4, -⟩ := own_cell h1 (k := k) (by omega)
      obtain ⟨m, m1, m2, h5⟩ := h2 u h4
      obtain ⟨s, c, l, hv, hl, hi⟩ := h5.ins
      rw [hv] at h3
      exact ⟨l, ⟨s, c, by rw [Nat.zero_add]; exact h3, hi⟩, by omega⟩)
    have e : ∀ i, i < n → ((List.range n).map L).getD i [] = L i := fun i hi => by simp [hi]
    refine ⟨some ⟨g, 0, none⟩, cap, (List.range n).map L, by simp, by simp, ?_, ?_⟩
    · intro i hi
      simp at hi
      rw [e i hi]
      exact (hL i hi).2
    · by_cases h0 : n = 0
      · left; subst h0; rfl
      · right
        obtain ⟨u, -, -, -, h5, h6⟩ := own_cell (k := 0) h1 (by omega)
        refine ⟨g, 0, rfl, h5, h6, ?_⟩
        intro i hi
        simp at hi
        rw [e i hi]
        exact (hL i hi).1

theorem info3 : ∃ i, Tryz.prog.info? 3 = some i ∧ i.zero = some (.int .i64 0) ∧ i.size = 1 ∧ i.bytes = 8 := ⟨_, rfl, rfl, rfl, rfl⟩
theorem info29 : ∃ i, Tryz.prog.info? 40 = some i ∧ i.zero = some (.slice none 0 0) ∧ i.size = 1 ∧ i.bytes = 24 := ⟨_, rfl, rfl, rfl, rfl⟩
theorem newRow1 (w : World) (x : Value) (T : TypeId) : ∀ j u, [x][j]? = some u → (w.alloc (.cells #[x] T)).cell? (Addr.add ⟨w.heap.size, 0, none⟩ j) = some u := by
  intro j u h
  match j, h with
  | 0, h => simpa [Addr.add, go_sem] using h

/- append of one number, as a step of a region that draws its order -/
theorem app_caps {ops : Array Oper} {o : Oper} {a : Act} {K : Act → World → Prop} {Q : Exit → Act → World → Prop} {F : Prop} (hgd : o.guard = none) (s x : Operand) (ho : o.op = .call { callee := .builtin .append, args := #[s, x], argTypes := #[24, 24] })
    (w : World) (z : Int) (base n : Nat) (v : Value) (hs : a.eval s = v) (hown : OwnC w base v n) (hx : a.eval x = .slice (some ⟨w.heap.size, 0, none⟩) 1 1) (hn : n ≤ 1000) (hbase : base ≤ w.heap.size)
    (h : ∀ g cap w', OwnC w' base (.slice (some ⟨g, 0, none⟩) (n + 1) cap) (n + 1) → (w.alloc (.cells #[.int .i64 z] 3)).grownBy w' v.ownBlock → (∀ k, v.ownBlock = some k → base ≤ k) → RowOf w v.ownBlock 3 → K (a.put o.dst (.slice (some ⟨g, 0, none⟩) (n + 1) cap)) w') :
    if Region.wanted o (yielded ops a.tmps) = true then Oper.wp Tryz.prog o a (w.alloc (.cells #[.int .i64 z] 3)) K Q else F := by
  obtain ⟨i0, hi, hz0, hz1, hz2⟩ := info3
  obtain ⟨xs, h1, h2⟩ := hown
  have h1' := own_block (w' := w.alloc (.cells #[.int .i64 z] 3)) h1 (fun k _ hk => Below.heap_alloc _ _ _ hk)
  refine step_append_lies _ hgd s x 24 ho base 3 i0 _ 1 8 Tryz.underlying24 hi hz0 hz1 hz2 rfl (by decide) v n xs hs h1' ⟨w.heap.size, 0, none⟩ 1 1 [.int .i64 z] hx rfl (newRow1 w _ _) (fun u hu => by simp at hu; subst hu; rfl) (by decide) (by unfold maxLen; omega) (by omega) (by simp; omega) _ rfl ?_
  intro g cap w' q1 q2 q3 q4
  exact h g cap w' ⟨_, q1, h2.append (allInt_cons _ allInt_nil)⟩ q2 (own_row h1) (row_of h1)

/- append of one body, as a step of a region that draws its order -/
theorem app_bods {ops : Array Oper} {o : Oper} {a : Act} {K : Act → World → Prop} {Q : Exit → Act → World → Prop} {F : Prop} (hgd : o.guard = none) (s x : Operand) (ho : o.op = .call { callee := .builtin .append, args := #[s, x], argTypes := #[25, 25] })
    (w : World) (y : Value) (m base n : Nat) (v : Value) (hs : a.eval s = v) (hown : OwnS w base v n) (hy : OwnI w base y m) (hm1 : 1 ≤ m) (hm2 : m ≤ 12) (hx : a.eval x = .slice (some ⟨w.heap.size, 0, none⟩) 1 1) (hn : n ≤ 1000) (hbase : base ≤ w.heap.size)
    (h : ∀ g cap w', OwnS w' base (.slice (some ⟨g, 0, none⟩) (n + 1) cap) (n + 1) → (w.alloc (.cells #[y] 40)).grownBy w' v.ownBlock → (∀ k, v.ownBlock = some k → base ≤ k) → RowOf (w.alloc (.cells #[y] 40)) v.ownBlock 40 → K (a.put o.dst (.slice (some ⟨g, 0, none⟩) (n + 1) cap)) w') :
    if Region.wanted o (yielded ops a.tmps) = true then Oper.wp Tryz.prog o a (w.alloc (.cells #[y] 40)) K Q else F := by
  obtain ⟨i0, hi, hz0, hz1, hz2⟩ := info29
  obtain ⟨xs, h1, h2⟩ := hown
  have ka : Below w.heap.size w (w.alloc (.cells #[y] 40)) := (Below.refl _ _).alloc (Nat.le_refl _) _
  have h1' := own_block (w' := w.alloc (.cells #[y] 40)) h1 (fun k _ hk => Below.heap_alloc _ _ _ hk)
  have hone : y.oneCell' = true := by
    obtain ⟨ys, ⟨-, q⟩, -⟩ := hy
    rcases q with ⟨rfl, -⟩ | ⟨g, cap, cur, rfl, -⟩ <;> rfl
  refine step_append_lies _ hgd s x 25 ho base 40 i0 _ 1 24 Tryz.underlying25 hi hz0 hz1 hz2 rfl (by decide) v n xs hs h1' ⟨w.heap.size, 0, none⟩ 1 1 [y] hx rfl (newRow1 w _ _) (fun u hu => by simp at hu; subst hu; exact hone) (by decide) (by unfold maxLen; omega) (by omega) (by simp; omega) _ rfl ?_
  intro g cap w' q1 q2 q3 q4
  refine h g cap w' ⟨_, q1, ?_⟩ q2 (own_row h1) (row_of h1')
  intro u hu
  rcases List.mem_append.1 hu with h3 | h3
  · obtain ⟨k, k1, k2, h4⟩ := h2 u h3
    exact ⟨k, k1, k2, (h4.keep ka).far q2 (row_of h1') (by decide)⟩
  · simp at h3
    subst h3
    exact ⟨m, hm1, hm2, (hy.keep ka).far q2 (row_of h1') (by decide)⟩

/- the state of a drawn program: the cursor at p, the answer's two cells at R, the program's at R + 1, its rows from R + 2 on -/
structure Pr (w0 w : World) (p : Nat) (s : Option Addr) (n c R : Nat) (v0 v1 : Value) : Prop where
  cb : CB w p s n c
  but : But p w0 w
  c0 : w.cell? ⟨R + 1, 0, none⟩ = some v0
  c1 : w.cell? ⟨R + 1, 1, none⟩ = some v1
  fP : ∀ j, w.frozen? ⟨R + 1, j, none⟩ = false
  r0 : (w.cell? ⟨R, 0, none⟩).isSome = true
  r1 : (w.cell? ⟨R, 1, none⟩).isSome = true
  fR : ∀ j, w.frozen? ⟨R, j, none⟩ = false
  lt : R + 1 < w.heap.size
  pR : p < R
  old : w0.heap.size ≤ R

theorem Pr.step {w0 w w' : World} {p n c R : Nat} {s : Option Addr} {v0 v1 : Value} (h : Pr w0 w p s n c R v0 v1) (hc : CB w' p s n c) (hb : But p w w') : Pr w0 w' p s n c R v0 v1 := by
  have h1 := h.lt
  have h2 := h.pR
  have h3 := hb.size
  exact ⟨hc, h.but.trans hb, (hb.cell (p := ⟨R + 1, 0, none⟩) h1 (by show R + 1 ≠ p; omega)).trans h.c0, (hb.cell (p := ⟨R + 1, 1, none⟩) h1 (by show R + 1 ≠ p; omega)).trans h.c1, fun j => (hb.frozen (p := ⟨R + 1, j, none⟩) h1 (by show R + 1 ≠ p; omega)).trans (h.fP j),
    by rw [hb.cell (p := ⟨R, 0, none⟩) (by show R < _; omega) (by show R ≠ p; omega)]; exact h.r0, by rw [hb.cell (p := ⟨R, 1, none⟩) (by show R < _; omega) (by show R ≠ p; omega)]; exact h.r1, fun j => (hb.frozen (p := ⟨R, j, none⟩) (by show R < _; omega) (by show R ≠ p; omega)).trans (h.fR j), by omega, h.pR, h.old⟩
theorem Pr.grown {w0 w w' : World} {p n c R : Nat} {s : Option Addr} {v0 v1 : Value} {row : Option Nat} (h : Pr w0 w p s n c R v0 v1) (hg : w.grownBy w' row) (hr : ∀ k, row = some k → R + 2 ≤ k) : Pr w0 w' p s n c R v0 v1 := by
  have h1 := h.lt
  have h2 := h.pR
  have h4 := h.old
  have h3 := hg.size
  have hk : ∀ k, k < R + 2 → w'.heap[k]? = w.heap[k]? := fun k hk => hg.block k (by omega) (fun e => by have := hr k e.symm; omega)
  have cl : ∀ k j, k < R + 2 → w'.cell? ⟨k, j, none⟩ = w.cell? ⟨k, j, none⟩ := fun k j h => World.cell?_of_block (w := w) (hk k h)
  have fz : ∀ k j, k < R + 2 → w'.frozen? ⟨k, j, none⟩ = w.frozen? ⟨k, j, none⟩ := fun k j h => World.frozen?_of_block (w := w) (hk k h)
  exact ⟨h.cb.grown hg (fun k e => by have := hr k e; omega), h.but.grown hg (fun k e => by have := hr k e; omega), (cl _ _ (by omega)).trans h.c0, (cl _ _ (by omega)).trans h.c1, fun j => (fz _ _ (by omega)).trans (h.fP j), by rw [cl _ _ (by omega)]; exact h.r0, by rw [cl _ _ (by omega)]; exact h.r1, fun j => (fz _ _ (by omega)).trans (h.fR j), by omega, h.pR, h.old⟩
theorem Pr.alloc {w0 w : World} {p n c R : Nat} {s : Option Addr} {v0 v1 : Value} (h : Pr w0 w p s n c R v0 v1) (o : Obj) : Pr w0 (w.alloc o) p s n c R v0 v1 := h.step (h.cb.alloc o) ((But.refl _ _).alloc o)
theorem Pr.drew {w0 w : World} {p n c R : Nat} {s : Option Addr} {v0 v1 : Value} (h : Pr w0 w p s n c R v0 v1) : Pr w0 w.drew p s n c R v0 v1 := h.step (h.cb.keep (Below.drew (Below.refl _ _))) (But.of_below (Below.drew (Below.refl _ _)))
theorem cellAt {w : World} {g i : Nat} {v : Value} (h : (w.cell? ⟨g, i, none⟩).isSome = true) : (w.setCell ⟨g, i, none⟩ v).cell? ⟨g, i, none⟩ = some v := World.cell?_setCell_same' w _ v h
theorem cellOff {w : World} {g g' i j : Nat} {v : Value} (h : g ≠ g' ∨ i ≠ j) : (w.setCell ⟨g, i, none⟩ v).cell? ⟨g', j, none⟩ = w.cell? ⟨g', j, none⟩ := by
  apply World.cell?_setCell_other
  intro e
  injection e with e1 e2
  rcases h with h | h
  · exact h e1
  · exact h e2
theorem Pr.set0 {w0 w : World} {p n c R : Nat} {s : Option Addr} {v0 v1 : Value} (h : Pr w0 w p s n c R v0 v1) (v : Value) : Pr w0 (w.setCell ⟨R + 1, 0, none⟩ v) p s n c R v v1 := by
  have h2 := h.pR
  have h4 := h.old
  exact ⟨h.cb.set (by show p < R + 1; omega), but_set1 h.but (by omega), cellAt (by rw [h.c0]; rfl), (cellOff (by omega)).trans h.c1, fun j => by rw [World.frozen?_setCell]; exact h.fP j, by rw [cellOff (by omega)]; exact h.r0, by rw [cellOff (by omega)]; exact h.r1, fun j => by rw [World.frozen?_setCell]; exact h.fR j, by simpa using h.lt, h.pR, h.old⟩
theorem Pr.set1 {w0 w : World} {p n c R : Nat} {s : Option Addr} {v0 v1 : Value} (h : Pr w0 w p s n c R v0 v1) (v : Value) : Pr w0 (w.setCell ⟨R + 1, 1, none⟩ v) p s n c R v0 v := by
  have h2 := h.pR
  have h4 := h.old
  exact ⟨h.cb.set (by show p < R + 1; omega), but_set1 h.but (by omega), (cellOff (by omega)).trans h.c0, cellAt (by rw [h.c1]; rfl), fun j => by rw [World.frozen?_setCell]; exact h.fP j, by rw [cellOff (by omega)]; exact h.r0, by rw [cellOff (by omega)]; exact h.r1, fun j => by rw [World.frozen?_setCell]; exact h.fR j, by simpa using h.lt, h.pR, h.old⟩
end

section
open Go.RowKit Go.Deep

theorem pr_new (w : World) (p n c : Nat) (s : Option Addr) (v0 v1 u0 u1 : Value) (T T' : TypeId) (h : CB w p s n c) : Pr w ((w.alloc (.cells #[u0, u1] T)).alloc (.cells #[v0, v1] T')) p s n c w.heap.size v0 v1 :=
  ⟨(h.alloc _).alloc _, ((But.refl _ _).alloc _).alloc _, by simp [go_sem], by simp [go_sem], fun j => by simp [go_sem], by simp [go_sem], by simp [go_sem], fun j => by simp [go_sem], by simp, h.lt, Nat.le_refl _⟩

theorem own_mono {w : World} {base base' size n : Nat} {e : TypeId} {v : Value} {xs : List Value} (h : w.ownsRow base e size v n xs) (hb : base' ≤ base) : w.ownsRow base' e size v n xs := by
  obtain ⟨h1, h2⟩ := h
  refine ⟨h1, ?_⟩
  rcases h2 with h2 | ⟨g, cap, cur, hv, hb', hr⟩
  · exact .inl h2
  · exact .inr ⟨g, cap, cur, hv, by omega, hr⟩
theorem OwnC.mono {w : World} {base base' n : Nat} {v : Value} (h : OwnC w base v n) (hb : base' ≤ base) : OwnC w base' v n := by
  obtain ⟨xs, h1, h2⟩ := h
  exact ⟨xs, own_mono h1 hb, h2⟩
theorem OwnS.mono {w : World} {base base' n : Nat} {v : Value} (h : OwnS w base v n) (hb : base' ≤ base) : OwnS w base' v n := by
  obtain ⟨xs, h1, h2⟩ := h
  refine ⟨xs, own_mono h1 hb, fun u hu => ?_⟩
  obtain ⟨m, m1, m2, h3⟩ := h2 u hu
  exact ⟨m, m1, m2, h3.mono hb⟩

theorem own_sl {w : World} {base size n : Nat} {e : TypeId} {v : Value} {xs : List Value} (h : w.ownsRow base e size v n xs) : ∃ (s : Option Addr) (c : Nat), v = .slice s n c := by
  rcases h.2 with ⟨rfl, rfl⟩ | ⟨g, cap, cur, rfl, -⟩
  · exact ⟨none, 0, rfl⟩
  · exact ⟨_, _, rfl⟩
theorem OwnI.sl {w : World} {base n : Nat} {v : Value} (h : OwnI w base v n) : ∃ (s : Option Addr) (c : Nat), v = .slice s n c := by
  obtain ⟨xs, h1, -⟩ := h
  exact own_sl h1
theorem OwnC.sl {w : World} {base n : Nat} {v : Value} (h : OwnC w base v n) : ∃ (s : Option Addr) (c : Nat), v = .slice s n c := by
  obtain ⟨xs, h1, -⟩ := h
  exact own_sl h1
theorem OwnS.sl {w : World} {base n : Nat} {v : Value} (h : OwnS w base v n) : ∃ (s : Option Addr) (c : Nat), v = .slice s n c := by
  obtain ⟨xs, h1, -⟩ := h
  exact own_sl h1

/- a call of a Go function, as a step of a region that draws its order -/
theorem step_call {ops : Array Oper} {o : Oper} {a : Act} {w : World} {K : Act → World → Prop} {Q : Exit → Act → World → Prop} {F : Prop} (f : FuncId) (args : Array Value) (hgd : o.guard = none) (xs : Array Operand) (ats : Array TypeId) (ho : o.op = .call { callee := .value (.func f), args := xs, argTypes := ats }) (hx : xs.map a.eval = args)
    (hent : ∀ (args : Array Value) (w : World), (callFunc f args).run Tryz.prog w = .ok (.enter f args) w) (h : Calls Tryz.prog f args w fun e w' => ∃ v, e = .returned v ∧ K (a.put o.dst v) w') :
    if Region.wanted o (yielded ops a.tmps) = true then Oper.wp Tryz.prog o a w K Q else F := by
  have hw : Region.wanted o (yielded ops a.tmps) = true := by simp [Region.wanted, hgd]
  rw [if_pos hw]
  obtain ⟨dst, op, ty, pos, after, guard⟩ := o
  simp only at ho
  subst ho
  unfold Oper.wp
  rw [execOp_call_go]
  have e : (#[] ++ xs.map a.eval ++ #[]) = args := by rw [hx]; simp
  rw [e, hent, Oper.upon_enter]
  refine h.mono ?_
  rintro e w' ⟨v, rfl, hk⟩
  exact hk
theorem ent_below (args : Array Value) (w : World) : (callFunc 30 args).run Tryz.prog w = .ok (.enter 30 args) w := by kernel_rfl
theorem ent_body (args : Array Value) (w : World) : (callFunc 52 args).run Tryz.prog w = .ok (.enter 52 args) w := by kernel_rfl
theorem ent_pick (args : Array Value) (w : World) : (callFunc 31 args).run Tryz.prog w = .ok (.enter 31 args) w := by kernel_rfl
theorem ent_spoil (args : Array Value) (w : World) : (callFunc 32 args).run Tryz.prog w = .ok (.enter 32 args) w := by kernel_rfl

set_option maxRecDepth 100000 in
set_option maxHeartbeats 4000000 in
theorem drawRight_cb (p : Nat) (s : Option Addr) (n c : Nat) (w : World) (h : CB w p s n c) :
    Calls Tryz.prog 28 #[.pointer (some ⟨p, 0, none⟩)] w fun e w' => ∃ (v0 v1 : Value) (a b : Nat), e = .returned (.agg #[v0, v1]) ∧ OwnC w' w.heap.size v0 a ∧ OwnS w' w.heap.size v1 b ∧ 1 ≤ a ∧ a ≤ 3 ∧ 1 ≤ b ∧ b ≤ 4 ∧ CB w' p s n c ∧ But p w w' := by
  have hp := h.lt
  have H0 : Hid (Pr w ((w.alloc (.cells #[.slice none 0 0, .slice none 0 0] 27)).alloc (.cells #[.slice none 0 0, .slice none 0 0] 27)) p s n c w.heap.size (.slice none 0 0) (.slice none 0 0)) := pr_new w p n c s _ _ _ _ _ _ h
  clear h
  go_enter Tryz.func28, Tryz.ntmps28
  go_wp2_with fail
  refine (below_cb p s n c 3 _ H0.out.cb (by omega) (by omega)).mono ?_
  rintro e w1 ⟨x, rfl, x0, x1, hc1, hb1⟩
  have H1 : Hid (Pr w w1 p s n c w.heap.size (.slice none 0 0) (.slice none 0 0)) := H0.out.step hc1 hb1
  clear hc1 hb1 H0
  go_wp2
  go_loopw [5] (fun i wr => ∃ (j : Nat) (v0 : Value), (j : Int) ≤ 1 + x ∧ i = .int .i64 j ∧ Pr w wr p s n c w.heap.size v0 (.slice none 0 0) ∧ OwnC wr (w.heap.size + 2) v0 j) (fun i _ => 4 - (intOf i).toNat)
  case atStart => exact ⟨0, _, by omega, rfl, H1.out, OwnC.nil _ _⟩
  case round =>
    obtain ⟨j, v0, hj, rfl, hpr, how⟩ := hrel
    have HP : Hid (Pr w wr p s n c w.heap.size v0 (.slice none 0 0)) := hpr
    have HW : Hid (OwnC wr (w.heap.size + 2) v0 j) := how
    clear hpr how
    by_cases hlt : (j : Int) < 1 + x
    · have c0 := HP.out.c0
      go_wp2_with fail
      first | go_region_law (first | (refine app_caps (by rfl) _ _ (by rfl) w5 (IntKind.i64.wrap (1 + y)) (w.heap.size + 2) j v0 (by rfl) ((HW.out.keep (w' := wr.drew) (Below.drew (Below.refl _ _))).but hb5 (by omega)) (by rfl) (by omega) P5.lt ?_; intro g cap w6 ho6 hg6 hr6 hrow6; have P6 := (P5.alloc _).grown hg6 hr6; have d2 := P6.c0; have d3 := P6.fP) | (refine step_call 30 #[.pointer (some ⟨p, 0, none⟩), .int .i64 4] (by rfl) _ _ (by rfl) (by simp [go_sem]) ent_below ?_; refine (below_cb p s n c 4 wr.drew HP.out.drew.cb (by omega) (by omega)).mono ?_; rintro e w5 ⟨y, rfl, y0, y1, hc5, hb5⟩; have P5 := HP.out.drew.step hc5 hb5; have d0 := P5.c0; have l5 := P5.lt; refine ⟨_, rfl, ?_⟩)) | fail
      all_goals
        clear c0 d0 d2 d3
        have H6 : Hid (Pr w w6 p s n c w.heap.size v0 (.slice none 0 0)) := P6
        have O6 : Hid (OwnC w6 (w.heap.size + 2) (.slice (some ⟨g, 0, none⟩) (j + 1) cap) (j + 1)) := ho6
        clear P6 ho6 P5 hb5 hc5
        go_wp2
        go_roundw
        case rel => exact ⟨j + 1, _, by omega, by go_num, H6.out.set0 _, O6.out.low (by simp)⟩
        case measure => simp [intOf]; omega
    · have hjx : Hid ((j : Int) = 1 + x) := by show _ = _; omega
      go_wp2
      go_loopw [6] (fun i wr => ∃ (k : Nat) (v1 : Value), k ≤ 4 ∧ i = .int .i64 k ∧ Pr w wr p s n c w.heap.size v0 v1 ∧ OwnC wr (w.heap.size + 2) v0 j ∧ OwnS wr (w.heap.size + 2) v1 k) (fun i _ => 4 - (intOf i).toNat)
      case atStart => exact ⟨0, _, by omega, rfl, HP.out, HW.out, OwnS.nil _ _⟩
      case round =>
        obtain ⟨k, v1, hk, rfl, hpr, hoc, hos⟩ := hrel
        have P1 : Hid (Pr w wr p s n c w.heap.size v0 v1) := hpr
        have C1 : Hid (OwnC wr (w.heap.size + 2) v0 j) := hoc
        have S1 : Hid (OwnS wr (w.heap.size + 2) v1 k) := hos
        clear hpr hoc hos HP HW
        go_wp2_with fail
        refine (below_cb p s n c 4 wr P1.out.cb (by omega) (by omega)).mono ?_
        rintro e w2 ⟨y, rfl, y0, y1, hc2, hb2⟩
        have P2 : Hid (Pr w w2 p s n c w.heap.size v0 v1) := P1.out.step hc2 hb2
        have C2 : Hid (OwnC w2 (w.heap.size + 2) v0 j) := C1.out.but hb2 (by omega)
        have S2 : Hid (OwnS w2 (w.heap.size + 2) v1 k) := S1.out.but hb2 (by omega)
        clear hc2 hb2 P1 C1 S1
        by_cases hlt' : (k : Int) < 1 + y
        · have c1 := P2.out.c1
          have l2 := P2.out.lt
          go_wp2_with fail
          first | go_region_law (first | (refine app_bods (by rfl) _ _ (by rfl) w5 (.slice sl m cp) m (w.heap.size + 2) k v1 (by rfl) ((S2.out.keep (w' := w2.drew) (Below.drew (Below.refl _ _))).but hb5 (by omega)) (ho5.mono (by simp; omega)) m1 m2 (by rfl) (by omega) l5 ?_; intro g cap w6 ho6 hg6 hr6 hrow6; have P6 := (P5.alloc _).grown hg6 hr6; have d2 := P6.c1; have d3 := P6.fP) | (refine step_call 52 #[.pointer (some ⟨p, 0, none⟩), .int .i64 (1 + x)] (by rfl) _ _ (by rfl) (by simp [go_sem]) ent_body ?_; refine (drawBody_cb p s n c (1 + x) w2.drew P2.out.drew.cb (by omega) (by omega)).mono ?_; rintro e w5 ⟨yv, m, rfl, ho5, m1, m2, hc5, hb5⟩; have P5 := P2.out.drew.step hc5 hb5; have d0 := P5.c1; have l5 := P5.lt; obtain ⟨sl, cp, rfl⟩ := ho5.sl; refine ⟨_, rfl, ?_⟩)) | fail
          all_goals
            clear c1 d0 d2 d3
            have H6 : Hid (Pr w w6 p s n c w.heap.size v0 v1) := P6
            have O6 : Hid (OwnS w6 (w.heap.size + 2) (.slice (some ⟨g, 0, none⟩) (k + 1) cap) (k + 1)) := ho6
            have C6 : Hid (OwnC w6 (w.heap.size + 2) v0 j) := (((C2.out.keep (w' := w2.drew) (Below.drew (Below.refl _ _))).but hb5 (by omega)).keep ((Below.refl _ _).alloc (Nat.le_refl _) _)).far hg6 hrow6 (by decide)
            clear P6 ho6 P5 hb5 hc5 ho5
            go_wp2
            go_roundw
            case rel => exact ⟨k + 1, _, by omega, by go_num, H6.out.set1 _, C6.out.low (by simp), O6.out.low (by simp)⟩
            case measure => simp [intOf]; omega
        · obtain ⟨s0, a0, rfl⟩ := C2.out.sl
          obtain ⟨s1, a1, rfl⟩ := S2.out.sl
          have c0 := P2.out.c0
          have c1 := P2.out.c1
          have l2 := P2.out.lt
          obtain ⟨q0, g0⟩ := Option.isSome_iff_exists.1 P2.out.r0
          obtain ⟨q1, g1⟩ := Option.isSome_iff_exists.1 P2.out.r1
          have fz := P2.out.fR
          have hjj := hjx.out
          have B2 : Hid (But p w w2) := P2.out.but
          have CB2 : Hid (CB w2 p s n c) := P2.out.cb
          go_wp2
          exact bodyPost_ret (v := .agg #[.slice s0 j a0, .slice s1 k a1]) (by simp [results, Tryz.results28, go_sem, g0, g1]) rfl ⟨_, _, j, k, rfl, ((C2.out.low (by simp)).low (by simp)).mono (by omega), ((S2.out.low (by simp)).low (by simp)).mono (by omega), by omega, by omega, by omega, by omega, (CB2.out.set hp).set hp, but_set1 (but_set1 B2.out (Nat.le_refl _)) (Nat.le_refl _)⟩
end

section
open Go.RowKit Go.Deep

theorem OwnC.form {w : World} {base n : Nat} {v : Value} (h : OwnC w base v n) (hn : 0 < n) : ∃ g cap, v = .slice (some ⟨g, 0, none⟩) n cap ∧ base ≤ g ∧ g < w.heap.size := by
  obtain ⟨xs, h1, -⟩ := h
  exact h1.form hn
theorem OwnS.form {w : World} {base n : Nat} {v : Value} (h : OwnS w base v n) (hn : 0 < n) : ∃ g cap, v = .slice (some ⟨g, 0, none⟩) n cap ∧ base ≤ g ∧ g < w.heap.size := by
  obtain ⟨xs, h1, -⟩ := h
  exact h1.form hn
theorem OwnC.at {w : World} {base n g cap k : Nat} (h : OwnC w base (.slice (some ⟨g, 0, none⟩) n cap) n) (hk : k < n) : ∃ z : Int, w.cell? ⟨g, k, none⟩ = some (.int .i64 z) ∧ w.frozen? ⟨g, k, none⟩ = false := by
  obtain ⟨xs, h1, h2⟩ := h
  obtain ⟨u, h3, h4, h5, -⟩ := own_cell (k := k) h1 (by omega)
  obtain ⟨z, rfl⟩ := h2 u h4
  exact ⟨z, h3, h5⟩
theorem OwnS.at {w : World} {base n g cap k : Nat} (h : OwnS w base (.slice (some ⟨g, 0, none⟩) n cap) n) (hk : k < n) : ∃ (g' m cap' : Nat), w.cell? ⟨g, k, none⟩ = some (.slice (some ⟨g', 0, none⟩) m cap') ∧ 1 ≤ m ∧ m ≤ 12 ∧ OwnI w base (.slice (some ⟨g', 0, none⟩) m cap') m ∧ base ≤ g' ∧ g' < w.heap.size := by
  obtain ⟨xs, h1, h2⟩ := h
  obtain ⟨u, h3, h4, h5, -⟩ := own_cell (k := k) h1 (by omega)
  obtain ⟨m, m1, m2, h6⟩ := h2 u h4
  obtain ⟨g', cap', rfl, h7, h8⟩ := h6.form (by omega)
  exact ⟨g', m, cap', h3, m1, m2, h6, h7, h8⟩
theorem own_type {w : World} {base size n g cap : Nat} {e : TypeId} {xs : List Value} (h : w.ownsRow base e size (.slice (some ⟨g, 0, none⟩) n cap) n xs) : ∃ cur fr, w.heap[g]? = some (.cells cur e fr) := row_of h g rfl
/- anything stored into a block of another kind -/
theorem own_kind {w : World} {base size n : Nat} {e E : TypeId} {v : Value} {xs : List Value} {a : Addr} {x : Value} {cur' : Array Value} {fr' : Nat × Nat} (h : w.ownsRow base e size v n xs) (hE : w.heap[a.block]? = some (.cells cur' E fr')) (hne : e ≠ E) : (w.setCell a x).ownsRow base e size v n xs := by
  obtain ⟨h1, h2⟩ := h
  refine ⟨h1, ?_⟩
  rcases h2 with h2 | ⟨g, cap, cur, hv, hb, hg, h3⟩
  · exact .inl h2
  · refine .inr ⟨g, cap, cur, hv, hb, (Below.heap_setCell w a x g ?_).trans hg, h3⟩
    intro e'
    rw [← e', hg] at hE
    cases hE
    exact hne rfl
theorem OwnC.kind {w : World} {base n : Nat} {E : TypeId} {v x : Value} {a : Addr} {cur' : Array Value} {fr' : Nat × Nat} (h : OwnC w base v n) (hE : w.heap[a.block]? = some (.cells cur' E fr')) (hne : 3 ≠ E) : OwnC (w.setCell a x) base v n := by
  obtain ⟨xs, h1, h2⟩ := h
  exact ⟨xs, own_kind h1 hE hne, h2⟩
theorem OwnS.kind {w : World} {base n : Nat} {E : TypeId} {v x : Value} {a : Addr} {cur' : Array Value} {fr' : Nat × Nat} (h : OwnS w base v n) (hE : w.heap[a.block]? = some (.cells cur' E fr')) (hne : 40 ≠ E) (hne' : 42 ≠ E) : OwnS (w.setCell a x) base v n := by
  obtain ⟨xs, h1, h2⟩ := h
  refine ⟨xs, own_kind h1 hE hne, fun u hu => ?_⟩
  obtain ⟨m, m1, m2, q, q1, q2⟩ := h2 u hu
  exact ⟨m, m1, m2, q, own_kind q1 hE hne', q2⟩

/- the state: the cursor at p, the answer's cells at R, the program's at P -/
structure Ps (w0 w : World) (p : Nat) (s : Option Addr) (n c R P : Nat) (v0 v1 : Value) : Prop where
  cb : CB w p s n c
  but : But p w0 w
  c0 : w.cell? ⟨P, 0, none⟩ = some v0
  c1 : w.cell? ⟨P, 1, none⟩ = some v1
  fP : ∀ j, w.frozen? ⟨P, j, none⟩ = false
  r0 : (w.cell? ⟨R, 0, none⟩).isSome = true
  r1 : (w.cell? ⟨R, 1, none⟩).isSome = true
  fR : ∀ j, w.frozen? ⟨R, j, none⟩ = false
  lt : P < w.heap.size
  kind : ∃ cur fr, w.heap[P]? = some (.cells cur 27 fr)
  pR : p < R
  RP : R < P
  old : w0.heap.size ≤ R

theorem Ps.step {w0 w w' : World} {p n c R P : Nat} {s : Option Addr} {v0 v1 : Value} (h : Ps w0 w p s n c R P v0 v1) (hc : CB w' p s n c) (hb : But p w w') : Ps w0 w' p s n c R P v0 v1 := by
  have h1 := h.lt
  have h2 := h.pR
  have h4 := h.RP
  have h3 := hb.size
  refine ⟨hc, h.but.trans hb, (hb.cell (p := ⟨P, 0, none⟩) h1 (by show P ≠ p; omega)).trans h.c0, (hb.cell (p := ⟨P, 1, none⟩) h1 (by show P ≠ p; omega)).trans h.c1, fun j => (hb.frozen (p := ⟨P, j, none⟩) h1 (by show P ≠ p; omega)).trans (h.fP j),
    by rw [hb.cell (p := ⟨R, 0, none⟩) (by show R < _; omega) (by show R ≠ p; omega)]; exact h.r0, by rw [hb.cell (p := ⟨R, 1, none⟩) (by show R < _; omega) (by show R ≠ p; omega)]; exact h.r1, fun j => (hb.frozen (p := ⟨R, j, none⟩) (by show R < _; omega) (by show R ≠ p; omega)).trans (h.fR j), by omega, ?_, h.pR, h.RP, h.old⟩
  obtain ⟨cur, fr, hk⟩ := h.kind
  exact ⟨cur, fr, (hb.block P h1 (by omega)).trans hk⟩
theorem Ps.alloc {w0 w : World} {p n c R P : Nat} {s : Option Addr} {v0 v1 : Value} (h : Ps w0 w p s n c R P v0 v1) (o : Obj) : Ps w0 (w.alloc o) p s n c R P v0 v1 := h.step (h.cb.alloc o) ((But.refl _ _).alloc o)
theorem Ps.drew {w0 w : World} {p n c R P : Nat} {s : Option Addr} {v0 v1 : Value} (h : Ps w0 w p s n c R P v0 v1) : Ps w0 w.drew p s n c R P v0 v1 := h.step (h.cb.keep (Below.drew (Below.refl _ _))) (But.of_below (Below.drew (Below.refl _ _)))
/- something stored into a block from R + 1 on that is not P -/
theorem Ps.far {w0 w : World} {p n c R P g k : Nat} {s : Option Addr} {v0 v1 x : Value} (h : Ps w0 w p s n c R P v0 v1) (hg : R < g) (hP : g ≠ P) : Ps w0 (w.setCell ⟨g, k, none⟩ x) p s n c R P v0 v1 := by
  have h2 := h.pR
  have h4 := h.old
  refine ⟨h.cb.set (by show p < g; omega), but_set1 h.but (by omega), (cellOff (.inl hP)).trans h.c0, (cellOff (.inl hP)).trans h.c1, fun j => by rw [World.frozen?_setCell]; exact h.fP j, by rw [cellOff (.inl (by omega))]; exact h.r0, by rw [cellOff (.inl (by omega))]; exact h.r1, fun j => by rw [World.frozen?_setCell]; exact h.fR j, by simpa using h.lt, ?_, h.pR, h.RP, h.old⟩
  obtain ⟨cur, fr, hk⟩ := h.kind
  exact ⟨cur, fr, (Below.heap_setCell w ⟨g, k, none⟩ x P (Ne.symm hP)).trans hk⟩
theorem Ps.set0 {w0 w : World} {p n c R P : Nat} {s : Option Addr} {v0 v1 : Value} (h : Ps w0 w p s n c R P v0 v1) (v : Value) : Ps w0 (w.setCell ⟨P, 0, none⟩ v) p s n c R P v v1 := by
  have h2 := h.pR
  have h4 := h.old
  have h5 := h.RP
  refine ⟨h.cb.set (by show p < P; omega), but_set1 h.but (by omega), cellAt (by rw [h.c0]; rfl), (cellOff (by omega)).trans h.c1, fun j => by rw [World.frozen?_setCell]; exact h.fP j, by rw [cellOff (by omega)]; exact h.r0, by rw [cellOff (by omega)]; exact h.r1, fun j => by rw [World.frozen?_setCell]; exact h.fR j, by simpa using h.lt, ?_, h.pR, h.RP, h.old⟩
  obtain ⟨cur, fr, hk⟩ := h.kind
  exact ⟨_, fr, heap_set hk⟩
theorem Ps.set1 {w0 w : World} {p n c R P : Nat} {s : Option Addr} {v0 v1 : Value} (h : Ps w0 w p s n c R P v0 v1) (v : Value) : Ps w0 (w.setCell ⟨P, 1, none⟩ v) p s n c R P v0 v := by
  have h2 := h.pR
  have h4 := h.old
  have h5 := h.RP
  refine ⟨h.cb.set (by show p < P; omega), but_set1 h.but (by omega), (cellOff (by omega)).trans h.c0, cellAt (by rw [h.c1]; rfl), fun j => by rw [World.frozen?_setCell]; exact h.fP j, by rw [cellOff (by omega)]; exact h.r0, by rw [cellOff (by omega)]; exact h.r1, fun j => by rw [World.frozen?_setCell]; exact h.fR j, by simpa using h.lt, ?_, h.pR, h.RP, h.old⟩
  obtain ⟨cur, fr, hk⟩ := h.kind
  exact ⟨_, fr, heap_set hk⟩
theorem Ps.grown {w0 w w' : World} {p n c R P : Nat} {s : Option Addr} {v0 v1 : Value} {row : Option Nat} {E : TypeId} (h : Ps w0 w p s n c R P v0 v1) (hg : w.grownBy w' row) (hr : ∀ k, row = some k → R < k) (hrow : RowOf w row E) (hE : E ≠ 27) : Ps w0 w' p s n c R P v0 v1 := by
  have h1 := h.lt
  have h2 := h.pR
  have h4 := h.old
  have h5 := h.RP
  have h3 := hg.size
  obtain ⟨cur, fr, hkind⟩ := h.kind
  have hP : w'.heap[P]? = w.heap[P]? := hg.block P h1 (fun e => by
    obtain ⟨cur', fr', h6⟩ := hrow P e.symm
    rw [hkind] at h6
    cases h6
    exact hE rfl)
  have hR : w'.heap[R]? = w.heap[R]? := hg.block R (by omega) (fun e => by have := hr R e.symm; omega)
  have clP : ∀ j, w'.cell? ⟨P, j, none⟩ = w.cell? ⟨P, j, none⟩ := fun j => World.cell?_of_block (w := w) hP
  have clR : ∀ j, w'.cell? ⟨R, j, none⟩ = w.cell? ⟨R, j, none⟩ := fun j => World.cell?_of_block (w := w) hR
  have fzP : ∀ j, w'.frozen? ⟨P, j, none⟩ = w.frozen? ⟨P, j, none⟩ := fun j => World.frozen?_of_block (w := w) hP
  have fzR : ∀ j, w'.frozen? ⟨R, j, none⟩ = w.frozen? ⟨R, j, none⟩ := fun j => World.frozen?_of_block (w := w) hR
  exact ⟨h.cb.grown hg (fun k e => by have := hr k e; omega), h.but.grown hg (fun k e => by have := hr k e; omega), (clP _).trans h.c0, (clP _).trans h.c1, fun j => (fzP _).trans (h.fP j), by rw [clR]; exact h.r0, by rw [clR]; exact h.r1, fun j => (fzR _).trans (h.fR j), by omega, ⟨cur, fr, hP.trans hkind⟩, h.pR, h.RP, h.old⟩

theorem new3 (w : World) (x y z : Value) (T : TypeId) : ∀ j u, [x, y, z][j]? = some u → (w.alloc (.cells #[x, y, z] T)).cell? (Addr.add ⟨w.heap.size, 0, none⟩ j) = some u := by
  intro j u h
  match j, h with
  | 0, h => simpa [Addr.add, go_sem] using h
  | 1, h => simpa [Addr.add, go_sem] using h
  | 2, h => simpa [Addr.add, go_sem] using h
/- append of three ones -/
theorem app_ones {ops : Array Oper} {rest : List Oper} {o : Oper} {a : Act} {Q : Exit → Act → World → Prop} (hgd : o.guard = none) (s x : Operand) (ho : o.op = .call { callee := .builtin .append, args := #[s, x], argTypes := #[24, 24] })
    (w : World) (base n : Nat) (v : Value) (hs : a.eval s = v) (hown : OwnC w base v n) (hx : a.eval x = .slice (some ⟨w.heap.size, 0, none⟩) 3 3) (hn : n ≤ 1000) (hbase : base ≤ w.heap.size)
    (h : ∀ g cap w', OwnC w' base (.slice (some ⟨g, 0, none⟩) (n + 3) cap) (n + 3) → (w.alloc (.cells #[.int .i64 1, .int .i64 1, .int .i64 1] 3)).grownBy w' v.ownBlock → (∀ k, v.ownBlock = some k → base ≤ k) → RowOf (w.alloc (.cells #[.int .i64 1, .int .i64 1, .int .i64 1] 3)) v.ownBlock 3 → wpList Tryz.prog ops Q rest (a.put o.dst (.slice (some ⟨g, 0, none⟩) (n + 3) cap)) w') :
    wpList Tryz.prog ops Q (o :: rest) a (w.alloc (.cells #[.int .i64 1, .int .i64 1, .int .i64 1] 3)) := by
  obtain ⟨i0, hi, hz0, hz1, hz2⟩ := info3
  obtain ⟨xs, h1, h2⟩ := hown
  have h1' := own_block (w' := w.alloc (.cells #[.int .i64 1, .int .i64 1, .int .i64 1] 3)) h1 (fun k _ hk => Below.heap_alloc _ _ _ hk)
  refine wpList_append_lies _ hgd s x 24 ho base 3 i0 _ 1 8 Tryz.underlying24 hi hz0 hz1 hz2 rfl (by decide) v n xs hs h1' ⟨w.heap.size, 0, none⟩ 3 3 [.int .i64 1, .int .i64 1, .int .i64 1] hx rfl (new3 w _ _ _ _) (fun u hu => by simp at hu; subst hu; rfl) (by decide) (by unfold maxLen; omega) (by omega) (by simp; omega) _ rfl ?_
  intro g cap w' q1 q2 q3 q4
  exact h g cap w' ⟨_, q1, h2.append (allInt_cons _ (allInt_cons _ (allInt_cons _ allInt_nil)))⟩ q2 (own_row h1) (row_of h1')
end

section
open Go.RowKit Go.Deep

theorem ps_new (w w1 : World) (p n c R : Nat) (s : Option Addr) (v0 v1 : Value) (hc : CB w1 p s n c) (hb : But p w w1) (r0 : (w1.cell? ⟨R, 0, none⟩).isSome = true) (r1 : (w1.cell? ⟨R, 1, none⟩).isSome = true) (fR : ∀ j, w1.frozen? ⟨R, j, none⟩ = false) (pR : p < R) (hR : R < w1.heap.size) (old : w.heap.size ≤ R) :
    Ps w (w1.alloc (.cells #[v0, v1] 27)) p s n c R w1.heap.size v0 v1 := by
  have ka : Below w1.heap.size w1 (w1.alloc (.cells #[v0, v1] 27)) := (Below.refl _ _).alloc (Nat.le_refl _) _
  exact ⟨hc.alloc _, hb.alloc _, by simp [go_sem], by simp [go_sem], fun j => by simp [go_sem], by rw [ka.cell (p := ⟨R, 0, none⟩) hR]; exact r0, by rw [ka.cell (p := ⟨R, 1, none⟩) hR]; exact r1, fun j => by rw [ka.frozen (p := ⟨R, j, none⟩) hR]; exact fR j, by simp, ⟨_, (0, 0), heap_alloc_new w1 _⟩, pR, hR, old⟩

theorem own_setk {w : World} {base n g' k : Nat} {v : Value} (h : OwnS w base v n) (hE : ∃ cur fr, w.heap[g']? = some (.cells cur 42 fr)) (z : Int) : OwnS (w.setCell ⟨g', k, none⟩ (.int .i64 z)) base v n ∧ ∃ cur fr, (w.setCell ⟨g', k, none⟩ (.int .i64 z)).heap[g']? = some (.cells cur 42 fr) := by
  obtain ⟨cur, fr, hk⟩ := hE
  exact ⟨h.set hk (by decide) z, _, fr, heap_set hk⟩
theorem own_set5v {w : World} {base n g' : Nat} {v : Value} (h : OwnS w base v n) (hE : ∃ cur fr, w.heap[g']? = some (.cells cur 42 fr)) (y0 y1 y2 y3 y4 : Int) : OwnS (set5v w g' (.int .i64 y0) (.int .i64 y1) (.int .i64 y2) (.int .i64 y3) (.int .i64 y4)) base v n := by
  obtain ⟨a0, b0⟩ := own_setk (k := 0) h hE y0
  obtain ⟨a1, b1⟩ := own_setk (k := 1) a0 b0 y1
  obtain ⟨a2, b2⟩ := own_setk (k := 2) a1 b1 y2
  obtain ⟨a3, b3⟩ := own_setk (k := 3) a2 b2 y3
  exact (own_setk (k := 4) a3 b3 y4).1

set_option maxRecDepth 100000 in
set_option maxHeartbeats 4000000 in
theorem draw_cb (p : Nat) (s : Option Addr) (n c : Nat) (w : World) (h : CB w p s n c) :
    Calls Tryz.prog 13 #[.pointer (some ⟨p, 0, none⟩)] w fun e w' => ∃ (v0 v1 : Value) (a b : Nat), e = .returned (.agg #[v0, v1]) ∧ OwnC w' w.heap.size v0 a ∧ OwnS w' w.heap.size v1 b ∧ a ≤ 6 ∧ b ≤ 4 ∧ But p w w' := by
  have hp := h.lt
  have H0 : Hid (CB (w.alloc (.cells #[.slice none 0 0, .slice none 0 0] 27)) p s n c) := h.alloc _
  clear h
  go_enter Tryz.func13, Tryz.ntmps13
  go_wp2_with fail
  refine (drawRight_cb p s n c _ H0.out).mono ?_
  rintro e w1 ⟨v0, v1, a, b, rfl, hC, hS, a1, a2, b1, b2, hc1, hb1⟩
  simp only [World.size_alloc] at hC hS
  obtain ⟨g0, cap0, rfl, hg0, hg0'⟩ := hC.form (by omega)
  obtain ⟨g1, cap1, rfl, hg1, hg1'⟩ := hS.form (by omega)
  have hz1 : w.heap.size + 1 ≤ w1.heap.size := by have := hb1.size; simpa using this
  have r0 : (w1.cell? ⟨w.heap.size, 0, none⟩).isSome = true := by rw [hb1.cell (p := ⟨w.heap.size, 0, none⟩) (by simp) (by show w.heap.size ≠ p; omega)]; simp [go_sem]
  have r1 : (w1.cell? ⟨w.heap.size, 1, none⟩).isSome = true := by rw [hb1.cell (p := ⟨w.heap.size, 1, none⟩) (by simp) (by show w.heap.size ≠ p; omega)]; simp [go_sem]
  have fR : ∀ j, w1.frozen? ⟨w.heap.size, j, none⟩ = false := fun j => by rw [hb1.frozen (p := ⟨w.heap.size, j, none⟩) (by simp) (by show w.heap.size ≠ p; omega)]; simp [go_sem]
  have P1 : Hid (Ps w (w1.alloc (.cells #[.slice (some ⟨g0, 0, none⟩) a cap0, .slice (some ⟨g1, 0, none⟩) b cap1] 27)) p s n c w.heap.size w1.heap.size (.slice (some ⟨g0, 0, none⟩) a cap0) (.slice (some ⟨g1, 0, none⟩) b cap1)) := ps_new w w1 p n c w.heap.size s _ _ hc1 (((But.refl _ _).alloc _).trans hb1) r0 r1 fR hp (by omega) (Nat.le_refl _)
  have ka : Below w1.heap.size w1 (w1.alloc (.cells #[.slice (some ⟨g0, 0, none⟩) a cap0, .slice (some ⟨g1, 0, none⟩) b cap1] 27)) := (Below.refl _ _).alloc (Nat.le_refl _) _
  have C1 : Hid (OwnC (w1.alloc (.cells #[.slice (some ⟨g0, 0, none⟩) a cap0, .slice (some ⟨g1, 0, none⟩) b cap1] 27)) (w.heap.size + 1) (.slice (some ⟨g0, 0, none⟩) a cap0) a) := hC.keep ka
  have S1 : Hid (OwnS (w1.alloc (.cells #[.slice (some ⟨g0, 0, none⟩) a cap0, .slice (some ⟨g1, 0, none⟩) b cap1] 27)) (w.heap.size + 1) (.slice (some ⟨g1, 0, none⟩) b cap1) b) := hS.keep ka
  have X1 : Hid (OwnS w1 (w.heap.size + 1) (.slice (some ⟨g1, 0, none⟩) b cap1) b) := hS
  clear r0 r1 fR hc1 hb1 hC hS ka H0
  go_wp2_with fail
  refine (below_cb p s n c 20 _ P1.out.cb (by omega) (by omega)).mono ?_
  rintro e w3 ⟨t, rfl, t0, t1, hc3, hb3⟩
  have P3 : Hid (Ps w w3 p s n c w.heap.size w1.heap.size (.slice (some ⟨g0, 0, none⟩) a cap0) (.slice (some ⟨g1, 0, none⟩) b cap1)) := P1.out.step hc3 hb3
  have C3 : Hid (OwnC w3 (w.heap.size + 1) (.slice (some ⟨g0, 0, none⟩) a cap0) a) := C1.out.but hb3 (by omega)
  have S3 : Hid (OwnS w3 (w.heap.size + 1) (.slice (some ⟨g1, 0, none⟩) b cap1) b) := S1.out.but hb3 (by omega)
  have l3 := P3.out.lt
  have X1eq : Hid (w3.cell? ⟨g1, 0, none⟩ = w1.cell? ⟨g1, 0, none⟩) := (hb3.cell (p := ⟨g1, 0, none⟩) (by show g1 < _; simp; omega) (by show g1 ≠ p; omega)).trans ((Below.refl w1.heap.size w1).alloc (Nat.le_refl _) _ |>.cell (p := ⟨g1, 0, none⟩) hg1')
  clear hc3 hb3 P1 C1 S1
  have ht : t = 0 ∨ t = 1 ∨ t = 2 ∨ t = 3 ∨ 3 < t := by omega
  have i1 : (1 : Int) ≤ (a : Int) := by omega
  have i2 : (0 : Int) < (a : Int) := by omega
  have i3 : (0 : Int) < (b : Int) := by omega
  have i4 : 0 < a := by omega
  have i5 : 0 < b := by omega
  have ne0 : g0 ≠ w1.heap.size := by omega
  have ne1 : g0 ≠ w.heap.size := by omega
  have ne2 : w1.heap.size ≠ w.heap.size := by omega
  rcases ht with rfl | rfl | rfl | rfl | ht
  · have c0 := P3.out.c0
    have kl : Below w3.heap.size w3 (w3.alloc (.cells #[.int .i64 0, .int .i64 5] 3)) := (Below.refl _ _).alloc (Nat.le_refl _) _
    have KL : Hid (Below w3.heap.size w3 ((w3.alloc (.cells #[.int .i64 0, .int .i64 5] 3)).drew)) := kl.drew
    clear kl
    go_wp2_with fail
    first | go_region_law (refine step_call 31 #[.pointer (some ⟨p, 0, none⟩), .slice (some ⟨w3.heap.size, 0, none⟩) 2 2] (by rfl) _ _ (by rfl) (by simp [go_sem]) ent_pick ?_; refine (pick_cb p s n c w3.heap.size 2 [0, 5] ((w3.alloc (.cells #[.int .i64 0, .int .i64 5] 3)).drew) (P3.out.cb.keep KL.out) rfl (by simp) (by simp) (by simp) (by omega) (fun i hi => by match i, hi with | 0, _ => simp [go_sem] | 1, _ => simp [go_sem])).mono ?_; rintro e w5 ⟨z, rfl, -, hc5, hb5⟩; have hb5' := (But.of_below (g := p) KL.out).trans hb5; have P5 := P3.out.step hc5 hb5'; have d0 := P5.c0; have l5 := P5.lt; have C5 := C3.out.but hb5' (by omega); obtain ⟨y, d1, d2⟩ := C5.at (k := 0) (by omega); refine ⟨_, rfl, ?_⟩) | fail
    all_goals
      have S5 := S3.out.but hb5' (by omega)
      obtain ⟨cur, fr, hk⟩ : ∃ cur fr, w5.heap[g0]? = some (.cells cur 3 fr) := by obtain ⟨xs, q1, -⟩ := C5; exact own_type q1
      have C6 : Hid (OwnC (w5.setCell ⟨g0, 0, none⟩ (.int .i64 z)) (w.heap.size + 1) (.slice (some ⟨g0, 0, none⟩) a cap0) a) := C5.set z
      have S6 : Hid (OwnS (w5.setCell ⟨g0, 0, none⟩ (.int .i64 z)) (w.heap.size + 1) (.slice (some ⟨g1, 0, none⟩) b cap1) b) := S5.set hk (by decide) z
      have B6 : Hid (But p w (w5.setCell ⟨g0, 0, none⟩ (.int .i64 z))) := but_set1 P5.but (by omega)
      have d3 := P5.c1
      obtain ⟨q0, e0⟩ := Option.isSome_iff_exists.1 P5.r0
      obtain ⟨q1, e1⟩ := Option.isSome_iff_exists.1 P5.r1
      have fz := P5.fR
      clear C5 S5 hk hb5 hb5' hc5
      go_wp2
      exact bodyPost_ret (v := .agg #[.slice (some ⟨g0, 0, none⟩) a cap0, .slice (some ⟨g1, 0, none⟩) b cap1]) (by simp [results, Tryz.results13, go_sem, e0, e1]) rfl ⟨_, _, a, b, rfl, ((C6.out.low (by simp)).low (by simp)).mono (by omega), ((S6.out.low (by simp)).low (by simp)).mono (by omega), by omega, by omega, but_set1 (but_set1 B6.out (Nat.le_refl _)) (Nat.le_refl _)⟩
  · have c1 := P3.out.c1
    obtain ⟨g', m, cap', f0, m1, m2, hI, hg', hlt'⟩ := S3.out.at (k := 0) i5
    have hgw : g' < w1.heap.size := by
      obtain ⟨g'', m'', cap'', f0', -, -, -, -, q⟩ := X1.out.at (k := 0) i5
      have e := X1eq.out
      rw [f0] at e
      rw [f0'] at e
      cases e
      exact q
    have hgp : g' ≠ p := by omega
    have j0 : 0 < m := by omega
    obtain ⟨z0, z1, z2, z3, z4, k0, k1, k2, k3, k4, -⟩ := hI.at (k := 0) j0
    simp only [Nat.zero_mul, Nat.zero_add] at k0 k1 k2 k3 k4
    have HI : Hid (OwnI w3 (w.heap.size + 1) (.slice (some ⟨g', 0, none⟩) m cap') m) := hI
    clear hI
    go_wp2_with fail
    first | go_region_law (refine step_call 32 #[.pointer (some ⟨p, 0, none⟩), .agg #[.int .i64 z0, .int .i64 z1, .int .i64 z2, .int .i64 z3, .int .i64 z4]] (by rfl) _ _ (by rfl) (by simp [go_sem]) ent_spoil ?_; refine (spoil_cb p s n c z0 z1 z2 z3 z4 w3.drew P3.out.drew.cb).mono ?_; rintro e w5 ⟨y0, y1, y2, y3, y4, rfl, hc5, hb5⟩; have P5 := P3.out.drew.step hc5 hb5; have d1 := P5.c1; have l5 := P5.lt; have d2 := (hb5.cell (p := ⟨g1, 0, none⟩) (by show g1 < w3.heap.size; omega) (by show g1 ≠ p; omega)).trans f0; have I5 := (HI.out.keep (w' := w3.drew) (Below.drew (Below.refl _ _))).but hb5 (by omega); obtain ⟨x0, x1, x2, x3, x4, h0, h1, h2, h3, h4, hfz⟩ := I5.at (k := 0) j0; simp only [Nat.zero_mul, Nat.zero_add] at h0 h1 h2 h3 h4 hfz; have z0' := hfz 0 (by omega); have z1' := hfz 1 (by omega); have z2' := hfz 2 (by omega); have z3' := hfz 3 (by omega); have z4' := hfz 4 (by omega); clear hfz; refine ⟨_, rfl, ?_⟩) | fail
    all_goals
      have ne3 : g' ≠ w1.heap.size := by omega
      have ne4 : g' ≠ w.heap.size := by omega
      have C5 := (C3.out.keep (w' := w3.drew) (Below.drew (Below.refl _ _))).but hb5 (by omega)
      have S5 := (S3.out.keep (w' := w3.drew) (Below.drew (Below.refl _ _))).but hb5 (by omega)
      have hk : ∃ cur fr, w5.heap[g']? = some (.cells cur 42 fr) := by obtain ⟨xs, q1, -⟩ := I5; exact own_type q1
      have C6 : Hid (OwnC (set5v w5 g' (.int .i64 y0) (.int .i64 y1) (.int .i64 y2) (.int .i64 y3) (.int .i64 y4)) (w.heap.size + 1) (.slice (some ⟨g0, 0, none⟩) a cap0) a) := ((((C5.set y0).set y1).set y2).set y3).set y4
      have S6 : Hid (OwnS (set5v w5 g' (.int .i64 y0) (.int .i64 y1) (.int .i64 y2) (.int .i64 y3) (.int .i64 y4)) (w.heap.size + 1) (.slice (some ⟨g1, 0, none⟩) b cap1) b) := own_set5v S5 hk y0 y1 y2 y3 y4
      have B6 : Hid (But p w (set5v w5 g' (.int .i64 y0) (.int .i64 y1) (.int .i64 y2) (.int .i64 y3) (.int .i64 y4))) := but_set5v P5.but (by omega)
      have d3 := P5.c0
      obtain ⟨q0, e0⟩ := Option.isSome_iff_exists.1 P5.r0
      obtain ⟨q1, e1⟩ := Option.isSome_iff_exists.1 P5.r1
      have fz := P5.fR
      clear C5 S5 hk hb5 hc5 I5 f0 k0 k1 k2 k3 k4 d2 z0' z1' z2' z3' z4'
      go_wp2
      exact bodyPost_ret (v := .agg #[.slice (some ⟨g0, 0, none⟩) a cap0, .slice (some ⟨g1, 0, none⟩) b cap1]) (by simp [results, Tryz.results13, go_sem, e0, e1, ne4]) rfl ⟨_, _, a, b, rfl, ((C6.out.low (by simp)).low (by simp)).mono (by omega), ((S6.out.low (by simp)).low (by simp)).mono (by omega), by omega, by omega, but_set1 (but_set1 B6.out (Nat.le_refl _)) (Nat.le_refl _)⟩
  · have c0 := P3.out.c0
    have c1 := P3.out.c1
    have fP := P3.out.fP
    obtain ⟨cur, fr, hk⟩ := P3.out.kind
    have C6 : Hid (OwnC (w3.setCell ⟨w1.heap.size, 1, none⟩ (.slice none 0 0)) (w.heap.size + 1) (.slice (some ⟨g0, 0, none⟩) a cap0) a) := C3.out.kind hk (by decide)
    have B6 : Hid (But p w (w3.setCell ⟨w1.heap.size, 1, none⟩ (.slice none 0 0))) := but_set1 P3.out.but (by omega)
    obtain ⟨q0, e0⟩ := Option.isSome_iff_exists.1 P3.out.r0
    obtain ⟨q1, e1⟩ := Option.isSome_iff_exists.1 P3.out.r1
    have fz := P3.out.fR
    clear hk
    go_wp2
    exact bodyPost_ret (v := .agg #[.slice (some ⟨g0, 0, none⟩) a cap0, .slice none 0 0]) (by simp [results, Tryz.results13, go_sem, e0, e1]) rfl ⟨_, _, a, 0, rfl, ((C6.out.low (by simp)).low (by simp)).mono (by omega), (((OwnS.nil _ (w.heap.size + 1)).low (by simp)).low (by simp)).mono (by omega), by omega, by omega, but_set1 (but_set1 B6.out (Nat.le_refl _)) (Nat.le_refl _)⟩
  · have c0 := P3.out.c0
    go_wp2_with (at_builtin; refine app_ones rfl _ _ rfl w3 (w.heap.size + 1) a _ rfl C3.out rfl (by omega) (by omega) ?_; intro g cap w5 ho5 hg5 hr5 hrow5; have P5 := (P3.out.alloc _).grown hg5 hr5 hrow5 (by decide); have S5 := (S3.out.keep ((Below.refl _ _).alloc (Nat.le_refl _) _)).far hg5 hrow5 (by decide) (by decide); obtain ⟨cur, fr, hk⟩ := P5.kind; have C6 : Hid (OwnC (w5.setCell ⟨w1.heap.size, 0, none⟩ (.slice (some ⟨g, 0, none⟩) (a + 3) cap)) (w.heap.size + 1) (.slice (some ⟨g, 0, none⟩) (a + 3) cap) (a + 3)) := ho5.kind hk (by decide); have S6 : Hid (OwnS (w5.setCell ⟨w1.heap.size, 0, none⟩ (.slice (some ⟨g, 0, none⟩) (a + 3) cap)) (w.heap.size + 1) (.slice (some ⟨g1, 0, none⟩) b cap1) b) := S5.kind hk (by decide) (by decide); have B6 : Hid (But p w (w5.setCell ⟨w1.heap.size, 0, none⟩ (.slice (some ⟨g, 0, none⟩) (a + 3) cap))) := but_set1 P5.but (by omega); have d0 := P5.c0; have d1 := P5.c1; have d2 := P5.fP; obtain ⟨q0, e0⟩ := Option.isSome_iff_exists.1 P5.r0; obtain ⟨q1, e1⟩ := Option.isSome_iff_exists.1 P5.r1; have fz := P5.fR; clear hk S5 hg5 hr5 hrow5 ho5 c0)
    exact bodyPost_ret (v := .agg #[.slice (some ⟨g, 0, none⟩) (a + 3) cap, .slice (some ⟨g1, 0, none⟩) b cap1]) (by simp [results, Tryz.results13, go_sem, e0, e1]) rfl ⟨_, _, (a + 3), b, rfl, ((C6.out.low (by simp)).low (by simp)).mono (by omega), ((S6.out.low (by simp)).low (by simp)).mono (by omega), by omega, by omega, but_set1 (but_set1 B6.out (Nat.le_refl _)) (Nat.le_refl _)⟩
  · have n0 : (t == 0) = false := by simp; omega
    have n1 : (t == 1) = false := by simp; omega
    have n2 : (t == 2) = false := by simp; omega
    have n3 : (t == 3) = false := by simp; omega
    have c0 := P3.out.c0
    have c1 := P3.out.c1
    obtain ⟨q0, e0⟩ := Option.isSome_iff_exists.1 P3.out.r0
    obtain ⟨q1, e1⟩ := Option.isSome_iff_exists.1 P3.out.r1
    have fz := P3.out.fR
    go_wp2
    exact bodyPost_ret (v := .agg #[.slice (some ⟨g0, 0, none⟩) a cap0, .slice (some ⟨g1, 0, none⟩) b cap1]) (by simp [results, Tryz.results13, go_sem, e0, e1]) rfl ⟨_, _, a, b, rfl, ((C3.out.low (by simp)).low (by simp)).mono (by omega), ((S3.out.low (by simp)).low (by simp)).mono (by omega), by omega, by omega, but_set1 (but_set1 P3.out.but (Nat.le_refl _)) (Nat.le_refl _)⟩

theorem bytes_up {w w' : World} {p p' n : Nat} {s : Option Addr} (h : Bytes w p s n) (hb : Below p w w') (hp : p ≤ p') : Bytes w' p' s n := (h.below hb (Nat.le_refl _)).mono hp

set_option maxHeartbeats 400000 in
theorem drawProgText_any (s : Option Addr) (n c : Nat) (w : World) (hb : Bytes w w.heap.size s n) (hn : n ≤ maxLen) :
    Calls Tryz.prog 5 #[.slice s n c] w fun e w' => ∃ (v0 v1 : Value) (a b : Nat), e = .returned (.agg #[v0, v1]) ∧ OwnC w' w.heap.size v0 a ∧ OwnS w' w.heap.size v1 b ∧ a ≤ 6 ∧ b ≤ 4 ∧ Below w.heap.size w w' := by
  have HB : Hid (Bytes (w.alloc (.cells #[.slice none 0 0, .slice none 0 0] 27)) (w.heap.size + 1) s n) := bytes_up hb ((Below.refl w.heap.size w).alloc (Nat.le_refl _) _) (by omega)
  clear hb
  go_enter Tryz.func5, Tryz.ntmps5
  go_wp2_with fail
  refine (new_cb s n c _ (by simpa using HB.out) hn).mono ?_
  rintro e w1 ⟨rfl, hc1, hb1, hz1⟩
  simp only [World.size_alloc] at hc1 hz1
  have r0 : w1.cell? ⟨w.heap.size, 0, none⟩ = some (.slice none 0 0) := by rw [hb1.cell (by simp)]; simp [go_sem]
  have r1 : w1.cell? ⟨w.heap.size, 1, none⟩ = some (.slice none 0 0) := by rw [hb1.cell (by simp)]; simp [go_sem]
  have fR : ∀ j, w1.frozen? ⟨w.heap.size, j, none⟩ = false := fun j => by rw [hb1.frozen (by simp)]; simp [go_sem]
  have K1 : Hid (Below w.heap.size w w1) := ((Below.refl _ _).alloc (Nat.le_refl _) _).trans (hb1.mono (by simp))
  have HC : Hid (CB w1 (w.heap.size + 1) s n c) := hc1
  clear hb1 hc1
  go_wp2_with fail
  refine (draw_cb (w.heap.size + 1) s n c w1 HC.out).mono ?_
  rintro e w2 ⟨v0, v1, a, b, rfl, hC, hS, ha, hb, hb2⟩
  obtain ⟨s0, a0, rfl⟩ := hC.sl
  obtain ⟨s1, a1, rfl⟩ := hS.sl
  have g0 := (hb2.cell (p := ⟨w.heap.size, 0, none⟩) (by show w.heap.size < _; omega) (by show w.heap.size ≠ w.heap.size + 1; omega)).trans r0
  have g1 := (hb2.cell (p := ⟨w.heap.size, 1, none⟩) (by show w.heap.size < _; omega) (by show w.heap.size ≠ w.heap.size + 1; omega)).trans r1
  have fz : ∀ j, w2.frozen? ⟨w.heap.size, j, none⟩ = false := fun j => (hb2.frozen (p := ⟨w.heap.size, j, none⟩) (by show w.heap.size < _; omega) (by show w.heap.size ≠ w.heap.size + 1; omega)).trans (fR j)
  have HC2 : Hid (OwnC w2 w1.heap.size (.slice s0 a a0) a) := hC
  have HS2 : Hid (OwnS w2 w1.heap.size (.slice s1 b a1) b) := hS
  have K2 : Hid (Below w.heap.size w w2) := K1.out.trans (hb2.below (by omega) (by omega))
  clear hC hS hb2 r0 r1 fR
  go_wp2
  exact bodyPost_ret (v := .agg #[.slice s0 a a0, .slice s1 b a1]) (by simp [results, Tryz.results5, go_sem, g0, g1]) rfl ⟨_, _, a, b, rfl, ((HC2.out.low (by show w.heap.size < _; omega)).low (by show w.heap.size < _; omega)).mono (by omega), ((HS2.out.low (by show w.heap.size < _; omega)).low (by show w.heap.size < _; omega)).mono (by omega), ha, hb, (K2.out.setCell (p := ⟨w.heap.size, 0, none⟩) (Nat.le_refl _) _).setCell (p := ⟨w.heap.size, 1, none⟩) (Nat.le_refl _) _⟩
end

section
open Go.RowKit

theorem byte_cb (p : Nat) (s : Option Addr) (n c : Nat) (w : World) (h : CB w p s n c) :
    Calls Tryz.prog 56 #[.pointer (some ⟨p, 0, none⟩)] w fun e w' => ∃ x : Int, e = .returned (.int .i64 x) ∧ 0 ≤ x ∧ x ≤ 255 ∧ CB w' p s n c ∧ But p w w' := by
  refine (l1Byte_t p s n c w h.1 h.2.1 h.2.2).mono ?_
  rintro e w' ⟨x, rfl, x0, x1, hc, hb⟩
  exact ⟨x, rfl, x0, x1, ⟨hc, h.2.1.but hb (Nat.le_of_lt h.lt), h.2.2⟩, hb⟩

set_option maxHeartbeats 2000000 in
theorem below_big (p : Nat) (s : Option Addr) (n c : Nat) (q : Int) (w : World) (h : CB w p s n c) (hq0 : 256 < q) (hq : q ≤ 1000000) :
    Calls Tryz.prog 30 #[.pointer (some ⟨p, 0, none⟩), .int .i64 q] w fun e w' => ∃ x : Int, e = .returned (.int .i64 x) ∧ 0 ≤ x ∧ x < q ∧ CB w' p s n c ∧ But p w w' := by
  have H : Hid (CB w p s n c) := h
  clear h
  have h1 : ¬ q ≤ 0 := by omega
  have h2 : (q == 0) = false := by simp; omega
  have h3 : ¬ q ≤ 256 := by omega
  go_enter Tryz.func30, Tryz.ntmps30
  go_wp2_with fail
  refine (byte_cb p s n c w H.out).mono ?_
  rintro e w1 ⟨x, rfl, x0, x1, hc1, hb1⟩
  have C1 : Hid (CB w1 p s n c) := hc1
  have B1 : Hid (But p w w1) := hb1
  clear hc1 hb1
  go_wp2_with fail
  refine (byte_cb p s n c w1 C1.out).mono ?_
  rintro e w2 ⟨y, rfl, y0, y1, hc2, hb2⟩
  have C2 : Hid (CB w2 p s n c) := hc2
  have B2 : Hid (But p w w2) := B1.out.trans hb2
  clear hc2 hb2
  go_wp2_with fail
  refine (byte_cb p s n c w2 C2.out).mono ?_
  rintro e w3 ⟨z, rfl, z0, z1, hc3, hb3⟩
  have C3 : Hid (CB w3 p s n c) := hc3
  have B3 : Hid (But p w w3) := B2.out.trans hb3
  clear hc3 hb3
  go_wp2_with fail
  refine (byte_cb p s n c w3 C3.out).mono ?_
  rintro e w4 ⟨u, rfl, u0, u1, hc4, hb4⟩
  have C4 : Hid (CB w4 p s n c) := hc4
  have B4 : Hid (But p w w4) := B3.out.trans hb4
  clear hc4 hb4
  go_wp2
  go_ret
  refine ⟨(x * 16777216 + y * 65536 + z * 256 + u) % q, ?_, Int.emod_nonneg _ (by omega), Int.emod_lt_of_pos _ (by omega), C4.out, B4.out⟩
  rfl

theorem below_all (p : Nat) (s : Option Addr) (n c : Nat) (q : Int) (w : World) (h : CB w p s n c) (hq0 : 0 < q) (hq : q ≤ 1000000) :
    Calls Tryz.prog 30 #[.pointer (some ⟨p, 0, none⟩), .int .i64 q] w fun e w' => ∃ x : Int, e = .returned (.int .i64 x) ∧ 0 ≤ x ∧ x < q ∧ CB w' p s n c ∧ But p w w' := by
  by_cases h2 : q ≤ 256
  · exact below_cb p s n c q w h hq0 h2
  · exact below_big p s n c q w h (by omega) hq
end

end Go.Proofs.YtajblippcnidiaaGreatDoor
