/- Rows of rows of places that a call has made, with what they hold: each inner row has a block of its own. Conditions: fewer than 2^30 rows, fewer than 2^30 places in each. Rows of places that are written over with running numbers. Conditions: at most 2^20 + 1 places. Running numbers read back from a row of places. Conditions: at most 2^20 + 1 places. Rows of rows of places, written over with running numbers. Conditions: the numbers stay below 10^15. Running numbers read back from rows of rows of places. Conditions: the numbers stay below 10^15. Rows of integers that a call has made, written over with running numbers and looked at again. Conditions: at most 2^20 + 1 integers. A program's lists, written over with running numbers and looked at again. Conditions: the numbers stay below 10^15. Rows of a call's own, read as a program's lists. The cursor over a draw's bytes: each function that draws a number turns the cursor's own block alone, and its number lies within its bounds. Conditions: the cursor and its bytes lie in memory as the reading says. The draws of chapter 1 of a place: each makes a place of five numbers, and turns the cursor's own block alone. Conditions: the cursor and its bytes lie in memory as the reading says. -/
import Derived.Test.YteefnjngcnebpaaGreatJG00
import Derived.Test.YteefnjngcnebpaaGreatJG01
import Derived.Deep.RegionWith
import Derived.Test.YteefnjngcnebpaaGreatChecked
import Derived.WalkKit
import Derived.KernelRfl
import Derived.WalkSpells
import Derived.WalkLawsBesides
import Derived.Deep.QuietTactic
import Derived.BigQuiet
namespace Go.Proofs.YteefnjngcnebpaaGreat
section
set_option linter.unusedSimpArgs false
set_option linter.unusedVariables false
set_option maxRecDepth 100000
open Go.RowKit
def cellsP (x : I5) : List Value := [.int .i64 x.o, .int .i64 x.r, .int .i64 x.a, .int .i64 x.b, .int .i64 x.n]
def flatP : List I5 → List Value
 | [] => []
 | x :: r => cellsP x ++ flatP r
theorem flatP_len : ∀ l : List I5, (flatP l).length = l.length * 5
 | [] => rfl
 | x :: r => by simp [flatP, cellsP, flatP_len r]; omega
theorem flatP_snoc : ∀ (l : List I5) (x : I5), flatP (l ++ [x]) = flatP l ++ cellsP x
 | [], x => by simp [flatP]
 | y :: r, x => by simp [flatP, flatP_snoc r x]
theorem flatP_at : ∀ (l : List I5) (i j : Nat) (hi : i < l.length) (hj : j < 5), (flatP l)[i * 5 + j]? = (cellsP (l.getD i z5))[j]?
 | [], i, j, hi, hj => absurd hi (Nat.not_lt_zero _)
 | x :: r, 0, j, hi, hj => by
  simp only [flatP, Nat.zero_mul, Nat.zero_add]
  rw [List.getElem?_append_left (by simp [cellsP]; omega)]
  simp
 | x :: r, i + 1, j, hi, hj => by
  have h5 : (cellsP x).length = 5 := rfl
  simp only [flatP]
  rw [List.getElem?_append_right (by rw [h5]; omega), h5, show (i + 1) * 5 + j - 5 = i * 5 + j by omega, flatP_at r i j (by simp at hi; omega) hj]
  simp
def OwnP (w : World) (base : Nat) (v : Value) (b : List I5) : Prop := w.ownsRow base 43 5 v b.length (flatP b)
def OwnB (w : World) (base : Nat) (v : Value) (bs : List (List I5)) : Prop :=
 ∃ xs : List Value, w.ownsRow base 44 1 v bs.length xs ∧ (∀ i, i < bs.length → OwnP w base (xs.getD i undef) (bs.getD i [])) ∧ ∀ i j k, i < bs.length → j < bs.length → i ≠ j → (xs.getD i undef).ownBlock = some k → (xs.getD j undef).ownBlock ≠ some k
theorem infoP : ∃ i, Tryz.prog.info? 43 = some i ∧ i.zero = some (.agg #[.int .i64 0, .int .i64 0, .int .i64 0, .int .i64 0, .int .i64 0]) ∧ i.size = 5 ∧ i.bytes = 40 := ⟨_, rfl, rfl, rfl, rfl⟩
theorem ownKeep {w w' : World} {base : Nat} {e : TypeId} {size n : Nat} {v : Value} {xs : List Value} (h : w.ownsRow base e size v n xs) (hb : ∀ k, v.ownBlock = some k → w'.heap[k]? = w.heap[k]?) : w'.ownsRow base e size v n xs := by
 obtain ⟨h1, h2⟩ := h
 refine ⟨h1, ?_⟩
 rcases h2 with h2 | ⟨g, cap, cur, rfl, b0, c, d⟩
 ·exact .inl h2
 ·exact .inr ⟨g, cap, cur, rfl, b0, (hb g rfl).trans c, d⟩
theorem ownLow {w : World} {b b' : Nat} {e : TypeId} {size n : Nat} {v : Value} {xs : List Value} (h : w.ownsRow b e size v n xs) (hb : b' ≤ b) : w.ownsRow b' e size v n xs := by
 obtain ⟨h1, h2⟩ := h
 refine ⟨h1, ?_⟩
 rcases h2 with h2 | ⟨g, cap, cur, a, b0, c, d⟩
 ·exact .inl h2
 ·exact .inr ⟨g, cap, cur, a, Nat.le_trans hb b0, c, d⟩
theorem ownType {w : World} {base base' : Nat} {e e' : TypeId} {size size' n n' : Nat} {v v' : Value} {xs xs' : List Value} (h : w.ownsRow base e size v n xs) (h' : w.ownsRow base' e' size' v' n' xs') (hne : e ≠ e') {k : Nat} (hk : v.ownBlock = some k) : v'.ownBlock ≠ some k := by
 intro hk'
 rcases h.2 with ⟨rfl, -⟩ | ⟨g, cap, cur, rfl, -, c, -⟩
 ·cases hk
 rcases h'.2 with ⟨rfl, -⟩ | ⟨g', cap', cur', rfl, -, c', -⟩
 ·cases hk'
 ·simp only [Value.ownBlock, Option.some.injEq] at hk hk'
  subst hk
  subst hk'
  rw [c] at c'
  injection c' with c'
  injection c' with c1 c2
  exact hne c2
theorem OwnB.keep {w w' : World} {base : Nat} {v : Value} {bs : List (List I5)} (h : OwnB w base v bs) (hb : ∀ k, base ≤ k → k < w.heap.size → w'.heap[k]? = w.heap[k]?) : OwnB w' base v bs := by
 obtain ⟨xs, h1, h2, h3⟩ := h
 exact ⟨xs, ownKeep h1 (fun k hk => hb k (World.ownsRow.lt h1 _ hk).1 (World.ownsRow.lt h1 _ hk).2), fun i hi => ownKeep (h2 i hi) (fun k hk => hb k (World.ownsRow.lt (h2 i hi) _ hk).1 (World.ownsRow.lt (h2 i hi) _ hk).2), h3⟩
theorem OwnB.nil (w : World) (base : Nat) : OwnB w base (.slice none 0 0) [] := ⟨[], World.ownsRow_nil _ _ _ _, fun i hi => absurd hi (Nat.not_lt_zero _), fun i j k hi => absurd hi (Nat.not_lt_zero _)⟩
theorem OwnB.sl {w : World} {base : Nat} {v : Value} {bs : List (List I5)} (h : OwnB w base v bs) : ∃ s c, v = .slice s bs.length c := by
 obtain ⟨xs, h, -⟩ := h
 rcases h.2 with ⟨h1, h2⟩ | ⟨g, cap, cur, a, -⟩
 ·exact ⟨none, 0, by rw [h1, h2]⟩
 ·exact ⟨_, _, a⟩
theorem OwnB.low {w : World} {b b' : Nat} {v : Value} {bs : List (List I5)} (h : OwnB w b v bs) (hb : b' ≤ b) : OwnB w b' v bs := by
 obtain ⟨xs, h1, h2, h3⟩ := h
 exact ⟨xs, ownLow h1 hb, fun i hi => ownLow (h2 i hi) hb, h3⟩
theorem getD_snoc {α : Type} (xs : List α) (y d : α) (i : Nat) : (xs ++ [y]).getD i d = if i < xs.length then xs.getD i d else if i = xs.length then y else d := by
 by_cases h : i < xs.length
 ·rw [if_pos h]; simp [List.getD_eq_getElem?_getD, List.getElem?_append_left h]
 ·rw [if_neg h]
  by_cases h2 : i = xs.length
  ·subst h2; simp [List.getD_eq_getElem?_getD]
  ·rw [if_neg h2, List.getD_eq_getElem?_getD, List.getElem?_eq_none (by simp; omega)]; rfl
end
section
set_option linter.unusedSimpArgs false
set_option linter.unusedVariables false
set_option maxRecDepth 100000
open Go.RowKit
theorem OwnN.ints {w : World} {base : Nat} {v : Value} {l : List Int} (h : OwnN w base v l) : ∃ s c, v = .slice s l.length c ∧ IntsR w base w.heap.size s l := by
 rcases Nat.eq_zero_or_pos l.length with h0 | hpos
 ·rcases h.2 with ⟨h1, h2⟩ | ⟨g, cap, cur, a, -⟩
  ·exact ⟨none, 0, by rw [h1, h2], .inl (List.length_eq_zero_iff.1 h0)⟩
  ·exact ⟨_, _, a, .inl (List.length_eq_zero_iff.1 h0)⟩
 ·obtain ⟨g, cap, rfl, -⟩ := World.ownsRow.form h hpos
  have hlt := World.ownsRow.lt h g rfl
  refine ⟨_, _, rfl, .inr ⟨g, 0, rfl, hlt.1, hlt.2, fun i hi => ?_⟩⟩
  rw [Nat.zero_add, World.ownsRow.cellAt h i (by omega), List.getElem?_map, List.getD_eq_getElem?_getD, List.getElem?_eq_getElem hi]
  rfl
theorem OwnP.ins {w : World} {base : Nat} {v : Value} {l : List I5} (h : OwnP w base v l) : ∃ s c, v = .slice s l.length c ∧ InsR w base w.heap.size s l := by
 rcases Nat.eq_zero_or_pos l.length with h0 | hpos
 ·rcases h.2 with ⟨h1, h2⟩ | ⟨g, cap, cur, a, -⟩
  ·exact ⟨none, 0, by rw [h1, h2], .inl (List.length_eq_zero_iff.1 h0)⟩
  ·exact ⟨_, _, a, .inl (List.length_eq_zero_iff.1 h0)⟩
 ·obtain ⟨g, cap, rfl, -⟩ := World.ownsRow.form h hpos
  have hlt := World.ownsRow.lt h g rfl
  refine ⟨_, _, rfl, .inr ⟨g, 0, rfl, hlt.1, hlt.2, fun i hi => ?_⟩⟩
  have hc : ∀ j, j < 5 → w.cell? ⟨g, i * 5 + j, none⟩ = (cellsP (l.getD i z5))[j]? := fun j hj => by
   rw [World.ownsRow.cellAt h (i * 5 + j) (by omega)]
   exact flatP_at l i j hi hj
  rw [Nat.zero_add]
  exact ⟨hc 0 (by omega), hc 1 (by omega), hc 2 (by omega), hc 3 (by omega), hc 4 (by omega)⟩
theorem OwnB.bods {w : World} {base : Nat} {v : Value} {l : List (List I5)} (h : OwnB w base v l) : ∃ s c, v = .slice s l.length c ∧ BodsR w base w.heap.size s l := by
 obtain ⟨xs, h1, h2, -⟩ := h
 rcases Nat.eq_zero_or_pos l.length with h0 | hpos
 ·rcases h1.2 with ⟨h1, h2⟩ | ⟨g, cap, cur, a, -⟩
  ·exact ⟨none, 0, by rw [h1, h2], .inl (List.length_eq_zero_iff.1 h0)⟩
  ·exact ⟨_, _, a, .inl (List.length_eq_zero_iff.1 h0)⟩
 ·obtain ⟨g, cap, rfl, -⟩ := World.ownsRow.form h1 hpos
  have hlt := World.ownsRow.lt h1 g rfl
  have hxl : xs.length = l.length := by have := h1.1; omega
  refine ⟨_, _, rfl, .inr ⟨g, 0, rfl, hlt.1, hlt.2, fun i hi => ?_⟩⟩
  obtain ⟨s, c, e, hi'⟩ := OwnP.ins (h2 i hi)
  refine ⟨s, c, ?_, hi'⟩
  rw [Nat.zero_add, World.ownsRow.cellAt h1 i (by omega), ← e, List.getD_eq_getElem?_getD, List.getElem?_eq_getElem (by omega)]
  rfl
theorem OwnB.prog {w : World} {base : Nat} {v v' : Value} {p : PD} (h : OwnN w base v p.caps) (h' : OwnB w base v' p.bods) : ∃ s c s' c', v = .slice s p.caps.length c ∧ v' = .slice s' p.bods.length c' ∧ ProgR w base w.heap.size s s' p := by
 obtain ⟨s, c, e, a⟩ := h.ints
 obtain ⟨s', c', e', a'⟩ := h'.bods
 exact ⟨s, c, s', c', e, e', a, a'⟩
end
section
set_option linter.unusedSimpArgs false
set_option linter.unusedVariables false
set_option maxRecDepth 100000
open Go.RowKit
structure But (g : Nat) (w w' : World) : Prop where
 os : w'.os = w.os
 tape : w'.tape = w.tape
 output : w'.output = w.output
 size : w.heap.size ≤ w'.heap.size
 block : ∀ k, k < w.heap.size → k ≠ g → w'.heap[k]? = w.heap[k]?
theorem But.refl (g : Nat) (w : World) : But g w w := ⟨rfl, rfl, rfl, Nat.le_refl _, fun _ _ _ => rfl⟩
theorem But.trans {g : Nat} {a b c : World} (h : But g a b) (k : But g b c) : But g a c :=
 ⟨k.os.trans h.os, k.tape.trans h.tape, k.output.trans h.output, Nat.le_trans h.size k.size, fun i hi hg => (k.block i (Nat.lt_of_lt_of_le hi h.size) hg).trans (h.block i hi hg)⟩
theorem But.drewN {g : Nat} {w w' : World} (h : But g w w') (n : Nat) : But g w (w'.drewN n) := ⟨h.os, h.tape, h.output, h.size, h.block⟩
theorem But.setCell {g : Nat} {w w' : World} (h : But g w w') (o : Nat) (v : Value) : But g w (w'.setCell ⟨g, o, none⟩ v) :=
 ⟨h.os, h.tape, h.output, by simpa using h.size, fun k hk hg => (Below.heap_setCell w' ⟨g, o, none⟩ v k hg).trans (h.block k hk hg)⟩
theorem But.alloc {g : Nat} {w w' : World} (h : But g w w') (o : Obj) : But g w (w'.alloc o) :=
 h.trans ⟨rfl, rfl, rfl, by simp, fun k hk _ => Below.heap_alloc _ _ _ hk⟩
theorem But.cell {g : Nat} {w w' : World} (h : But g w w') {p : Addr} (hp : p.block < w.heap.size) (hg : p.block ≠ g) : w'.cell? p = w.cell? p := World.cell?_of_block (w := w) (h.block p.block hp hg)
theorem But.frozen {g : Nat} {w w' : World} (h : But g w w') {p : Addr} (hp : p.block < w.heap.size) (hg : p.block ≠ g) : w'.frozen? p = w.frozen? p := World.frozen?_of_block (w := w) (h.block p.block hp hg)
theorem But.below {g B : Nat} {w w' : World} (h : But g w w') (hB : B ≤ g) (hs : B ≤ w.heap.size) : Below B w w' :=
 ⟨h.os, h.tape, h.output, h.size, fun k hk => h.block k (by omega) (by omega)⟩
theorem But.of_below {g : Nat} {w w' : World} (h : Below w.heap.size w w') : But g w w' := ⟨h.os, h.tape, h.output, h.size, fun k hk _ => h.block k hk⟩
/- the bytes of a draw lie below block p -/
def Bytes (w : World) (p : Nat) (s : Option Addr) (n : Nat) : Prop :=
 n = 0 ∨ ∃ g o, s = some ⟨g, o, none⟩ ∧ g < p ∧ ∀ k, k < n → ∃ b : Int, w.cell? ⟨g, o + k, none⟩ = some (.int .u8 b) ∧ 0 ≤ b ∧ b ≤ 255
def Cur (w : World) (p : Nat) (s : Option Addr) (n c : Nat) : Prop :=
 ∃ i h : Int, w.cell? ⟨p, 0, none⟩ = some (.slice s n c) ∧ w.cell? ⟨p, 1, none⟩ = some (.int .i64 i) ∧ w.cell? ⟨p, 2, none⟩ = some (.int .i64 h) ∧ (∀ j, w.frozen? ⟨p, j, none⟩ = false) ∧ 0 ≤ i ∧ i ≤ n ∧ p < w.heap.size
theorem and255 (y : Int) : 0 ≤ bits .and .i64 y 255 ∧ bits .and .i64 y 255 ≤ 255 := by
 unfold bits
 have e : (255 : Nat) % 2 ^ IntKind.i64.bits = 255 := by decide
 simp
 rw [e]
 have h : (y % 2 ^ IntKind.i64.bits).toNat &&& 255 ≤ 255 := Nat.and_le_right
 generalize (y % 2 ^ IntKind.i64.bits).toNat &&& 255 = z at h
 rw [IntKind.wrap_i64]
 omega
theorem Bytes.but {w w' : World} {p n : Nat} {s : Option Addr} (h : Bytes w p s n) (hb : But p w w') (hp : p ≤ w.heap.size) : Bytes w' p s n := by
 rcases h with h | ⟨g, o, hs, hg, hc⟩
 ·exact .inl h
 ·refine .inr ⟨g, o, hs, hg, fun k hk => ?_⟩
  obtain ⟨b, h1, h2⟩ := hc k hk
  exact ⟨b, (hb.cell (p := ⟨g, o + k, none⟩) (by show g < _; omega) (by show g ≠ p; omega)).trans h1, h2⟩
theorem cur_set {w : World} {p n c : Nat} {s : Option Addr} {i h i' h' : Int} {m m' : Nat} (c0 : w.cell? ⟨p, 0, none⟩ = some (.slice s n c)) (c1 : w.cell? ⟨p, 1, none⟩ = some (.int .i64 i)) (c2 : w.cell? ⟨p, 2, none⟩ = some (.int .i64 h)) (hf : ∀ j, w.frozen? ⟨p, j, none⟩ = false) (hi : 0 ≤ i') (hi' : i' ≤ n) (hp : p < w.heap.size) :
  Cur ((((w.setCell ⟨p, 2, none⟩ (.int .i64 h')).drewN m).setCell ⟨p, 1, none⟩ (.int .i64 i')).drewN m') p s n c := by
 refine ⟨i', h', ?_, ?_, ?_, ?_, hi, hi', by simpa using hp⟩
 ·simp [go_sem, c0]
 ·simp [go_sem, c1]
 ·simp [go_sem, c2]
 ·intro j; simp [hf]
theorem cur_set2 {w : World} {p n c : Nat} {s : Option Addr} {i h h' : Int} {m : Nat} (c0 : w.cell? ⟨p, 0, none⟩ = some (.slice s n c)) (c1 : w.cell? ⟨p, 1, none⟩ = some (.int .i64 i)) (c2 : w.cell? ⟨p, 2, none⟩ = some (.int .i64 h)) (hf : ∀ j, w.frozen? ⟨p, j, none⟩ = false) (hi : 0 ≤ i) (hi' : i ≤ n) (hp : p < w.heap.size) :
  Cur ((w.setCell ⟨p, 2, none⟩ (.int .i64 h')).drewN m) p s n c := by
 refine ⟨i, h', ?_, ?_, ?_, ?_, hi, hi', by simpa using hp⟩
 ·simp [go_sem, c0]
 ·simp [go_sem, c1]
 ·simp [go_sem, c2]
 ·intro j; simp [hf]
set_option maxRecDepth 100000 in
set_option maxHeartbeats 1000000 in
theorem l1Byte_t (p : Nat) (s : Option Addr) (n c : Nat) (w : World) (hc : Cur w p s n c) (hb : Bytes w p s n) (hn : n ≤ maxLen) :
  Calls Tryz.prog 34 #[.pointer (some ⟨p, 0, none⟩)] w fun e w' => ∃ x : Int, e = .returned (.int .i64 x) ∧ 0 ≤ x ∧ x ≤ 255 ∧ Cur w' p s n c ∧ But p w w' := by
 obtain ⟨i, h, c0, c1, c2, hf, hi, hi', hp⟩ := hc
 unfold maxLen at hn
 by_cases hin : i < (n : Int)
 ·obtain ⟨k, rfl⟩ := Int.eq_ofNat_of_zero_le hi
  rcases hb with rfl | ⟨g, o, rfl, hg, hbs⟩
  ·exact absurd hin (by omega)
  obtain ⟨b, hb, b0, b1⟩ := hbs k (by omega)
  clear hbs
  have hgp : g ≠ p := by omega
  go_enter Tryz.func34, Tryz.ntmps34
  go_wp2
  go_quiet (fail)
  go_wp2
  go_quiet (fail)
  go_wp2
  go_quiet (fail)
  go_wp2
  go_ret
  refine ⟨_, rfl, (and255 _).1, (and255 _).2, ?_, ?_⟩
  ·exact cur_set (m' := 0) c0 c1 c2 hf (by omega) (by omega) hp
  ·exact ((((But.refl p w).setCell 2 _).drewN _).setCell 1 _)
 ·go_enter Tryz.func34, Tryz.ntmps34
  go_wp2
  go_quiet (fail)
  go_wp2
  go_quiet (fail)
  go_wp2
  go_ret
  refine ⟨_, rfl, (and255 _).1, (and255 _).2, ?_, ?_⟩
  ·rw [World.drewN_drewN]
   exact cur_set2 c0 c1 c2 hf hi hi' hp
  ·exact ((((But.refl p w).setCell 2 _).drewN _).drewN _)
set_option maxHeartbeats 400000 in
theorem l1Below_t (p : Nat) (s : Option Addr) (n c : Nat) (q : Int) (w : World) (hc : Cur w p s n c) (hb : Bytes w p s n) (hn : n ≤ maxLen) (hq0 : 0 < q) (hq : q ≤ 256) :
  Calls Tryz.prog 16 #[.pointer (some ⟨p, 0, none⟩), .int .i64 q] w fun e w' => ∃ x : Int, e = .returned (.int .i64 x) ∧ 0 ≤ x ∧ x < q ∧ Cur w' p s n c ∧ But p w w' := by
 have h1 : ¬ q ≤ 0 := by omega
 have h2 : (q == 0) = false := by simp; omega
 go_enter Tryz.func16, Tryz.ntmps16
 go_wp2_with fail
 refine (l1Byte_t p s n c w hc hb hn).mono ?_
 rintro e w1 ⟨x, rfl, x0, x1, hc1, hb1⟩
 have HC : Hid (Cur w1 p s n c) := hc1
 clear hc1 hc hb
 go_wp2
 go_ret
 exact ⟨x % q, rfl, Int.emod_nonneg _ (by omega), Int.emod_lt_of_pos _ hq0, HC.out, hb1⟩
end
section
set_option linter.unusedSimpArgs false
set_option linter.unusedVariables false
set_option maxRecDepth 100000
open Go.RowKit
theorem Cur.but {w w' : World} {p n c : Nat} {s : Option Addr} (h : Cur w p s n c) (hb : Below w.heap.size w w') : Cur w' p s n c := by
 obtain ⟨i, h, c0, c1, c2, hf, hi, hi', hp⟩ := h
 exact ⟨i, h, (hb.cell (p := ⟨p, 0, none⟩) hp).trans c0, (hb.cell (p := ⟨p, 1, none⟩) hp).trans c1, (hb.cell (p := ⟨p, 2, none⟩) hp).trans c2, fun j => (hb.frozen (p := ⟨p, j, none⟩) hp).trans (hf j), hi, hi', by have := hb.size; omega⟩
theorem Cur.lt {w : World} {p n c : Nat} {s : Option Addr} (h : Cur w p s n c) : p < w.heap.size := by
 obtain ⟨i, h, c0, c1, c2, hf, hi, hi', hp⟩ := h
 exact hp
theorem Cur.set {w : World} {p n c : Nat} {s : Option Addr} {a : Addr} {v : Value} (h : Cur w p s n c) (ha : a.block ≠ p) : Cur (w.setCell a v) p s n c := by
 obtain ⟨i, h, c0, c1, c2, hf, hi, hi', hp⟩ := h
 have e : ∀ j, (w.setCell a v).cell? ⟨p, j, none⟩ = w.cell? ⟨p, j, none⟩ := fun j => by
  apply World.cell?_setCell_other
  intro e
  subst e
  exact ha rfl
 exact ⟨i, h, (e 0).trans c0, (e 1).trans c1, (e 2).trans c2, fun j => by rw [World.frozen?_setCell]; exact hf j, hi, hi', by simpa using hp⟩
theorem Bytes.below {w w' : World} {p n B : Nat} {s : Option Addr} (h : Bytes w p s n) (hb : Below B w w') (hp : p ≤ B) : Bytes w' p s n := by
 rcases h with h | ⟨g, o, hs, hg, hc⟩
 ·exact .inl h
 ·refine .inr ⟨g, o, hs, hg, fun k hk => ?_⟩
  obtain ⟨b, h1, h2⟩ := hc k hk
  exact ⟨b, (hb.cell (p := ⟨g, o + k, none⟩) (by show g < _; omega)).trans h1, h2⟩
/- the cursor and the bytes together -/
def CB (w : World) (p : Nat) (s : Option Addr) (n c : Nat) : Prop := Cur w p s n c ∧ Bytes w p s n ∧ n ≤ maxLen
theorem CB.lt {w : World} {p n c : Nat} {s : Option Addr} (h : CB w p s n c) : p < w.heap.size := h.1.lt
theorem CB.alloc {w : World} {p n c : Nat} {s : Option Addr} (h : CB w p s n c) (o : Obj) : CB (w.alloc o) p s n c :=
 ⟨h.1.but ((Below.refl _ _).alloc (Nat.le_refl _) _), h.2.1.below ((Below.refl w.heap.size w).alloc (Nat.le_refl _) o) (Nat.le_of_lt h.1.lt), h.2.2⟩
theorem CB.keep {w w' : World} {p n c : Nat} {s : Option Addr} (h : CB w p s n c) (hb : Below w.heap.size w w') : CB w' p s n c :=
 ⟨h.1.but hb, h.2.1.below hb (Nat.le_of_lt h.1.lt), h.2.2⟩
theorem CB.set {w : World} {p n c : Nat} {s : Option Addr} {a : Addr} {v : Value} (h : CB w p s n c) (ha : p < a.block) : CB (w.setCell a v) p s n c :=
 ⟨h.1.set (by omega), h.2.1.below ((Below.refl a.block w).setCell (p := a) (Nat.le_refl _) v) (by omega), h.2.2⟩
theorem below_cb (p : Nat) (s : Option Addr) (n c : Nat) (q : Int) (w : World) (h : CB w p s n c) (hq0 : 0 < q) (hq : q ≤ 256) :
  Calls Tryz.prog 16 #[.pointer (some ⟨p, 0, none⟩), .int .i64 q] w fun e w' => ∃ x : Int, e = .returned (.int .i64 x) ∧ 0 ≤ x ∧ x < q ∧ CB w' p s n c ∧ But p w w' := by
 refine (l1Below_t p s n c q w h.1 h.2.1 h.2.2 hq0 hq).mono ?_
 rintro e w' ⟨x, rfl, x0, x1, hc, hb⟩
 exact ⟨x, rfl, x0, x1, ⟨hc, h.2.1.but hb (Nat.le_of_lt h.lt), h.2.2⟩, hb⟩
theorem max_any (a b : Int) (w : World) : Calls Tryz.prog 90 #[.int .i64 a, .int .i64 b] w fun e w' => e = .returned (.int .i64 (if b < a then a else b)) ∧ w' = w := by
 by_cases h : b < a
 ·rw [if_pos h]
  go_enter Tryz.func90, Tryz.ntmps90
  go_wp2
  go_ret
  exact ⟨rfl, rfl⟩
 ·rw [if_neg h]
  go_enter Tryz.func90, Tryz.ntmps90
  go_wp2
  go_ret
  exact ⟨rfl, rfl⟩
set_option maxHeartbeats 400000 in
theorem once_cb (p : Nat) (s : Option Addr) (n c : Nat) (q : Int) (w : World) (h : CB w p s n c) (hq0 : 0 < q) (hq : q ≤ 256) :
  Calls Tryz.prog 91 #[.pointer (some ⟨p, 0, none⟩), .int .i64 q] w fun e w' => ∃ x : Bool, e = .returned (.bool x) ∧ CB w' p s n c ∧ But p w w' := by
 have H : Hid (CB w p s n c) := h
 clear h
 go_enter Tryz.func91, Tryz.ntmps91
 go_wp2_with fail
 refine (below_cb p s n c q w H.out hq0 hq).mono ?_
 rintro e w1 ⟨x, rfl, x0, x1, hc, hb⟩
 have HC : Hid (CB w1 p s n c) := hc
 clear hc
 go_wp2
 go_ret
 exact ⟨_, rfl, HC.out, hb⟩
/- a slice literal of integers, picked from -/
set_option maxHeartbeats 400000 in
theorem pick_cb (p : Nat) (s : Option Addr) (n c : Nat) (g m : Nat) (l : List Int) (w : World) (h : CB w p s n c) (hm : m = l.length) (hl0 : 0 < l.length) (hl : l.length ≤ 256) (hg : g < w.heap.size) (hgp : g ≠ p) (hcell : ∀ i, i < l.length → w.cell? ⟨g, 0 + i, none⟩ = some (.int .i64 (l.getD i 0))) :
  Calls Tryz.prog 32 #[.pointer (some ⟨p, 0, none⟩), .slice (some ⟨g, 0, none⟩) m m] w fun e w' => ∃ x : Int, e = .returned (.int .i64 x) ∧ x ∈ l ∧ CB w' p s n c ∧ But p w w' := by
 subst hm
 have H : Hid (CB w p s n c) := h
 have HC : Hid (∀ i, i < l.length → w.cell? ⟨g, 0 + i, none⟩ = some (.int .i64 (l.getD i 0))) := hcell
 clear h hcell
 go_enter Tryz.func32, Tryz.ntmps32
 go_wp2_with fail
 refine (below_cb p s n c (l.length : Int) w H.out (by omega) (by omega)).mono ?_
 rintro e w1 ⟨x, rfl, x0, x1, hc, hb⟩
 obtain ⟨k, rfl⟩ := Int.eq_ofNat_of_zero_le x0
 have hk : k < l.length := by omega
 have f0 := (hb.cell (p := ⟨g, 0 + k, none⟩) hg hgp).trans (HC.out k hk)
 rw [Nat.zero_add] at f0
 have HM : Hid (l.getD k 0 ∈ l) := by
  show _ ∈ _
  rw [List.getD_eq_getElem?_getD, List.getElem?_eq_getElem hk]
  exact List.getElem_mem hk
 generalize l.getD k 0 = y at f0 HM
 have HC1 : Hid (CB w1 p s n c) := hc
 clear hc
 go_wp2
 go_ret
 exact ⟨y, rfl, HM.out, HC1.out, hb⟩
end
end Go.Proofs.YteefnjngcnebpaaGreat
