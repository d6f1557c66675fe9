/- Rows of integers that a call has made: kept, copied, written over, looked at again; boxes; what a call that writes over a row leaves. Conditions: at most 2^20 + 1 integers. -/
import Derived.Test.YteddmadbegpecaaGreatIntRows
import Derived.Test.YteddmadbegpecaaGreatOwnN
namespace Go.Proofs.YteddmadbegpecaaGreat
set_option linter.unusedSimpArgs false
set_option linter.unusedVariables false
set_option maxRecDepth 100000
open Go.RowKit

theorem ownKeep' {w w' : World} {base : Nat} {e : TypeId} {size n : Nat} {v : Value} {xs : List Value} (h : w.ownsRow base e size v n xs) (hb : ∀ k, v.ownBlock = some k → w'.heap[k]? = w.heap[k]?) : w'.ownsRow base e size v n xs := by
  obtain ⟨h1, h2⟩ := h
  refine ⟨h1, ?_⟩
  rcases h2 with h2 | ⟨g, cap, cur, rfl, b0, c, d⟩
  · exact .inl h2
  · exact .inr ⟨g, cap, cur, rfl, b0, (hb g rfl).trans c, d⟩
theorem ownLow' {w : World} {b b' : Nat} {e : TypeId} {size n : Nat} {v : Value} {xs : List Value} (h : w.ownsRow b e size v n xs) (hb : b' ≤ b) : w.ownsRow b' e size v n xs := by
  obtain ⟨h1, h2⟩ := h
  refine ⟨h1, ?_⟩
  rcases h2 with h2 | ⟨g, cap, cur, a, b0, c, d⟩
  · exact .inl h2
  · exact .inr ⟨g, cap, cur, a, Nat.le_trans hb b0, c, d⟩
theorem ownType' {w : World} {base base' : Nat} {e e' : TypeId} {size size' n n' : Nat} {v v' : Value} {xs xs' : List Value} (h : w.ownsRow base e size v n xs) (h' : w.ownsRow base' e' size' v' n' xs') (hne : e ≠ e') {k : Nat} (hk : v.ownBlock = some k) : v'.ownBlock ≠ some k := by
  intro hk'
  rcases h.2 with ⟨rfl, -⟩ | ⟨g, cap, cur, rfl, -, c, -⟩
  · cases hk
  rcases h'.2 with ⟨rfl, -⟩ | ⟨g', cap', cur', rfl, -, c', -⟩
  · cases hk'
  · simp only [Value.ownBlock, Option.some.injEq] at hk hk'
    subst hk
    subst hk'
    rw [c] at c'
    injection c' with c'
    injection c' with c1 c2
    exact hne c2
theorem ownSl {w : World} {base : Nat} {e : TypeId} {size n : Nat} {v : Value} {xs : List Value} (h : w.ownsRow base e size v n xs) : ∃ s c, v = .slice s n c := by
  rcases h.2 with ⟨h1, h2⟩ | ⟨g, cap, cur, a, -⟩
  · exact ⟨none, 0, by rw [h1, h2]⟩
  · exact ⟨_, _, a⟩
theorem ownN_ints {w : World} {base : Nat} {v : Value} {l : List Int} (h : OwnN w base v l) : ∃ s c, v = .slice s l.length c ∧ IntsR w base w.heap.size s l := by
  rcases Nat.eq_zero_or_pos l.length with h0 | hpos
  · obtain ⟨s, c, e⟩ := ownSl h
    exact ⟨s, c, e, .inl (List.length_eq_zero_iff.1 h0)⟩
  · obtain ⟨g, cap, rfl, -⟩ := World.ownsRow.form h hpos
    have hlt := World.ownsRow.lt h g rfl
    refine ⟨_, _, rfl, .inr ⟨g, 0, rfl, hlt.1, hlt.2, fun i hi => ?_⟩⟩
    rw [Nat.zero_add, World.ownsRow.cellAt h i (by omega), List.getElem?_map, List.getD_eq_getElem?_getD, List.getElem?_eq_getElem hi]
    rfl
theorem setApp {α : Type} (b : List α) (i : Nat) (x : α) : ∀ a : List α, (a ++ b).set (a.length + i) x = a ++ b.set i x
  | [] => by simp
  | y :: r => by
    have e : (y :: r).length + i = (r.length + i) + 1 := by simp; omega
    rw [e]
    simp [setApp b i x r]
def relN (q : Int) : Nat → List Int
  | 0 => []
  | n + 1 => relN q n ++ [q + n]
theorem relN_len (q : Int) : ∀ n, (relN q n).length = n
  | 0 => rfl
  | n + 1 => by simp [relN, relN_len q n]
theorem relN_at (q : Int) : ∀ (n i : Nat), i < n → (relN q n)[i]? = some (q + i)
  | 0, i, h => absurd h (by omega)
  | n + 1, i, h => by
    rcases Nat.lt_or_ge i n with g | g
    · rw [relN, List.getElem?_append_left (by rw [relN_len]; exact g)]
      exact relN_at q n i g
    · have e : i = n := by omega
      subst e
      rw [relN, List.getElem?_append_right (by rw [relN_len]; exact Nat.le_refl _), relN_len]
      simp
/- blocks below hi and not from lo on are as they were -/
structure Exc (lo hi : Nat) (w w' : World) : Prop where
  os : w'.os = w.os
  tape : w'.tape = w.tape
  out : w'.output = w.output
  size : w.heap.size ≤ w'.heap.size
  blk : ∀ k, k < w.heap.size → (k < lo ∨ hi ≤ k) → w'.heap[k]? = w.heap[k]?
theorem Exc.below {lo hi B : Nat} {w w' : World} (h : Exc lo hi w w') (h1 : B ≤ lo) (h2 : B ≤ w.heap.size) : Below B w w' := ⟨h.os, h.tape, h.out, h.size, fun k hk => h.blk k (by omega) (.inl (by omega))⟩
theorem Keep.of_exc {lo hi lo' hi' : Nat} {w w' : World} (h : Exc lo' hi' w w') (h1 : hi ≤ w.heap.size) (h2 : hi ≤ lo' ∨ hi' ≤ lo) : Keep lo hi w w' := fun k a b => h.blk k (by omega) (by omega)
structure Bo2 (G : Nat) (W : World) (a b : Value) : Prop where
  c0 : W.cell? ⟨G, 0, none⟩ = some a
  c1 : W.cell? ⟨G, 1, none⟩ = some b
theorem Bo2.new (w : World) (a b : Value) (T : TypeId) : ∃ W, w.alloc (.cells #[a, b] T) = W ∧ Bo2 w.heap.size W a b ∧ Below w.heap.size w W ∧ W.heap.size = w.heap.size + 1 :=
  ⟨_, rfl, ⟨by simp [go_sem], by simp [go_sem]⟩, (Below.refl _ _).alloc (Nat.le_refl _) _, by simp⟩
theorem Bo2.keep {G : Nat} {W W' : World} {a b : Value} (h : Bo2 G W a b) (hk : Keep G (G + 1) W W') : Bo2 G W' a b := ⟨(hk.cell (p := ⟨G, 0, none⟩) (Nat.le_refl _) (Nat.lt_succ_self _)).trans h.c0, (hk.cell (p := ⟨G, 1, none⟩) (Nat.le_refl _) (Nat.lt_succ_self _)).trans h.c1⟩
/- a row of integers, its block between two -/
structure NB (w : World) (lo hi : Nat) (v : Value) (l : List Int) : Prop where
  o : OwnN w lo v l
  h : ∀ k, v.ownBlock = some k → k < hi
theorem NB.of {w : World} {lo : Nat} {v : Value} {l : List Int} (h : OwnN w lo v l) : NB w lo w.heap.size v l := ⟨h, fun _ hk => (World.ownsRow.lt h _ hk).2⟩
theorem NB.keep {w w' : World} {lo hi : Nat} {v : Value} {l : List Int} (h : NB w lo hi v l) (hk : Keep lo hi w w') : NB w' lo hi v l := ⟨ownKeep' h.o (fun k e => hk k (World.ownsRow.lt h.o _ e).1 (h.h k e)), h.h⟩
theorem NB.ints {w : World} {lo : Nat} {v : Value} {l : List Int} (h : OwnN w lo v l) : ∃ s c, v = .slice s l.length c ∧ IntsR w lo w.heap.size s l ∧ NB w lo w.heap.size v l := by
  obtain ⟨s, c, e, hi⟩ := ownN_ints h
  exact ⟨s, c, e, hi, NB.of h⟩
theorem ownN_intsR {w : World} {base g c : Nat} {l : List Int} (h : OwnN w base (.slice (some ⟨g, 0, none⟩) l.length c) l) : IntsR w base w.heap.size (some ⟨g, 0, none⟩) l := by
  obtain ⟨s, c', e, hi⟩ := ownN_ints h
  injection e with e1 e2 e3
  rw [e1]
  exact hi
theorem below_drewN (w : World) (n : Nat) : Below w.heap.size w (w.drewN n) := ⟨rfl, rfl, rfl, Nat.le_refl _, fun _ _ => rfl⟩
structure Bo1 (G : Nat) (W : World) (a : Value) : Prop where
  c0 : W.cell? ⟨G, 0, none⟩ = some a
theorem Bo1.new (w : World) (a : Value) (T : TypeId) : ∃ W, w.alloc (.cells #[a] T) = W ∧ Bo1 w.heap.size W a ∧ Below w.heap.size w W ∧ W.heap.size = w.heap.size + 1 :=
  ⟨_, rfl, ⟨by simp [go_sem]⟩, (Below.refl _ _).alloc (Nat.le_refl _) _, by simp⟩
theorem Bo1.keep {G : Nat} {W W' : World} {a : Value} (h : Bo1 G W a) (hk : Keep G (G + 1) W W') : Bo1 G W' a := ⟨(hk.cell (p := ⟨G, 0, none⟩) (Nat.le_refl _) (Nat.lt_succ_self _)).trans h.c0⟩

end Go.Proofs.YteddmadbegpecaaGreat
