/- What a walk through a law carries from call to call: boxes, rows and sources between two blocks, and what a call that writes over a source leaves. Conditions: none of its own. -/
import Derived.Test.YtpjlljhcnlhelaaMarkSrc
namespace Go.Proofs.Ytpjlljhcnlhelaa
set_option linter.unusedSimpArgs false
set_option linter.unusedVariables false
set_option maxRecDepth 100000
open Go.RowKit

/- blocks below hi and not from lo on are as they were -/
structure Exc (lo hi : Nat) (w w' : World) : Prop where
  os : w'.os = w.os
  tape : w'.tape = w.tape
  out : w'.output = w.output
  size : w.heap.size ≤ w'.heap.size
  blk : ∀ k, k < w.heap.size → (k < lo ∨ hi ≤ k) → w'.heap[k]? = w.heap[k]?
theorem Exc.below {lo hi B : Nat} {w w' : World} (h : Exc lo hi w w') (h1 : B ≤ lo) (h2 : B ≤ w.heap.size) : Below B w w' := ⟨h.os, h.tape, h.out, h.size, fun k hk => h.blk k (by omega) (.inl (by omega))⟩
theorem Keep.of_exc {lo hi lo' hi' : Nat} {w w' : World} (h : Exc lo' hi' w w') (h1 : hi ≤ w.heap.size) (h2 : hi ≤ lo' ∨ hi' ≤ lo) : Keep lo hi w w' := fun k a b => h.blk k (by omega) (by omega)

structure Bo2 (G : Nat) (W : World) (a b : Value) : Prop where
  c0 : W.cell? ⟨G, 0, none⟩ = some a
  c1 : W.cell? ⟨G, 1, none⟩ = some b
theorem Bo2.new (w : World) (a b : Value) (T : TypeId) : ∃ W, w.alloc (.cells #[a, b] T) = W ∧ Bo2 w.heap.size W a b ∧ Below w.heap.size w W ∧ W.heap.size = w.heap.size + 1 :=
  ⟨_, rfl, ⟨by simp [go_sem], by simp [go_sem]⟩, (Below.refl _ _).alloc (Nat.le_refl _) _, by simp⟩
theorem Bo2.keep {G : Nat} {W W' : World} {a b : Value} (h : Bo2 G W a b) (hk : Keep G (G + 1) W W') : Bo2 G W' a b := ⟨(hk.cell (p := ⟨G, 0, none⟩) (Nat.le_refl _) (Nat.lt_succ_self _)).trans h.c0, (hk.cell (p := ⟨G, 1, none⟩) (Nat.le_refl _) (Nat.lt_succ_self _)).trans h.c1⟩
structure Bo3 (G : Nat) (W : World) (a b c : Value) : Prop where
  c0 : W.cell? ⟨G, 0, none⟩ = some a
  c1 : W.cell? ⟨G, 1, none⟩ = some b
  c2 : W.cell? ⟨G, 2, none⟩ = some c
theorem Bo3.new (w : World) (a b c : Value) (T : TypeId) : ∃ W, w.alloc (.cells #[a, b, c] T) = W ∧ Bo3 w.heap.size W a b c ∧ Below w.heap.size w W ∧ W.heap.size = w.heap.size + 1 :=
  ⟨_, rfl, ⟨by simp [go_sem], by simp [go_sem], by simp [go_sem]⟩, (Below.refl _ _).alloc (Nat.le_refl _) _, by simp⟩
theorem Bo3.keep {G : Nat} {W W' : World} {a b c : Value} (h : Bo3 G W a b c) (hk : Keep G (G + 1) W W') : Bo3 G W' a b c := ⟨(hk.cell (p := ⟨G, 0, none⟩) (Nat.le_refl _) (Nat.lt_succ_self _)).trans h.c0, (hk.cell (p := ⟨G, 1, none⟩) (Nat.le_refl _) (Nat.lt_succ_self _)).trans h.c1, (hk.cell (p := ⟨G, 2, none⟩) (Nat.le_refl _) (Nat.lt_succ_self _)).trans h.c2⟩

/- a row of integers, its block between two -/
structure NB (w : World) (lo hi : Nat) (v : Value) (l : List Int) : Prop where
  o : OwnN w lo v l
  h : ∀ k, v.ownBlock = some k → k < hi
theorem NB.of {w : World} {lo : Nat} {v : Value} {l : List Int} (h : OwnN w lo v l) : NB w lo w.heap.size v l := ⟨h, fun _ hk => (World.ownsRow.lt h _ hk).2⟩
theorem NB.keep {w w' : World} {lo hi : Nat} {v : Value} {l : List Int} (h : NB w lo hi v l) (hk : Keep lo hi w w') : NB w' lo hi v l := ⟨ownKeep' h.o (fun k e => hk k (World.ownsRow.lt h.o _ e).1 (h.h k e)), h.h⟩
theorem markN_exc {lo hi : Nat} {v : Value} {l : List Int} {w : World} (q : Int) (h : NB w lo hi v l) (hn : l.length ≤ 1048577) (hq : 0 ≤ q) (hq' : q ≤ 1000000000000000) :
    Calls Try.prog 33 #[v, .int .i64 q] w fun e w' => e = .returned (.int .i64 (q + l.length)) ∧ NB w' lo hi v (relN q l.length) ∧ Exc lo hi w w' := by
  refine (markN_any lo v l q w h.o hn hq hq').mono ?_
  rintro e w' ⟨rfl, o, z, a, b, c, f⟩
  exact ⟨rfl, ⟨o, h.h⟩, a, b, c, by omega, fun k hk hc => f k (fun e => by have := (World.ownsRow.lt h.o _ e).1; have := h.h k e; omega)⟩

/- a source, its blocks between two -/
structure SB (w : World) (lo hi : Nat) (v1 v2 v3 : Value) (L1 L2 : List (Rec × Value)) (d : SD) : Prop where
  o : OwnS w lo v1 v2 v3 L1 L2 d
  h : ∀ k, HitS v1 v2 v3 L1 L2 k → k < hi
theorem SB.of {w : World} {lo : Nat} {v1 v2 v3 : Value} {L1 L2 : List (Rec × Value)} {d : SD} (h : OwnS w lo v1 v2 v3 L1 L2 d) : SB w lo w.heap.size v1 v2 v3 L1 L2 d := ⟨h, fun _ hk => (h.hit hk).2⟩
theorem OwnS.keepB {w w' : World} {lo : Nat} {v1 v2 v3 : Value} {L1 L2 : List (Rec × Value)} {d : SD} (h : OwnS w lo v1 v2 v3 L1 L2 d) (hk : ∀ k, HitS v1 v2 v3 L1 L2 k → w'.heap[k]? = w.heap[k]?) : OwnS w' lo v1 v2 v3 L1 L2 d :=
  ⟨h.e1, h.e2, h.t.keepB (fun k e => hk k (.inl (.inl e))) (fun i x hx k e => hk k (.inl (.inr ⟨i, x, hx, e⟩))), h.c.keepB (fun k e => hk k (.inr (.inl (.inl e)))) (fun i x hx k e => hk k (.inr (.inl (.inr ⟨i, x, hx, e⟩)))), ownKeep' h.n (fun k e => hk k (.inr (.inr e))), h.sep⟩
theorem SB.keep {w w' : World} {lo hi : Nat} {v1 v2 v3 : Value} {L1 L2 : List (Rec × Value)} {d : SD} (h : SB w lo hi v1 v2 v3 L1 L2 d) (hk : Keep lo hi w w') : SB w' lo hi v1 v2 v3 L1 L2 d := ⟨h.o.keepB (fun k e => hk k (h.o.hit e).1 (h.h k e)), h.h⟩

theorem MarkedS.hit {w : World} {lo : Nat} {v1 v2 v3 : Value} {L1 L2 : List (Rec × Value)} {n : Nat} {q : Int} (h : MarkedS w lo v1 v2 v3 L1 L2 n q) {k : Nat} (hk : HitS v1 v2 v3 (mksT q L1) (mksC (q + sumQ L1) L2) k) : lo ≤ k ∧ k < w.heap.size := by
  rcases hk with hk | hk | hk
  · exact h.t.hit hk
  · exact h.c.hit hk
  · exact World.ownsRow.lt h.n _ hk
structure MB (w : World) (lo hi : Nat) (v1 v2 v3 : Value) (L1 L2 : List (Rec × Value)) (n : Nat) (q : Int) : Prop where
  o : MarkedS w lo v1 v2 v3 L1 L2 n q
  h : ∀ k, HitS v1 v2 v3 (mksT q L1) (mksC (q + sumQ L1) L2) k → k < hi
theorem MB.keep {w w' : World} {lo hi : Nat} {v1 v2 v3 : Value} {L1 L2 : List (Rec × Value)} {n : Nat} {q : Int} (h : MB w lo hi v1 v2 v3 L1 L2 n q) (hk : Keep lo hi w w') : MB w' lo hi v1 v2 v3 L1 L2 n q := by
  have f : ∀ k, HitS v1 v2 v3 (mksT q L1) (mksC (q + sumQ L1) L2) k → w'.heap[k]? = w.heap[k]? := fun k e => hk k (h.o.hit e).1 (h.h k e)
  exact ⟨⟨h.o.t.keepB (fun k e => f k (.inl (.inl e))) (fun i x hx k e => f k (.inl (.inr ⟨i, x, hx, e⟩))), h.o.c.keepB (fun k e => f k (.inr (.inl (.inl e)))) (fun i x hx k e => f k (.inr (.inl (.inr ⟨i, x, hx, e⟩)))), ownKeep' h.o.n (fun k e => f k (.inr (.inr e)))⟩, h.h⟩

/- marks of a source that fits stay small -/
theorem sumQ_most : ∀ (L : List (Rec × Value)), (∀ (i : Nat) (x : Rec × Value), L[i]? = some x → x.1.l.length ≤ 1048576) → sumQ L ≤ L.length * 1048578
  | [], _ => Nat.le_refl _
  | x :: r, h => by
    have h1 := sumQ_most r (fun i y hy => h (i + 1) y (by simpa using hy))
    have h2 := h 0 x rfl
    show x.1.l.length + 2 + sumQ r ≤ (r.length + 1) * 1048578
    omega
theorem SB.room {w : World} {lo hi : Nat} {v1 v2 v3 : Value} {L1 L2 : List (Rec × Value)} {d : SD} (h : SB w lo hi v1 v2 v3 L1 L2 d) (hf : SFits d) : sumQ L1 ≤ 2000000000000 ∧ sumQ L2 ≤ 2000000000000 := by
  obtain ⟨⟨f1, f1'⟩, ⟨f2, f2'⟩, f3⟩ := hf
  have a := sumQ_most L1 (fun i x hx => by obtain ⟨t, ht, e⟩ := h.o.at1 hx; rw [e]; exact f1' i t ht)
  have b := sumQ_most L2 (fun i x hx => by obtain ⟨t, ht, e⟩ := h.o.at2 hx; rw [e]; exact f2' i t ht)
  have c := h.o.l1
  have e := h.o.l2
  omega

theorem SB.lens {w : World} {lo hi : Nat} {v1 v2 v3 : Value} {L1 L2 : List (Rec × Value)} {d : SD} (h : SB w lo hi v1 v2 v3 L1 L2 d) (hf : SFits d) : L1.length ≤ 1048577 ∧ (∀ (i : Nat) (x : Rec × Value), L1[i]? = some x → x.1.l.length ≤ 1048577) ∧ L2.length ≤ 1048577 ∧ (∀ (i : Nat) (x : Rec × Value), L2[i]? = some x → x.1.l.length ≤ 1048577) ∧ d.tr.length ≤ 1048577 := by
  obtain ⟨⟨f1, f1'⟩, ⟨f2, f2'⟩, f3⟩ := hf
  have c := h.o.l1
  have e := h.o.l2
  refine ⟨by omega, fun i x hx => ?_, by omega, fun i x hx => ?_, by omega⟩
  · obtain ⟨t, ht, e⟩ := h.o.at1 hx; rw [e]; exact Nat.le_succ_of_le (f1' i t ht)
  · obtain ⟨t, ht, e⟩ := h.o.at2 hx; rw [e]; exact Nat.le_succ_of_le (f2' i t ht)
theorem markSource_exc {lo hi : Nat} {v1 v2 v3 : Value} {L1 L2 : List (Rec × Value)} {d : SD} {w : World} (q : Int) (h : SB w lo hi v1 v2 v3 L1 L2 d) (hf : SFits d) (hq : 0 ≤ q) (hq' : q ≤ 500000000000000) :
    Calls Try.prog 17 #[.agg #[v1, v2, v3], .int .i64 q] w fun e w' => e = .returned (.int .i64 (q + sumQ L1 + sumQ L2 + 2 * d.tr.length)) ∧ MB w' lo hi v1 v2 v3 L1 L2 d.tr.length q ∧ Exc lo hi w w' := by
  have hr := h.room hf
  have hf3 := hf.2.2
  refine (markSource_any lo v1 v2 v3 L1 L2 d q w h.o hf hq (by omega)).mono ?_
  rintro e w' ⟨rfl, o, z, a, b, c, f⟩
  have hs : ∀ k, HitS v1 v2 v3 (mksT q L1) (mksC (q + sumQ L1) L2) k → HitS v1 v2 v3 L1 L2 k := by
    rintro k ((e | ⟨i, x, hx, e⟩) | (e | ⟨i, x, hx, e⟩) | e)
    · exact .inl (.inl e)
    · obtain ⟨y, hy, ey⟩ := mksT_own _ _ _ _ hx
      exact .inl (.inr ⟨i, y, hy, by rw [← ey]; exact e⟩)
    · exact .inr (.inl (.inl e))
    · obtain ⟨y, hy, ey⟩ := mksC_own _ _ _ _ hx
      exact .inr (.inl (.inr ⟨i, y, hy, by rw [← ey]; exact e⟩))
    · exact .inr (.inr e)
  exact ⟨rfl, ⟨o, fun k hk => h.h k (hs k hk)⟩, a, b, c, z, fun k hk hc => f k hk (fun e => by have := (h.o.hit e).1; have := h.h k e; omega)⟩

theorem eqN_true {lo hi lo' hi' : Nat} {s s' : Option Addr} (c c' : Nat) {l : List Int} {w : World} (h : IntsR w lo hi s l) (h' : IntsR w lo' hi' s' l) (hB : hi ≤ w.heap.size) (hB' : hi' ≤ w.heap.size) (hl : l.length ≤ 1048577) :
    Calls Try.prog 31 #[.slice s l.length c, .slice s' l.length c'] w fun e w' => e = .returned (.bool true) ∧ Below w.heap.size w w' := by
  refine (eqIntS_any s s' l l c c' w (h.ints hB) (h'.ints hB') (by omega)).mono ?_
  rintro e w' ⟨rfl, n, rfl⟩
  exact ⟨by simp, rfl, rfl, rfl, Nat.le_refl _, fun _ _ => rfl⟩
theorem NB.ints {w : World} {lo : Nat} {v : Value} {l : List Int} (h : OwnN w lo v l) : ∃ s c, v = .slice s l.length c ∧ IntsR w lo w.heap.size s l ∧ NB w lo w.heap.size v l := by
  obtain ⟨s, c, e, hi⟩ := ownN_ints h
  exact ⟨s, c, e, hi, NB.of h⟩

end Go.Proofs.Ytpjlljhcnlhelaa
