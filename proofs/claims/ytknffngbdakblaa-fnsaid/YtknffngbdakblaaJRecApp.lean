/- Append of a thread or a channel onto a row of them that a call has made. Conditions: fewer than 2^30 of them. -/
import Derived.Test.YtknffngbdakblaaJG00
import Derived.Test.YtknffngbdakblaaJG01
namespace Go.Proofs.Ytknffngbdakblaa
set_option linter.unusedSimpArgs false
set_option linter.unusedVariables false
set_option maxRecDepth 100000
open Go.RowKit
theorem OwnQ.push {w w' : World} {base g cap : Nat} {e : TypeId} {v : Value} {L : List (Rec × Value)} {y : Rec × Value} (he : 3 ≠ e) (h : OwnQ w base e v L) (hy : OwnN w base y.2 y.1.l) (hyv : ∀ k, y.2.ownBlock = some k → v.ownBlock ≠ some k)
  (hs : ∀ (i : Nat) (z : Rec × Value) (k : Nat), L[i]? = some z → y.2.ownBlock = some k → z.2.ownBlock ≠ some k)
  (q1 : w'.ownsRow base e 3 (.slice (some ⟨g, 0, none⟩) (L.length + 1) cap) (L.length + 1) (flatR L ++ [y.1.a, y.2, y.1.z])) (hk : ∀ k, k < w.heap.size → v.ownBlock ≠ some k → w'.heap[k]? = w.heap[k]?) :
  OwnQ w' base e (.slice (some ⟨g, 0, none⟩) (L.length + 1) cap) (L ++ [y]) := by
 have hy' : OwnN w' base y.2 y.1.l := ownKeep' hy (fun k hk' => hk k (World.ownsRow.lt hy _ hk').2 (hyv k hk'))
 refine ⟨by rw [flatR_app, List.length_append]; exact q1, fun i x hx => ?_, fun i j x z k hx hz hne => ?_⟩
 ·by_cases hi : i < L.length
  ·rw [List.getElem?_append_left hi] at hx
   exact ownKeep' (h.inn i x hx) (fun k hk' => hk k (World.ownsRow.lt (h.inn i x hx) _ hk').2 (ownType' (h.inn i x hx) h.row he hk'))
  ·rw [List.getElem?_append_right (by omega)] at hx
   have hi0 : i - L.length = 0 := by have := (List.getElem?_eq_some_iff.1 hx).1; simp at this; omega
   rw [hi0] at hx
   simp at hx
   subst hx
   exact hy'
 ·by_cases hi : i < L.length <;> by_cases hj : j < L.length
  ·rw [List.getElem?_append_left hi] at hx
   rw [List.getElem?_append_left hj] at hz
   exact h.sep i j x z k hx hz hne
  ·rw [List.getElem?_append_left hi] at hx
   rw [List.getElem?_append_right (by omega)] at hz
   have hj0 : j - L.length = 0 := by have := (List.getElem?_eq_some_iff.1 hz).1; simp at this; omega
   rw [hj0] at hz
   simp at hz
   subst hz
   intro a b
   exact hs i x k hx b a
  ·rw [List.getElem?_append_left hj] at hz
   rw [List.getElem?_append_right (by omega)] at hx
   have hi0 : i - L.length = 0 := by have := (List.getElem?_eq_some_iff.1 hx).1; simp at this; omega
   rw [hi0] at hx
   simp at hx
   subst hx
   exact hs j z k hz
  ·have a := (List.getElem?_eq_some_iff.1 hx).1
   have b := (List.getElem?_eq_some_iff.1 hz).1
   simp at a b
   omega
theorem new3 (w : World) (a b c : Value) (e : TypeId) : ∀ j v, [a, b, c][j]? = some v → (w.alloc (.cells #[a, b, c] e)).cell? (Addr.add ⟨w.heap.size, 0, none⟩ j) = some v := by
 intro j v h
 match j, h with
 | 0, h => simpa [Addr.add, go_sem] using h
 | 1, h => simpa [Addr.add, go_sem] using h
 | 2, h => simpa [Addr.add, go_sem] using h
 | j + 3, h => simp at h
theorem infoT : ∃ i, Try.prog.info? 48 = some i ∧ i.zero = some (.agg #[.int .i64 0, .slice none 0 0, .int .i64 0]) ∧ i.size = 3 ∧ i.bytes = 40 := ⟨_, rfl, rfl, rfl, rfl⟩
theorem infoC : ∃ i, Try.prog.info? 50 = some i ∧ i.zero = some (.agg #[.int .i64 0, .slice none 0 0, .bool false]) ∧ i.size = 3 ∧ i.bytes = 40 := ⟨_, rfl, rfl, rfl, rfl⟩
/- what an append leaves -/
structure Pushed (w w' : World) (base : Nat) (e : TypeId) (v : Value) (L : List (Rec × Value)) (y : Rec × Value) (g cap : Nat) : Prop where
 own : OwnQ w' base e (.slice (some ⟨g, 0, none⟩) (L.length + 1) cap) (L ++ [y])
 far : ∀ k, k < w.heap.size → v.ownBlock ≠ some k → w'.heap[k]? = w.heap[k]?
 low : Below base w w'
 blk : v.ownBlock = some g ∨ w.heap.size ≤ g
theorem app_thread {ops : Array Oper} {rest : List Oper} {o : Oper} {a : Act} {Q : Exit → Act → World → Prop} (hgd : o.guard = none) (s x : Operand) (ho : o.op = .call { callee := .builtin .append, args := #[s, x], argTypes := #[24, 24] })
  (w : World) (y1 : Int) (l : List Int) (y2 : Value) (y3 : Int) (base : Nat) (v : Value) (L : List (Rec × Value)) (hs : a.eval s = v) (hown : OwnQ w base 48 v L) (hoy : OwnN w base y2 l) (hx : a.eval x = .slice (some ⟨w.heap.size, 0, none⟩) 1 1) (hn : L.length ≤ 1073741824) (hbase : base ≤ w.heap.size) (h1 : y2.oneCell' = true)
  (hsep : ∀ (i : Nat) (z : Rec × Value) (k : Nat), L[i]? = some z → y2.ownBlock = some k → z.2.ownBlock ≠ some k)
  (h : ∀ g cap w', Pushed w w' base 48 v L (⟨.int .i64 y1, l, .int .i64 y3⟩, y2) g cap → wpList Try.prog ops Q rest (a.put o.dst (.slice (some ⟨g, 0, none⟩) (L.length + 1) cap)) w') :
  wpList Try.prog ops Q (o :: rest) a (w.alloc (.cells #[.int .i64 y1, y2, .int .i64 y3] 48)) := by
 obtain ⟨i0, hi, hz0, hz1, hz2⟩ := infoT
 have h1' : (w.alloc (.cells #[.int .i64 y1, y2, .int .i64 y3] 48)).ownsRow base 48 3 v L.length (flatR L) := ownKeep' hown.row (fun k hk => Below.heap_alloc _ _ _ (World.ownsRow.lt hown.row _ hk).2)
 refine wpList_append_lies _ hgd s x 24 ho base 48 i0 _ 3 40 Try.underlying24 hi hz0 hz1 hz2 rfl (by decide) v L.length _ hs h1' ⟨w.heap.size, 0, none⟩ 1 1 [.int .i64 y1, y2, .int .i64 y3] hx rfl (new3 w _ _ _ _) (fun u hu => by simp at hu; rcases hu with rfl | rfl | rfl; rfl; exact h1; rfl) (by decide) (by unfold maxLen; omega) (by omega) (by simp; omega) _ rfl ?_
 intro g cap w' q1 q2 q3 q4
 have hb : Below base w w' := Below.grown (((Below.refl _ _).alloc hbase _)) q2 (by simp; omega) (fun j hj => (World.ownsRow.lt h1' _ hj).1)
 have hf : ∀ k, k < w.heap.size → v.ownBlock ≠ some k → w'.heap[k]? = w.heap[k]? := fun k hk hne => (q2.block k (by simp; omega) (fun e => hne e.symm)).trans (Below.heap_alloc _ _ _ hk)
 exact h g cap w' ⟨OwnQ.push (y := (⟨.int .i64 y1, l, .int .i64 y3⟩, y2)) (by decide) hown hoy (fun k hk => ownType' hoy hown.row (by decide) hk) hsep q1 hf, hf, hb, by rcases q3 with q3 | q3; exact .inl q3; exact .inr (by rw [q3]; simp)⟩
/- a box of three cells that may be written -/
structure BoF (G : Nat) (W : World) (a b c : Value) : Prop where
 c0 : W.cell? ⟨G, 0, none⟩ = some a
 c1 : W.cell? ⟨G, 1, none⟩ = some b
 c2 : W.cell? ⟨G, 2, none⟩ = some c
 f : ∀ j, W.frozen? ⟨G, j, none⟩ = false
 z : G < W.heap.size
theorem BoF.new (w : World) (a b c : Value) (T : TypeId) : ∃ W, w.alloc (.cells #[a, b, c] T) = W ∧ BoF w.heap.size W a b c ∧ Below w.heap.size w W ∧ W.heap.size = w.heap.size + 1 :=
 ⟨_, rfl, ⟨by simp [go_sem], by simp [go_sem], by simp [go_sem], fun j => by simp [go_sem], by simp⟩, (Below.refl _ _).alloc (Nat.le_refl _) _, by simp⟩
theorem BoF.keep {G : Nat} {W w1 : World} {a b c : Value} (h : BoF G W a b c) (hb : w1.heap[G]? = W.heap[G]?) (hs : W.heap.size ≤ w1.heap.size) : BoF G w1 a b c :=
 ⟨(World.cell?_of_block (w := W) (a := ⟨G, 0, none⟩) hb).trans h.c0, (World.cell?_of_block (w := W) (a := ⟨G, 1, none⟩) hb).trans h.c1, (World.cell?_of_block (w := W) (a := ⟨G, 2, none⟩) hb).trans h.c2, fun j => (World.frozen?_of_block (w := W) (a := ⟨G, j, none⟩) hb).trans (h.f j), by have := h.z; omega⟩
theorem BoF.below {G B : Nat} {W w1 : World} {a b c : Value} (h : BoF G W a b c) (hb : Below B W w1) (hG : G < B) : BoF G w1 a b c := h.keep (hb.block G hG) hb.size
theorem BoF.set0 {G : Nat} {W : World} {a b c : Value} (h : BoF G W a b c) (v : Value) : BoF G (W.setCell ⟨G, 0, none⟩ v) v b c :=
 ⟨setC_at (by rw [h.c0]; rfl), (setC_off (by omega)).trans h.c1, (setC_off (by omega)).trans h.c2, fun j => by rw [World.frozen?_setCell]; exact h.f j, by simpa using h.z⟩
theorem BoF.set1 {G : Nat} {W : World} {a b c : Value} (h : BoF G W a b c) (v : Value) : BoF G (W.setCell ⟨G, 1, none⟩ v) a v c :=
 ⟨(setC_off (by omega)).trans h.c0, setC_at (by rw [h.c1]; rfl), (setC_off (by omega)).trans h.c2, fun j => by rw [World.frozen?_setCell]; exact h.f j, by simpa using h.z⟩
theorem BoF.set2 {G : Nat} {W : World} {a b c : Value} (h : BoF G W a b c) (v : Value) : BoF G (W.setCell ⟨G, 2, none⟩ v) a b v :=
 ⟨(setC_off (by omega)).trans h.c0, (setC_off (by omega)).trans h.c1, setC_at (by rw [h.c2]; rfl), fun j => by rw [World.frozen?_setCell]; exact h.f j, by simpa using h.z⟩
theorem step_thread {ops : Array Oper} {o : Oper} {a : Act} {K : Act → World → Prop} {Q : Exit → Act → World → Prop} {E : Prop} (hgd : o.guard = none) (s x : Operand) (ho : o.op = .call { callee := .builtin .append, args := #[s, x], argTypes := #[24, 24] })
  (w : World) (y1 : Int) (l : List Int) (y2 : Value) (y3 : Int) (base : Nat) (v : Value) (L : List (Rec × Value)) (hs : a.eval s = v) (hown : OwnQ w base 48 v L) (hoy : OwnN w base y2 l) (hx : a.eval x = .slice (some ⟨w.heap.size, 0, none⟩) 1 1) (hn : L.length ≤ 1073741824) (hbase : base ≤ w.heap.size) (h1 : y2.oneCell' = true)
  (hsep : ∀ (i : Nat) (z : Rec × Value) (k : Nat), L[i]? = some z → y2.ownBlock = some k → z.2.ownBlock ≠ some k)
  (h : ∀ g cap w', Pushed w w' base 48 v L (⟨.int .i64 y1, l, .int .i64 y3⟩, y2) g cap → K (a.put o.dst (.slice (some ⟨g, 0, none⟩) (L.length + 1) cap)) w') :
  if Region.wanted o (yielded ops a.tmps) = true then Oper.wp Try.prog o a (w.alloc (.cells #[.int .i64 y1, y2, .int .i64 y3] 48)) K Q else E := by
 obtain ⟨i0, hi, hz0, hz1, hz2⟩ := infoT
 have h1' : (w.alloc (.cells #[.int .i64 y1, y2, .int .i64 y3] 48)).ownsRow base 48 3 v L.length (flatR L) := ownKeep' hown.row (fun k hk => Below.heap_alloc _ _ _ (World.ownsRow.lt hown.row _ hk).2)
 refine step_append_lies _ hgd s x 24 ho base 48 i0 _ 3 40 Try.underlying24 hi hz0 hz1 hz2 rfl (by decide) v L.length _ hs h1' ⟨w.heap.size, 0, none⟩ 1 1 [.int .i64 y1, y2, .int .i64 y3] hx rfl (new3 w _ _ _ _) (fun u hu => by simp at hu; rcases hu with rfl | rfl | rfl; rfl; exact h1; rfl) (by decide) (by unfold maxLen; omega) (by omega) (by simp; omega) _ rfl ?_
 intro g cap w' q1 q2 q3 q4
 have hb : Below base w w' := Below.grown (((Below.refl _ _).alloc hbase _)) q2 (by simp; omega) (fun j hj => (World.ownsRow.lt h1' _ hj).1)
 have hf : ∀ k, k < w.heap.size → v.ownBlock ≠ some k → w'.heap[k]? = w.heap[k]? := fun k hk hne => (q2.block k (by simp; omega) (fun e => hne e.symm)).trans (Below.heap_alloc _ _ _ hk)
 exact h g cap w' ⟨OwnQ.push (y := (⟨.int .i64 y1, l, .int .i64 y3⟩, y2)) (by decide) hown hoy (fun k hk => ownType' hoy hown.row (by decide) hk) hsep q1 hf, hf, hb, by rcases q3 with q3 | q3; exact .inl q3; exact .inr (by rw [q3]; simp)⟩
theorem step_chan {ops : Array Oper} {o : Oper} {a : Act} {K : Act → World → Prop} {Q : Exit → Act → World → Prop} {E : Prop} (hgd : o.guard = none) (s x : Operand) (ho : o.op = .call { callee := .builtin .append, args := #[s, x], argTypes := #[25, 25] })
  (w : World) (y1 : Int) (l : List Int) (y2 : Value) (y3 : Bool) (base : Nat) (v : Value) (L : List (Rec × Value)) (hs : a.eval s = v) (hown : OwnQ w base 50 v L) (hoy : OwnN w base y2 l) (hx : a.eval x = .slice (some ⟨w.heap.size, 0, none⟩) 1 1) (hn : L.length ≤ 1073741824) (hbase : base ≤ w.heap.size) (h1 : y2.oneCell' = true)
  (hsep : ∀ (i : Nat) (z : Rec × Value) (k : Nat), L[i]? = some z → y2.ownBlock = some k → z.2.ownBlock ≠ some k)
  (h : ∀ g cap w', Pushed w w' base 50 v L (⟨.int .i64 y1, l, .bool y3⟩, y2) g cap → K (a.put o.dst (.slice (some ⟨g, 0, none⟩) (L.length + 1) cap)) w') :
  if Region.wanted o (yielded ops a.tmps) = true then Oper.wp Try.prog o a (w.alloc (.cells #[.int .i64 y1, y2, .bool y3] 50)) K Q else E := by
 obtain ⟨i0, hi, hz0, hz1, hz2⟩ := infoC
 have h1' : (w.alloc (.cells #[.int .i64 y1, y2, .bool y3] 50)).ownsRow base 50 3 v L.length (flatR L) := ownKeep' hown.row (fun k hk => Below.heap_alloc _ _ _ (World.ownsRow.lt hown.row _ hk).2)
 refine step_append_lies _ hgd s x 25 ho base 50 i0 _ 3 40 Try.underlying25 hi hz0 hz1 hz2 rfl (by decide) v L.length _ hs h1' ⟨w.heap.size, 0, none⟩ 1 1 [.int .i64 y1, y2, .bool y3] hx rfl (new3 w _ _ _ _) (fun u hu => by simp at hu; rcases hu with rfl | rfl | rfl; rfl; exact h1; rfl) (by decide) (by unfold maxLen; omega) (by omega) (by simp; omega) _ rfl ?_
 intro g cap w' q1 q2 q3 q4
 have hb : Below base w w' := Below.grown (((Below.refl _ _).alloc hbase _)) q2 (by simp; omega) (fun j hj => (World.ownsRow.lt h1' _ hj).1)
 have hf : ∀ k, k < w.heap.size → v.ownBlock ≠ some k → w'.heap[k]? = w.heap[k]? := fun k hk hne => (q2.block k (by simp; omega) (fun e => hne e.symm)).trans (Below.heap_alloc _ _ _ hk)
 exact h g cap w' ⟨OwnQ.push (y := (⟨.int .i64 y1, l, .bool y3⟩, y2)) (by decide) hown hoy (fun k hk => ownType' hoy hown.row (by decide) hk) hsep q1 hf, hf, hb, by rcases q3 with q3 | q3; exact .inl q3; exact .inr (by rw [q3]; simp)⟩
end Go.Proofs.Ytknffngbdakblaa
