/- l2Line of the specification: one line more of a program. Conditions: a line of at most 2^20 bytes; rows as the sizes say. l2Line of the specification at a line of rooms. Conditions: a line of at most 2^20 bytes; rows as the sizes say. l2Line of the specification whole, and the plain side of the loop of its ProgRead. Conditions: a line of at most 2^20 bytes; rows as the sizes say. ProgRead of the specification, at every text of at most 2^20 bytes. No other condition. -/
import Derived.Test.YtajblippcnidiaaGreatDoorPRead4
import Derived.Test.YtajblippcnidiaaGreatDoorSRead5a
import Derived.Deep.RegionHeld3
import Derived.Deep.DeepCutAuto
import Derived.Test.YtajblippcnidiaaGreatDoorPRead6
namespace Go.Proofs.YtajblippcnidiaaGreatDoor
set_option linter.unusedSimpArgs false
set_option linter.unusedVariables false
set_option maxRecDepth 100000
section
open Go.RowKit

/- the argument's box and the answer's -/
structure Bx (B : Nat) (W : World) (v0 v1 u0 u1 : Value) : Prop where
  c0 : W.cell? ⟨B, 0, none⟩ = some v0
  c1 : W.cell? ⟨B, 1, none⟩ = some v1
  d0 : W.cell? ⟨B + 1, 0, none⟩ = some u0
  d1 : W.cell? ⟨B + 1, 1, none⟩ = some u1
  f0 : ∀ j, W.frozen? ⟨B, j, none⟩ = false
  f1 : ∀ j, W.frozen? ⟨B + 1, j, none⟩ = false
  z0 : B < W.heap.size
  z1 : B + 1 < W.heap.size
  t0 : ∃ cs fr, W.heap[B]? = some (.cells cs 27 fr)
  t1 : ∃ cs fr, W.heap[B + 1]? = some (.cells cs 27 fr)
theorem Bx.keep {B : Nat} {W w1 : World} {v0 v1 u0 u1 : Value} (h : Bx B W v0 v1 u0 u1) (h0 : w1.heap[B]? = W.heap[B]?) (h1 : w1.heap[B + 1]? = W.heap[B + 1]?) (hs : W.heap.size ≤ w1.heap.size) : Bx B w1 v0 v1 u0 u1 :=
  ⟨(World.cell?_of_block (w := W) (a := ⟨B, 0, none⟩) h0).trans h.c0, (World.cell?_of_block (w := W) (a := ⟨B, 1, none⟩) h0).trans h.c1, (World.cell?_of_block (w := W) (a := ⟨B + 1, 0, none⟩) h1).trans h.d0, (World.cell?_of_block (w := W) (a := ⟨B + 1, 1, none⟩) h1).trans h.d1,
    fun j => (World.frozen?_of_block (w := W) (a := ⟨B, j, none⟩) h0).trans (h.f0 j), fun j => (World.frozen?_of_block (w := W) (a := ⟨B + 1, j, none⟩) h1).trans (h.f1 j), by have := h.z0; omega, by have := h.z1; omega, by obtain ⟨cs, fr, e⟩ := h.t0; exact ⟨cs, fr, h0.trans e⟩, by obtain ⟨cs, fr, e⟩ := h.t1; exact ⟨cs, fr, h1.trans e⟩⟩
theorem bx (w : World) (v0 v1 u0 u1 : Value) : ∃ W, (w.alloc (.cells #[v0, v1] 27)).alloc (.cells #[u0, u1] 27) = W ∧ Bx w.heap.size W v0 v1 u0 u1 ∧ Below w.heap.size w W :=
  ⟨_, rfl, ⟨by simp [go_sem], by simp [go_sem], by simp [go_sem], by simp [go_sem], fun j => by simp [go_sem], fun j => by simp [go_sem], by simp; omega, by simp, ⟨_, _, (Below.heap_alloc _ _ _ (by simp)).trans (push_last _ _)⟩, ⟨_, _, by have := push_last (w.alloc (.cells #[v0, v1] 27)) (.cells #[u0, u1] 27); simpa using this⟩⟩, ((Below.refl _ _).alloc (Nat.le_refl _) _).alloc (by simp) _⟩

theorem set_heap {w : World} {b i : Nat} {v : Value} {cs : Array Value} {t : TypeId} {fr : Nat × Nat} (h : w.heap[b]? = some (.cells cs t fr)) : (w.setCell ⟨b, i, none⟩ v).heap[b]? = some (.cells (cs.setIfInBounds i v) t fr) := by
  simp [World.setCell, Array.getElem?_modify, h]
theorem cellOf {w : World} {g g' i j : Nat} {v : Value} (h : ¬ g = g' ∨ ¬ i = j) : (w.setCell ⟨g, i, none⟩ v).cell? ⟨g', j, none⟩ = w.cell? ⟨g', j, none⟩ := by
  apply World.cell?_setCell_other
  intro e
  injection e with e1 e2
  rcases h with h | h
  · exact h e1
  · exact h e2
theorem cellIs {w : World} {g i : Nat} {v u : Value} (h : w.cell? ⟨g, i, none⟩ = some u) : (w.setCell ⟨g, i, none⟩ v).cell? ⟨g, i, none⟩ = some v := by
  apply World.cell?_setCell_same
  exact h
theorem Bx.set1 {B : Nat} {W : World} {v0 v1 u0 u1 : Value} (h : Bx B W v0 v1 u0 u1) (x : Value) : Bx B (W.setCell ⟨B, 1, none⟩ x) v0 x u0 u1 :=
  ⟨(cellOf (.inr (by decide))).trans h.c0, cellIs h.c1, (cellOf (.inl (by omega))).trans h.d0, (cellOf (.inl (by omega))).trans h.d1, fun j => by rw [World.frozen?_setCell]; exact h.f0 j, fun j => by rw [World.frozen?_setCell]; exact h.f1 j, by simpa using h.z0, by simpa using h.z1,
    by obtain ⟨cs, fr, e⟩ := h.t0; exact ⟨_, _, set_heap e⟩, by obtain ⟨cs, fr, e⟩ := h.t1; exact ⟨cs, fr, (Below.heap_setCell _ ⟨B, 1, none⟩ _ _ (by simp)).trans e⟩⟩
theorem Bx.set0 {B : Nat} {W : World} {v0 v1 u0 u1 : Value} (h : Bx B W v0 v1 u0 u1) (x : Value) : Bx B (W.setCell ⟨B, 0, none⟩ x) x v1 u0 u1 :=
  ⟨cellIs h.c0, (cellOf (.inr (by decide))).trans h.c1, (cellOf (.inl (by omega))).trans h.d0, (cellOf (.inl (by omega))).trans h.d1, fun j => by rw [World.frozen?_setCell]; exact h.f0 j, fun j => by rw [World.frozen?_setCell]; exact h.f1 j, by simpa using h.z0, by simpa using h.z1,
    by obtain ⟨cs, fr, e⟩ := h.t0; exact ⟨_, _, set_heap e⟩, by obtain ⟨cs, fr, e⟩ := h.t1; exact ⟨cs, fr, (Below.heap_setCell _ ⟨B, 0, none⟩ _ _ (by simp)).trans e⟩⟩
theorem Bx.res {B : Nat} {W : World} {v0 v1 u0 u1 : Value} (h : Bx B W v0 v1 u0 u1) (x y : Value) : Bx B ((W.setCell ⟨B + 1, 0, none⟩ x).setCell ⟨B + 1, 1, none⟩ y) v0 v1 x y :=
  ⟨(cellOf (.inl (by omega))).trans ((cellOf (.inl (by omega))).trans h.c0), (cellOf (.inl (by omega))).trans ((cellOf (.inl (by omega))).trans h.c1), (cellOf (.inr (by decide))).trans (cellIs h.d0), cellIs ((cellOf (.inr (by decide))).trans h.d1), fun j => by rw [World.frozen?_setCell, World.frozen?_setCell]; exact h.f0 j, fun j => by rw [World.frozen?_setCell, World.frozen?_setCell]; exact h.f1 j, by simpa using h.z0, by simpa using h.z1,
    by obtain ⟨cs, fr, e⟩ := h.t0; exact ⟨cs, fr, (Below.heap_setCell _ ⟨B + 1, 1, none⟩ _ _ (by simp)).trans ((Below.heap_setCell _ ⟨B + 1, 0, none⟩ _ _ (by simp)).trans e)⟩, by obtain ⟨cs, fr, e⟩ := h.t1; exact ⟨_, _, set_heap (set_heap e)⟩⟩
/- a row of another type has not this block -/
theorem ownNot {w : World} {base : Nat} {e : TypeId} {size n : Nat} {v : Value} {xs : List Value} {B : Nat} {T : TypeId} (h : w.ownsRow base e size v n xs) (ht : ∃ cs fr, w.heap[B]? = some (.cells cs T fr)) (hne : e ≠ T) {k : Nat} (hk : v.ownBlock = some k) : k ≠ B := by
  rintro rfl
  obtain ⟨cs, fr, ht⟩ := ht
  rcases h.2 with ⟨rfl, -⟩ | ⟨g, cap, cur, rfl, -, c, -⟩
  · cases hk
  · simp only [Value.ownBlock, Option.some.injEq] at hk
    subst hk
    rw [c] at ht
    injection ht with ht
    injection ht with c1 c2
    exact hne c2
theorem OwnN.into {w : World} {base : Nat} {v : Value} {ls : List Int} {B i : Nat} {x : Value} (h : OwnN w base v ls) (ht : ∃ cs fr, w.heap[B]? = some (.cells cs 27 fr)) : OwnN (w.setCell ⟨B, i, none⟩ x) base v ls :=
  ownKeep h (fun k hk => Below.heap_setCell _ ⟨B, i, none⟩ _ k (ownNot h ht (by decide) hk))
theorem OwnB.into {w : World} {base : Nat} {v : Value} {bs : List (List I5)} {B i : Nat} {x : Value} (h : OwnB w base v bs) (ht : ∃ cs fr, w.heap[B]? = some (.cells cs 27 fr)) : OwnB (w.setCell ⟨B, i, none⟩ x) base v bs := by
  obtain ⟨xs, h1, h2, h3⟩ := h
  exact ⟨xs, ownKeep h1 (fun k hk => Below.heap_setCell _ ⟨B, i, none⟩ _ k (ownNot h1 ht (by decide) hk)), fun j hj => ownKeep (h2 j hj) (fun k hk => Below.heap_setCell _ ⟨B, i, none⟩ _ k (ownNot (h2 j hj) ht (by decide) hk)), h3⟩

/- append of an empty row that is not nil -/
theorem app_emptyrow {ops : Array Oper} {rest : List Oper} {o : Oper} {a : Act} {Q : Exit → Act → World → Prop} (hgd : o.guard = none) (s x : Operand) (ho : o.op = .call { callee := .builtin .append, args := #[s, x], argTypes := #[25, 25] })
    (w : World) (base : Nat) (v : Value) (bs : List (List I5)) (hs : a.eval s = v) (hown : OwnB w base v bs) (hx : a.eval x = .slice (some ⟨w.heap.size + 1, 0, none⟩) 1 1) (hn : bs.length ≤ 1073741824) (hbase : base ≤ w.heap.size)
    (h : ∀ g cap w', OwnB w' base (.slice (some ⟨g, 0, none⟩) (bs.length + 1) cap) (bs ++ [[]]) → Below base w w' → (∀ k, k < w.heap.size → v.ownBlock ≠ some k → w'.heap[k]? = w.heap[k]?) → w.heap.size ≤ w'.heap.size → wpList Tryz.prog ops Q rest (a.put o.dst (.slice (some ⟨g, 0, none⟩) (bs.length + 1) cap)) w') :
    wpList Tryz.prog ops Q (o :: rest) a ((w.alloc (.cells #[] 42)).alloc (.cells #[.slice (some ⟨w.heap.size, 0, none⟩) 0 0] 40)) := by
  obtain ⟨i0, hi, hz0, hz1, hz2⟩ := infoB
  obtain ⟨xs, h1, h2, h3⟩ := hown
  have es : (w.alloc (.cells #[] 42)).heap.size = w.heap.size + 1 := by simp
  have hk1 : ∀ k, k < w.heap.size → ((w.alloc (.cells #[] 42)).alloc (.cells #[.slice (some ⟨w.heap.size, 0, none⟩) 0 0] 40)).heap[k]? = w.heap[k]? := fun k hk => (Below.heap_alloc _ _ _ (by rw [es]; omega)).trans (Below.heap_alloc _ _ _ hk)
  have h1' := ownKeep (w' := (w.alloc (.cells #[] 42)).alloc (.cells #[.slice (some ⟨w.heap.size, 0, none⟩) 0 0] 40)) h1 (fun k hk => hk1 k (World.ownsRow.lt h1 _ hk).2)
  have nb := newB1 (w.alloc (.cells #[] 42)) (.slice (some ⟨w.heap.size, 0, none⟩) 0 0)
  rw [es] at nb
  refine wpList_append_lies _ hgd s x 25 ho base 40 i0 _ 1 24 Tryz.underlying25 hi hz0 hz1 hz2 rfl (by decide) v bs.length _ hs h1' ⟨w.heap.size + 1, 0, none⟩ 1 1 [.slice (some ⟨w.heap.size, 0, none⟩) 0 0] hx rfl nb (fun u hu => by simp at hu; subst hu; rfl) (by decide) (by unfold maxLen; omega) (by omega) (by simp; omega) _ rfl ?_
  intro g cap w' q1 q2 q3 q4
  have hb : Below base w w' := Below.grown ((((Below.refl _ _).alloc hbase _).alloc (by simp; omega) _)) q2 (by simp; omega) (fun j hj => (World.ownsRow.lt h1' _ hj).1)
  have hk2 : ∀ k, k < w.heap.size → v.ownBlock ≠ some k → w'.heap[k]? = w.heap[k]? := fun k hk hne => (q2.block k (by simp; omega) (fun e => hne e.symm)).trans (hk1 k hk)
  have hnew : w'.heap[w.heap.size]? = some (.cells #[] 42) := by
    rw [q2.block w.heap.size (by simp; omega) (fun e => by have := (World.ownsRow.lt h1 _ e.symm).2; omega), Below.heap_alloc _ _ _ (by rw [es]; omega)]
    exact push_last _ _
  have hP : OwnP w' base (.slice (some ⟨w.heap.size, 0, none⟩) 0 0) [] := ⟨rfl, .inr ⟨w.heap.size, 0, #[], rfl, hbase, hnew, Nat.le_refl _, by unfold maxLen; omega, rfl, rfl⟩⟩
  exact h g cap w' (OwnB.grow h1 h2 h3 (.inr ⟨_, rfl, Nat.le_refl _⟩) q1 (fun k _ hk hne => hk2 k hk hne) hP) hb hk2 hb.size

theorem OwnB.lt {w : World} {base : Nat} {v : Value} {bs : List (List I5)} (h : OwnB w base v bs) {k : Nat} (hk : v.ownBlock = some k) : base ≤ k ∧ k < w.heap.size := by
  obtain ⟨xs, h1, -⟩ := h
  exact World.ownsRow.lt h1 _ hk

/- append of one place that lies in a block, as a step of a region that draws its order -/
theorem step_placeG {ops : Array Oper} {o : Oper} {a : Act} {K : Act → World → Prop} {Q : Exit → Act → World → Prop} {E : Prop} (hgd : o.guard = none) (s y : Operand) (ho : o.op = .call { callee := .builtin .append, args := #[s, y], argTypes := #[40, 40] })
    (w : World) (x : I5) (base g0 : Nat) (v : Value) (b : List I5) (hs : a.eval s = v) (hown : OwnP w base v b) (hx : a.eval y = .slice (some ⟨g0, 0, none⟩) 1 1) (hc : ∀ j u, (cellsP x)[j]? = some u → w.cell? (Addr.add ⟨g0, 0, none⟩ j) = some u) (hn : b.length ≤ 1073741824) (hbase : base ≤ w.heap.size)
    (h : ∀ g cap w', OwnP w' base (.slice (some ⟨g, 0, none⟩) (b.length + 1) cap) (b ++ [x]) → (∀ k, k < w.heap.size → v.ownBlock ≠ some k → w'.heap[k]? = w.heap[k]?) → (v.ownBlock = some g ∨ w.heap.size ≤ g) → Below base w w' → K (a.put o.dst (.slice (some ⟨g, 0, none⟩) (b.length + 1) cap)) w') :
    if Region.wanted o (yielded ops a.tmps) = true then Oper.wp Tryz.prog o a w K Q else E := by
  obtain ⟨i0, hi, hz0, hz1, hz2⟩ := infoP
  refine step_append_lies _ hgd s y 40 ho base 42 i0 _ 5 40 Tryz.underlying40 hi hz0 hz1 hz2 rfl (by decide) v b.length _ hs hown ⟨g0, 0, none⟩ 1 1 (cellsP x) hx rfl hc (fun u hu => by simp [cellsP] at hu; rcases hu with rfl | rfl | rfl | rfl | rfl <;> rfl) (by decide) (by unfold maxLen; omega) (by omega) hbase _ rfl ?_
  intro g cap w' q1 q2 q3 q4
  have hb : Below base w w' := Below.grown (Below.refl _ _) q2 hbase (fun j hj => (World.ownsRow.lt hown _ hj).1)
  refine h g cap w' ?_ (fun k hk hne => q2.block k hk (fun e => hne e.symm)) ?_ hb
  · show w'.ownsRow base 42 5 _ (b ++ [x]).length (flatP (b ++ [x]))
    rw [flatP_snoc, List.length_append]
    exact q1
  · rcases q3 with q3 | q3
    · exact .inl q3
    · exact .inr (by rw [q3]; exact Nat.le_refl _)

/- what is as it was behind the append of one place -/
theorem placeFar {V w6 : World} {base G m cv' B : Nat} {v0 u0 u1 vl : Value} {p : PD} {xs : List Value} {o : Obj} (hX : Bx B V v0 (.slice (some ⟨G, 0, none⟩) (m + 1) cv') u0 u1) (h1 : V.ownsRow base 40 1 (.slice (some ⟨G, 0, none⟩) p.bods.length cv') p.bods.length xs) (hP : OwnP V base (xs.getD m undef) (p.bods.getD m [])) (hvl : xs.getD m undef = vl) (hm : p.bods.length = m + 1)
    (hk : ∀ k, k < (V.alloc o).drew.heap.size → vl.ownBlock ≠ some k → w6.heap[k]? = (V.alloc o).drew.heap[k]?) (hb : Below base (V.alloc o).drew w6) :
    w6.cell? ⟨B, 0, none⟩ = some v0 ∧ w6.cell? ⟨B, 1, none⟩ = some (.slice (some ⟨G, 0, none⟩) (m + 1) cv') ∧ w6.cell? ⟨G, m, none⟩ = some vl ∧ w6.frozen? ⟨G, m, none⟩ = false ∧ G < w6.heap.size ∧ Bx B w6 v0 (.slice (some ⟨G, 0, none⟩) (m + 1) cv') u0 u1 ∧ V.heap.size ≤ w6.heap.size ∧ (∀ k, k < V.heap.size → vl.ownBlock ≠ some k → w6.heap[k]? = V.heap[k]?) ∧ Below base V w6 := by
  have hs : V.heap.size + 1 ≤ w6.heap.size := by have := hb.size; simp at this; omega
  have far : ∀ k, k < V.heap.size → vl.ownBlock ≠ some k → w6.heap[k]? = V.heap[k]? := fun k h hne => (hk k (by show k < (V.alloc o).heap.size; simp; omega) hne).trans (Below.heap_alloc V o k h)
  subst hvl
  have hP' : ∀ T cs fr, T ≠ 42 → ∀ k, V.heap[k]? = some (.cells cs T fr) → (xs.getD m undef).ownBlock ≠ some k := fun T cs fr hT k hV e => ownNot hP ⟨cs, fr, hV⟩ (fun h => hT h.symm) e rfl
  obtain ⟨cs0, fr0, t0⟩ := hX.t0
  obtain ⟨cs1, fr1, t1⟩ := hX.t1
  have X6 := hX.keep (far B hX.z0 (hP' _ _ _ (by decide) B t0)) (far (B + 1) hX.z1 (hP' _ _ _ (by decide) (B + 1) t1)) (by omega)
  have hG : (Value.slice (some ⟨G, 0, none⟩) p.bods.length cv').ownBlock = some G := rfl
  have hGl := (World.ownsRow.lt h1 _ hG).2
  have hGf := far G hGl (fun e => ownType h1 hP (by decide) hG e)
  have hxl : xs.length = m + 1 := by have := h1.1; omega
  refine ⟨X6.c0, X6.c1, ?_, ?_, by omega, X6, by omega, far, ?_⟩
  · rw [World.cell?_of_block (w := V) (a := ⟨G, m, none⟩) hGf, World.ownsRow.cellAt h1 m (by omega), List.getD_eq_getElem?_getD, List.getElem?_eq_getElem (by omega)]
    rfl
  · rw [World.frozen?_of_block (w := V) (a := ⟨G, m, none⟩) hGf]
    exact World.ownsRow.frozenAt h1 m
  · exact ⟨hb.os, hb.tape, hb.output, by omega, fun k hk' => (hb.block k hk').trans (by
      by_cases h : k < V.heap.size
      · exact Below.heap_alloc V o k h
      · exact absurd hk' (by have := World.ownsRow.lt h1 _ hG; omega))⟩

/- every block of a program's two lists that was there is as it was -/
def FarP (w w' : World) : Prop := ∀ (k : Nat) (cs : Array Value) (fr : Nat × Nat), w.heap[k]? = some (.cells cs 27 fr) → w'.heap[k]? = w.heap[k]?
theorem heap_lt {w : World} {k : Nat} {o : Obj} (h : w.heap[k]? = some o) : k < w.heap.size := (Array.getElem?_eq_some_iff.1 h).1
theorem FarP.refl (w : World) : FarP w w := fun _ _ _ _ => rfl
theorem FarP.below {w w1 w' : World} (h : FarP w w1) (hb : Below w1.heap.size w1 w') (hs : w.heap.size ≤ w1.heap.size) : FarP w w' := fun k cs fr e => (hb.block k (by have := heap_lt e; omega)).trans (h k cs fr e)
theorem FarP.set {w w' : World} (h : FarP w w') {b i : Nat} {v : Value} (hb : w.heap.size ≤ b) : FarP w (w'.setCell ⟨b, i, none⟩ v) := fun k cs fr e => (Below.heap_setCell _ ⟨b, i, none⟩ _ k (by have := heap_lt e; simp; omega)).trans (h k cs fr e)
theorem FarP.own {w w1 w' : World} {base : Nat} {e : TypeId} {size n : Nat} {v : Value} {xs : List Value} (h : FarP w w1) (hs : w.heap.size ≤ w1.heap.size) (ho : w1.ownsRow base e size v n xs) (hT : e ≠ 27) (far : ∀ k, k < w1.heap.size → v.ownBlock ≠ some k → w'.heap[k]? = w1.heap[k]?) : FarP w w' := fun k cs fr hk =>
  (far k (by have := heap_lt hk; omega) (fun e' => ownNot ho ⟨cs, fr, (h k cs fr hk).trans hk⟩ hT e' rfl)).trans (h k cs fr hk)
theorem FarP.into {w w1 : World} {base : Nat} {e : TypeId} {size n G m cap : Nat} {xs : List Value} {y : Value} (h : FarP w w1) (ho : w1.ownsRow base e size (.slice (some ⟨G, 0, none⟩) n cap) n xs) (hT : e ≠ 27) : FarP w (w1.setCell ⟨G, m, none⟩ y) := fun k cs fr hk =>
  (Below.heap_setCell _ ⟨G, m, none⟩ _ k (fun e' => ownNot ho ⟨cs, fr, (h k cs fr hk).trans hk⟩ hT rfl e'.symm)).trans (h k cs fr hk)

theorem Bx.put {B G m : Nat} {W : World} {v0 v1 u0 u1 y : Value} (h : Bx B W v0 v1 u0 u1) (h0 : ¬ G = B) (h1 : ¬ G = B + 1) : Bx B (W.setCell ⟨G, m, none⟩ y) v0 v1 u0 u1 :=
  h.keep (Below.heap_setCell _ ⟨G, m, none⟩ _ B (fun e => h0 e.symm)) (Below.heap_setCell _ ⟨G, m, none⟩ _ (B + 1) (fun e => h1 e.symm)) (by simp)
/- the end of the statement that appends one place -/
theorem placeEnd {w V w6 : World} {base G m cv' B g6 cap6 : Nat} {sv : Option Addr} {cv : Nat} {u0 u1 vl : Value} {p : PD} {xs : List Value} {x : I5} (hX : Bx B V (.slice sv p.caps.length cv) (.slice (some ⟨G, 0, none⟩) (m + 1) cv') u0 u1) (h1 : V.ownsRow base 40 1 (.slice (some ⟨G, 0, none⟩) p.bods.length cv') p.bods.length xs) (h2 : ∀ i, i < p.bods.length → OwnP V base (xs.getD i undef) (p.bods.getD i []))
    (h3 : ∀ i j k, i < p.bods.length → j < p.bods.length → i ≠ j → (xs.getD i undef).ownBlock = some k → (xs.getD j undef).ownBlock ≠ some k) (hN : OwnN V base (.slice sv p.caps.length cv) p.caps) (hvl : xs.getD m undef = vl) (hm : p.bods.length = m + 1) (hK : Below base w V) (hF : FarP w V) (hsz : w.heap.size ≤ V.heap.size) (hG0 : base ≤ G)
    (ho : OwnP w6 base (.slice (some ⟨g6, 0, none⟩) ((p.bods.getD m []).length + 1) cap6) (p.bods.getD m [] ++ [x])) (far : ∀ k, k < V.heap.size → vl.ownBlock ≠ some k → w6.heap[k]? = V.heap[k]?) (hg : vl.ownBlock = some g6 ∨ (V.alloc (.cells #[.int .i64 x.o, .int .i64 x.r, .int .i64 x.a, .int .i64 x.b, .int .i64 x.n] 42)).drew.heap.size ≤ g6) (hb : Below base V w6) (hX6 : Bx B w6 (.slice sv p.caps.length cv) (.slice (some ⟨G, 0, none⟩) (m + 1) cv') u0 u1) :
    OwnB (w6.setCell ⟨G, m, none⟩ (.slice (some ⟨g6, 0, none⟩) ((p.bods.getD m []).length + 1) cap6)) base (.slice (some ⟨G, 0, none⟩) (m + 1) cv') (p.bods.set m (p.bods.getD m [] ++ [x])) ∧ OwnN (w6.setCell ⟨G, m, none⟩ (.slice (some ⟨g6, 0, none⟩) ((p.bods.getD m []).length + 1) cap6)) base (.slice sv p.caps.length cv) p.caps ∧ Bx B (w6.setCell ⟨G, m, none⟩ (.slice (some ⟨g6, 0, none⟩) ((p.bods.getD m []).length + 1) cap6)) (.slice sv p.caps.length cv) (.slice (some ⟨G, 0, none⟩) (m + 1) cv') u0 u1 ∧ Below base w (w6.setCell ⟨G, m, none⟩ (.slice (some ⟨g6, 0, none⟩) ((p.bods.getD m []).length + 1) cap6)) ∧ FarP w (w6.setCell ⟨G, m, none⟩ (.slice (some ⟨g6, 0, none⟩) ((p.bods.getD m []).length + 1) cap6)) := by
  subst hvl
  have hml : p.bods.length - 1 = m := by omega
  have hP := h2 m (by omega)
  have N6 := OwnB.push (w := V) (w' := w6) (x := x) (g := g6) (cp := cap6) (by omega) h1 h2 h3 (fun k _ hk hne => far k hk (by rw [hml] at hne; exact hne)) (by
    rw [hml]
    rcases hg with hg | hg
    · exact .inl hg
    · exact .inr (by have h : V.heap.size + 1 ≤ g6 := by simpa using hg
                     omega)) (by rw [hml]; exact ho)
  rw [hml, hm] at N6
  have hGr : (Value.slice (some ⟨G, 0, none⟩) p.bods.length cv').ownBlock = some G := rfl
  have o1 : OwnN w6 base (.slice sv p.caps.length cv) p.caps := ownKeep hN (fun k hk => far k (World.ownsRow.lt hN _ hk).2 (fun e => ownType hN hP (by decide) hk e))
  refine ⟨N6, ?_, ?_, ?_, ?_⟩
  · exact ownKeep o1 (fun k hk => Below.heap_setCell _ ⟨G, m, none⟩ _ k (fun e => ownType hN h1 (by decide) hk (by rw [hGr]; exact congrArg some e.symm)))
  · exact hX6.put (fun e => ownNot h1 hX.t0 (by decide) hGr e) (fun e => ownNot h1 hX.t1 (by decide) hGr e)
  · exact (hK.trans hb).setCell (p := ⟨G, m, none⟩) hG0 _
  · have h16 : w6.ownsRow base 40 1 (.slice (some ⟨G, 0, none⟩) p.bods.length cv') p.bods.length xs := ownKeep h1 (fun k hk => far k (World.ownsRow.lt h1 _ hk).2 (fun e => ownType h1 hP (by decide) hk e))
    exact (hF.own hsz hP (by decide) far).into h16 (by decide)

def linePost (base : Nat) (r : Option PD) (w : World) (e : Ending) (w' : World) : Prop :=
  (match r with
  | none => ∃ s n c s' n' c', e = .returned (.tuple #[.agg #[.slice s n c, .slice s' n' c'], .bool false])
  | some p => ∃ v v', e = .returned (.tuple #[.agg #[v, v'], .bool true]) ∧ OwnN w' base v p.caps ∧ OwnB w' base v' p.bods) ∧ Below base w w' ∧ FarP w w'

set_option maxHeartbeats 4000000 in
theorem l2Line_body (base : Nat) (v v' : Value) (p : PD) (w : World) (hb : base ≤ w.heap.size) (ho : OwnN w base v p.caps) (hd : OwnB w base v' p.bods) (hn : p.bods.length ≤ 1048577) :
    Calls Tryz.prog 29 #[.agg #[v, v'], .string ⟨#[98, 111, 100, 121]⟩] w fun e w' => linePost base (if p.bods.length + 1 ≤ 4 then some ⟨p.caps, p.bods ++ [[]]⟩ else none) w e w' := by
  generalize hrr : (if p.bods.length + 1 ≤ 4 then some (⟨p.caps, p.bods ++ [[]]⟩ : PD) else none) = rr
  have HRR : Hid ((if p.bods.length + 1 ≤ 4 then some (⟨p.caps, p.bods ++ [[]]⟩ : PD) else none) = rr) := hrr
  clear hrr
  obtain ⟨sv, cv, rfl⟩ := ho.sl
  obtain ⟨sv', cv', rfl⟩ := hd.sl
  have HO : Hid (OwnN w base (.slice sv p.caps.length cv) p.caps) := ho
  have HD : Hid (OwnB w base (.slice sv' p.bods.length cv') p.bods) := hd
  clear ho hd
  go_enter Tryz.func29, Tryz.ntmps29
  go_wp2_with fail
  obtain ⟨W, hW, hX, KW⟩ := bx w (.slice sv p.caps.length cv) (.slice sv' p.bods.length cv') (.slice none 0 0) (.slice none 0 0)
  rw [hW]
  clear hW
  refine (l2Words_any [98, 111, 100, 121] (by simp) W).mono ?_
  rintro e w1 ⟨g, cap, rfl, ho1, hb1, hs1⟩
  have es : splitA 32 [] [98, 111, 100, 121] = [[98, 111, 100, 121]] := by decide
  rw [es] at ho1 ⊢
  have c0 := ho1.cell (i := 0) (by simp)
  have X1 := hX.keep (hb1.block _ hX.z0) (hb1.block _ hX.z1) hb1.size
  have K1 : Hid (Below w.heap.size w w1) := KW.trans (hb1.mono (by have := hX.z0; omega))
  have D1 : Hid (OwnB w1 base (.slice sv' p.bods.length cv') p.bods) := (HD.out.below KW).below (hb1)
  have O1 : Hid (OwnN w1 base (.slice sv p.caps.length cv) p.caps) := (HO.out.below KW).below (hb1)
  have HX := (show Hid _ from X1)
  have NL : Hid (∀ k, (Value.slice sv' p.bods.length cv').ownBlock = some k → k < w.heap.size) := fun k hk => (HD.out.lt hk).2
  have NO : Hid (∀ k, (Value.slice sv p.caps.length cv).ownBlock = some k → k < w.heap.size) := fun k hk => (World.ownsRow.lt HO.out _ hk).2
  clear hX hb1 KW ho1 HO HD es
  obtain ⟨x0, x1, y0, y1, f0, f1, z0, z1, -, -⟩ := X1
  simp at c0
  have n0 : ¬ w.heap.size + 1 = w.heap.size := by omega
  have n1 : ¬ w.heap.size = w.heap.size + 1 := by omega
  go_wp2_with (at_builtin; refine app_emptyrow rfl _ _ rfl w1 base (.slice sv' p.bods.length cv') p.bods rfl D1.out rfl (by omega) (by omega) ?_; intro g5 cap5 w5 ho5 hb5 hk5 hs5; have X5 := HX.out.keep (hk5 _ z0 (fun e => by have := NL.out _ e; omega)) (hk5 _ z1 (fun e => by have := NL.out _ e; omega)) hs5; have HX5 := (show Hid _ from X5); obtain ⟨p0, p1, q0, q1, e0, e1, t0, t1, -, -⟩ := X5; have O5 : Hid (OwnB w5 base (.slice (some ⟨g5, 0, none⟩) (p.bods.length + 1) cap5) (p.bods ++ [[]])) := ho5; have B5 : Hid (Below base w1 w5) := hb5; have K5 : Hid (∀ k, k < w1.heap.size → (Value.slice sv' p.bods.length cv').ownBlock ≠ some k → w5.heap[k]? = w1.heap[k]?) := hk5; clear ho5 hb5 hk5 x0 x1 y0 y1 f0 f1)
  have F5 : FarP w w5 := by
    obtain ⟨xs, hx, -⟩ := D1.out
    exact (FarP.refl w |>.below K1.out (Nat.le_refl _)).own K1.out.size hx (by decide) K5.out
  have O5n : Hid (OwnN w5 base (.slice sv p.caps.length cv) p.caps) := ownKeep O1.out (fun k hk => K5.out k (by have := NO.out k hk; omega) (fun e => by
    obtain ⟨xs, hx, -⟩ := D1.out
    exact ownType O1.out hx (by decide) hk e))
  obtain ⟨W6, hW6, X6, N6, B6, L6, F6⟩ : ∃ W6, w5.setCell ⟨w.heap.size, 1, none⟩ (.slice (some ⟨g5, 0, none⟩) (p.bods.length + 1) cap5) = W6 ∧ Bx w.heap.size W6 (.slice sv p.caps.length cv) (.slice (some ⟨g5, 0, none⟩) (p.bods.length + 1) cap5) (.slice none 0 0) (.slice none 0 0) ∧ OwnN W6 base (.slice sv p.caps.length cv) p.caps ∧ OwnB W6 base (.slice (some ⟨g5, 0, none⟩) (p.bods.length + 1) cap5) (p.bods ++ [[]]) ∧ Below base w W6 ∧ FarP w W6 :=
    ⟨_, rfl, HX5.out.set1 _, OwnN.into O5n.out HX5.out.t0, OwnB.into O5.out HX5.out.t0, ((K1.out.mono hb).trans B5.out).setCell (p := ⟨w.heap.size, 1, none⟩) hb _, F5.set (Nat.le_refl _)⟩
  rw [hW6]
  have HX6 := (show Hid _ from X6)
  have HN6 := (show Hid _ from N6)
  have HB6 := (show Hid _ from B6)
  have HL6 : Hid (Below base w W6) := L6
  have HF6 : Hid (FarP w W6) := F6
  clear F5 F6
  clear hW6 p0 p1 q0 q1 e0 e1 t0 t1 HX5 O5n N6 B6 L6 O5 B5 K5
  obtain ⟨p0, p1, q0, q1, e0, e1, t0, t1, -, -⟩ := X6
  go_region_held3 (fun w' => w'.cell? ⟨w.heap.size, 0, none⟩ = some (.slice sv p.caps.length cv) ∧ w'.cell? ⟨w.heap.size, 1, none⟩ = some (.slice (some ⟨g5, 0, none⟩) (p.bods.length + 1) cap5)) (go_keep) (fail)
  have XR : Hid (Bx w.heap.size ((W6.setCell ⟨w.heap.size + 1, 0, none⟩ (.slice sv p.caps.length cv)).setCell ⟨w.heap.size + 1, 1, none⟩ (.slice (some ⟨g5, 0, none⟩) (p.bods.length + 1) cap5)) (.slice sv p.caps.length cv) (.slice (some ⟨g5, 0, none⟩) (p.bods.length + 1) cap5) (.slice sv p.caps.length cv) (.slice (some ⟨g5, 0, none⟩) (p.bods.length + 1) cap5)) := HX6.out.res _ _
  go_wp2
  refine bodyPost_ret (v := .tuple #[.agg #[.slice sv p.caps.length cv, .slice (some ⟨g5, 0, none⟩) (p.bods.length + 1) cap5], .bool (decide ((p.bods.length : Int) + 1 ≤ 4))]) (by simp [results, Tryz.results29, go_sem, q0, q1]) rfl ⟨?_, Below.drew ((HL6.out.setCell (p := ⟨w.heap.size + 1, 0, none⟩) (by simp; omega) _).setCell (p := ⟨w.heap.size + 1, 1, none⟩) (by simp; omega) _), (show FarP w ((W6.setCell ⟨w.heap.size + 1, 0, none⟩ _).setCell ⟨w.heap.size + 1, 1, none⟩ _) from (HF6.out.set (by omega)).set (by omega))⟩
  rw [← HRR.out]
  by_cases h4 : p.bods.length + 1 ≤ 4
  · rw [if_pos h4, decide_eq_true (by omega)]
    exact ⟨_, _, rfl, OwnN.into (OwnN.into HN6.out HX6.out.t1) (by obtain ⟨cs, fr, e⟩ := HX6.out.t1; exact ⟨_, _, set_heap e⟩), OwnB.into (OwnB.into HB6.out HX6.out.t1) (by obtain ⟨cs, fr, e⟩ := HX6.out.t1; exact ⟨_, _, set_heap e⟩)⟩
  · rw [if_neg h4, decide_eq_false (by omega)]
    exact ⟨_, _, _, _, _, _, rfl⟩

set_option maxHeartbeats 4000000 in
theorem l2Line_ins (base : Nat) (v v' : Value) (p : PD) (line : List UInt8) (w : World) (hb : base ≤ w.heap.size) (ho : OwnN w base v p.caps) (hd : OwnB w base v' p.bods) (hn : p.bods.length ≤ 1048577) (hi : ∀ b ∈ p.bods, b.length ≤ 1048577) (hl : line.length ≤ 1048576) (h1 : (splitA 32 [] line).headD [] ≠ capsW) (h2 : line ≠ bodyW) :
    Calls Tryz.prog 29 #[.agg #[v, v'], .string ⟨line.toArray⟩] w fun e w' => linePost base (if p.bods = [] then none else (readL line).map fun x => ⟨p.caps, pushI p.bods (toI x)⟩) w e w' := by
  generalize hrr : (if p.bods = [] then none else (readL line).map fun x => (⟨p.caps, pushI p.bods (toI x)⟩ : PD)) = rr
  have HRR : Hid ((if p.bods = [] then none else (readL line).map fun x => (⟨p.caps, pushI p.bods (toI x)⟩ : PD)) = rr) := hrr
  clear hrr
  obtain ⟨sv, cv, rfl⟩ := ho.sl
  obtain ⟨sv', cv', rfl⟩ := hd.sl
  have HO : Hid (OwnN w base (.slice sv p.caps.length cv) p.caps) := ho
  have HD : Hid (OwnB w base (.slice sv' p.bods.length cv') p.bods) := hd
  have HI : Hid (∀ b ∈ p.bods, b.length ≤ 1048577) := hi
  clear ho hd hi
  go_enter Tryz.func29, Tryz.ntmps29
  go_wp2_with fail
  obtain ⟨W, hW, hX, KW⟩ := bx w (.slice sv p.caps.length cv) (.slice sv' p.bods.length cv') (.slice none 0 0) (.slice none 0 0)
  rw [hW]
  clear hW
  refine (l2Words_any line (by omega) W).mono ?_
  rintro e w1 ⟨g, cap, rfl, ho1, hb1, hs1⟩
  have hne := words_ne line
  generalize splitA 32 [] line = ws at ho1 h1 hne
  obtain ⟨nw, hnw⟩ : ∃ n, ws.length = n + 1 := ⟨ws.length - 1, by cases ws with | nil => exact absurd rfl hne | cons a r => simp⟩
  have c0 := ho1.cell (i := 0) (by omega)
  rw [head_getD hne] at c0
  have hwd : (ws.headD [] == [99, 97, 112, 115]) = false := by simpa [capsW] using h1
  have hwb : (line == [98, 111, 100, 121]) = false := by simpa [bodyW] using h2
  rw [hnw]
  generalize ws.headD [] = w0 at c0 hwd
  have X1 := hX.keep (hb1.block _ hX.z0) (hb1.block _ hX.z1) hb1.size
  have K1 : Hid (Below w.heap.size w w1) := KW.trans (hb1.mono (by have := hX.z0; omega))
  have D1 : Hid (OwnB w1 base (.slice sv' p.bods.length cv') p.bods) := (HD.out.below KW).below (hb1)
  have O1 : Hid (OwnN w1 base (.slice sv p.caps.length cv) p.caps) := (HO.out.below KW).below (hb1)
  have HX := (show Hid _ from X1)
  clear hX hb1 KW ho1 HO HD hnw hne h1 h2
  obtain ⟨x0, x1, y0, y1, f0, f1, z0, z1, -, -⟩ := X1
  go_wp2_with fail
  refine (specInsRead_any line (by omega) w1).mono ?_
  rintro e w2 ⟨rfl, hb2⟩
  have X2 := HX.out.keep (hb2.block _ z0) (hb2.block _ z1) hb2.size
  have K2 : Hid (Below w.heap.size w w2) := K1.out.trans (hb2.mono (by omega))
  have D2 : Hid (OwnB w2 base (.slice sv' p.bods.length cv') p.bods) := D1.out.below hb2
  have O2 : Hid (OwnN w2 base (.slice sv p.caps.length cv) p.caps) := O1.out.below hb2
  have s2 := hb2.size
  clear HX x0 x1 y0 y1 f0 f1 z0 z1 K1 D1 O1 hb2 c0
  have HX := (show Hid _ from X2)
  obtain ⟨x0, x1, y0, y1, f0, f1, z0, z1, -, -⟩ := X2
  have n0 : ¬ w.heap.size + 1 = w.heap.size := by omega
  have n1 : ¬ w.heap.size = w.heap.size + 1 := by omega
  cases hr : readL line with
  | none =>
    have HR : Hid (rr = none) := by show _ = _; rw [← HRR.out, hr]; split <;> rfl
    clear hr HRR
    unfold readV
    go_wp2
    refine bodyPost_ret (v := .tuple #[.agg #[.slice sv p.caps.length cv, .slice sv' p.bods.length cv'], .bool false]) (by simp [results, Tryz.results29, go_sem, y0, y1, z0, z1]) rfl ⟨?_, ?_⟩
    · rw [HR.out]
      exact ⟨_, _, _, _, _, _, rfl⟩
    · exact ⟨(((K2.out.mono hb).setCell (p := ⟨w.heap.size + 1, 0, none⟩) (by simp; omega) _).setCell (p := ⟨w.heap.size + 1, 1, none⟩) (by simp; omega) _).alloc (by simp; omega) _, (((FarP.refl w |>.below K2.out (Nat.le_refl _)).set (by omega)).set (by omega)).below ((Below.refl _ _).alloc (Nat.le_refl _) _) (by have := K2.out.size; simp; omega)⟩
  | some x =>
    unfold readV
    rcases Nat.eq_zero_or_pos p.bods.length with h0 | hpos
    · have hb0 : p.bods = [] := List.length_eq_zero_iff.1 h0
      have HR : Hid (rr = none) := by show _ = _; rw [← HRR.out, if_pos hb0]
      rw [h0] at x1 HX D2 ⊢
      clear hr HRR hb0 h0
      go_wp2
      refine bodyPost_ret (v := .tuple #[.agg #[.slice sv p.caps.length cv, .slice sv' 0 cv'], .bool false]) (by simp [results, Tryz.results29, go_sem, y0, y1, z0, z1]) rfl ⟨?_, ?_⟩
      · rw [HR.out]
        exact ⟨_, _, _, _, _, _, rfl⟩
      · exact ⟨(((K2.out.mono hb).setCell (p := ⟨w.heap.size + 1, 0, none⟩) (by simp; omega) _).setCell (p := ⟨w.heap.size + 1, 1, none⟩) (by simp; omega) _).alloc (by simp; omega) _, (((FarP.refl w |>.below K2.out (Nat.le_refl _)).set (by omega)).set (by omega)).below ((Below.refl _ _).alloc (Nat.le_refl _) _) (by have := K2.out.size; simp; omega)⟩
    · have hbne : p.bods ≠ [] := fun h => by rw [h] at hpos; simp at hpos
      obtain ⟨m, hm⟩ : ∃ m, p.bods.length = m + 1 := ⟨p.bods.length - 1, by omega⟩
      have HR : Hid (rr = some ⟨p.caps, p.bods.set m (p.bods.getD m [] ++ [toI x])⟩) := by
        show _ = _
        rw [← HRR.out, if_neg hbne, hr]
        show some (⟨p.caps, pushI p.bods (toI x)⟩ : PD) = some _
        rw [push_set _ hbne, hm]
        rfl
      clear hr HRR
      obtain ⟨xs, h1, h2, h3⟩ := D2.out
      obtain ⟨G, cap', hGv, hG0, hG1⟩ := World.ownsRow.form h1 hpos
      injection hGv with eG eN eC
      subst eG
      subst eC
      have hxl : xs.length = m + 1 := by have := h1.1; omega
      have cG : w2.cell? ⟨G, m, none⟩ = some (xs.getD m undef) := by
        rw [World.ownsRow.cellAt h1 m (by omega), List.getD_eq_getElem?_getD, List.getElem?_eq_getElem (by omega)]; rfl
      have fG : w2.frozen? ⟨G, m, none⟩ = false := World.ownsRow.frozenAt h1 m
      have HP : Hid (OwnP w2 base (xs.getD m undef) (p.bods.getD m [])) := h2 m (by omega)
      have H1 : Hid (w2.ownsRow base 40 1 (.slice (some ⟨G, 0, none⟩) p.bods.length cv') p.bods.length xs) := h1
      have H2 : Hid (∀ i, i < p.bods.length → OwnP w2 base (xs.getD i undef) (p.bods.getD i [])) := h2
      have H3 : Hid (∀ i j k, i < p.bods.length → j < p.bods.length → i ≠ j → (xs.getD i undef).ownBlock = some k → (xs.getD j undef).ownBlock ≠ some k) := h3
      have HM : Hid (p.bods.length = m + 1) := hm
      have hil : (p.bods.getD m []).length ≤ 1048577 := HI.out _ (by rw [List.getD_eq_getElem?_getD, List.getElem?_eq_getElem (by omega)]; exact List.getElem_mem _)
      have nG0 : ∀ T, (∃ cs fr, w2.heap[T]? = some (.cells cs 27 fr)) → G ≠ T := fun T hT => ownNot h1 hT (by decide) rfl
      have nGa : ¬ G = w.heap.size := nG0 _ HX.out.t0
      have nGb : ¬ G = w.heap.size + 1 := nG0 _ HX.out.t1
      rw [hm] at x1 ⊢
      obtain ⟨vl, hvl⟩ : ∃ vl, xs.getD m undef = vl := ⟨_, rfl⟩
      rw [hvl] at cG
      have HVL : Hid (xs.getD m undef = vl) := hvl
      have bm0 : (0 : Int) ≤ (m : Int) := by omega
      have bm1 : (m : Int) < (m : Int) + 1 := by omega
      have hmb : m + 1 ≤ 1048577 := by omega
      clear h1 h2 h3 hm hvl hpos hxl D2 nG0 eN hbne
      go_wp2_with fail
      obtain ⟨V, hV, KV, zV, v0, v1, v2, v3, v4⟩ : ∃ V, w2.alloc (.cells #[.int .i64 x.o, .int .i64 x.r, .int .i64 x.a, .int .i64 x.b, .int .i64 x.n] 42) = V ∧ Below w2.heap.size w2 V ∧ w2.heap.size < V.heap.size ∧ V.cell? ⟨w2.heap.size, 0, none⟩ = some (.int .i64 x.o) ∧ V.cell? ⟨w2.heap.size, 1, none⟩ = some (.int .i64 x.r) ∧ V.cell? ⟨w2.heap.size, 2, none⟩ = some (.int .i64 x.a) ∧ V.cell? ⟨w2.heap.size, 3, none⟩ = some (.int .i64 x.b) ∧ V.cell? ⟨w2.heap.size, 4, none⟩ = some (.int .i64 x.n) := ⟨_, rfl, (Below.refl _ _).alloc (Nat.le_refl _) _, by simp, by simp [go_sem], by simp [go_sem], by simp [go_sem], by simp [go_sem], by simp [go_sem]⟩
      rw [hV]
      have HXV : Hid (Bx w.heap.size V (.slice sv p.caps.length cv) (.slice (some ⟨G, 0, none⟩) (m + 1) cv') (.slice none 0 0) (.slice none 0 0)) := by have h := HX.out.keep (KV.block _ z0) (KV.block _ z1) KV.size; rw [HM.out] at h; exact h
      have cGV := (KV.cell (p := ⟨G, m, none⟩) hG1).trans cG
      have fGV := (KV.frozen (p := ⟨G, m, none⟩) hG1).trans fG
      have HPV : Hid (OwnP V base (xs.getD m undef) (p.bods.getD m [])) := ownKeep HP.out (fun k hk => KV.block k (World.ownsRow.lt HP.out _ hk).2)
      have H1V : Hid (V.ownsRow base 40 1 (.slice (some ⟨G, 0, none⟩) p.bods.length cv') p.bods.length xs) := ownKeep H1.out (fun k hk => KV.block k (World.ownsRow.lt H1.out _ hk).2)
      have H2V : Hid (∀ i, i < p.bods.length → OwnP V base (xs.getD i undef) (p.bods.getD i [])) := fun i hi => ownKeep (H2.out i hi) (fun k hk => KV.block k (World.ownsRow.lt (H2.out i hi) _ hk).2)
      have ONV : Hid (OwnN V base (.slice sv p.caps.length cv) p.caps) := O2.out.below KV
      have KVV : Hid (Below w.heap.size w V) := K2.out.trans (KV.mono (by omega))
      have hGV : G < V.heap.size := by omega
      have hBV : base ≤ V.heap.size := by omega
      clear hV KV HX x0 x1 y0 y1 f0 f1 z0 z1 cG fG HP H1 H2 O2 K2 hG1 s2
      obtain ⟨x0, x1, y0, y1, f0, f1, z0, z1, -, -⟩ := HXV.out
      go_cut [] (fun wx => OwnB wx base (.slice (some ⟨G, 0, none⟩) (m + 1) cv') (p.bods.set m (p.bods.getD m [] ++ [toI x])) ∧ OwnN wx base (.slice sv p.caps.length cv) p.caps ∧ Bx w.heap.size wx (.slice sv p.caps.length cv) (.slice (some ⟨G, 0, none⟩) (m + 1) cv') (.slice none 0 0) (.slice none 0 0) ∧ Below base w wx ∧ FarP w wx)
      case first =>
        first | go_region_law (refine step_placeG (by rfl) _ _ (by rfl) _ (toI x) base V.heap.size vl (p.bods.getD m []) (by rfl) (by have h := HPV.out; rw [HVL.out] at h; exact ownKeep h (fun k hk => Below.heap_alloc V _ _ (World.ownsRow.lt h _ hk).2)) (by rfl) (newP5 V (toI x)) (by omega) (by simp; omega) ?_; intro g6 cap6 w6 ho6 hk6 hg6 hb6; have F6 := placeFar HXV.out H1V.out HPV.out HVL.out HM.out hk6 hb6; obtain ⟨a0, a1, a2, a3, a4, a5, a6, a7, a8⟩ := F6) | fail
        all_goals
          have N6 := placeEnd HXV.out H1V.out H2V.out H3.out ONV.out HVL.out HM.out (KVV.out.mono hb) (FarP.refl w |>.below KVV.out (Nat.le_refl _)) KVV.out.size hG0 ho6 a7 hg6 a8 a5
          go_wp2_with fail
          go_meet
          exact N6
      case rest =>
        obtain ⟨hB6, hN6, hX6, hK6, hF6⟩ := hcut
        have HF6 : Hid (FarP w wc) := hF6
        clear hF6
        have HB6 := (show Hid _ from hB6)
        have HN6 : Hid (OwnN wc base (.slice sv p.caps.length cv) p.caps) := hN6
        have HX6 := (show Hid _ from hX6)
        have HK6 : Hid (Below base w wc) := hK6
        clear hB6 hN6 hK6 x0 x1 y0 y1 f0 f1 z0 z1 cGV fGV HPV H1V H2V H3 ONV KVV HXV v0 v1 v2 v3 v4
        obtain ⟨x0, x1, y0, y1, f0, f1, z0, z1, -, -⟩ := hX6
        go_wp2
        refine bodyPost_ret (v := .tuple #[.agg #[.slice sv p.caps.length cv, .slice (some ⟨G, 0, none⟩) (m + 1) cv'], .bool true]) (by simp [results, Tryz.results29, go_sem, y0, y1]) rfl ⟨?_, ((HK6.out.setCell (p := ⟨w.heap.size + 1, 0, none⟩) (by simp; omega) _).setCell (p := ⟨w.heap.size + 1, 1, none⟩) (by simp; omega) _), (HF6.out.set (by omega)).set (by omega)⟩
        rw [HR.out]
        exact ⟨_, _, rfl, OwnN.into (OwnN.into HN6.out HX6.out.t1) (by obtain ⟨cs, fr, e⟩ := HX6.out.t1; exact ⟨_, _, set_heap e⟩), OwnB.into (OwnB.into HB6.out HX6.out.t1) (by obtain ⟨cs, fr, e⟩ := HX6.out.t1; exact ⟨_, _, set_heap e⟩)⟩
end

section
open Go.RowKit

theorem app_oneS {ops : Array Oper} {rest : List Oper} {o : Oper} {a : Act} {Q : Exit → Act → World → Prop} (hgd : o.guard = none) (s x : Operand) (ho : o.op = .call { callee := .builtin .append, args := #[s, x], argTypes := #[24, 24] })
    (w : World) (z : Int) (base : Nat) (v : Value) (ls : List Int) (hs : a.eval s = v) (hown : OwnN w base v ls) (hx : a.eval x = .slice (some ⟨w.heap.size, 0, none⟩) 1 1) (hn : ls.length ≤ 1099511627775) (hbase : base ≤ w.heap.size)
    (h : ∀ g cap w', OwnN w' base (.slice (some ⟨g, 0, none⟩) (ls.length + 1) cap) (ls ++ [z]) → Below base w w' → (∀ k, k < w.heap.size → v.ownBlock ≠ some k → w'.heap[k]? = w.heap[k]?) → wpList Tryz.prog ops Q rest (a.put o.dst (.slice (some ⟨g, 0, none⟩) (ls.length + 1) cap)) w') :
    wpList Tryz.prog ops Q (o :: rest) a (w.alloc (.cells #[.int .i64 z] 3)) := by
  obtain ⟨i0, hi, hz0, hz1, hz2⟩ := infoInt
  have h1' := hown.alloc (.cells #[.int .i64 z] 3)
  refine wpList_append_lies _ hgd s x 24 ho base 3 i0 _ 1 8 Tryz.underlying24 hi hz0 hz1 hz2 rfl (by decide) v ls.length _ hs h1' ⟨w.heap.size, 0, none⟩ 1 1 [.int .i64 z] hx rfl (newN1 w _) (fun u hu => by simp at hu; subst hu; rfl) (by decide) (by unfold maxLen; omega) (by omega) (by simp; omega) _ rfl ?_
  intro g cap w' q1 q2 q3 q4
  have hb : Below base w w' := Below.grown (((Below.refl _ _).alloc hbase _)) q2 (by simp; omega) (fun j hj => (World.ownsRow.lt h1' _ hj).1)
  refine h g cap w' ?_ hb (fun k hk hne => (q2.block k (by simp; omega) (fun e => hne e.symm)).trans (Below.heap_alloc _ _ _ hk))
  show w'.ownsRow base 3 1 _ (ls ++ [z]).length ((ls ++ [z]).map (Value.int .i64))
  rw [List.map_append, List.length_append]
  exact q1

/- the state of the loop -/
structure Cs (w wr : World) (base B : Nat) (sv : Option Addr) (n cv : Nat) (v' : Value) (cs : List Int) (bs : List (List I5)) (g cap : Nat) (ws : List (List UInt8)) : Prop where
  bx : Bx B wr (.slice sv n cv) v' (.slice none 0 0) (.slice none 0 0)
  on : OwnN wr base (.slice sv n cv) cs
  ob : OwnB wr base v' bs
  ot : OwnT wr base (.slice (some ⟨g, 0, none⟩) ws.length cap) ws
  be : Below base w wr
  fp : FarP w wr
  sz : w.heap.size ≤ wr.heap.size
theorem Cs.keep {w wr w' : World} {base B : Nat} {sv : Option Addr} {n cv : Nat} {v' : Value} {cs : List Int} {bs : List (List I5)} {g cap : Nat} {ws : List (List UInt8)} (h : Cs w wr base B sv n cv v' cs bs g cap ws) (hb : Below wr.heap.size wr w') (hs : base ≤ wr.heap.size) : Cs w w' base B sv n cv v' cs bs g cap ws :=
  ⟨h.bx.keep (hb.block _ h.bx.z0) (hb.block _ h.bx.z1) hb.size, h.on.below hb, h.ob.below hb, h.ot.below hb, h.be.trans (hb.mono hs), h.fp.below hb h.sz, Nat.le_trans h.sz hb.size⟩
theorem Cs.push {w wr w' : World} {base B : Nat} {sv : Option Addr} {n cv g5 cap5 : Nat} {v' : Value} {cs : List Int} {z : Int} {bs : List (List I5)} {g cap : Nat} {ws : List (List UInt8)} (h : Cs w wr base B sv n cv v' cs bs g cap ws) (hB : base ≤ B) (hB' : w.heap.size ≤ B) (ho : OwnN w' base (.slice (some ⟨g5, 0, none⟩) (cs.length + 1) cap5) (cs ++ [z])) (hb : Below base wr w')
    (far : ∀ k, k < wr.heap.size → (Value.slice sv n cv).ownBlock ≠ some k → w'.heap[k]? = wr.heap[k]?) : Bx B w' (.slice sv n cv) v' (.slice none 0 0) (.slice none 0 0) ∧ Cs w (w'.setCell ⟨B, 0, none⟩ (.slice (some ⟨g5, 0, none⟩) (cs.length + 1) cap5)) base B (some ⟨g5, 0, none⟩) (cs.length + 1) cap5 v' (cs ++ [z]) bs g cap ws := by
  have X5 := h.bx.keep (far _ h.bx.z0 (fun e => ownNot h.on h.bx.t0 (by decide) e rfl)) (far _ h.bx.z1 (fun e => ownNot h.on h.bx.t1 (by decide) e rfl)) hb.size
  obtain ⟨xs, b1, b2, b3⟩ := h.ob
  have B5 : OwnB w' base v' bs := ⟨xs, ownKeep b1 (fun k hk => far k (World.ownsRow.lt b1 _ hk).2 (fun e => ownType b1 h.on (by decide) hk e)), fun i hi => ownKeep (b2 i hi) (fun k hk => far k (World.ownsRow.lt (b2 i hi) _ hk).2 (fun e => ownType (b2 i hi) h.on (by decide) hk e)), b3⟩
  have T5 : OwnT w' base (.slice (some ⟨g, 0, none⟩) ws.length cap) ws := ownKeep h.ot (fun k hk => far k (World.ownsRow.lt h.ot _ hk).2 (fun e => ownType h.ot h.on (by decide) hk e))
  exact ⟨X5, X5.set0 _, OwnN.into ho X5.t0, OwnB.into B5 X5.t0, ownKeep T5 (fun k hk => Below.heap_setCell _ ⟨B, 0, none⟩ _ k (ownNot T5 X5.t0 (by decide) hk)), (h.be.trans hb).setCell (p := ⟨B, 0, none⟩) hB _, (h.fp.own h.sz h.on (by decide) far).set hB', by have := hb.size; have := h.sz; simp; omega⟩

theorem mapS_snocB {xs : List (List UInt8)} {x : List UInt8} {vs : List Int} {v : Int} (h : xs.mapM numS = some vs) (hx : numS x = some v) : (xs ++ [x]).mapM numS = some (vs ++ [v]) := by
  rw [List.mapM_append, h]
  simp [hx]
theorem mapS_failB {xs ys : List (List UInt8)} {x : List UInt8} {vs : List Int} (h : xs.mapM numS = some vs) (hx : numS x = none) : (xs ++ x :: ys).mapM numS = none := by
  rw [List.mapM_append, h]
  simp [hx]
theorem take_next (ws : List (List UInt8)) (k N : Nat) (h : k + 1 < ws.length) (hk : k < N) : (ws.tail.take N) = ws.tail.take k ++ ws.getD (k + 1) [] :: (ws.tail.drop (k + 1)).take (N - (k + 1)) ∧ ws.tail.take (k + 1) = ws.tail.take k ++ [ws.getD (k + 1) []] := by
  obtain ⟨a, r, rfl⟩ : ∃ a r, ws = a :: r := by cases ws with | nil => simp at h | cons a r => exact ⟨a, r, rfl⟩
  simp only [List.tail_cons]
  have hk' : k < r.length := by simp at h; omega
  have e : (a :: r).getD (k + 1) [] = r[k] := by simp [List.getD_eq_getElem?_getD, hk']
  have e2 : r.take (k + 1) = r.take k ++ [r[k]] := List.take_succ_eq_append_getElem hk'
  rw [e]
  refine ⟨?_, e2⟩
  have e3 : r.take N = r.take (k + 1) ++ (r.drop (k + 1)).take (N - (k + 1)) := by
    conv => lhs; rw [show N = (k + 1) + (N - (k + 1)) by omega]
    rw [List.take_add]
  rw [e3, e2, List.append_assoc]
  rfl

set_option maxHeartbeats 4000000 in
theorem l2Line_caps (base : Nat) (v v' : Value) (p : PD) (line : List UInt8) (w : World) (hb : base ≤ w.heap.size) (ho : OwnN w base v p.caps) (hd : OwnB w base v' p.bods) (hn : p.caps.length ≤ 1073741824) (hl : line.length ≤ 1048576) (h1 : (splitA 32 [] line).headD [] = capsW) :
    Calls Tryz.prog 29 #[.agg #[v, v'], .string ⟨line.toArray⟩] w fun e w' => linePost base ((((splitA 32 [] line).tail.take 8).mapM numS).map fun vs => ⟨p.caps ++ vs, p.bods⟩) w e w' := by
  generalize hrr : ((((splitA 32 [] line).tail.take 8).mapM numS).map fun vs => (⟨p.caps ++ vs, p.bods⟩ : PD)) = rr
  have HRR : Hid (((((splitA 32 [] line).tail.take 8).mapM numS).map fun vs => (⟨p.caps ++ vs, p.bods⟩ : PD)) = rr) := hrr
  clear hrr
  have HW : Hid (∀ x ∈ splitA 32 [] line, x.length ≤ 1048576) := fun x hx => by have := split_word_le 32 line [] x hx; simp at this; omega
  obtain ⟨sv, cv, rfl⟩ := ho.sl
  obtain ⟨sv', cv', rfl⟩ := hd.sl
  have HO : Hid (OwnN w base (.slice sv p.caps.length cv) p.caps) := ho
  have HD : Hid (OwnB w base (.slice sv' p.bods.length cv') p.bods) := hd
  clear ho hd
  go_enter Tryz.func29, Tryz.ntmps29
  go_wp2_with fail
  obtain ⟨W, hW, hX, KW⟩ := bx w (.slice sv p.caps.length cv) (.slice sv' p.bods.length cv') (.slice none 0 0) (.slice none 0 0)
  rw [hW]
  clear hW
  refine (l2Words_any line (by omega) W).mono ?_
  rintro e w1 ⟨g, cap, rfl, ho1, hb1, hs1⟩
  have hne := words_ne line
  have hln := (splitA_len 32 line []).2
  generalize splitA 32 [] line = ws at ho1 h1 hne HW hln HRR
  obtain ⟨nw, hnw⟩ : ∃ n, ws.length = n + 1 := ⟨ws.length - 1, by cases ws with | nil => exact absurd rfl hne | cons a r => simp⟩
  have HNW : Hid (ws.length = nw + 1) := hnw
  have c0 := ho1.cell (i := 0) (by omega)
  rw [head_getD hne, h1] at c0
  unfold capsW at c0
  have C1 : Hid (Cs w w1 base w.heap.size sv p.caps.length cv (.slice sv' p.bods.length cv') p.caps p.bods g cap ws) := ⟨hX.keep (hb1.block _ hX.z0) (hb1.block _ hX.z1) hb1.size, (HO.out.below KW).below hb1, (HD.out.below KW).below hb1, ownLow ho1 (by have := hX.z0; omega), (KW.trans (hb1.mono (by have := hX.z0; omega))).mono hb, (FarP.refl w |>.below KW (Nat.le_refl _)).below hb1 KW.size, Nat.le_trans KW.size hb1.size⟩
  have s1 : w.heap.size + 1 < w1.heap.size := C1.out.bx.z1
  rw [hnw]
  have hnb : nw ≤ 1048577 := by omega
  clear hX hb1 KW ho1 HO HD hnw hne h1 hln
  go_wp2
  go_loopw [7] (fun i wr => ∃ (k : Nat) (vs : List Int) (su : Option Addr) (cu : Nat), k ≤ nw ∧ k ≤ 8 ∧ i = .int .i64 ((k : Int) + 1) ∧ vs.length = k ∧ Hid ((ws.tail.take k).mapM numS = some vs) ∧ Cs w wr base w.heap.size su (p.caps.length + k) cu (.slice sv' p.bods.length cv') (p.caps ++ vs) p.bods g cap ws) (fun i _ => 10 - (intOf i).toNat)
  case atStart => exact ⟨0, [], sv, cv, by omega, by omega, rfl, rfl, (by show _ = _; simp), (by rw [List.append_nil]; exact C1.out)⟩
  case round =>
    obtain ⟨k, vs, su, cu, hk, hk8, rfl, hvk, HV, hcs⟩ := hrel
    have HC : Hid (Cs w wr base w.heap.size su (p.caps.length + k) cu (.slice sv' p.bods.length cv') (p.caps ++ vs) p.bods g cap ws) := hcs
    have HVK : Hid (vs.length = k) := hvk
    clear hcs C1 c0 hvk
    obtain ⟨x0, x1, y0, y1, f0, f1, z0, z1, -, -⟩ := HC.out.bx
    have n0 : ¬ w.heap.size + 1 = w.heap.size := by omega
    have n1 : ¬ w.heap.size = w.heap.size + 1 := by omega
    by_cases hlt : k < nw ∧ k < 8
    · obtain ⟨hlt, hlt8⟩ := hlt
      have wk := OwnT.cell HC.out.ot (i := k + 1) (by rw [HNW.out]; omega)
      have hword : ws.getD (k + 1) [] ∈ ws := by
        rw [List.getD_eq_getElem?_getD, List.getElem?_eq_getElem (by rw [HNW.out]; omega)]
        exact List.getElem_mem _
      have hwl := HW.out _ hword
      obtain ⟨tn1, tn2⟩ := take_next ws k 8 (by rw [HNW.out]; omega) hlt8
      have TN1 := (show Hid _ from tn1)
      have TN2 := (show Hid _ from tn2)
      clear tn1 tn2 hword
      generalize ws.getD (k + 1) [] = wd at wk hwl TN1 TN2
      have b0 : (0 : Int) ≤ (k : Int) + 1 := by omega
      have b1 : (k : Int) + 1 < (nw : Int) + 1 := by omega
      have b2 : (k : Int) + 1 < 9 := by omega
      have b3 : ((k : Int) + 1).toNat = k + 1 := by omega
      have sR : w.heap.size + 1 < wr.heap.size := z1
      go_wp2_with fail
      refine (l2Read_any wd (by omega) wr).mono ?_
      rintro e w2 ⟨z, rfl, hz, hb2⟩
      have HC2 : Hid (Cs w w2 base w.heap.size su (p.caps.length + k) cu (.slice sv' p.bods.length cv') (p.caps ++ vs) p.bods g cap ws) := HC.out.keep hb2 (by omega)
      have s2 : wr.heap.size ≤ w2.heap.size := hb2.size
      clear x0 x1 y0 y1 f0 f1 z0 z1 HC hb2 wk
      obtain ⟨x0, x1, y0, y1, f0, f1, z0, z1, -, -⟩ := HC2.out.bx
      cases hnum : numS wd with
      | none =>
        have HR : Hid (rr = none) := by show _ = _; rw [← HRR.out, TN1.out, mapS_failB HV.out hnum]; rfl
        have HN : Hid (numS wd = none) := hnum
        simp only [Option.isSome_none]
        clear hnum hz HRR TN1 TN2
        go_wp2
        refine bodyPost_ret (v := .tuple #[.agg #[.slice su (p.caps.length + k) cu, .slice sv' p.bods.length cv'], .bool false]) (by simp [results, Tryz.results29, go_sem, y0, y1]) rfl ⟨?_, (HC2.out.be.setCell (p := ⟨w.heap.size + 1, 0, none⟩) (by simp; omega) _).setCell (p := ⟨w.heap.size + 1, 1, none⟩) (by simp; omega) _, (HC2.out.fp.set (by omega)).set (by omega)⟩
        rw [HR.out]
        exact ⟨_, _, _, _, _, _, rfl⟩
      | some y =>
        have hzy := hz y hnum
        subst hzy
        have HV2 : Hid ((ws.tail.take (k + 1)).mapM numS = some (vs ++ [z])) := by show _ = _; rw [TN2.out]; exact mapS_snocB HV.out hnum
        simp only [Option.isSome_some]
        have HLN : Hid ((p.caps ++ vs).length = p.caps.length + k) := by show _ = _; rw [List.length_append, HVK.out]
        clear hnum hz TN1 TN2
        go_wp2_with (at_builtin; refine app_oneS rfl _ _ rfl w2 z base (.slice su (p.caps.length + k) cu) (p.caps ++ vs) rfl HC2.out.on rfl (by rw [HLN.out]; omega) (by omega) ?_; intro g5 cap5 w5 ho5 hb5 hf5; have P5 := HC2.out.push hb (Nat.le_refl _) ho5 hb5 hf5; rw [HLN.out] at P5; have HC5 := (show Hid _ from P5.2); obtain ⟨p0, p1, q0, q1, e0, e1, t0, t1, -, -⟩ := P5.1; rw [HLN.out]; clear ho5 hb5 hf5 P5 x0 x1 y0 y1 f0 f1 z0 z1)
        go_roundw
        case rel => exact ⟨k + 1, vs ++ [z], some ⟨g5, 0, none⟩, cap5, by omega, by omega, by go_num, by simp [HVK.out], HV2.out, by rw [← List.append_assoc]; exact HC5.out⟩
        case measure => simp [intOf]; omega
    · have HR : Hid (rr = some ⟨p.caps ++ vs, p.bods⟩) := by
        have e : ws.tail.take 8 = ws.tail.take k := by
          by_cases h8 : k = 8
          · rw [h8]
          · have hl : ws.tail.length = nw := by rw [List.length_tail, HNW.out]; rfl
            rw [List.take_of_length_le (by omega), List.take_of_length_le (by omega)]
        show _ = _
        rw [← HRR.out, e, HV.out]
        rfl
      by_cases h9 : k < nw
      · have b1 : (k : Int) + 1 < (nw : Int) + 1 := by omega
        have b2 : ¬ (k : Int) + 1 < 9 := by omega
        clear hlt HRR HV
        go_wp2
        refine bodyPost_ret (v := .tuple #[.agg #[.slice su (p.caps.length + k) cu, .slice sv' p.bods.length cv'], .bool true]) (by simp [results, Tryz.results29, go_sem, y0, y1]) rfl ⟨?_, (HC.out.be.setCell (p := ⟨w.heap.size + 1, 0, none⟩) (by simp; omega) _).setCell (p := ⟨w.heap.size + 1, 1, none⟩) (by simp; omega) _, (HC.out.fp.set (by omega)).set (by omega)⟩
        rw [HR.out]
        exact ⟨_, _, rfl, OwnN.into (OwnN.into HC.out.on HC.out.bx.t1) (by obtain ⟨cs, fr, e⟩ := HC.out.bx.t1; exact ⟨_, _, set_heap e⟩), OwnB.into (OwnB.into HC.out.ob HC.out.bx.t1) (by obtain ⟨cs, fr, e⟩ := HC.out.bx.t1; exact ⟨_, _, set_heap e⟩)⟩
      · have b1 : ¬ (k : Int) + 1 < (nw : Int) + 1 := by omega
        clear hlt HRR HV
        go_wp2
        refine bodyPost_ret (v := .tuple #[.agg #[.slice su (p.caps.length + k) cu, .slice sv' p.bods.length cv'], .bool true]) (by simp [results, Tryz.results29, go_sem, y0, y1]) rfl ⟨?_, (HC.out.be.setCell (p := ⟨w.heap.size + 1, 0, none⟩) (by simp; omega) _).setCell (p := ⟨w.heap.size + 1, 1, none⟩) (by simp; omega) _, (HC.out.fp.set (by omega)).set (by omega)⟩
        rw [HR.out]
        exact ⟨_, _, rfl, OwnN.into (OwnN.into HC.out.on HC.out.bx.t1) (by obtain ⟨cs, fr, e⟩ := HC.out.bx.t1; exact ⟨_, _, set_heap e⟩), OwnB.into (OwnB.into HC.out.ob HC.out.bx.t1) (by obtain ⟨cs, fr, e⟩ := HC.out.bx.t1; exact ⟨_, _, set_heap e⟩)⟩
end

section
open Go.RowKit

theorem l2Line_any (base : Nat) (v v' : Value) (p : PD) (line : List UInt8) (w : World) (hb : base ≤ w.heap.size) (ho : OwnN w base v p.caps) (hd : OwnB w base v' p.bods) (hc : p.caps.length ≤ 1073741824) (hn : p.bods.length ≤ 1048577) (hi : ∀ b ∈ p.bods, b.length ≤ 1048577) (hl : line.length ≤ 1048576) :
    Calls Tryz.prog 29 #[.agg #[v, v'], .string ⟨line.toArray⟩] w fun e w' => linePost base (specLine p line) w e w' := by
  unfold specLine
  by_cases h1 : (splitA 32 [] line).headD [] = capsW
  · rw [if_pos h1]
    exact l2Line_caps base v v' p line w hb ho hd hc hl h1
  · rw [if_neg h1]
    by_cases h2 : line = bodyW
    · rw [if_pos h2, h2]
      exact l2Line_body base v v' p w hb ho hd hn
    · rw [if_neg h2]
      exact l2Line_ins base v v' p line w hb ho hd hn hi hl h1 h2

theorem specF_snoc : ∀ (ls : List (List UInt8)) (p : PD) (x : List UInt8), specF p (ls ++ [x]) = (specF p ls).bind fun q => specLine q x
  | [], p, x => by
    simp only [List.nil_append, specF, Option.bind_some]
    cases specLine p x <;> rfl
  | y :: r, p, x => by
    simp only [List.cons_append, specF]
    cases specLine p y with
    | none => rfl
    | some q => exact specF_snoc r q x
theorem specF_fail : ∀ (ls : List (List UInt8)) (p q : PD) (x : List UInt8) (r : List (List UInt8)), specF p ls = some q → specLine q x = none → specF p (ls ++ x :: r) = none
  | [], p, q, x, r, h, hx => by
    have h' : p = q := by simpa [specF] using h
    subst h'
    simp [specF, hx]
  | y :: s, p, q, x, r, h, hx => by
    simp only [List.cons_append, specF] at h ⊢
    cases hy : specLine p y with
    | none => simp [hy] at h
    | some t => rw [hy] at h; exact specF_fail s t q x r h hx

/- how great a program becomes by lines -/
def Sized (n c : Nat) (p : PD) : Prop := p.caps.length ≤ c ∧ p.bods.length ≤ n ∧ ∀ b ∈ p.bods, b.length ≤ n
theorem mapS_len : ∀ (ws : List (List UInt8)) (vs : List Int), ws.mapM numS = some vs → vs.length = ws.length
  | [], vs, h => by simp at h; subst h; rfl
  | x :: r, vs, h => by
    rw [List.mapM_cons] at h
    cases hx : numS x with
    | none => rw [hx] at h; cases h
    | some v =>
      cases hr : r.mapM numS with
      | none => rw [hx, hr] at h; cases h
      | some us =>
        rw [hx, hr] at h
        injection h with h
        have h' : v :: us = vs := h
        rw [← h', List.length_cons, mapS_len r us hr, List.length_cons]
theorem Sized.line {n c : Nat} {p q : PD} {x : List UInt8} (h : Sized n c p) (hx : specLine p x = some q) : Sized (n + 1) (c + x.length) q := by
  obtain ⟨h1, h2, h3⟩ := h
  unfold specLine at hx
  split at hx
  · cases hm : ((splitA 32 [] x).tail.take 8).mapM numS with
    | none => rw [hm] at hx; cases hx
    | some vs =>
      rw [hm] at hx
      injection hx with hx
      have hv := mapS_len _ _ hm
      have hv8 : vs.length ≤ x.length := by
        have h1 := (splitA_len 32 x []).2
        have h2 := List.length_take_le' 8 (splitA 32 [] x).tail
        rw [List.length_tail] at h2
        omega
      have e : (⟨p.caps ++ vs, p.bods⟩ : PD) = q := hx
      subst e
      exact ⟨by show (p.caps ++ vs).length ≤ _; rw [List.length_append]; omega, by show p.bods.length ≤ _; omega, fun b hb => Nat.le_succ_of_le (h3 b hb)⟩
  · split at hx
    · split at hx
      · injection hx with hx
        subst hx
        exact ⟨by show p.caps.length ≤ _; omega, by show (p.bods ++ [[]]).length ≤ _; simp; omega, fun b hb => by
          rcases List.mem_append.1 hb with h | h
          · exact Nat.le_succ_of_le (h3 b h)
          · simp at h; subst h; simp⟩
      · cases hx
    · split at hx
      · cases hx
      · rename_i hne
        cases hr : readL x with
        | none => rw [hr] at hx; cases hx
        | some y =>
          rw [hr] at hx
          injection hx with hx
          have e : (⟨p.caps, pushI p.bods (toI y)⟩ : PD) = q := hx
          subst e
          have hpos : 0 < p.bods.length := List.length_pos_iff.2 hne
          refine ⟨by show p.caps.length ≤ _; omega, by show (pushI p.bods (toI y)).length ≤ _; rw [push_set _ hne, List.length_set]; omega, fun b hb => ?_⟩
          have hb' : b ∈ p.bods.set (p.bods.length - 1) (p.bods.getD (p.bods.length - 1) [] ++ [toI y]) := by rw [← push_set _ hne]; exact hb
          rcases List.mem_or_eq_of_mem_set hb' with h | h
          · exact Nat.le_succ_of_le (h3 b h)
          · have := h3 (p.bods.getD (p.bods.length - 1) []) (by rw [List.getD_eq_getElem?_getD, List.getElem?_eq_getElem (by omega)]; exact List.getElem_mem _)
            rw [h, List.length_append, List.length_singleton]
            omega
end

section
open Go.RowKit

/- the state of the loop: the answer's box, the program's box, its rows -/
structure Ls (w wr : World) (sv sv' : Option Addr) (cv cv' : Nat) (p : PD) : Prop where
  bx : Bx w.heap.size wr (.slice none 0 0) (.slice none 0 0) (.slice sv p.caps.length cv) (.slice sv' p.bods.length cv')
  on : OwnN wr (w.heap.size + 2) (.slice sv p.caps.length cv) p.caps
  ob : OwnB wr (w.heap.size + 2) (.slice sv' p.bods.length cv') p.bods
  be : Below w.heap.size w wr
theorem Ls.sz {w wr : World} {sv sv' : Option Addr} {cv cv' : Nat} {p : PD} (h : Ls w wr sv sv' cv cv' p) : w.heap.size + 2 ≤ wr.heap.size := by have := h.bx.z1; omega
theorem drop_mid {α : Type} (a : List α) (x : α) (b : List α) (h : b ≠ []) : (a ++ x :: b).dropLast = a ++ x :: b.dropLast := by
  rw [List.dropLast_append_of_ne_nil (by simp), List.dropLast_cons_of_ne_nil h]
theorem acc_len (l : List UInt8) (fr k : Nat) : (accL l fr k).length ≤ l.length := by
  unfold accL
  simp
  omega

/- what the call of l2Line leaves, whether next's box was made ahead of it or not -/
theorem newNo {wr : World} : ∀ k, wr.heap.size ≤ k → k < wr.drew.heap.size → ∃ cs fr, wr.drew.heap[k]? = some (.cells cs 27 fr) := fun k h1 h2 => absurd h2 (by show ¬ k < wr.heap.size; omega)
theorem newOne {wr : World} {C : Array Value} : ∀ k, wr.heap.size ≤ k → k < (wr.alloc (.cells C 27)).drew.heap.size → ∃ cs fr, (wr.alloc (.cells C 27)).drew.heap[k]? = some (.cells cs 27 fr) := fun k h1 h2 => by
  have e : k = wr.heap.size := by have h : k < wr.heap.size + 1 := by simpa using h2
                                  omega
  subst e
  exact ⟨_, _, push_last _ _⟩
theorem cellRule {wr W' w2 : World} (hf : FarP W' w2) (hn : ∀ k, wr.heap.size ≤ k → k < W'.heap.size → ∃ cs fr, W'.heap[k]? = some (.cells cs 27 fr)) : (∀ k j, wr.heap.size ≤ k → k < W'.heap.size → w2.cell? ⟨k, j, none⟩ = W'.cell? ⟨k, j, none⟩) ∧ (∀ k j, wr.heap.size ≤ k → k < W'.heap.size → w2.frozen? ⟨k, j, none⟩ = W'.frozen? ⟨k, j, none⟩) := by
  refine ⟨fun k j h1 h2 => ?_, fun k j h1 h2 => ?_⟩
  · obtain ⟨cs, fr, e⟩ := hn k h1 h2
    exact World.cell?_of_block (w := W') (a := ⟨k, j, none⟩) (hf k cs fr e)
  · obtain ⟨cs, fr, e⟩ := hn k h1 h2
    exact World.frozen?_of_block (w := W') (a := ⟨k, j, none⟩) (hf k cs fr e)
theorem bxRule {B : Nat} {wr W' w2 : World} {v0 v1 u0 u1 : Value} (h : Bx B wr v0 v1 u0 u1) (hk : ∀ k, k < wr.heap.size → W'.heap[k]? = wr.heap[k]?) (hf : FarP W' w2) (hs : wr.heap.size ≤ w2.heap.size) : Bx B w2 v0 v1 u0 u1 := by
  obtain ⟨cs, fr, e⟩ := h.t0
  obtain ⟨cs', fr', e'⟩ := h.t1
  exact h.keep ((hf B cs fr ((hk B h.z0).trans e)).trans (hk B h.z0)) ((hf (B + 1) cs' fr' ((hk (B + 1) h.z1).trans e')).trans (hk (B + 1) h.z1)) hs

theorem lineEnd {w w2 : World} {Q : Nat} {tv tv' : Option Addr} {du du' : Nat} {q : PD} {x y v0 v1 u0 u1 : Value} (hQ : w.heap.size + 2 ≤ Q) (hz : Q < w2.heap.size) (c0 : w2.cell? ⟨Q, 0, none⟩ = some x) (c1 : w2.cell? ⟨Q, 1, none⟩ = some y) (ht : ∃ cs fr, w2.heap[Q]? = some (.cells cs 27 fr))
    (oq : OwnN w2 (w.heap.size + 2) (.slice tv q.caps.length du) q.caps) (bq : OwnB w2 (w.heap.size + 2) (.slice tv' q.bods.length du') q.bods) (X2 : Bx w.heap.size w2 v0 v1 u0 u1) (K2 : Below w.heap.size w w2) :
    ∃ (Q' : Nat) (sv sv' : Option Addr) (cv cv' : Nat), Value.pointer (some ⟨Q, 0, none⟩) = .pointer (some ⟨Q', 0, none⟩) ∧ Value.bool true = .bool true ∧ w.heap.size + 2 ≤ Q' ∧ ((w2.setCell ⟨Q, 0, none⟩ (.slice tv q.caps.length du)).setCell ⟨Q, 1, none⟩ (.slice tv' q.bods.length du')).cell? ⟨Q', 0, none⟩ = some (.slice sv q.caps.length cv) ∧ ((w2.setCell ⟨Q, 0, none⟩ (.slice tv q.caps.length du)).setCell ⟨Q, 1, none⟩ (.slice tv' q.bods.length du')).cell? ⟨Q', 1, none⟩ = some (.slice sv' q.bods.length cv') ∧ OwnN ((w2.setCell ⟨Q, 0, none⟩ (.slice tv q.caps.length du)).setCell ⟨Q, 1, none⟩ (.slice tv' q.bods.length du')) (w.heap.size + 2) (.slice sv q.caps.length cv) q.caps ∧ OwnB ((w2.setCell ⟨Q, 0, none⟩ (.slice tv q.caps.length du)).setCell ⟨Q, 1, none⟩ (.slice tv' q.bods.length du')) (w.heap.size + 2) (.slice sv' q.bods.length cv') q.bods ∧ Bx w.heap.size ((w2.setCell ⟨Q, 0, none⟩ (.slice tv q.caps.length du)).setCell ⟨Q, 1, none⟩ (.slice tv' q.bods.length du')) v0 v1 u0 u1 ∧ Below w.heap.size w ((w2.setCell ⟨Q, 0, none⟩ (.slice tv q.caps.length du)).setCell ⟨Q, 1, none⟩ (.slice tv' q.bods.length du')) := by
  have ht2 : ∃ cs fr, (w2.setCell ⟨Q, 0, none⟩ (.slice tv q.caps.length du)).heap[Q]? = some (.cells cs 27 fr) := by obtain ⟨cs, fr, e⟩ := ht; exact ⟨_, _, set_heap e⟩
  exact ⟨Q, tv, tv', du, du', rfl, rfl, hQ, (cellOf (.inr (by decide))).trans (cellIs c0), cellIs ((cellOf (.inr (by decide))).trans c1), OwnN.into (OwnN.into oq ht) ht2, OwnB.into (OwnB.into bq ht) ht2, (X2.put (by omega) (by omega)).put (by omega) (by omega), (K2.setCell (p := ⟨Q, 0, none⟩) (by simp; omega) _).setCell (p := ⟨Q, 1, none⟩) (by simp; omega) _⟩

set_option maxHeartbeats 8000000 in
theorem specProgRead_any (l : List UInt8) (hl : l.length ≤ 1048576) (w : World) : Calls Tryz.prog 12 #[.string ⟨l.toArray⟩] w fun e w' => readPost w.heap.size (readP l) e w' ∧ Below w.heap.size w w' := by
  have HRP : Hid (readP l = specP l) := (specP_eq l).symm
  generalize hrr : readP l = rr at HRP
  clear hrr
  obtain ⟨W, hW, hX, KW⟩ := bx w (.slice none 0 0) (.slice none 0 0) (.slice none 0 0) (.slice none 0 0)
  have HW := (show Hid _ from hW)
  have L0 : Hid (Ls w W none none 0 0 ⟨[], []⟩) := ⟨hX, World.ownsRow_nil _ _ _ _, OwnB.nil _ _, KW⟩
  clear hW hX KW
  go_enter Tryz.func12, Tryz.ntmps12
  go_wp2
  rw [HW.out]
  go_loopw [5, 6] (fun f i wr => ∃ (fr k : Nat) (done : List (List UInt8)) (p : PD) (sv sv' : Option Addr) (cv cv' : Nat), fr ≤ k ∧ k ≤ l.length ∧ f = .int .i64 fr ∧ i = .int .i64 k ∧ done.length ≤ k ∧ Hid (splitA 10 [] l = done ++ splitA 10 (accL l fr k) (l.drop k)) ∧ Hid (specF ⟨[], []⟩ done = some p) ∧ Hid (Sized done.length fr p) ∧ Ls w wr sv sv' cv cv' p) (fun _ i _ => l.length - (intOf i).toNat)
  case atStart => exact ⟨0, 0, [], ⟨[], []⟩, none, none, 0, 0, Nat.le_refl _, Nat.zero_le _, rfl, rfl, Nat.zero_le _, (by show _ = _; rw [accL_self]; rfl), rfl, ⟨Nat.zero_le _, Nat.zero_le _, fun b hb => by cases hb⟩, L0.out⟩
  case round =>
    obtain ⟨fr, k, done, p, sv, sv', cv, cv', hfr, hk, rfl, rfl, hdn, HS, HF, HZ, hls⟩ := hrel
    have HL : Hid (Ls w wr sv sv' cv cv' p) := hls
    clear hls L0
    obtain ⟨x0, x1, y0, y1, f0, f1, z0, z1, -, -⟩ := HL.out.bx
    have n0 : ¬ w.heap.size + 1 = w.heap.size := by omega
    have n1 : ¬ w.heap.size = w.heap.size + 1 := by omega
    have hex : (⟨l.toArray⟩ : ByteArray).extract fr k = ⟨(accL l fr k).toArray⟩ := extract_acc l fr k
    have s1 : (0 : Int) ≤ (fr : Int) := by omega
    have s2 : (fr : Int) ≤ (k : Int) := by omega
    have s3 : (k : Int) ≤ (l.length : Int) := by omega
    by_cases hlt : k < l.length
    · obtain ⟨c, hc⟩ : ∃ c, l[k] = c := ⟨_, rfl⟩
      have HR : Hid (l.drop k = c :: l.drop (k + 1)) := by show _ = _; rw [List.drop_eq_getElem_cons hlt, hc]
      have b1 : (k : Int) < (l.length : Int) := by omega
      have hp : k < (⟨l.toArray⟩ : ByteArray).size := by simpa [ByteArray.size] using hlt
      have hgk : (⟨l.toArray⟩ : ByteArray)[k]'hp = c := hc
      clear hc
      by_cases hcm : c = 10
      · subst hcm
        have hacc := acc_len l fr k
        have hal : (accL l fr k).length = k - fr := by unfold accL; simp; omega
        have HS2 : Hid (splitA 10 [] l = (done ++ [accL l fr k]) ++ splitA 10 (accL l (k + 1) (k + 1)) (l.drop (k + 1))) := by
          show _ = _
          rw [HS.out, HR.out, splitA, if_pos rfl, accL_self]
          simp
        have hszr := HL.out.sz
        obtain ⟨a1, a2, a3⟩ := HZ.out
        have L2 : Hid (∀ W', w.heap.size + 2 ≤ W'.heap.size → OwnN W' (w.heap.size + 2) (.slice sv p.caps.length cv) p.caps → OwnB W' (w.heap.size + 2) (.slice sv' p.bods.length cv') p.bods → Calls Tryz.prog 29 #[.agg #[.slice sv p.caps.length cv, .slice sv' p.bods.length cv'], .string ⟨(accL l fr k).toArray⟩] W' fun e w' => linePost (w.heap.size + 2) (specLine p (accL l fr k)) W' e w') := fun W' h1 h2 h3 => l2Line_any (w.heap.size + 2) _ _ p (accL l fr k) W' h1 h2 h3 (by omega) (by omega) (fun b hb => by have := a3 b hb; omega) (by omega)
        clear a1 a2 a3
        generalize hacd : accL l fr k = ac at L2 HS2 hacc hal hex
        clear hacd
        cases hsl : specLine p ac with
        | none =>
          have HN : Hid (rr = none) := by
            show _ = _
            rw [HRP.out]
            unfold specP
            rw [HS2.out, List.append_assoc, List.singleton_append, drop_mid _ _ _ (by have := (splitA_len 10 (l.drop (k + 1)) (accL l (k + 1) (k + 1))).1; intro h; rw [h] at this; simp at this), specF_fail _ _ _ _ _ HF.out hsl]
          rw [hsl] at L2
          clear hsl
          go_upto_region 7 with fail
          go_cut [8] (fun s8 wx => s8 = .bool false ∧ Bx w.heap.size wx (.slice none 0 0) (.slice none 0 0) (.slice sv p.caps.length cv) (.slice sv' p.bods.length cv') ∧ Below w.heap.size w wx)
          case first =>
            go_region_with (first | (go_at_call 29; refine (L2.out _ (by first | exact hszr | (simp; omega)) (by first | exact HL.out.on | exact OwnN.alloc HL.out.on _) (by first | exact HL.out.ob | exact HL.out.ob.keep (fun k _ hk => Below.heap_alloc _ _ _ hk))).mono ?_; rintro e w2 ⟨he, hb2, hf2⟩; obtain ⟨t1, t2, t3, t4, t5, t6, rfl⟩ := he; obtain ⟨hc2, hg2⟩ := cellRule (wr := wr) hf2 (by first | exact newNo | exact newOne); have z2r := fun (b : Nat) h => Nat.lt_of_lt_of_le (n := b) h hb2.size; have s2r : wr.heap.size ≤ w2.heap.size := (by first | exact hb2.size | exact Nat.le_trans (by simp) hb2.size); have X2 := bxRule HL.out.bx (w2 := w2) (by first | exact fun _ _ => rfl | exact fun k hk => Below.heap_alloc _ _ _ hk) hf2 s2r; have K2 : Below w.heap.size w w2 := HL.out.be.trans (by first | exact (Below.drew (Below.refl _ _)).trans (hb2.mono (by omega)) | exact (Below.drew ((Below.refl _ _).alloc (by omega) _)).trans (hb2.mono (by omega)))))
            all_goals
              go_wp2_with fail
              go_meet
              first
                | exact ⟨rfl, X2.keep (Below.heap_alloc _ _ _ X2.z0) (Below.heap_alloc _ _ _ X2.z1) (by simp), K2.alloc (by omega) _⟩
                | exact ⟨rfl, (X2.put (by omega) (by omega)).put (by omega) (by omega), (K2.setCell (p := ⟨wr.heap.size, 0, none⟩) (by simp; omega) _).setCell (p := ⟨wr.heap.size, 1, none⟩) (by simp; omega) _⟩
          case rest =>
            obtain ⟨rfl, hX, hK⟩ := hcut
            have HK : Hid (Below w.heap.size w wc) := hK
            clear hK x0 x1 y0 y1 f0 f1 z0 z1
            obtain ⟨x0, x1, y0, y1, f0, f1, z0, z1, -, -⟩ := hX
            go_wp2
            refine bodyPost_ret (v := .tuple #[.agg #[.slice none 0 0, .slice none 0 0], .bool false]) (by simp [results, Tryz.results12, go_sem, x0, x1]) rfl ⟨?_, (HK.out.setCell (p := ⟨w.heap.size, 0, none⟩) (Nat.le_refl _) _).setCell (p := ⟨w.heap.size, 1, none⟩) (Nat.le_refl _) _⟩
            rw [HN.out]
            rfl
        | some q =>
          have HF2 : Hid (specF ⟨[], []⟩ (done ++ [ac]) = some q) := by show _ = _; rw [specF_snoc, HF.out]; exact hsl
          have HZ2 : Hid (Sized (done ++ [ac]).length (k + 1) q) := by
            obtain ⟨b1, b2, b3⟩ := HZ.out.line hsl
            exact ⟨by omega, by rw [List.length_append]; exact b2, fun b hb => by rw [List.length_append]; exact b3 b hb⟩
          rw [hsl] at L2
          clear hsl
          go_upto_region 7 with fail
          go_cut [7, 8] (fun s7 s8 wx => ∃ (Q : Nat) (tv tv' : Option Addr) (du du' : Nat), s7 = .pointer (some ⟨Q, 0, none⟩) ∧ s8 = .bool true ∧ w.heap.size + 2 ≤ Q ∧ wx.cell? ⟨Q, 0, none⟩ = some (.slice tv q.caps.length du) ∧ wx.cell? ⟨Q, 1, none⟩ = some (.slice tv' q.bods.length du') ∧ OwnN wx (w.heap.size + 2) (.slice tv q.caps.length du) q.caps ∧ OwnB wx (w.heap.size + 2) (.slice tv' q.bods.length du') q.bods ∧ Bx w.heap.size wx (.slice none 0 0) (.slice none 0 0) (.slice sv p.caps.length cv) (.slice sv' p.bods.length cv') ∧ Below w.heap.size w wx)
          case first =>
            go_region_with (first | (go_at_call 29; refine (L2.out _ (by first | exact hszr | (simp; omega)) (by first | exact HL.out.on | exact OwnN.alloc HL.out.on _) (by first | exact HL.out.ob | exact HL.out.ob.keep (fun k _ hk => Below.heap_alloc _ _ _ hk))).mono ?_; rintro e w2 ⟨he, hb2, hf2⟩; obtain ⟨q0, q1, rfl, oq, bq⟩ := he; obtain ⟨tv, du, rfl⟩ := oq.sl; obtain ⟨tv', du', rfl⟩ := bq.sl; obtain ⟨hc2, hg2⟩ := cellRule (wr := wr) hf2 (by first | exact newNo | exact newOne); have z2r := fun (b : Nat) h => Nat.lt_of_lt_of_le (n := b) h hb2.size; have s2r : wr.heap.size ≤ w2.heap.size := (by first | exact hb2.size | exact Nat.le_trans (by simp) hb2.size); have X2 := bxRule HL.out.bx (w2 := w2) (by first | exact fun _ _ => rfl | exact fun k hk => Below.heap_alloc _ _ _ hk) hf2 s2r; have K2 : Below w.heap.size w w2 := HL.out.be.trans (by first | exact (Below.drew (Below.refl _ _)).trans (hb2.mono (by omega)) | exact (Below.drew ((Below.refl _ _).alloc (by omega) _)).trans (hb2.mono (by omega)))))
            all_goals
              go_wp2_with fail
              go_meet
              first
                | exact ⟨w2.heap.size, tv, tv', du, du', rfl, rfl, by omega, by simp [go_sem], by simp [go_sem], OwnN.alloc oq _, bq.keep (fun k _ hk => Below.heap_alloc _ _ _ hk), X2.keep (Below.heap_alloc _ _ _ X2.z0) (Below.heap_alloc _ _ _ X2.z1) (by simp), K2.alloc (by omega) _⟩
                | exact lineEnd (x := .slice none 0 0) (y := .slice none 0 0) hszr (z2r wr.heap.size (by simp)) ((hc2 wr.heap.size 0 (Nat.le_refl _) (by simp)).trans (by simp [go_sem])) ((hc2 wr.heap.size 1 (Nat.le_refl _) (by simp)).trans (by simp [go_sem])) (by obtain ⟨cs, fr, e⟩ := newOne (wr := wr) (C := #[.slice none 0 0, .slice none 0 0]) wr.heap.size (Nat.le_refl _) (by simp); exact ⟨cs, fr, (hf2 _ cs fr e).trans e⟩) oq bq X2 K2
          case rest =>
            obtain ⟨Q, tv, tv', du, du', rfl, rfl, hQ, qc0, qc1, hoq, hbq, hX, hK⟩ := hcut
            have HO : Hid (OwnN wc (w.heap.size + 2) (.slice tv q.caps.length du) q.caps) := hoq
            have HB : Hid (OwnB wc (w.heap.size + 2) (.slice tv' q.bods.length du') q.bods) := hbq
            have HX := (show Hid _ from hX)
            have HK : Hid (Below w.heap.size w wc) := hK
            clear hoq hbq hK x0 x1 y0 y1 f0 f1 z0 z1
            obtain ⟨x0, x1, y0, y1, f0, f1, z0, z1, -, -⟩ := hX
            have nQ : ¬ w.heap.size + 1 = Q := by omega
            have nQ' : ¬ Q = w.heap.size + 1 := by omega
            go_wp2
            go_roundw
            case rel =>
              refine ⟨k + 1, k + 1, done ++ [ac], q, tv, tv', du, du', Nat.le_refl _, by omega, by go_num, by go_num, by simp; omega, HS2.out, HF2.out, HZ2.out, ?_⟩
              exact ⟨HX.out.res _ _, OwnN.into (OwnN.into HO.out HX.out.t1) (by obtain ⟨cs, fr, e⟩ := HX.out.t1; exact ⟨_, _, set_heap e⟩), OwnB.into (OwnB.into HB.out HX.out.t1) (by obtain ⟨cs, fr, e⟩ := HX.out.t1; exact ⟨_, _, set_heap e⟩), (HK.out.setCell (p := ⟨w.heap.size + 1, 0, none⟩) (by simp) _).setCell (p := ⟨w.heap.size + 1, 1, none⟩) (by simp) _⟩
            case measure => (simp [intOf] <;> omega)
      · have hne : ((c.toNat : Int) != 10) = true := by have := u8_ne (k := 10) (by omega) hcm; simpa using this
        have HS2 : Hid (splitA 10 [] l = done ++ splitA 10 (accL l fr (k + 1)) (l.drop (k + 1))) := by
          show _ = _
          have e1 : (l.drop k).take 1 = [c] := by rw [HR.out]; rfl
          rw [HS.out, accL_step hfr, e1, HR.out, splitA, if_neg hcm]
        go_wp2
        go_roundw
        case rel => exact ⟨fr, k + 1, done, p, sv, sv', cv, cv', by omega, by omega, rfl, by go_num, by omega, HS2.out, HF.out, HZ.out, HL.out⟩
        case measure => (simp [intOf] <;> omega)
    · have e : k = l.length := by omega
      subst e
      have HP : Hid (specP l = if l = [] ∨ progT p ≠ l then none else some p) := by
        show _ = _
        have e1 : splitA 10 [] l = done ++ [accL l fr l.length] := by rw [HS.out, List.drop_length]; rfl
        unfold specP
        rw [e1, List.dropLast_concat, HF.out]
      have FT : Hid (Fits p) := by
        obtain ⟨a, b, c⟩ := HZ.out
        exact ⟨by omega, by omega, fun i hi => by have := c (p.bods.getD i []) (by rw [List.getD_eq_getElem?_getD, List.getElem?_eq_getElem hi]; exact List.getElem_mem _); omega⟩
      by_cases h0 : l = []
      · subst h0
        have HN : Hid (rr = none) := by show _ = _; rw [HRP.out, HP.out, if_pos (.inl rfl)]
        go_wp2
        refine bodyPost_ret (v := .tuple #[.agg #[.slice none 0 0, .slice none 0 0], .bool false]) (by simp [results, Tryz.results12, go_sem, x0, x1]) rfl ⟨?_, (HL.out.be.setCell (p := ⟨w.heap.size, 0, none⟩) (Nat.le_refl _) _).setCell (p := ⟨w.heap.size, 1, none⟩) (Nat.le_refl _) _⟩
        rw [HN.out]
        rfl
      · have hle : (l == []) = false := by simpa using h0
        have H0 : Hid (¬ l = []) := h0
        clear h0
        go_wp2_with fail
        refine (specProgText_any sv sv' cv cv' (w.heap.size + 2) wr.heap.size p wr ⟨HL.out.on.intsR, HL.out.ob.bodsR⟩ (Nat.le_refl _) FT.out).mono ?_
        rintro e w2 ⟨rfl, hb2⟩
        have s2' := hb2.size
        have X2 := HL.out.bx.keep (hb2.block _ z0) (hb2.block _ z1) hb2.size
        have O2 : Hid (OwnN w2 (w.heap.size + 2) (.slice sv p.caps.length cv) p.caps) := HL.out.on.below hb2
        have B2 : Hid (OwnB w2 (w.heap.size + 2) (.slice sv' p.bods.length cv') p.bods) := HL.out.ob.below hb2
        have K2 : Hid (Below w.heap.size w w2) := HL.out.be.trans (hb2.mono (by omega))
        have HX2 := (show Hid _ from X2)
        clear hb2 x0 x1 y0 y1 f0 f1 z0 z1
        obtain ⟨x0, x1, y0, y1, f0, f1, z0, z1, -, -⟩ := X2
        by_cases ht : progT p = l
        · have hte : (progT p == l) = true := by simp [ht]
          have HN : Hid (rr = some p) := by show _ = _; rw [HRP.out, HP.out, if_neg (fun h => h.elim H0.out (fun h => h ht))]
          clear ht
          go_wp2
          refine bodyPost_ret (v := .tuple #[.agg #[.slice sv p.caps.length cv, .slice sv' p.bods.length cv'], .bool true]) (by simp [results, Tryz.results12, go_sem, x0, x1]) rfl ⟨?_, (K2.out.setCell (p := ⟨w.heap.size, 0, none⟩) (Nat.le_refl _) _).setCell (p := ⟨w.heap.size, 1, none⟩) (Nat.le_refl _) _⟩
          rw [HN.out]
          exact ⟨_, _, rfl, OwnN.mono (OwnN.into (OwnN.into O2.out HX2.out.t0) (by obtain ⟨cs, fr, e⟩ := HX2.out.t0; exact ⟨_, _, set_heap e⟩)) (by omega), OwnB.low (OwnB.into (OwnB.into B2.out HX2.out.t0) (by obtain ⟨cs, fr, e⟩ := HX2.out.t0; exact ⟨_, _, set_heap e⟩)) (by omega), FT.out⟩
        · have hte : (progT p == l) = false := by simp [ht]
          have HN : Hid (rr = none) := by show _ = _; rw [HRP.out, HP.out, if_pos (.inr ht)]
          clear ht
          go_wp2
          refine bodyPost_ret (v := .tuple #[.agg #[.slice none 0 0, .slice none 0 0], .bool false]) (by simp [results, Tryz.results12, go_sem, x0, x1]) rfl ⟨?_, (K2.out.setCell (p := ⟨w.heap.size, 0, none⟩) (Nat.le_refl _) _).setCell (p := ⟨w.heap.size, 1, none⟩) (Nat.le_refl _) _⟩
          rw [HN.out]
          rfl
end

end Go.Proofs.YtajblippcnidiaaGreatDoor
