/- l1Draw and DrawProgOk: a program is drawn and perhaps spoiled. Conditions: the bytes lie in memory as the reading says. -/
import Derived.Test.YteddmadbegpecaaGreatDrawP
namespace Go.Proofs.YteddmadbegpecaaGreat
set_option linter.unusedSimpArgs false
set_option linter.unusedVariables false
set_option maxRecDepth 100000
open Go.RowKit Go.Deep

theorem OwnC.form {w : World} {base n : Nat} {v : Value} (h : OwnC w base v n) (hn : 0 < n) : ∃ g cap, v = .slice (some ⟨g, 0, none⟩) n cap ∧ base ≤ g ∧ g < w.heap.size := by
  obtain ⟨xs, h1, -⟩ := h
  exact h1.form hn
theorem OwnS.form {w : World} {base n : Nat} {v : Value} (h : OwnS w base v n) (hn : 0 < n) : ∃ g cap, v = .slice (some ⟨g, 0, none⟩) n cap ∧ base ≤ g ∧ g < w.heap.size := by
  obtain ⟨xs, h1, -⟩ := h
  exact h1.form hn
theorem OwnC.at {w : World} {base n g cap k : Nat} (h : OwnC w base (.slice (some ⟨g, 0, none⟩) n cap) n) (hk : k < n) : ∃ z : Int, w.cell? ⟨g, k, none⟩ = some (.int .i64 z) ∧ w.frozen? ⟨g, k, none⟩ = false := by
  obtain ⟨xs, h1, h2⟩ := h
  obtain ⟨u, h3, h4, h5, -⟩ := own_cell (k := k) h1 (by omega)
  obtain ⟨z, rfl⟩ := h2 u h4
  exact ⟨z, h3, h5⟩
theorem OwnS.at {w : World} {base n g cap k : Nat} (h : OwnS w base (.slice (some ⟨g, 0, none⟩) n cap) n) (hk : k < n) : ∃ (g' m cap' : Nat), w.cell? ⟨g, k, none⟩ = some (.slice (some ⟨g', 0, none⟩) m cap') ∧ 1 ≤ m ∧ m ≤ 12 ∧ OwnI w base (.slice (some ⟨g', 0, none⟩) m cap') m ∧ base ≤ g' ∧ g' < w.heap.size := by
  obtain ⟨xs, h1, h2⟩ := h
  obtain ⟨u, h3, h4, h5, -⟩ := own_cell (k := k) h1 (by omega)
  obtain ⟨m, m1, m2, h6⟩ := h2 u h4
  obtain ⟨g', cap', rfl, h7, h8⟩ := h6.form (by omega)
  exact ⟨g', m, cap', h3, m1, m2, h6, h7, h8⟩
theorem own_type {w : World} {base size n g cap : Nat} {e : TypeId} {xs : List Value} (h : w.ownsRow base e size (.slice (some ⟨g, 0, none⟩) n cap) n xs) : ∃ cur fr, w.heap[g]? = some (.cells cur e fr) := row_of h g rfl
/- anything stored into a block of another kind -/
theorem own_kind {w : World} {base size n : Nat} {e E : TypeId} {v : Value} {xs : List Value} {a : Addr} {x : Value} {cur' : Array Value} {fr' : Nat × Nat} (h : w.ownsRow base e size v n xs) (hE : w.heap[a.block]? = some (.cells cur' E fr')) (hne : e ≠ E) : (w.setCell a x).ownsRow base e size v n xs := by
  obtain ⟨h1, h2⟩ := h
  refine ⟨h1, ?_⟩
  rcases h2 with h2 | ⟨g, cap, cur, hv, hb, hg, h3⟩
  · exact .inl h2
  · refine .inr ⟨g, cap, cur, hv, hb, (Below.heap_setCell w a x g ?_).trans hg, h3⟩
    intro e'
    rw [← e', hg] at hE
    cases hE
    exact hne rfl
theorem OwnC.kind {w : World} {base n : Nat} {E : TypeId} {v x : Value} {a : Addr} {cur' : Array Value} {fr' : Nat × Nat} (h : OwnC w base v n) (hE : w.heap[a.block]? = some (.cells cur' E fr')) (hne : 3 ≠ E) : OwnC (w.setCell a x) base v n := by
  obtain ⟨xs, h1, h2⟩ := h
  exact ⟨xs, own_kind h1 hE hne, h2⟩
theorem OwnS.kind {w : World} {base n : Nat} {E : TypeId} {v x : Value} {a : Addr} {cur' : Array Value} {fr' : Nat × Nat} (h : OwnS w base v n) (hE : w.heap[a.block]? = some (.cells cur' E fr')) (hne : 35 ≠ E) (hne' : 46 ≠ E) : OwnS (w.setCell a x) base v n := by
  obtain ⟨xs, h1, h2⟩ := h
  refine ⟨xs, own_kind h1 hE hne, fun u hu => ?_⟩
  obtain ⟨m, m1, m2, q, q1, q2⟩ := h2 u hu
  exact ⟨m, m1, m2, q, own_kind q1 hE hne', q2⟩

/- the state: the cursor at p, the answer's cells at R, the program's at P -/
structure Ps (w0 w : World) (p : Nat) (s : Option Addr) (n c R P : Nat) (v0 v1 : Value) : Prop where
  cb : CB w p s n c
  but : But p w0 w
  c0 : w.cell? ⟨P, 0, none⟩ = some v0
  c1 : w.cell? ⟨P, 1, none⟩ = some v1
  fP : ∀ j, w.frozen? ⟨P, j, none⟩ = false
  r0 : (w.cell? ⟨R, 0, none⟩).isSome = true
  r1 : (w.cell? ⟨R, 1, none⟩).isSome = true
  fR : ∀ j, w.frozen? ⟨R, j, none⟩ = false
  lt : P < w.heap.size
  kind : ∃ cur fr, w.heap[P]? = some (.cells cur 27 fr)
  pR : p < R
  RP : R < P
  old : w0.heap.size ≤ R

theorem Ps.step {w0 w w' : World} {p n c R P : Nat} {s : Option Addr} {v0 v1 : Value} (h : Ps w0 w p s n c R P v0 v1) (hc : CB w' p s n c) (hb : But p w w') : Ps w0 w' p s n c R P v0 v1 := by
  have h1 := h.lt
  have h2 := h.pR
  have h4 := h.RP
  have h3 := hb.size
  refine ⟨hc, h.but.trans hb, (hb.cell (p := ⟨P, 0, none⟩) h1 (by show P ≠ p; omega)).trans h.c0, (hb.cell (p := ⟨P, 1, none⟩) h1 (by show P ≠ p; omega)).trans h.c1, fun j => (hb.frozen (p := ⟨P, j, none⟩) h1 (by show P ≠ p; omega)).trans (h.fP j),
    by rw [hb.cell (p := ⟨R, 0, none⟩) (by show R < _; omega) (by show R ≠ p; omega)]; exact h.r0, by rw [hb.cell (p := ⟨R, 1, none⟩) (by show R < _; omega) (by show R ≠ p; omega)]; exact h.r1, fun j => (hb.frozen (p := ⟨R, j, none⟩) (by show R < _; omega) (by show R ≠ p; omega)).trans (h.fR j), by omega, ?_, h.pR, h.RP, h.old⟩
  obtain ⟨cur, fr, hk⟩ := h.kind
  exact ⟨cur, fr, (hb.block P h1 (by omega)).trans hk⟩
theorem Ps.alloc {w0 w : World} {p n c R P : Nat} {s : Option Addr} {v0 v1 : Value} (h : Ps w0 w p s n c R P v0 v1) (o : Obj) : Ps w0 (w.alloc o) p s n c R P v0 v1 := h.step (h.cb.alloc o) ((But.refl _ _).alloc o)
theorem Ps.drew {w0 w : World} {p n c R P : Nat} {s : Option Addr} {v0 v1 : Value} (h : Ps w0 w p s n c R P v0 v1) : Ps w0 w.drew p s n c R P v0 v1 := h.step (h.cb.keep (Below.drew (Below.refl _ _))) (But.of_below (Below.drew (Below.refl _ _)))
/- something stored into a block from R + 1 on that is not P -/
theorem Ps.far {w0 w : World} {p n c R P g k : Nat} {s : Option Addr} {v0 v1 x : Value} (h : Ps w0 w p s n c R P v0 v1) (hg : R < g) (hP : g ≠ P) : Ps w0 (w.setCell ⟨g, k, none⟩ x) p s n c R P v0 v1 := by
  have h2 := h.pR
  have h4 := h.old
  refine ⟨h.cb.set (by show p < g; omega), but_set1 h.but (by omega), (cellOff (.inl hP)).trans h.c0, (cellOff (.inl hP)).trans h.c1, fun j => by rw [World.frozen?_setCell]; exact h.fP j, by rw [cellOff (.inl (by omega))]; exact h.r0, by rw [cellOff (.inl (by omega))]; exact h.r1, fun j => by rw [World.frozen?_setCell]; exact h.fR j, by simpa using h.lt, ?_, h.pR, h.RP, h.old⟩
  obtain ⟨cur, fr, hk⟩ := h.kind
  exact ⟨cur, fr, (Below.heap_setCell w ⟨g, k, none⟩ x P (Ne.symm hP)).trans hk⟩
theorem Ps.set0 {w0 w : World} {p n c R P : Nat} {s : Option Addr} {v0 v1 : Value} (h : Ps w0 w p s n c R P v0 v1) (v : Value) : Ps w0 (w.setCell ⟨P, 0, none⟩ v) p s n c R P v v1 := by
  have h2 := h.pR
  have h4 := h.old
  have h5 := h.RP
  refine ⟨h.cb.set (by show p < P; omega), but_set1 h.but (by omega), cellAt (by rw [h.c0]; rfl), (cellOff (by omega)).trans h.c1, fun j => by rw [World.frozen?_setCell]; exact h.fP j, by rw [cellOff (by omega)]; exact h.r0, by rw [cellOff (by omega)]; exact h.r1, fun j => by rw [World.frozen?_setCell]; exact h.fR j, by simpa using h.lt, ?_, h.pR, h.RP, h.old⟩
  obtain ⟨cur, fr, hk⟩ := h.kind
  exact ⟨_, fr, heap_set hk⟩
theorem Ps.set1 {w0 w : World} {p n c R P : Nat} {s : Option Addr} {v0 v1 : Value} (h : Ps w0 w p s n c R P v0 v1) (v : Value) : Ps w0 (w.setCell ⟨P, 1, none⟩ v) p s n c R P v0 v := by
  have h2 := h.pR
  have h4 := h.old
  have h5 := h.RP
  refine ⟨h.cb.set (by show p < P; omega), but_set1 h.but (by omega), (cellOff (by omega)).trans h.c0, cellAt (by rw [h.c1]; rfl), fun j => by rw [World.frozen?_setCell]; exact h.fP j, by rw [cellOff (by omega)]; exact h.r0, by rw [cellOff (by omega)]; exact h.r1, fun j => by rw [World.frozen?_setCell]; exact h.fR j, by simpa using h.lt, ?_, h.pR, h.RP, h.old⟩
  obtain ⟨cur, fr, hk⟩ := h.kind
  exact ⟨_, fr, heap_set hk⟩
theorem Ps.grown {w0 w w' : World} {p n c R P : Nat} {s : Option Addr} {v0 v1 : Value} {row : Option Nat} {E : TypeId} (h : Ps w0 w p s n c R P v0 v1) (hg : w.grownBy w' row) (hr : ∀ k, row = some k → R < k) (hrow : RowOf w row E) (hE : E ≠ 27) : Ps w0 w' p s n c R P v0 v1 := by
  have h1 := h.lt
  have h2 := h.pR
  have h4 := h.old
  have h5 := h.RP
  have h3 := hg.size
  obtain ⟨cur, fr, hkind⟩ := h.kind
  have hP : w'.heap[P]? = w.heap[P]? := hg.block P h1 (fun e => by
    obtain ⟨cur', fr', h6⟩ := hrow P e.symm
    rw [hkind] at h6
    cases h6
    exact hE rfl)
  have hR : w'.heap[R]? = w.heap[R]? := hg.block R (by omega) (fun e => by have := hr R e.symm; omega)
  have clP : ∀ j, w'.cell? ⟨P, j, none⟩ = w.cell? ⟨P, j, none⟩ := fun j => World.cell?_of_block (w := w) hP
  have clR : ∀ j, w'.cell? ⟨R, j, none⟩ = w.cell? ⟨R, j, none⟩ := fun j => World.cell?_of_block (w := w) hR
  have fzP : ∀ j, w'.frozen? ⟨P, j, none⟩ = w.frozen? ⟨P, j, none⟩ := fun j => World.frozen?_of_block (w := w) hP
  have fzR : ∀ j, w'.frozen? ⟨R, j, none⟩ = w.frozen? ⟨R, j, none⟩ := fun j => World.frozen?_of_block (w := w) hR
  exact ⟨h.cb.grown hg (fun k e => by have := hr k e; omega), h.but.grown hg (fun k e => by have := hr k e; omega), (clP _).trans h.c0, (clP _).trans h.c1, fun j => (fzP _).trans (h.fP j), by rw [clR]; exact h.r0, by rw [clR]; exact h.r1, fun j => (fzR _).trans (h.fR j), by omega, ⟨cur, fr, hP.trans hkind⟩, h.pR, h.RP, h.old⟩

theorem new3 (w : World) (x y z : Value) (T : TypeId) : ∀ j u, [x, y, z][j]? = some u → (w.alloc (.cells #[x, y, z] T)).cell? (Addr.add ⟨w.heap.size, 0, none⟩ j) = some u := by
  intro j u h
  match j, h with
  | 0, h => simpa [Addr.add, go_sem] using h
  | 1, h => simpa [Addr.add, go_sem] using h
  | 2, h => simpa [Addr.add, go_sem] using h
/- append of three ones -/
theorem app_ones {ops : Array Oper} {rest : List Oper} {o : Oper} {a : Act} {Q : Exit → Act → World → Prop} (hgd : o.guard = none) (s x : Operand) (ho : o.op = .call { callee := .builtin .append, args := #[s, x], argTypes := #[24, 24] })
    (w : World) (base n : Nat) (v : Value) (hs : a.eval s = v) (hown : OwnC w base v n) (hx : a.eval x = .slice (some ⟨w.heap.size, 0, none⟩) 3 3) (hn : n ≤ 1000) (hbase : base ≤ w.heap.size)
    (h : ∀ g cap w', OwnC w' base (.slice (some ⟨g, 0, none⟩) (n + 3) cap) (n + 3) → (w.alloc (.cells #[.int .i64 1, .int .i64 1, .int .i64 1] 3)).grownBy w' v.ownBlock → (∀ k, v.ownBlock = some k → base ≤ k) → RowOf (w.alloc (.cells #[.int .i64 1, .int .i64 1, .int .i64 1] 3)) v.ownBlock 3 → wpList Tryz.prog ops Q rest (a.put o.dst (.slice (some ⟨g, 0, none⟩) (n + 3) cap)) w') :
    wpList Tryz.prog ops Q (o :: rest) a (w.alloc (.cells #[.int .i64 1, .int .i64 1, .int .i64 1] 3)) := by
  obtain ⟨i0, hi, hz0, hz1, hz2⟩ := info3
  obtain ⟨xs, h1, h2⟩ := hown
  have h1' := own_block (w' := w.alloc (.cells #[.int .i64 1, .int .i64 1, .int .i64 1] 3)) h1 (fun k _ hk => Below.heap_alloc _ _ _ hk)
  refine wpList_append_lies _ hgd s x 24 ho base 3 i0 _ 1 8 Tryz.underlying24 hi hz0 hz1 hz2 rfl (by decide) v n xs hs h1' ⟨w.heap.size, 0, none⟩ 3 3 [.int .i64 1, .int .i64 1, .int .i64 1] hx rfl (new3 w _ _ _ _) (fun u hu => by simp at hu; subst hu; rfl) (by decide) (by unfold maxLen; omega) (by omega) (by simp; omega) _ rfl ?_
  intro g cap w' q1 q2 q3 q4
  exact h g cap w' ⟨_, q1, h2.append (allInt_cons _ (allInt_cons _ (allInt_cons _ allInt_nil)))⟩ q2 (own_row h1) (row_of h1')

end Go.Proofs.YteddmadbegpecaaGreat
