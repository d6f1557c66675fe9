/- Rows of numbers and rows of rows that a draw makes and grows. No condition. -/
import Derived.Test.YteddmadbegpecaaGreatDrawL
namespace Go.Proofs.YteddmadbegpecaaGreat
set_option linter.unusedSimpArgs false
set_option linter.unusedVariables false
set_option maxRecDepth 100000
open Go.RowKit Go.Deep

/- v is a row of n bodies of 1 to 12 places each -/
def OwnS (w : World) (base : Nat) (v : Value) (n : Nat) : Prop := ∃ xs, w.ownsRow base 35 1 v n xs ∧ ∀ u ∈ xs, ∃ m, 1 ≤ m ∧ m ≤ 12 ∧ OwnI w base u m

theorem OwnS.but {w w' : World} {base n p : Nat} {v : Value} (h : OwnS w base v n) (hb : But p w w') (hp : p < base) : OwnS w' base v n := by
  obtain ⟨xs, h1, h2⟩ := h
  refine ⟨xs, own_block h1 (fun k h3 h4 => hb.block k h4 (by omega)), fun u hu => ?_⟩
  obtain ⟨m, m1, m2, h3⟩ := h2 u hu
  exact ⟨m, m1, m2, h3.but hb hp⟩
theorem OwnS.keep {w w' : World} {base n : Nat} {v : Value} (h : OwnS w base v n) (hb : Below w.heap.size w w') : OwnS w' base v n := by
  obtain ⟨xs, h1, h2⟩ := h
  refine ⟨xs, own_block h1 (fun k h3 h4 => hb.block k h4), fun u hu => ?_⟩
  obtain ⟨m, m1, m2, h3⟩ := h2 u hu
  exact ⟨m, m1, m2, h3.keep hb⟩
theorem OwnS.nil (w : World) (base : Nat) : OwnS w base (.slice none 0 0) 0 := ⟨[], ⟨rfl, .inl ⟨rfl, rfl⟩⟩, fun u hu => by cases hu⟩
theorem OwnC.nil (w : World) (base : Nat) : OwnC w base (.slice none 0 0) 0 := ⟨[], ⟨rfl, .inl ⟨rfl, rfl⟩⟩, fun u hu => by cases hu⟩

/- the block of a row, and its element type -/
def RowOf (w : World) (row : Option Nat) (E : TypeId) : Prop := ∀ k, row = some k → ∃ cur fr, w.heap[k]? = some (.cells cur E fr)
theorem row_of {w : World} {base size n : Nat} {e : TypeId} {v : Value} {xs : List Value} (h : w.ownsRow base e size v n xs) : RowOf w v.ownBlock e := by
  intro k hk
  rcases h.2 with ⟨rfl, -⟩ | ⟨g, cap, cur, rfl, hb, hg, -⟩
  · cases hk
  · simp [Value.ownBlock] at hk
    subst hk
    exact ⟨cur, (0, 0), hg⟩
theorem own_far {w w' : World} {base size n : Nat} {e E : TypeId} {v : Value} {xs : List Value} {row : Option Nat} (h : w.ownsRow base e size v n xs) (hg : w.grownBy w' row) (hr : RowOf w row E) (hE : e ≠ E) : w'.ownsRow base e size v n xs := by
  obtain ⟨h1, h2⟩ := h
  refine ⟨h1, ?_⟩
  rcases h2 with h2 | ⟨g, cap, cur, hv, hb, hgg, h3⟩
  · exact .inl h2
  · have hlt : g < w.heap.size := by
      apply Classical.byContradiction
      intro hn
      rw [Array.getElem?_eq_none (by omega)] at hgg
      cases hgg
    refine .inr ⟨g, cap, cur, hv, hb, (hg.block g hlt ?_).trans hgg, h3⟩
    intro e'
    obtain ⟨cur', fr', h4⟩ := hr g e'.symm
    rw [hgg] at h4
    cases h4
    exact hE rfl
theorem OwnI.far {w w' : World} {base n : Nat} {E : TypeId} {v : Value} {row : Option Nat} (h : OwnI w base v n) (hg : w.grownBy w' row) (hr : RowOf w row E) (hE : 46 ≠ E) : OwnI w' base v n := by
  obtain ⟨xs, h1, h2⟩ := h
  exact ⟨xs, own_far h1 hg hr hE, h2⟩
theorem OwnC.far {w w' : World} {base n : Nat} {E : TypeId} {v : Value} {row : Option Nat} (h : OwnC w base v n) (hg : w.grownBy w' row) (hr : RowOf w row E) (hE : 3 ≠ E) : OwnC w' base v n := by
  obtain ⟨xs, h1, h2⟩ := h
  exact ⟨xs, own_far h1 hg hr hE, h2⟩
theorem OwnS.far {w w' : World} {base n : Nat} {E : TypeId} {v : Value} {row : Option Nat} (h : OwnS w base v n) (hg : w.grownBy w' row) (hr : RowOf w row E) (hE : 35 ≠ E) (hE' : 46 ≠ E) : OwnS w' base v n := by
  obtain ⟨xs, h1, h2⟩ := h
  refine ⟨xs, own_far h1 hg hr hE, fun u hu => ?_⟩
  obtain ⟨m, m1, m2, h3⟩ := h2 u hu
  exact ⟨m, m1, m2, h3.far hg hr hE'⟩

theorem OwnC.set {w : World} {base n g' k : Nat} {v : Value} (h : OwnC w base v n) (z : Int) : OwnC (w.setCell ⟨g', k, none⟩ (.int .i64 z)) base v n := by
  obtain ⟨xs, ⟨h1, h2⟩, h3⟩ := h
  rcases h2 with h2 | ⟨g, cap, cur, rfl, hb, hg, hr⟩
  · exact ⟨xs, ⟨h1, .inl h2⟩, h3⟩
  · by_cases e : g = g'
    · subst e
      have := (World.ownsRow.stored (w := w) (base := base) (e := 3) (size := 1) (g := g) (n := n) (cap := cap) (xs := xs) ⟨h1, .inr ⟨g, cap, cur, rfl, hb, hg, hr⟩⟩ k (.int .i64 z)).1
      exact ⟨_, this, h3.set k z⟩
    · refine ⟨xs, ⟨h1, .inr ⟨g, cap, cur, rfl, hb, ?_, hr⟩⟩, h3⟩
      rw [Below.heap_setCell w ⟨g', k, none⟩ _ g e]
      exact hg
/- a number stored into a block that is no row of bodies -/
theorem OwnS.set {w : World} {base n g' k : Nat} {v : Value} {cur' : Array Value} {E : TypeId} {fr' : Nat × Nat} (h : OwnS w base v n) (hE : w.heap[g']? = some (.cells cur' E fr')) (hne : 35 ≠ E) (z : Int) : OwnS (w.setCell ⟨g', k, none⟩ (.int .i64 z)) base v n := by
  obtain ⟨xs, ⟨h1, h2⟩, h3⟩ := h
  refine ⟨xs, ⟨h1, ?_⟩, fun u hu => ?_⟩
  · rcases h2 with h2 | ⟨g, cap, cur, rfl, hb, hg, hr⟩
    · exact .inl h2
    · refine .inr ⟨g, cap, cur, rfl, hb, ?_, hr⟩
      rw [Below.heap_setCell w ⟨g', k, none⟩ _ g ?_]
      · exact hg
      · intro e
        simp at e
        subst e
        rw [hg] at hE
        cases hE
        exact hne rfl
  · obtain ⟨m, m1, m2, h4⟩ := h3 u hu
    exact ⟨m, m1, m2, h4.set z⟩
/- anything stored into a block below base -/
theorem own_low {w : World} {base size n : Nat} {e : TypeId} {v : Value} {xs : List Value} {a : Addr} {x : Value} (h : w.ownsRow base e size v n xs) (ha : a.block < base) : (w.setCell a x).ownsRow base e size v n xs := by
  obtain ⟨h1, h2⟩ := h
  refine ⟨h1, ?_⟩
  rcases h2 with h2 | ⟨g, cap, cur, hv, hb, hg, h3⟩
  · exact .inl h2
  · exact .inr ⟨g, cap, cur, hv, hb, (Below.heap_setCell w a x g (by omega)).trans hg, h3⟩
theorem OwnI.low {w : World} {base n : Nat} {v x : Value} {a : Addr} (h : OwnI w base v n) (ha : a.block < base) : OwnI (w.setCell a x) base v n := by
  obtain ⟨xs, h1, h2⟩ := h
  exact ⟨xs, own_low h1 ha, h2⟩
theorem OwnC.low {w : World} {base n : Nat} {v x : Value} {a : Addr} (h : OwnC w base v n) (ha : a.block < base) : OwnC (w.setCell a x) base v n := by
  obtain ⟨xs, h1, h2⟩ := h
  exact ⟨xs, own_low h1 ha, h2⟩
theorem OwnS.low {w : World} {base n : Nat} {v x : Value} {a : Addr} (h : OwnS w base v n) (ha : a.block < base) : OwnS (w.setCell a x) base v n := by
  obtain ⟨xs, h1, h2⟩ := h
  refine ⟨xs, own_low h1 ha, fun u hu => ?_⟩
  obtain ⟨m, m1, m2, h3⟩ := h2 u hu
  exact ⟨m, m1, m2, h3.low ha⟩

theorem OwnS.bods {w : World} {base n : Nat} {v : Value} (h : OwnS w base v n) : ∃ (s : Option Addr) (c : Nat) (l : List (List I5)), v = .slice s l.length c ∧ l.length = n ∧ (∀ i, i < l.length → (l.getD i []).length ≤ 12) ∧ BodsR w base w.heap.size s l := by
  obtain ⟨xs, h1, h2⟩ := h
  rcases h1.2 with ⟨rfl, rfl⟩ | ⟨g, cap, cur, rfl, hb, hg, hr⟩
  · exact ⟨none, 0, [], rfl, rfl, fun i hi => absurd hi (Nat.not_lt_zero _), .inl rfl⟩
  · obtain ⟨L, hL⟩ := @choose_lt (List I5) ⟨[]⟩ n (fun k l => BodR w base w.heap.size g (0 + k) l ∧ l.length ≤ 12) (fun k hk => by
      obtain ⟨u, h3, h4, -⟩ := own_cell h1 (k := k) (by omega)
      obtain ⟨m, m1, m2, h5⟩ := h2 u h4
      obtain ⟨s, c, l, hv, hl, hi⟩ := h5.ins
      rw [hv] at h3
      exact ⟨l, ⟨s, c, by rw [Nat.zero_add]; exact h3, hi⟩, by omega⟩)
    have e : ∀ i, i < n → ((List.range n).map L).getD i [] = L i := fun i hi => by simp [hi]
    refine ⟨some ⟨g, 0, none⟩, cap, (List.range n).map L, by simp, by simp, ?_, ?_⟩
    · intro i hi
      simp at hi
      rw [e i hi]
      exact (hL i hi).2
    · by_cases h0 : n = 0
      · left; subst h0; rfl
      · right
        obtain ⟨u, -, -, -, h5, h6⟩ := own_cell (k := 0) h1 (by omega)
        refine ⟨g, 0, rfl, h5, h6, ?_⟩
        intro i hi
        simp at hi
        rw [e i hi]
        exact (hL i hi).1

theorem info3 : ∃ i, Tryz.prog.info? 3 = some i ∧ i.zero = some (.int .i64 0) ∧ i.size = 1 ∧ i.bytes = 8 := ⟨_, rfl, rfl, rfl, rfl⟩
theorem info29 : ∃ i, Tryz.prog.info? 35 = some i ∧ i.zero = some (.slice none 0 0) ∧ i.size = 1 ∧ i.bytes = 24 := ⟨_, rfl, rfl, rfl, rfl⟩
theorem new1 (w : World) (x : Value) (T : TypeId) : ∀ j u, [x][j]? = some u → (w.alloc (.cells #[x] T)).cell? (Addr.add ⟨w.heap.size, 0, none⟩ j) = some u := by
  intro j u h
  match j, h with
  | 0, h => simpa [Addr.add, go_sem] using h

/- append of one number, as a step of a region that draws its order -/
theorem app_caps {ops : Array Oper} {o : Oper} {a : Act} {K : Act → World → Prop} {Q : Exit → Act → World → Prop} {F : Prop} (hgd : o.guard = none) (s x : Operand) (ho : o.op = .call { callee := .builtin .append, args := #[s, x], argTypes := #[24, 24] })
    (w : World) (z : Int) (base n : Nat) (v : Value) (hs : a.eval s = v) (hown : OwnC w base v n) (hx : a.eval x = .slice (some ⟨w.heap.size, 0, none⟩) 1 1) (hn : n ≤ 1000) (hbase : base ≤ w.heap.size)
    (h : ∀ g cap w', OwnC w' base (.slice (some ⟨g, 0, none⟩) (n + 1) cap) (n + 1) → (w.alloc (.cells #[.int .i64 z] 3)).grownBy w' v.ownBlock → (∀ k, v.ownBlock = some k → base ≤ k) → RowOf w v.ownBlock 3 → K (a.put o.dst (.slice (some ⟨g, 0, none⟩) (n + 1) cap)) w') :
    if Region.wanted o (yielded ops a.tmps) = true then Oper.wp Tryz.prog o a (w.alloc (.cells #[.int .i64 z] 3)) K Q else F := by
  obtain ⟨i0, hi, hz0, hz1, hz2⟩ := info3
  obtain ⟨xs, h1, h2⟩ := hown
  have h1' := own_block (w' := w.alloc (.cells #[.int .i64 z] 3)) h1 (fun k _ hk => Below.heap_alloc _ _ _ hk)
  refine step_append_lies _ hgd s x 24 ho base 3 i0 _ 1 8 Tryz.underlying24 hi hz0 hz1 hz2 rfl (by decide) v n xs hs h1' ⟨w.heap.size, 0, none⟩ 1 1 [.int .i64 z] hx rfl (new1 w _ _) (fun u hu => by simp at hu; subst hu; rfl) (by decide) (by unfold maxLen; omega) (by omega) (by simp; omega) _ rfl ?_
  intro g cap w' q1 q2 q3 q4
  exact h g cap w' ⟨_, q1, h2.append (allInt_cons _ allInt_nil)⟩ q2 (own_row h1) (row_of h1)

/- append of one body, as a step of a region that draws its order -/
theorem app_bods {ops : Array Oper} {o : Oper} {a : Act} {K : Act → World → Prop} {Q : Exit → Act → World → Prop} {F : Prop} (hgd : o.guard = none) (s x : Operand) (ho : o.op = .call { callee := .builtin .append, args := #[s, x], argTypes := #[25, 25] })
    (w : World) (y : Value) (m base n : Nat) (v : Value) (hs : a.eval s = v) (hown : OwnS w base v n) (hy : OwnI w base y m) (hm1 : 1 ≤ m) (hm2 : m ≤ 12) (hx : a.eval x = .slice (some ⟨w.heap.size, 0, none⟩) 1 1) (hn : n ≤ 1000) (hbase : base ≤ w.heap.size)
    (h : ∀ g cap w', OwnS w' base (.slice (some ⟨g, 0, none⟩) (n + 1) cap) (n + 1) → (w.alloc (.cells #[y] 35)).grownBy w' v.ownBlock → (∀ k, v.ownBlock = some k → base ≤ k) → RowOf (w.alloc (.cells #[y] 35)) v.ownBlock 35 → K (a.put o.dst (.slice (some ⟨g, 0, none⟩) (n + 1) cap)) w') :
    if Region.wanted o (yielded ops a.tmps) = true then Oper.wp Tryz.prog o a (w.alloc (.cells #[y] 35)) K Q else F := by
  obtain ⟨i0, hi, hz0, hz1, hz2⟩ := info29
  obtain ⟨xs, h1, h2⟩ := hown
  have ka : Below w.heap.size w (w.alloc (.cells #[y] 35)) := (Below.refl _ _).alloc (Nat.le_refl _) _
  have h1' := own_block (w' := w.alloc (.cells #[y] 35)) h1 (fun k _ hk => Below.heap_alloc _ _ _ hk)
  have hone : y.oneCell' = true := by
    obtain ⟨ys, ⟨-, q⟩, -⟩ := hy
    rcases q with ⟨rfl, -⟩ | ⟨g, cap, cur, rfl, -⟩ <;> rfl
  refine step_append_lies _ hgd s x 25 ho base 35 i0 _ 1 24 Tryz.underlying25 hi hz0 hz1 hz2 rfl (by decide) v n xs hs h1' ⟨w.heap.size, 0, none⟩ 1 1 [y] hx rfl (new1 w _ _) (fun u hu => by simp at hu; subst hu; exact hone) (by decide) (by unfold maxLen; omega) (by omega) (by simp; omega) _ rfl ?_
  intro g cap w' q1 q2 q3 q4
  refine h g cap w' ⟨_, q1, ?_⟩ q2 (own_row h1) (row_of h1')
  intro u hu
  rcases List.mem_append.1 hu with h3 | h3
  · obtain ⟨k, k1, k2, h4⟩ := h2 u h3
    exact ⟨k, k1, k2, (h4.keep ka).far q2 (row_of h1') (by decide)⟩
  · simp at h3
    subst h3
    exact ⟨m, hm1, hm2, (hy.keep ka).far q2 (row_of h1') (by decide)⟩

/- the state of a drawn program: the cursor at p, the answer's two cells at R, the program's at R + 1, its rows from R + 2 on -/
structure Pr (w0 w : World) (p : Nat) (s : Option Addr) (n c R : Nat) (v0 v1 : Value) : Prop where
  cb : CB w p s n c
  but : But p w0 w
  c0 : w.cell? ⟨R + 1, 0, none⟩ = some v0
  c1 : w.cell? ⟨R + 1, 1, none⟩ = some v1
  fP : ∀ j, w.frozen? ⟨R + 1, j, none⟩ = false
  r0 : (w.cell? ⟨R, 0, none⟩).isSome = true
  r1 : (w.cell? ⟨R, 1, none⟩).isSome = true
  fR : ∀ j, w.frozen? ⟨R, j, none⟩ = false
  lt : R + 1 < w.heap.size
  pR : p < R
  old : w0.heap.size ≤ R

theorem Pr.step {w0 w w' : World} {p n c R : Nat} {s : Option Addr} {v0 v1 : Value} (h : Pr w0 w p s n c R v0 v1) (hc : CB w' p s n c) (hb : But p w w') : Pr w0 w' p s n c R v0 v1 := by
  have h1 := h.lt
  have h2 := h.pR
  have h3 := hb.size
  exact ⟨hc, h.but.trans hb, (hb.cell (p := ⟨R + 1, 0, none⟩) h1 (by show R + 1 ≠ p; omega)).trans h.c0, (hb.cell (p := ⟨R + 1, 1, none⟩) h1 (by show R + 1 ≠ p; omega)).trans h.c1, fun j => (hb.frozen (p := ⟨R + 1, j, none⟩) h1 (by show R + 1 ≠ p; omega)).trans (h.fP j),
    by rw [hb.cell (p := ⟨R, 0, none⟩) (by show R < _; omega) (by show R ≠ p; omega)]; exact h.r0, by rw [hb.cell (p := ⟨R, 1, none⟩) (by show R < _; omega) (by show R ≠ p; omega)]; exact h.r1, fun j => (hb.frozen (p := ⟨R, j, none⟩) (by show R < _; omega) (by show R ≠ p; omega)).trans (h.fR j), by omega, h.pR, h.old⟩
theorem Pr.grown {w0 w w' : World} {p n c R : Nat} {s : Option Addr} {v0 v1 : Value} {row : Option Nat} (h : Pr w0 w p s n c R v0 v1) (hg : w.grownBy w' row) (hr : ∀ k, row = some k → R + 2 ≤ k) : Pr w0 w' p s n c R v0 v1 := by
  have h1 := h.lt
  have h2 := h.pR
  have h4 := h.old
  have h3 := hg.size
  have hk : ∀ k, k < R + 2 → w'.heap[k]? = w.heap[k]? := fun k hk => hg.block k (by omega) (fun e => by have := hr k e.symm; omega)
  have cl : ∀ k j, k < R + 2 → w'.cell? ⟨k, j, none⟩ = w.cell? ⟨k, j, none⟩ := fun k j h => World.cell?_of_block (w := w) (hk k h)
  have fz : ∀ k j, k < R + 2 → w'.frozen? ⟨k, j, none⟩ = w.frozen? ⟨k, j, none⟩ := fun k j h => World.frozen?_of_block (w := w) (hk k h)
  exact ⟨h.cb.grown hg (fun k e => by have := hr k e; omega), h.but.grown hg (fun k e => by have := hr k e; omega), (cl _ _ (by omega)).trans h.c0, (cl _ _ (by omega)).trans h.c1, fun j => (fz _ _ (by omega)).trans (h.fP j), by rw [cl _ _ (by omega)]; exact h.r0, by rw [cl _ _ (by omega)]; exact h.r1, fun j => (fz _ _ (by omega)).trans (h.fR j), by omega, h.pR, h.old⟩
theorem Pr.alloc {w0 w : World} {p n c R : Nat} {s : Option Addr} {v0 v1 : Value} (h : Pr w0 w p s n c R v0 v1) (o : Obj) : Pr w0 (w.alloc o) p s n c R v0 v1 := h.step (h.cb.alloc o) ((But.refl _ _).alloc o)
theorem Pr.drew {w0 w : World} {p n c R : Nat} {s : Option Addr} {v0 v1 : Value} (h : Pr w0 w p s n c R v0 v1) : Pr w0 w.drew p s n c R v0 v1 := h.step (h.cb.keep (Below.drew (Below.refl _ _))) (But.of_below (Below.drew (Below.refl _ _)))
theorem cellAt {w : World} {g i : Nat} {v : Value} (h : (w.cell? ⟨g, i, none⟩).isSome = true) : (w.setCell ⟨g, i, none⟩ v).cell? ⟨g, i, none⟩ = some v := World.cell?_setCell_same' w _ v h
theorem cellOff {w : World} {g g' i j : Nat} {v : Value} (h : g ≠ g' ∨ i ≠ j) : (w.setCell ⟨g, i, none⟩ v).cell? ⟨g', j, none⟩ = w.cell? ⟨g', j, none⟩ := by
  apply World.cell?_setCell_other
  intro e
  injection e with e1 e2
  rcases h with h | h
  · exact h e1
  · exact h e2
theorem Pr.set0 {w0 w : World} {p n c R : Nat} {s : Option Addr} {v0 v1 : Value} (h : Pr w0 w p s n c R v0 v1) (v : Value) : Pr w0 (w.setCell ⟨R + 1, 0, none⟩ v) p s n c R v v1 := by
  have h2 := h.pR
  have h4 := h.old
  exact ⟨h.cb.set (by show p < R + 1; omega), but_set1 h.but (by omega), cellAt (by rw [h.c0]; rfl), (cellOff (by omega)).trans h.c1, fun j => by rw [World.frozen?_setCell]; exact h.fP j, by rw [cellOff (by omega)]; exact h.r0, by rw [cellOff (by omega)]; exact h.r1, fun j => by rw [World.frozen?_setCell]; exact h.fR j, by simpa using h.lt, h.pR, h.old⟩
theorem Pr.set1 {w0 w : World} {p n c R : Nat} {s : Option Addr} {v0 v1 : Value} (h : Pr w0 w p s n c R v0 v1) (v : Value) : Pr w0 (w.setCell ⟨R + 1, 1, none⟩ v) p s n c R v0 v := by
  have h2 := h.pR
  have h4 := h.old
  exact ⟨h.cb.set (by show p < R + 1; omega), but_set1 h.but (by omega), (cellOff (by omega)).trans h.c0, cellAt (by rw [h.c1]; rfl), fun j => by rw [World.frozen?_setCell]; exact h.fP j, by rw [cellOff (by omega)]; exact h.r0, by rw [cellOff (by omega)]; exact h.r1, fun j => by rw [World.frozen?_setCell]; exact h.fR j, by simpa using h.lt, h.pR, h.old⟩

end Go.Proofs.YteddmadbegpecaaGreat
