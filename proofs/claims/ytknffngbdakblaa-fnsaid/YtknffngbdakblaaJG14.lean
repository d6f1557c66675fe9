/- DrawInsOk and DrawBodyOk: what they draw lies in new memory; nothing that was there is turned. Conditions: the bytes lie in memory as the reading says. Rows of numbers and rows of rows that a draw makes and grows. No condition. -/
import Derived.Test.YtknffngbdakblaaJG00
import Derived.Test.YtknffngbdakblaaJOwn
import Derived.Test.YtknffngbdakblaaJDraw1
import Derived.Test.YtknffngbdakblaaJCursor
import Derived.Test.YtknffngbdakblaaJDrawB
import Derived.Test.YtknffngbdakblaaJG02
import Derived.Test.YtknffngbdakblaaJDrawRightR
namespace Go.Proofs.Ytknffngbdakblaa
section
set_option linter.unusedSimpArgs false
set_option linter.unusedVariables false
set_option maxRecDepth 100000
open Go.RowKit Go.Deep
theorem OwnI.form {w : World} {base n : Nat} {v : Value} (h : OwnI w base v n) (hn : 0 < n) : ∃ g cap, v = .slice (some ⟨g, 0, none⟩) n cap ∧ base ≤ g ∧ g < w.heap.size := by
 obtain ⟨xs, h1, -⟩ := h
 exact h1.form hn
theorem OwnI.mono {w : World} {base base' n : Nat} {v : Value} (h : OwnI w base v n) (hb : base' ≤ base) : OwnI w base' v n := by
 obtain ⟨xs, ⟨h1, h2⟩, h3⟩ := h
 refine ⟨xs, ⟨h1, ?_⟩, h3⟩
 rcases h2 with h2 | ⟨g, cap, cur, hv, hb', hr⟩
 ·exact .inl h2
 ·exact .inr ⟨g, cap, cur, hv, by omega, hr⟩
theorem OwnI.at {w : World} {base n g cap k : Nat} (h : OwnI w base (.slice (some ⟨g, 0, none⟩) n cap) n) (hk : k < n) : ∃ z0 z1 z2 z3 z4 : Int, w.cell? ⟨g, k * 5, none⟩ = some (.int .i64 z0) ∧ w.cell? ⟨g, k * 5 + 1, none⟩ = some (.int .i64 z1) ∧ w.cell? ⟨g, k * 5 + 2, none⟩ = some (.int .i64 z2) ∧ w.cell? ⟨g, k * 5 + 3, none⟩ = some (.int .i64 z3) ∧ w.cell? ⟨g, k * 5 + 4, none⟩ = some (.int .i64 z4) ∧ (∀ j, j < 5 → w.frozen? ⟨g, k * 5 + j, none⟩ = false) := by
 obtain ⟨xs, h1, h2⟩ := h
 have C : ∀ j, j < 5 → ∃ z : Int, w.cell? ⟨g, k * 5 + j, none⟩ = some (.int .i64 z) := fun j hj => by
  obtain ⟨u, h3, h4, -⟩ := own_cell (k := k * 5 + j) h1 (by omega)
  obtain ⟨z, rfl⟩ := h2 u h4
  exact ⟨z, h3⟩
 obtain ⟨z0, c0⟩ := C 0 (by omega)
 obtain ⟨z1, c1⟩ := C 1 (by omega)
 obtain ⟨z2, c2⟩ := C 2 (by omega)
 obtain ⟨z3, c3⟩ := C 3 (by omega)
 obtain ⟨z4, c4⟩ := C 4 (by omega)
 exact ⟨z0, z1, z2, z3, z4, c0, c1, c2, c3, c4, fun j hj => (own_cell (k := k * 5 + j) h1 (by omega)).choose_spec.2.2.1⟩
end
section
set_option linter.unusedSimpArgs false
set_option linter.unusedVariables false
set_option maxRecDepth 100000
open Go.RowKit Go.Deep
/- v is a row of n bodies of 1 to 12 places each -/
def OwnSx88 (w : World) (base : Nat) (v : Value) (n : Nat) : Prop := ∃ xs, w.ownsRow base 59 1 v n xs ∧ ∀ u ∈ xs, ∃ m, 1 ≤ m ∧ m ≤ 12 ∧ OwnI w base u m
theorem OwnSx88.but {w w' : World} {base n p : Nat} {v : Value} (h : OwnSx88 w base v n) (hb : But p w w') (hp : p < base) : OwnSx88 w' base v n := by
 obtain ⟨xs, h1, h2⟩ := h
 refine ⟨xs, own_block h1 (fun k h3 h4 => hb.block k h4 (by omega)), fun u hu => ?_⟩
 obtain ⟨m, m1, m2, h3⟩ := h2 u hu
 exact ⟨m, m1, m2, h3.but hb hp⟩
theorem OwnSx88.keep {w w' : World} {base n : Nat} {v : Value} (h : OwnSx88 w base v n) (hb : Below w.heap.size w w') : OwnSx88 w' base v n := by
 obtain ⟨xs, h1, h2⟩ := h
 refine ⟨xs, own_block h1 (fun k h3 h4 => hb.block k h4), fun u hu => ?_⟩
 obtain ⟨m, m1, m2, h3⟩ := h2 u hu
 exact ⟨m, m1, m2, h3.keep hb⟩
theorem OwnSx88.nil (w : World) (base : Nat) : OwnSx88 w base (.slice none 0 0) 0 := ⟨[], ⟨rfl, .inl ⟨rfl, rfl⟩⟩, fun u hu => by cases hu⟩
theorem OwnC.nil (w : World) (base : Nat) : OwnC w base (.slice none 0 0) 0 := ⟨[], ⟨rfl, .inl ⟨rfl, rfl⟩⟩, fun u hu => by cases hu⟩
/- the block of a row, and its element type -/
def RowOf (w : World) (row : Option Nat) (E : TypeId) : Prop := ∀ k, row = some k → ∃ cur fr, w.heap[k]? = some (.cells cur E fr)
theorem row_of {w : World} {base size n : Nat} {e : TypeId} {v : Value} {xs : List Value} (h : w.ownsRow base e size v n xs) : RowOf w v.ownBlock e := by
 intro k hk
 rcases h.2 with ⟨rfl, -⟩ | ⟨g, cap, cur, rfl, hb, hg, -⟩
 ·cases hk
 ·simp [Value.ownBlock] at hk
  subst hk
  exact ⟨cur, (0, 0), hg⟩
theorem own_far {w w' : World} {base size n : Nat} {e E : TypeId} {v : Value} {xs : List Value} {row : Option Nat} (h : w.ownsRow base e size v n xs) (hg : w.grownBy w' row) (hr : RowOf w row E) (hE : e ≠ E) : w'.ownsRow base e size v n xs := by
 obtain ⟨h1, h2⟩ := h
 refine ⟨h1, ?_⟩
 rcases h2 with h2 | ⟨g, cap, cur, hv, hb, hgg, h3⟩
 ·exact .inl h2
 ·have hlt : g < w.heap.size := by
   apply Classical.byContradiction
   intro hn
   rw [Array.getElem?_eq_none (by omega)] at hgg
   cases hgg
  refine .inr ⟨g, cap, cur, hv, hb, (hg.block g hlt ?_).trans hgg, h3⟩
  intro e'
  obtain ⟨cur', fr', h4⟩ := hr g e'.symm
  rw [hgg] at h4
  cases h4
  exact hE rfl
theorem OwnI.far {w w' : World} {base n : Nat} {E : TypeId} {v : Value} {row : Option Nat} (h : OwnI w base v n) (hg : w.grownBy w' row) (hr : RowOf w row E) (hE : 57 ≠ E) : OwnI w' base v n := by
 obtain ⟨xs, h1, h2⟩ := h
 exact ⟨xs, own_far h1 hg hr hE, h2⟩
theorem OwnC.far {w w' : World} {base n : Nat} {E : TypeId} {v : Value} {row : Option Nat} (h : OwnC w base v n) (hg : w.grownBy w' row) (hr : RowOf w row E) (hE : 3 ≠ E) : OwnC w' base v n := by
 obtain ⟨xs, h1, h2⟩ := h
 exact ⟨xs, own_far h1 hg hr hE, h2⟩
theorem OwnSx88.far {w w' : World} {base n : Nat} {E : TypeId} {v : Value} {row : Option Nat} (h : OwnSx88 w base v n) (hg : w.grownBy w' row) (hr : RowOf w row E) (hE : 59 ≠ E) (hE' : 57 ≠ E) : OwnSx88 w' base v n := by
 obtain ⟨xs, h1, h2⟩ := h
 refine ⟨xs, own_far h1 hg hr hE, fun u hu => ?_⟩
 obtain ⟨m, m1, m2, h3⟩ := h2 u hu
 exact ⟨m, m1, m2, h3.far hg hr hE'⟩
theorem OwnC.set {w : World} {base n g' k : Nat} {v : Value} (h : OwnC w base v n) (z : Int) : OwnC (w.setCell ⟨g', k, none⟩ (.int .i64 z)) base v n := by
 obtain ⟨xs, ⟨h1, h2⟩, h3⟩ := h
 rcases h2 with h2 | ⟨g, cap, cur, rfl, hb, hg, hr⟩
 ·exact ⟨xs, ⟨h1, .inl h2⟩, h3⟩
 ·by_cases e : g = g'
  ·subst e
   have := (World.ownsRow.stored (w := w) (base := base) (e := 3) (size := 1) (g := g) (n := n) (cap := cap) (xs := xs) ⟨h1, .inr ⟨g, cap, cur, rfl, hb, hg, hr⟩⟩ k (.int .i64 z)).1
   exact ⟨_, this, h3.set k z⟩
  ·refine ⟨xs, ⟨h1, .inr ⟨g, cap, cur, rfl, hb, ?_, hr⟩⟩, h3⟩
   rw [Below.heap_setCell w ⟨g', k, none⟩ _ g e]
   exact hg
/- a number stored into a block that is no row of bodies -/
theorem OwnSx88.set {w : World} {base n g' k : Nat} {v : Value} {cur' : Array Value} {E : TypeId} {fr' : Nat × Nat} (h : OwnSx88 w base v n) (hE : w.heap[g']? = some (.cells cur' E fr')) (hne : 59 ≠ E) (z : Int) : OwnSx88 (w.setCell ⟨g', k, none⟩ (.int .i64 z)) base v n := by
 obtain ⟨xs, ⟨h1, h2⟩, h3⟩ := h
 refine ⟨xs, ⟨h1, ?_⟩, fun u hu => ?_⟩
 ·rcases h2 with h2 | ⟨g, cap, cur, rfl, hb, hg, hr⟩
  ·exact .inl h2
  ·refine .inr ⟨g, cap, cur, rfl, hb, ?_, hr⟩
   rw [Below.heap_setCell w ⟨g', k, none⟩ _ g ?_]
   ·exact hg
   ·intro e
    simp at e
    subst e
    rw [hg] at hE
    cases hE
    exact hne rfl
 ·obtain ⟨m, m1, m2, h4⟩ := h3 u hu
  exact ⟨m, m1, m2, h4.set z⟩
/- anything stored into a block below base -/
theorem own_low {w : World} {base size n : Nat} {e : TypeId} {v : Value} {xs : List Value} {a : Addr} {x : Value} (h : w.ownsRow base e size v n xs) (ha : a.block < base) : (w.setCell a x).ownsRow base e size v n xs := by
 obtain ⟨h1, h2⟩ := h
 refine ⟨h1, ?_⟩
 rcases h2 with h2 | ⟨g, cap, cur, hv, hb, hg, h3⟩
 ·exact .inl h2
 ·exact .inr ⟨g, cap, cur, hv, hb, (Below.heap_setCell w a x g (by omega)).trans hg, h3⟩
theorem OwnI.low {w : World} {base n : Nat} {v x : Value} {a : Addr} (h : OwnI w base v n) (ha : a.block < base) : OwnI (w.setCell a x) base v n := by
 obtain ⟨xs, h1, h2⟩ := h
 exact ⟨xs, own_low h1 ha, h2⟩
theorem OwnC.low {w : World} {base n : Nat} {v x : Value} {a : Addr} (h : OwnC w base v n) (ha : a.block < base) : OwnC (w.setCell a x) base v n := by
 obtain ⟨xs, h1, h2⟩ := h
 exact ⟨xs, own_low h1 ha, h2⟩
theorem OwnSx88.low {w : World} {base n : Nat} {v x : Value} {a : Addr} (h : OwnSx88 w base v n) (ha : a.block < base) : OwnSx88 (w.setCell a x) base v n := by
 obtain ⟨xs, h1, h2⟩ := h
 refine ⟨xs, own_low h1 ha, fun u hu => ?_⟩
 obtain ⟨m, m1, m2, h3⟩ := h2 u hu
 exact ⟨m, m1, m2, h3.low ha⟩
theorem OwnSx88.bods {w : World} {base n : Nat} {v : Value} (h : OwnSx88 w base v n) : ∃ (s : Option Addr) (c : Nat) (l : List (List I5)), v = .slice s l.length c ∧ l.length = n ∧ (∀ i, i < l.length → (l.getD i []).length ≤ 12) ∧ BodsR w base w.heap.size s l := by
 obtain ⟨xs, h1, h2⟩ := h
 rcases h1.2 with ⟨rfl, rfl⟩ | ⟨g, cap, cur, rfl, hb, hg, hr⟩
 ·exact ⟨none, 0, [], rfl, rfl, fun i hi => absurd hi (Nat.not_lt_zero _), .inl rfl⟩
 ·obtain ⟨L, hL⟩ := @choose_lt (List I5) ⟨[]⟩ n (fun k l => BodR w base w.heap.size g (0 + k) l ∧ l.length ≤ 12) (fun k hk => by
   obtain ⟨u, h3, h4, -⟩ := own_cell h1 (k := k) (by omega)
   obtain ⟨m, m1, m2, h5⟩ := h2 u h4
   obtain ⟨s, c, l, hv, hl, hi⟩ := h5.ins
   rw [hv] at h3
   exact ⟨l, ⟨s, c, by rw [Nat.zero_add]; exact h3, hi⟩, by omega⟩)
  have e : ∀ i, i < n → ((List.range n).map L).getD i [] = L i := fun i hi => by simp [hi]
  refine ⟨some ⟨g, 0, none⟩, cap, (List.range n).map L, by simp, by simp, ?_, ?_⟩
  ·intro i hi
   simp at hi
   rw [e i hi]
   exact (hL i hi).2
  ·by_cases h0 : n = 0
   ·left; subst h0; rfl
   ·right
    obtain ⟨u, -, -, -, h5, h6⟩ := own_cell (k := 0) h1 (by omega)
    refine ⟨g, 0, rfl, h5, h6, ?_⟩
    intro i hi
    simp at hi
    rw [e i hi]
    exact (hL i hi).1
theorem info3 : ∃ i, Try.prog.info? 3 = some i ∧ i.zero = some (.int .i64 0) ∧ i.size = 1 ∧ i.bytes = 8 := ⟨_, rfl, rfl, rfl, rfl⟩
/- append of one number, as a step of a region that draws its order -/
theorem app_caps {ops : Array Oper} {o : Oper} {a : Act} {K : Act → World → Prop} {Q : Exit → Act → World → Prop} {F : Prop} (hgd : o.guard = none) (s x : Operand) (ho : o.op = .call { callee := .builtin .append, args := #[s, x], argTypes := #[31, 31] })
  (w : World) (z : Int) (base n : Nat) (v : Value) (hs : a.eval s = v) (hown : OwnC w base v n) (hx : a.eval x = .slice (some ⟨w.heap.size, 0, none⟩) 1 1) (hn : n ≤ 1000) (hbase : base ≤ w.heap.size)
  (h : ∀ g cap w', OwnC w' base (.slice (some ⟨g, 0, none⟩) (n + 1) cap) (n + 1) → (w.alloc (.cells #[.int .i64 z] 3)).grownBy w' v.ownBlock → (∀ k, v.ownBlock = some k → base ≤ k) → RowOf w v.ownBlock 3 → K (a.put o.dst (.slice (some ⟨g, 0, none⟩) (n + 1) cap)) w') :
  if Region.wanted o (yielded ops a.tmps) = true then Oper.wp Try.prog o a (w.alloc (.cells #[.int .i64 z] 3)) K Q else F := by
 obtain ⟨i0, hi, hz0, hz1, hz2⟩ := info3
 obtain ⟨xs, h1, h2⟩ := hown
 have h1' := own_block (w' := w.alloc (.cells #[.int .i64 z] 3)) h1 (fun k _ hk => Below.heap_alloc _ _ _ hk)
 refine step_append_lies _ hgd s x 31 ho base 3 i0 _ 1 8 Try.underlying31 hi hz0 hz1 hz2 rfl (by decide) v n xs hs h1' ⟨w.heap.size, 0, none⟩ 1 1 [.int .i64 z] hx rfl (new1 w _ _) (fun u hu => by simp at hu; subst hu; rfl) (by decide) (by unfold maxLen; omega) (by omega) (by simp; omega) _ rfl ?_
 intro g cap w' q1 q2 q3 q4
 exact h g cap w' ⟨_, q1, h2.append (allInt_cons _ allInt_nil)⟩ q2 (own_row h1) (row_of h1)
/- append of one body, as a step of a region that draws its order -/
theorem app_bods {ops : Array Oper} {o : Oper} {a : Act} {K : Act → World → Prop} {Q : Exit → Act → World → Prop} {F : Prop} (hgd : o.guard = none) (s x : Operand) (ho : o.op = .call { callee := .builtin .append, args := #[s, x], argTypes := #[38, 38] })
  (w : World) (y : Value) (m base n : Nat) (v : Value) (hs : a.eval s = v) (hown : OwnSx88 w base v n) (hy : OwnI w base y m) (hm1 : 1 ≤ m) (hm2 : m ≤ 12) (hx : a.eval x = .slice (some ⟨w.heap.size, 0, none⟩) 1 1) (hn : n ≤ 1000) (hbase : base ≤ w.heap.size)
  (h : ∀ g cap w', OwnSx88 w' base (.slice (some ⟨g, 0, none⟩) (n + 1) cap) (n + 1) → (w.alloc (.cells #[y] 59)).grownBy w' v.ownBlock → (∀ k, v.ownBlock = some k → base ≤ k) → RowOf (w.alloc (.cells #[y] 59)) v.ownBlock 59 → K (a.put o.dst (.slice (some ⟨g, 0, none⟩) (n + 1) cap)) w') :
  if Region.wanted o (yielded ops a.tmps) = true then Oper.wp Try.prog o a (w.alloc (.cells #[y] 59)) K Q else F := by
 obtain ⟨i0, hi, hz0, hz1, hz2⟩ := info29
 obtain ⟨xs, h1, h2⟩ := hown
 have ka : Below w.heap.size w (w.alloc (.cells #[y] 59)) := (Below.refl _ _).alloc (Nat.le_refl _) _
 have h1' := own_block (w' := w.alloc (.cells #[y] 59)) h1 (fun k _ hk => Below.heap_alloc _ _ _ hk)
 have hone : y.oneCell' = true := by
  obtain ⟨ys, ⟨-, q⟩, -⟩ := hy
  rcases q with ⟨rfl, -⟩ | ⟨g, cap, cur, rfl, -⟩ <;> rfl
 refine step_append_lies _ hgd s x 38 ho base 59 i0 _ 1 24 Try.underlying38 hi hz0 hz1 hz2 rfl (by decide) v n xs hs h1' ⟨w.heap.size, 0, none⟩ 1 1 [y] hx rfl (new1 w _ _) (fun u hu => by simp at hu; subst hu; exact hone) (by decide) (by unfold maxLen; omega) (by omega) (by simp; omega) _ rfl ?_
 intro g cap w' q1 q2 q3 q4
 refine h g cap w' ⟨_, q1, ?_⟩ q2 (own_row h1) (row_of h1')
 intro u hu
 rcases List.mem_append.1 hu with h3 | h3
 ·obtain ⟨k, k1, k2, h4⟩ := h2 u h3
  exact ⟨k, k1, k2, (h4.keep ka).far q2 (row_of h1') (by decide)⟩
 ·simp at h3
  subst h3
  exact ⟨m, hm1, hm2, (hy.keep ka).far q2 (row_of h1') (by decide)⟩
end
end Go.Proofs.Ytknffngbdakblaa
