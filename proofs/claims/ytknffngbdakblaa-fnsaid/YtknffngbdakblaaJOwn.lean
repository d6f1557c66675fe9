/- Rows of places that a draw makes and grows: as long as every cell is a number they read as a list of places. No condition. -/
import Derived.Test.YtknffngbdakblaaJG00
import Derived.Test.YtknffngbdakblaaJG02
import Derived.Test.YtknffngbdakblaaJDrawRightR
import Derived.Test.YtknffngbdakblaaJDrawBodyR
import Derived.Test.YtknffngbdakblaaJCursor
import Derived.Test.YtknffngbdakblaaJDraw3a
import Derived.Deep.AppendLies
import Derived.Deep.Slices
import Derived.Laws.OwnMore
namespace Go.Proofs.Ytknffngbdakblaa
set_option linter.unusedSimpArgs false
set_option linter.unusedVariables false
set_option maxRecDepth 100000
open Go.RowKit Go.Deep
def AllInt (xs : List Value) : Prop := ∀ u ∈ xs, ∃ z : Int, u = .int .i64 z
/- v is a row of n places in a block from base on -/
def OwnI (w : World) (base : Nat) (v : Value) (n : Nat) : Prop := ∃ xs, w.ownsRow base 57 5 v n xs ∧ AllInt xs
/- v is a row of n numbers -/
def OwnC (w : World) (base : Nat) (v : Value) (n : Nat) : Prop := ∃ xs, w.ownsRow base 3 1 v n xs ∧ AllInt xs
theorem AllInt.set {xs : List Value} (h : AllInt xs) (k : Nat) (z : Int) : AllInt (xs.set k (.int .i64 z)) := by
 intro u hu
 rcases List.mem_or_eq_of_mem_set hu with h1 | h1
 ·exact h u h1
 ·exact ⟨z, h1⟩
theorem AllInt.append {xs ys : List Value} (h : AllInt xs) (h' : AllInt ys) : AllInt (xs ++ ys) := by
 intro u hu
 rcases List.mem_append.1 hu with h1 | h1
 ·exact h u h1
 ·exact h' u h1
theorem OwnI.but {w w' : World} {base n p : Nat} {v : Value} (h : OwnI w base v n) (hb : But p w w') (hp : p < base) : OwnI w' base v n := by
 obtain ⟨xs, h1, h2⟩ := h
 exact ⟨xs, own_block h1 (fun k h3 h4 => hb.block k h4 (by omega)), h2⟩
theorem OwnC.but {w w' : World} {base n p : Nat} {v : Value} (h : OwnC w base v n) (hb : But p w w') (hp : p < base) : OwnC w' base v n := by
 obtain ⟨xs, h1, h2⟩ := h
 exact ⟨xs, own_block h1 (fun k h3 h4 => hb.block k h4 (by omega)), h2⟩
theorem OwnI.keep {w w' : World} {base n : Nat} {v : Value} (h : OwnI w base v n) (hb : Below w.heap.size w w') : OwnI w' base v n := by
 obtain ⟨xs, h1, h2⟩ := h
 exact ⟨xs, own_block h1 (fun k h3 h4 => hb.block k h4), h2⟩
theorem OwnC.keep {w w' : World} {base n : Nat} {v : Value} (h : OwnC w base v n) (hb : Below w.heap.size w w') : OwnC w' base v n := by
 obtain ⟨xs, h1, h2⟩ := h
 exact ⟨xs, own_block h1 (fun k h3 h4 => hb.block k h4), h2⟩
theorem heap_set {w : World} {g k : Nat} {v : Value} {cur : Array Value} {e : TypeId} {fr : Nat × Nat} (h : w.heap[g]? = some (.cells cur e fr)) : (w.setCell ⟨g, k, none⟩ v).heap[g]? = some (.cells (cur.setIfInBounds k v) e fr) := by
 simp only [World.setCell, Array.getElem?_modify, h]
 simp
theorem OwnI.set {w : World} {base n g' k : Nat} {v : Value} (h : OwnI w base v n) (z : Int) : OwnI (w.setCell ⟨g', k, none⟩ (.int .i64 z)) base v n := by
 obtain ⟨xs, ⟨h1, h2⟩, h3⟩ := h
 rcases h2 with h2 | ⟨g, cap, cur, rfl, hb, hg, hr⟩
 ·exact ⟨xs, ⟨h1, .inl h2⟩, h3⟩
 ·by_cases e : g = g'
  ·subst e
   have := (World.ownsRow.stored (w := w) (base := base) (e := 57) (size := 5) (g := g) (n := n) (cap := cap) (xs := xs) ⟨h1, .inr ⟨g, cap, cur, rfl, hb, hg, hr⟩⟩ k (.int .i64 z)).1
   exact ⟨_, this, h3.set k z⟩
  ·refine ⟨xs, ⟨h1, .inr ⟨g, cap, cur, rfl, hb, ?_, hr⟩⟩, h3⟩
   rw [Below.heap_setCell w ⟨g', k, none⟩ _ g e]
   exact hg
theorem own_cell {w : World} {base size n g cap k : Nat} {e : TypeId} {xs : List Value} (h : w.ownsRow base e size (.slice (some ⟨g, 0, none⟩) n cap) n xs) (hk : k < n * size) : ∃ u, w.cell? ⟨g, k, none⟩ = some u ∧ u ∈ xs ∧ w.frozen? ⟨g, k, none⟩ = false ∧ base ≤ g ∧ g < w.heap.size := by
 obtain ⟨h1, h2⟩ := h
 rcases h2 with ⟨h2, -⟩ | ⟨g', cap', cur, hv, hb, hg, hnc, hcm, hcs, htake⟩
 ·cases h2
 ·simp only [Value.slice.injEq, Option.some.injEq, Addr.mk.injEq, and_true, true_and] at hv
  obtain ⟨rfl, rfl⟩ := hv
  have hlt : g < w.heap.size := by
   apply Classical.byContradiction
   intro hn
   rw [Array.getElem?_eq_none (by omega)] at hg
   cases hg
  have hkc : k < cur.size := by
   rw [hcs]
   exact Nat.lt_of_lt_of_le hk (Nat.mul_le_mul_right _ hnc)
  refine ⟨cur[k], ?_, ?_, ?_, hb, hlt⟩
  ·simp [World.cell?, hg, hkc]
  ·rw [← htake]
   have : (cur.toList.take (n * size))[k]? = some cur[k] := by
    rw [List.getElem?_take, if_pos hk]
    simp [hkc]
   exact List.mem_of_getElem? this
  ·simp [World.frozen?, hg]
theorem OwnI.ins {w : World} {base n : Nat} {v : Value} (h : OwnI w base v n) : ∃ (s : Option Addr) (c : Nat) (l : List I5), v = .slice s l.length c ∧ l.length = n ∧ InsR w base w.heap.size s l := by
 obtain ⟨xs, h1, h2⟩ := h
 rcases h1.2 with ⟨rfl, rfl⟩ | ⟨g, cap, cur, rfl, hb, hg, hr⟩
 ·exact ⟨none, 0, [], rfl, rfl, .inl rfl⟩
 ·obtain ⟨Z, hZ⟩ := @choose_lt Int ⟨0⟩ (n * 5) (fun k z => w.cell? ⟨g, k, none⟩ = some (.int .i64 z)) (fun k hk => by
   obtain ⟨u, h3, h4, -⟩ := own_cell h1 hk
   obtain ⟨z, rfl⟩ := h2 u h4
   exact ⟨z, h3⟩)
  refine ⟨some ⟨g, 0, none⟩, cap, (List.range n).map fun i => ⟨Z (i * 5), Z (i * 5 + 1), Z (i * 5 + 2), Z (i * 5 + 3), Z (i * 5 + 4)⟩, by simp, by simp, ?_⟩
  by_cases h0 : n = 0
  ·left; subst h0; rfl
  ·right
   obtain ⟨u, -, -, -, h5, h6⟩ := own_cell (k := 0) h1 (by omega)
   refine ⟨g, 0, rfl, h5, h6, ?_⟩
   intro i hi
   simp at hi
   have e : ((List.range n).map fun i => (⟨Z (i * 5), Z (i * 5 + 1), Z (i * 5 + 2), Z (i * 5 + 3), Z (i * 5 + 4)⟩ : I5)).getD i z5 = ⟨Z (i * 5), Z (i * 5 + 1), Z (i * 5 + 2), Z (i * 5 + 3), Z (i * 5 + 4)⟩ := by simp [hi]
   rw [e, Nat.zero_add]
   exact ⟨hZ _ (by omega), hZ _ (by omega), hZ _ (by omega), hZ _ (by omega), hZ _ (by omega)⟩
theorem OwnC.ints {w : World} {base n : Nat} {v : Value} (h : OwnC w base v n) : ∃ (s : Option Addr) (c : Nat) (l : List Int), v = .slice s l.length c ∧ l.length = n ∧ IntsR w base w.heap.size s l := by
 obtain ⟨xs, h1, h2⟩ := h
 rcases h1.2 with ⟨rfl, rfl⟩ | ⟨g, cap, cur, rfl, hb, hg, hr⟩
 ·exact ⟨none, 0, [], rfl, rfl, .inl rfl⟩
 ·obtain ⟨Z, hZ⟩ := @choose_lt Int ⟨0⟩ n (fun k z => w.cell? ⟨g, k, none⟩ = some (.int .i64 z)) (fun k hk => by
   obtain ⟨u, h3, h4, -⟩ := own_cell h1 (k := k) (by omega)
   obtain ⟨z, rfl⟩ := h2 u h4
   exact ⟨z, h3⟩)
  refine ⟨some ⟨g, 0, none⟩, cap, (List.range n).map Z, by simp, by simp, ?_⟩
  by_cases h0 : n = 0
  ·left; subst h0; rfl
  ·right
   obtain ⟨u, -, -, -, h5, h6⟩ := own_cell (k := 0) h1 (by omega)
   refine ⟨g, 0, rfl, h5, h6, ?_⟩
   intro i hi
   simp at hi
   have e : ((List.range n).map Z).getD i 0 = Z i := by simp [hi]
   rw [e, Nat.zero_add]
   exact hZ _ (by omega)
end Go.Proofs.Ytknffngbdakblaa
