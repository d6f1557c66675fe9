/- Rows of numbers that a call has made: how they lie, what keeps them, and append of one number, and of three noughts. Conditions: fewer than 2^40 numbers. -/
import Derived.Test.YtfgikjipkfggbaaGreatDoorQuietC
import Derived.Test.YtfgikjipkfggbaaGreatDoorChecked
import Derived.WalkKit
import Derived.KernelRfl
import Derived.WalkSpells
import Derived.WalkLawsBesides
import Derived.Below
import Derived.Laws.OwnMore
import Derived.Deep.AppendLies
namespace Go.Proofs.YtfgikjipkfggbaaGreatDoor
set_option linter.unusedSimpArgs false
set_option linter.unusedVariables false
set_option maxRecDepth 100000
open Go.RowKit

def OwnN (w : World) (base : Nat) (v : Value) (ls : List Int) : Prop := w.ownsRow base 3 1 v ls.length (ls.map (Value.int .i64))

theorem infoInt : ∃ i, Tryz.prog.info? 3 = some i ∧ i.zero = some (.int .i64 0) ∧ i.size = 1 ∧ i.bytes = 8 := ⟨_, rfl, rfl, rfl, rfl⟩
theorem ownN_empty {w : World} {base : Nat} (hb : base ≤ w.heap.size) : OwnN (w.alloc (.cells #[] 3)) base (.slice (some ⟨w.heap.size, 0, none⟩) 0 0) [] :=
  World.ownsRow_lit w #[] 0 hb (by unfold maxLen; omega) rfl
theorem OwnN.keep {w w' : World} {base : Nat} {v : Value} {ls : List Int} (h : OwnN w base v ls) (hb : ∀ k, base ≤ k → k < w.heap.size → w'.heap[k]? = w.heap[k]?) : OwnN w' base v ls := by
  obtain ⟨h1, h2⟩ := h
  refine ⟨h1, ?_⟩
  rcases h2 with h2 | ⟨g, cap, cur, a, b, c, d⟩
  · exact .inl h2
  · have hlt : g < w.heap.size := (Array.getElem?_eq_some_iff.1 c).1
    exact .inr ⟨g, cap, cur, a, b, (hb g b hlt).trans c, d⟩
theorem OwnN.below {w w' : World} {base : Nat} {v : Value} {ls : List Int} (h : OwnN w base v ls) (hb : Below w.heap.size w w') : OwnN w' base v ls := h.keep fun k _ hk => hb.block k hk
theorem OwnN.alloc {w : World} {base : Nat} {v : Value} {ls : List Int} (h : OwnN w base v ls) (o : Obj) : OwnN (w.alloc o) base v ls := h.keep fun k _ hk => Below.heap_alloc _ _ _ hk
theorem OwnN.cell {w : World} {base g cap : Nat} {ls : List Int} (h : OwnN w base (.slice (some ⟨g, 0, none⟩) ls.length cap) ls) {i : Nat} (hi : i < ls.length) : w.cell? ⟨g, i, none⟩ = some (.int .i64 (ls.getD i 0)) := by
  rw [World.ownsRow.cellAt h i (by omega)]
  simp [List.getD_eq_getElem?_getD, List.getElem?_eq_getElem hi]
theorem OwnN.sl {w : World} {base : Nat} {v : Value} {ls : List Int} (h : OwnN w base v ls) : ∃ s cap, v = .slice s ls.length cap := by
  rcases h.2 with ⟨h1, h2⟩ | ⟨g, cap, cur, a, -⟩
  · exact ⟨none, 0, by rw [h1, h2]⟩
  · exact ⟨_, _, a⟩
theorem newN1 (w : World) (u : Value) : ∀ j v, [u][j]? = some v → (w.alloc (.cells #[u] 3)).cell? (Addr.add ⟨w.heap.size, 0, none⟩ j) = some v := by
  intro j v h
  match j, h with
  | 0, h => simpa [Addr.add, go_sem] using h
  | j + 1, h => simp at h
theorem newN3 (w : World) (u : Value) : ∀ j v, [u, u, u][j]? = some v → (w.alloc (.cells #[u, u, u] 3)).cell? (Addr.add ⟨w.heap.size, 0, none⟩ j) = some v := by
  intro j v h
  match j, h with
  | 0, h => simpa [Addr.add, go_sem] using h
  | 1, h => simpa [Addr.add, go_sem] using h
  | 2, h => simpa [Addr.add, go_sem] using h
  | j + 3, h => simp at h

theorem app_int {ops : Array Oper} {rest : List Oper} {o : Oper} {a : Act} {Q : Exit → Act → World → Prop} (hgd : o.guard = none) (s x : Operand) (ho : o.op = .call { callee := .builtin .append, args := #[s, x], argTypes := #[31, 31] })
    (w : World) (z : Int) (base : Nat) (v : Value) (ls : List Int) (hs : a.eval s = v) (hown : OwnN w base v ls) (hx : a.eval x = .slice (some ⟨w.heap.size, 0, none⟩) 1 1) (hn : ls.length ≤ 1099511627776) (hbase : base ≤ w.heap.size)
    (h : ∀ g cap w', OwnN w' base (.slice (some ⟨g, 0, none⟩) (ls.length + 1) cap) (ls ++ [z]) → Below base w w' → w.heap.size ≤ w'.heap.size → wpList Tryz.prog ops Q rest (a.put o.dst (.slice (some ⟨g, 0, none⟩) (ls.length + 1) cap)) w') :
    wpList Tryz.prog ops Q (o :: rest) a (w.alloc (.cells #[.int .i64 z] 3)) := by
  obtain ⟨i0, hi, hz0, hz1, hz2⟩ := infoInt
  have h1' := hown.alloc (.cells #[.int .i64 z] 3)
  refine wpList_append_lies _ hgd s x 31 ho base 3 i0 _ 1 8 Tryz.underlying31 hi hz0 hz1 hz2 rfl (by decide) v ls.length _ hs h1' ⟨w.heap.size, 0, none⟩ 1 1 [.int .i64 z] hx rfl (newN1 w _) (fun u hu => by simp at hu; subst hu; rfl) (by decide) (by unfold maxLen; omega) (by omega) (by simp; omega) _ rfl ?_
  intro g cap w' q1 q2 q3 q4
  have hb : Below base w w' := Below.grown (((Below.refl _ _).alloc hbase _)) q2 (by simp; omega) (fun j hj => (World.ownsRow.lt h1' _ hj).1)
  refine h g cap w' ?_ hb hb.size
  show w'.ownsRow base 3 1 _ (ls ++ [z]).length ((ls ++ [z]).map (Value.int .i64))
  rw [List.map_append, List.length_append]
  exact q1
theorem app_zeros {ops : Array Oper} {rest : List Oper} {o : Oper} {a : Act} {Q : Exit → Act → World → Prop} (hgd : o.guard = none) (s x : Operand) (ho : o.op = .call { callee := .builtin .append, args := #[s, x], argTypes := #[31, 31] })
    (w : World) (base : Nat) (v : Value) (ls : List Int) (hs : a.eval s = v) (hown : OwnN w base v ls) (hx : a.eval x = .slice (some ⟨w.heap.size, 0, none⟩) 3 3) (hn : ls.length ≤ 1099511627776) (hbase : base ≤ w.heap.size)
    (h : ∀ g cap w', OwnN w' base (.slice (some ⟨g, 0, none⟩) (ls.length + 3) cap) (ls ++ [0, 0, 0]) → Below base w w' → g < w'.heap.size → wpList Tryz.prog ops Q rest (a.put o.dst (.slice (some ⟨g, 0, none⟩) (ls.length + 3) cap)) w') :
    wpList Tryz.prog ops Q (o :: rest) a (w.alloc (.cells #[.int .i64 0, .int .i64 0, .int .i64 0] 3)) := by
  obtain ⟨i0, hi, hz0, hz1, hz2⟩ := infoInt
  have h1' := hown.alloc (.cells #[.int .i64 0, .int .i64 0, .int .i64 0] 3)
  refine wpList_append_lies _ hgd s x 31 ho base 3 i0 _ 1 8 Tryz.underlying31 hi hz0 hz1 hz2 rfl (by decide) v ls.length _ hs h1' ⟨w.heap.size, 0, none⟩ 3 3 [.int .i64 0, .int .i64 0, .int .i64 0] hx rfl (newN3 w _) (fun u hu => by simp at hu; subst hu; rfl) (by decide) (by unfold maxLen; omega) (by omega) (by simp; omega) _ rfl ?_
  intro g cap w' q1 q2 q3 q4
  have hb : Below base w w' := Below.grown (((Below.refl _ _).alloc hbase _)) q2 (by simp; omega) (fun j hj => (World.ownsRow.lt h1' _ hj).1)
  refine h g cap w' ?_ hb q4
  show w'.ownsRow base 3 1 _ (ls ++ [0, 0, 0]).length ((ls ++ [0, 0, 0]).map (Value.int .i64))
  rw [List.map_append, List.length_append]
  exact q1


end Go.Proofs.YtfgikjipkfggbaaGreatDoor
