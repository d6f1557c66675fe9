/- Rows of texts that a call has made: how they lie, what keeps them, and append of one text. Conditions: fewer than 2^40 texts. -/
import Derived.Test.YtfgikjipkfggbaaGreatDoorQuietC
import Derived.Test.YtfgikjipkfggbaaGreatDoorChecked
import Derived.WalkKit
import Derived.KernelRfl
import Derived.WalkSpells
import Derived.WalkLawsBesides
import Derived.Below
import Derived.Laws.OwnMore
import Derived.Deep.AppendLies
namespace Go.Proofs.YtfgikjipkfggbaaGreatDoor
set_option linter.unusedSimpArgs false
set_option linter.unusedVariables false
set_option maxRecDepth 100000
open Go.RowKit

def strV (l : List UInt8) : Value := .string ⟨l.toArray⟩
def OwnT (w : World) (base : Nat) (v : Value) (ls : List (List UInt8)) : Prop := w.ownsRow base 9 1 v ls.length (ls.map strV)

theorem infoStr : ∃ i, Tryz.prog.info? 9 = some i ∧ i.zero = some (.string ⟨#[]⟩) ∧ i.size = 1 ∧ i.bytes = 16 := ⟨_, rfl, rfl, rfl, rfl⟩
theorem ownT_nil (w : World) (base : Nat) : OwnT w base (.slice none 0 0) [] := World.ownsRow_nil _ _ _ _
theorem ownT_lit {w : World} {base : Nat} (l : List UInt8) (hb : base ≤ w.heap.size) : OwnT (w.alloc (.cells #[.string ⟨l.toArray⟩] 9)) base (.slice (some ⟨w.heap.size, 0, none⟩) 1 1) [l] :=
  World.ownsRow_lit w #[.string ⟨l.toArray⟩] 1 hb (by unfold maxLen; omega) rfl
theorem OwnT.keep {w w' : World} {base : Nat} {v : Value} {ls : List (List UInt8)} (h : OwnT w base v ls) (hb : ∀ k, base ≤ k → k < w.heap.size → w'.heap[k]? = w.heap[k]?) : OwnT w' base v ls := by
  obtain ⟨h1, h2⟩ := h
  refine ⟨h1, ?_⟩
  rcases h2 with h2 | ⟨g, cap, cur, a, b, c, d⟩
  · exact .inl h2
  · have hlt : g < w.heap.size := (Array.getElem?_eq_some_iff.1 c).1
    exact .inr ⟨g, cap, cur, a, b, (hb g b hlt).trans c, d⟩
theorem OwnT.below {w w' : World} {base : Nat} {v : Value} {ls : List (List UInt8)} (h : OwnT w base v ls) (hb : Below w.heap.size w w') : OwnT w' base v ls := h.keep fun k _ hk => hb.block k hk
theorem OwnT.alloc {w : World} {base : Nat} {v : Value} {ls : List (List UInt8)} (h : OwnT w base v ls) (o : Obj) : OwnT (w.alloc o) base v ls := h.keep fun k _ hk => Below.heap_alloc _ _ _ hk
theorem OwnT.form {w : World} {base : Nat} {v : Value} {ls : List (List UInt8)} (h : OwnT w base v ls) (hn : 0 < ls.length) : ∃ g cap, v = .slice (some ⟨g, 0, none⟩) ls.length cap ∧ base ≤ g ∧ g < w.heap.size := World.ownsRow.form h hn
theorem OwnT.cell {w : World} {base g cap : Nat} {ls : List (List UInt8)} (h : OwnT w base (.slice (some ⟨g, 0, none⟩) ls.length cap) ls) {i : Nat} (hi : i < ls.length) : w.cell? ⟨g, i, none⟩ = some (.string ⟨(ls.getD i []).toArray⟩) := by
  rw [World.ownsRow.cellAt h i (by omega)]
  simp [strV, List.getD_eq_getElem?_getD, List.getElem?_eq_getElem hi]
theorem OwnT.cap {w : World} {base g cap : Nat} {ls : List (List UInt8)} (h : OwnT w base (.slice (some ⟨g, 0, none⟩) ls.length cap) ls) : ls.length ≤ cap := by
  rcases h.2 with ⟨h0, _⟩ | ⟨g', cap', cur, hv, _, _, hn, _⟩
  · cases h0
  · cases hv; exact hn
theorem new1 (w : World) (u : Value) : ∀ j v, [u][j]? = some v → (w.alloc (.cells #[u] 9)).cell? (Addr.add ⟨w.heap.size, 0, none⟩ j) = some v := by
  intro j v h
  match j, h with
  | 0, h => simpa [Addr.add, go_sem] using h
  | j + 1, h => simp at h

theorem app_str {ops : Array Oper} {rest : List Oper} {o : Oper} {a : Act} {Q : Exit → Act → World → Prop} (hgd : o.guard = none) (s x : Operand) (ho : o.op = .call { callee := .builtin .append, args := #[s, x], argTypes := #[69, 69] })
    (w : World) (l : List UInt8) (base : Nat) (v : Value) (ls : List (List UInt8)) (hs : a.eval s = v) (hown : OwnT w base v ls) (hx : a.eval x = .slice (some ⟨w.heap.size, 0, none⟩) 1 1) (hn : ls.length ≤ 1099511627776) (hbase : base ≤ w.heap.size)
    (h : ∀ g cap w', OwnT w' base (.slice (some ⟨g, 0, none⟩) (ls.length + 1) cap) (ls ++ [l]) → Below base w w' → w.heap.size ≤ w'.heap.size → base ≤ g → wpList Tryz.prog ops Q rest (a.put o.dst (.slice (some ⟨g, 0, none⟩) (ls.length + 1) cap)) w') :
    wpList Tryz.prog ops Q (o :: rest) a (w.alloc (.cells #[.string ⟨l.toArray⟩] 9)) := by
  obtain ⟨i0, hi, hz0, hz1, hz2⟩ := infoStr
  have h1' := hown.alloc (.cells #[.string ⟨l.toArray⟩] 9)
  refine wpList_append_lies _ hgd s x 69 ho base 9 i0 _ 1 16 Tryz.underlying69 hi hz0 hz1 hz2 rfl (by decide) v ls.length _ hs h1' ⟨w.heap.size, 0, none⟩ 1 1 [strV l] hx rfl (new1 w _) (fun u hu => by simp at hu; subst hu; rfl) (by decide) (by unfold maxLen; omega) (by omega) (by simp; omega) _ rfl ?_
  intro g cap w' q1 q2 q3 q4
  have hb : Below base w w' := Below.grown (((Below.refl _ _).alloc hbase _)) q2 (by simp; omega) (fun j hj => (World.ownsRow.lt h1' _ hj).1)
  refine h g cap w' ?_ hb hb.size ?_
  · show w'.ownsRow base 9 1 _ (ls ++ [l]).length ((ls ++ [l]).map strV)
    rw [List.map_append, List.length_append]
    exact q1
  · rcases q3 with q3 | q3
    · exact (World.ownsRow.lt h1' _ q3).1
    · rw [q3]; simp; omega


end Go.Proofs.YtfgikjipkfggbaaGreatDoor
