/- Append of one integer, of a row of integers, onto a row that a call has made. Conditions: fewer than 2^30 of them. -/
import Derived.Test.YtcfehbfjillnoaaGreatJG00
import Derived.Test.YtcfehbfjillnoaaGreatJG04
import Derived.Laws.AppendOwnNone
import Derived.Deep.QuietTactic
import Derived.BigQuiet
import Derived.BigRegion
import Derived.Deep.RegionLaw
import Derived.Deep.RegionHeld3
namespace Go.Proofs.YtcfehbfjillnoaaGreat
set_option linter.unusedSimpArgs false
set_option linter.unusedVariables false
set_option maxRecDepth 100000
open Go.RowKit
theorem news_row {w : World} {g o : Nat} {l : List Int} (hc : ∀ i, i < l.length → w.cell? ⟨g, o + i, none⟩ = some (.int .i64 (l.getD i 0))) : ∀ j u, (l.map (Value.int .i64))[j]? = some u → w.cell? (Addr.add ⟨g, o, none⟩ j) = some u := by
 intro j u hu
 rw [List.getElem?_map] at hu
 by_cases hj : j < l.length
 ·have e : (Addr.add ⟨g, o, none⟩ j) = ⟨g, o + j, none⟩ := by
   by_cases h : j = 0
   ·subst h; rfl
   ·simp [Addr.add, h]
  rw [e, hc j hj]
  rw [List.getElem?_eq_getElem hj] at hu
  simp at hu
  rw [← hu]
  simp [List.getD_eq_getElem?_getD, List.getElem?_eq_getElem hj]
 ·rw [List.getElem?_eq_none (by omega)] at hu
  cases hu
theorem app_row {ops : Array Oper} {rest : List Oper} {o : Oper} {a : Act} {Q : Exit → Act → World → Prop} (hgd : o.guard = none) (s x : Operand) (ho : o.op = .call { callee := .builtin .append, args := #[s, x], argTypes := #[22, 22] })
  (w : World) (base : Nat) (v : Value) (ls : List Int) (hs : a.eval s = v) (hown : OwnN w base v ls) (g0 o0 c : Nat) (l : List Int) (hx : a.eval x = .slice (some ⟨g0, o0, none⟩) l.length c) (hc : ∀ i, i < l.length → w.cell? ⟨g0, o0 + i, none⟩ = some (.int .i64 (l.getD i 0)))
  (hl : 0 < l.length) (hn : ls.length + l.length ≤ 1099511627776) (hbase : base ≤ w.heap.size)
  (h : ∀ g cap w', OwnN w' base (.slice (some ⟨g, 0, none⟩) (ls.length + l.length) cap) (ls ++ l) → Below base w w' → g < w'.heap.size → base ≤ g → wpList Tryz.prog ops Q rest (a.put o.dst (.slice (some ⟨g, 0, none⟩) (ls.length + l.length) cap)) w') :
  wpList Tryz.prog ops Q (o :: rest) a w := by
 obtain ⟨i0, hi, hz0, hz1, hz2⟩ := infoInt
 refine wpList_append_lies _ hgd s x 22 ho base 3 i0 _ 1 8 Tryz.underlying22 hi hz0 hz1 hz2 rfl (by decide) v ls.length _ hs hown ⟨g0, o0, none⟩ l.length c (l.map (Value.int .i64)) hx (by simp) (news_row hc) (fun u hu => by obtain ⟨z, -, rfl⟩ := List.mem_map.1 hu; rfl) hl (by unfold maxLen; omega) (by omega) hbase _ rfl ?_
 intro g cap w' q1 q2 q3 q4
 have hb : Below base w w' := Below.grown (Below.refl _ _) q2 hbase (fun j hj => (World.ownsRow.lt hown _ hj).1)
 have ho' : OwnN w' base (.slice (some ⟨g, 0, none⟩) (ls.length + l.length) cap) (ls ++ l) := by
  show w'.ownsRow base 3 1 _ (ls ++ l).length ((ls ++ l).map (Value.int .i64))
  rw [List.map_append, List.length_append]
  exact q1
 refine h g cap w' ho' hb q4 ?_
 rcases q3 with q3 | q3
 ·exact (World.ownsRow.lt hown _ q3).1
 ·omega
theorem step_row {ops : Array Oper} {o : Oper} {a : Act} {K : Act → World → Prop} {Q : Exit → Act → World → Prop} {E : Prop} (hgd : o.guard = none) (s x : Operand) (ho : o.op = .call { callee := .builtin .append, args := #[s, x], argTypes := #[22, 22] })
  (w : World) (base : Nat) (v : Value) (ls : List Int) (hs : a.eval s = v) (hown : OwnN w base v ls) (g0 o0 c : Nat) (l : List Int) (hx : a.eval x = .slice (some ⟨g0, o0, none⟩) l.length c) (hc : ∀ i, i < l.length → w.cell? ⟨g0, o0 + i, none⟩ = some (.int .i64 (l.getD i 0)))
  (hl : 0 < l.length) (hn : ls.length + l.length ≤ 1099511627776) (hbase : base ≤ w.heap.size)
  (h : ∀ g cap w', OwnN w' base (.slice (some ⟨g, 0, none⟩) (ls.length + l.length) cap) (ls ++ l) → Below base w w' → g < w'.heap.size → base ≤ g → K (a.put o.dst (.slice (some ⟨g, 0, none⟩) (ls.length + l.length) cap)) w') :
  if Region.wanted o (yielded ops a.tmps) = true then Oper.wp Tryz.prog o a w K Q else E := by
 obtain ⟨i0, hi, hz0, hz1, hz2⟩ := infoInt
 refine step_append_lies _ hgd s x 22 ho base 3 i0 _ 1 8 Tryz.underlying22 hi hz0 hz1 hz2 rfl (by decide) v ls.length _ hs hown ⟨g0, o0, none⟩ l.length c (l.map (Value.int .i64)) hx (by simp) (news_row hc) (fun u hu => by obtain ⟨z, -, rfl⟩ := List.mem_map.1 hu; rfl) hl (by unfold maxLen; omega) (by omega) hbase _ rfl ?_
 intro g cap w' q1 q2 q3 q4
 have hb : Below base w w' := Below.grown (Below.refl _ _) q2 hbase (fun j hj => (World.ownsRow.lt hown _ hj).1)
 have ho' : OwnN w' base (.slice (some ⟨g, 0, none⟩) (ls.length + l.length) cap) (ls ++ l) := by
  show w'.ownsRow base 3 1 _ (ls ++ l).length ((ls ++ l).map (Value.int .i64))
  rw [List.map_append, List.length_append]
  exact q1
 refine h g cap w' ho' hb q4 ?_
 rcases q3 with q3 | q3
 ·exact (World.ownsRow.lt hown _ q3).1
 ·omega
end Go.Proofs.YtcfehbfjillnoaaGreat
