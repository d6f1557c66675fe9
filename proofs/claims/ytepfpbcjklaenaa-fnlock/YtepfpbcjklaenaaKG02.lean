/- laws.toStep hands its Step on, field by field, in new memory. No condition. Lists of steps as they lie in memory, and how the laws copy them. Conditions: lists of at most 1048576 steps. A row of integers that is not empty lies somewhere. No condition. Append of one integer, of a row of integers, onto a row that a call has made. Conditions: fewer than 2^30 of them. -/
import Derived.Test.YtepfpbcjklaenaaKG00
import Derived.Test.YtepfpbcjklaenaaKC7Leaf
import Derived.Laws.MakeOwn
import Derived.Deep.QuietTactic
import Derived.BigQuiet
import Derived.Laws.AppendOwnNone
import Derived.BigRegion
import Derived.Deep.RegionLaw
import Derived.Deep.RegionHeld3
namespace Go.Proofs.Ytepfpbcjklaenaa
section
set_option linter.unusedSimpArgs false
set_option linter.unusedVariables false
set_option maxRecDepth 100000
open Go.RowKit
end
section
set_option linter.unusedSimpArgs false
set_option linter.unusedVariables false
set_option maxRecDepth 100000
open Go.RowKit
structure I5 where
 o : Int
 r : Int
 a : Int
 b : Int
 n : Int
def z5 : I5 := ⟨0, 0, 0, 0, 0⟩
def At5 (w : World) (g off : Nat) (x : I5) : Prop :=
 w.cell? ⟨g, off, none⟩ = some (.int .i64 x.o) ∧ w.cell? ⟨g, off + 1, none⟩ = some (.int .i64 x.r) ∧ w.cell? ⟨g, off + 2, none⟩ = some (.int .i64 x.a) ∧ w.cell? ⟨g, off + 3, none⟩ = some (.int .i64 x.b) ∧ w.cell? ⟨g, off + 4, none⟩ = some (.int .i64 x.n)
theorem At5.keep {w w' : World} {B g off : Nat} {x : I5} (h : At5 w g off x) (hb : Below B w w') (hg : g < B) : At5 w' g off x :=
 ⟨(hb.cell hg).trans h.1, (hb.cell hg).trans h.2.1, (hb.cell hg).trans h.2.2.1, (hb.cell hg).trans h.2.2.2.1, (hb.cell hg).trans h.2.2.2.2⟩
/- a list of steps below block B -/
def InsB (w : World) (B : Nat) (s : Option Addr) (l : List I5) : Prop :=
 l = [] ∨ ∃ g off, s = some ⟨g, off, none⟩ ∧ g < B ∧ ∀ i, i < l.length → At5 w g (off + i * 5) (l.getD i z5)
theorem InsB.mono {w : World} {B B' : Nat} {s : Option Addr} {l : List I5} (h : InsB w B s l) (hB : B ≤ B') : InsB w B' s l := by
 rcases h with h | ⟨g, o, hs, hg, hc⟩
 ·exact .inl h
 ·exact .inr ⟨g, o, hs, by omega, hc⟩
end
section
set_option linter.unusedSimpArgs false
set_option linter.unusedVariables false
set_option maxRecDepth 100000
open Go.RowKit
theorem IntsR.pos {w : World} {lo hi : Nat} {s : Option Addr} {l : List Int} (h : IntsR w lo hi s l) (hl : 0 < l.length) : ∃ g off, s = some ⟨g, off, none⟩ ∧ lo ≤ g ∧ g < hi ∧ ∀ i, i < l.length → w.cell? ⟨g, off + i, none⟩ = some (.int .i64 (l.getD i 0)) := by
 rcases h with rfl | h
 ·simp at hl
 ·exact h
end
section
set_option linter.unusedSimpArgs false
set_option linter.unusedVariables false
set_option maxRecDepth 100000
open Go.RowKit
theorem news_row {w : World} {g o : Nat} {l : List Int} (hc : ∀ i, i < l.length → w.cell? ⟨g, o + i, none⟩ = some (.int .i64 (l.getD i 0))) : ∀ j u, (l.map (Value.int .i64))[j]? = some u → w.cell? (Addr.add ⟨g, o, none⟩ j) = some u := by
 intro j u hu
 rw [List.getElem?_map] at hu
 by_cases hj : j < l.length
 ·have e : (Addr.add ⟨g, o, none⟩ j) = ⟨g, o + j, none⟩ := by
   by_cases h : j = 0
   ·subst h; rfl
   ·simp [Addr.add, h]
  rw [e, hc j hj]
  rw [List.getElem?_eq_getElem hj] at hu
  simp at hu
  rw [← hu]
  simp [List.getD_eq_getElem?_getD, List.getElem?_eq_getElem hj]
 ·rw [List.getElem?_eq_none (by omega)] at hu
  cases hu
theorem run_append_zero (w : World) (base : Nat) (v : Value) (ls : List Int) (hown : OwnN w base v ls) (s : Option Addr) (c : Nat) :
  (Builtin.append_ #[41, 41] 41 #[v, .slice s 0 c]).run Try.prog w = .ok v w := by
 obtain ⟨i0, hi, hz0, hz1, hz2⟩ := infoInt
 rcases hown.2 with ⟨rfl, -⟩ | ⟨g, cap, cur, rfl, _, _, hnc, _⟩
 ·cases s <;> simp [Builtin.append_, run_underlying Try.underlying41, sizeOf, typeInfo, hi, Builtin.lenOf, Builtin.firstCells, loadCells, loadCellsFrom, storeCells]
 ·cases s <;> simp [Builtin.append_, run_underlying Try.underlying41, sizeOf, typeInfo, hi, Builtin.lenOf, Builtin.firstCells, hnc, storeCells, loadCells, loadCellsFrom, storeCells]
structure Copied (w w' : World) (sv : Option Addr) (cv : Nat) (base n : Nat) (s' : Option Addr) (c' : Nat) : Prop where
 far : ∀ k, k < w.heap.size → (Value.slice sv 0 cv).ownBlock ≠ some k → w'.heap[k]? = w.heap[k]?
 low : Below base w w'
 blk : ∀ k, (Value.slice s' n c').ownBlock = some k → w.heap.size ≤ k ∨ (Value.slice sv 0 cv).ownBlock = some k
theorem wp_copyI {o : Oper} {a : Act} {w : World} {K : Act → World → Prop} {Q : Exit → Act → World → Prop} (s x : Operand) (hty : o.type = 41) (ho : o.op = .call { callee := .builtin .append, args := #[s, x], argTypes := #[41, 41] })
  (base : Nat) (sv : Option Addr) (cv : Nat) (hs : a.eval s = .slice sv 0 cv) (hown : OwnN w base (.slice sv 0 cv) []) (sx : Option Addr) (c : Nat) (l : List Int) {lo hi : Nat} (hx : a.eval x = .slice sx l.length c) (hr : IntsR w lo hi sx l) (hn : l.length ≤ 1073741824) (hbase : base ≤ w.heap.size)
  (h : ∀ s' c' w', OwnN w' base (.slice s' l.length c') l → Copied w w' sv cv base l.length s' c' → K (a.put o.dst (.slice s' l.length c')) w') : Oper.wp Try.prog o a w K Q := by
 rcases hr with rfl | ⟨g, off, rfl, h1, h2, hc⟩
 ·have hrun := run_append_zero w base _ _ hown sx c
  unfold Oper.wp
  simp at hx
  simp [execOp, ho, resolve, invoke, builtin, hs, hx, hty, hrun, Result.andThen]
  exact h sv cv w hown ⟨fun _ _ _ => rfl, Below.refl _ _, fun k hk => .inr hk⟩
 ·rcases Nat.eq_zero_or_pos l.length with h0 | hl
  ·have e := List.length_eq_zero_iff.1 h0
   subst e
   have hrun := run_append_zero w base _ _ hown (some ⟨g, off, none⟩) c
   unfold Oper.wp
   simp at hx
   simp [execOp, ho, resolve, invoke, builtin, hs, hx, hty, hrun, Result.andThen]
   exact h sv cv w hown ⟨fun _ _ _ => rfl, Below.refl _ _, fun k hk => .inr hk⟩
  ·obtain ⟨i0, hi0, hz0, hz1, hz2⟩ := infoInt
   refine wp_append_lies w s x 41 ho base 3 i0 _ 1 8 Try.underlying41 hi0 hz0 hz1 hz2 rfl (by decide) _ 0 _ hs hown ⟨g, off, none⟩ l.length c (l.map (Value.int .i64)) hx (by simp) (news_row hc) (fun u hu => by obtain ⟨z, -, rfl⟩ := List.mem_map.1 hu; rfl) hl (by unfold maxLen; omega) (by omega) hbase _ rfl ?_
   intro g' cap w' q1 q2 q3 q4
   have hb : Below base w w' := Below.grown (Below.refl _ _) q2 hbase (fun j hj => (World.ownsRow.lt hown _ hj).1)
   rw [Nat.zero_add]
   rw [Nat.zero_add] at q1
   refine h _ _ w' (by show w'.ownsRow base 3 1 _ l.length (l.map (Value.int .i64)); exact q1) ⟨fun k hk hne => q2.block k hk (fun e => hne e.symm), hb, fun k hk => ?_⟩
   injection hk with hk
   rcases q3 with q3 | q3
   ·exact .inr (by rw [q3]; exact congrArg some hk)
   ·exact .inl (by have : g' = k := hk; omega)
theorem app_copyI {ops : Array Oper} {rest : List Oper} {o : Oper} {a : Act} {Q : Exit → Act → World → Prop} (hgd : o.guard = none) (s x : Operand) (hty : o.type = 41) (ho : o.op = .call { callee := .builtin .append, args := #[s, x], argTypes := #[41, 41] }) (w : World)
  (base : Nat) (sv : Option Addr) (cv : Nat) (hs : a.eval s = .slice sv 0 cv) (hown : OwnN w base (.slice sv 0 cv) []) (sx : Option Addr) (c : Nat) (l : List Int) {lo hi : Nat} (hx : a.eval x = .slice sx l.length c) (hr : IntsR w lo hi sx l) (hn : l.length ≤ 1073741824) (hbase : base ≤ w.heap.size)
  (h : ∀ s' c' w', OwnN w' base (.slice s' l.length c') l → Copied w w' sv cv base l.length s' c' → wpList Try.prog ops Q rest (a.put o.dst (.slice s' l.length c')) w') : wpList Try.prog ops Q (o :: rest) a w :=
 wpList_plain hgd fun _ hK => wp_copyI s x hty ho base sv cv hs hown sx c l hx hr hn hbase fun s' c' w' h1 h2 => hK _ _ (h s' c' w' h1 h2)
end
end Go.Proofs.Ytepfpbcjklaenaa
