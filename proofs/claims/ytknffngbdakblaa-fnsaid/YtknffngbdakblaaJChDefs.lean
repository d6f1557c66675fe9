/- Rows of numbers as they come in, and append of such a row to a row of the call's own. Conditions: at most 2^40 numbers. -/
import Derived.Test.YtknffngbdakblaaJG00
import Derived.Laws.AppendOwnNone
import Derived.Deep.QuietTactic
import Derived.BigQuiet
import Derived.BigRegion
import Derived.Deep.RegionLaw
namespace Go.Proofs.Ytknffngbdakblaa
set_option linter.unusedSimpArgs false
set_option linter.unusedVariables false
set_option maxRecDepth 100000
open Go.RowKit
def RowI (w : World) (B : Nat) (s : Option Addr) (l : List Int) : Prop :=
 l = [] ∨ ∃ g o, s = some ⟨g, o, none⟩ ∧ g < B ∧ ∀ i, i < l.length → w.cell? ⟨g, o + i, none⟩ = some (.int .i64 (l.getD i 0))
theorem RowI.keep {w w' : World} {B : Nat} {s : Option Addr} {l : List Int} (h : RowI w B s l) (hb : ∀ k, k < B → w'.heap[k]? = w.heap[k]?) : RowI w' B s l := by
 rcases h with h | ⟨g, o, hs, hg, hc⟩
 ·exact .inl h
 ·exact .inr ⟨g, o, hs, hg, fun i hi => (World.cell?_of_block (w := w) (a := ⟨g, o + i, none⟩) (hb g hg)).trans (hc i hi)⟩
theorem RowI.below {w w' : World} {B : Nat} {s : Option Addr} {l : List Int} (h : RowI w B s l) (hb : Below B w w') : RowI w' B s l := h.keep hb.block
theorem RowI.mono {w : World} {B B' : Nat} {s : Option Addr} {l : List Int} (h : RowI w B s l) (hb : B ≤ B') : RowI w B' s l := by
 rcases h with h | ⟨g, o, hs, hg, hc⟩
 ·exact .inl h
 ·exact .inr ⟨g, o, hs, by omega, hc⟩
theorem cellOff {w : World} {g i j : Nat} {v : Value} (h : ¬ i = j) : (w.setCell ⟨g, i, none⟩ v).cell? ⟨g, j, none⟩ = w.cell? ⟨g, j, none⟩ := by
 apply World.cell?_setCell_other
 intro e
 injection e with e1 e2
 exact h e2
theorem cellAt {w : World} {g i : Nat} {v u : Value} (h : w.cell? ⟨g, i, none⟩ = some u) : (w.setCell ⟨g, i, none⟩ v).cell? ⟨g, i, none⟩ = some v := by
 apply World.cell?_setCell_same
 exact h
theorem OwnN.low {w : World} {b b' : Nat} {v : Value} {ls : List Int} (h : OwnN w b v ls) (hb : b' ≤ b) : OwnN w b' v ls := by
 obtain ⟨h1, h2⟩ := h
 refine ⟨h1, ?_⟩
 rcases h2 with h2 | ⟨g, cap, cur, a, b0, c, d⟩
 ·exact .inl h2
 ·exact .inr ⟨g, cap, cur, a, Nat.le_trans hb b0, c, d⟩
theorem OwnN.set {w : World} {base : Nat} {v : Value} {ls : List Int} (h : OwnN w base v ls) {a : Addr} (ha : a.block < base) (u : Value) : OwnN (w.setCell a u) base v ls := ownsRow_setCell_below h ha u
theorem OwnN.far {w : World} {base g n cap : Nat} {ls : List Int} (h : OwnN w base (.slice (some ⟨g, 0, none⟩) n cap) ls) {a : Addr} (ha : a.block ≠ g) (u : Value) : OwnN (w.setCell a u) base (.slice (some ⟨g, 0, none⟩) n cap) ls := by
 obtain ⟨h1, h2⟩ := h
 refine ⟨h1, ?_⟩
 rcases h2 with ⟨h2, -⟩ | ⟨g', cap', cur, hv, hb, hg, h3⟩
 ·cases h2
 ·obtain rfl : g = g' := by injection hv with e; injection e with e; injection e
  exact .inr ⟨g, cap', cur, hv, hb, (Below.heap_setCell w a u g (fun e => ha e.symm)).trans hg, h3⟩
theorem OwnN.off {w : World} {base : Nat} {v : Value} {ls : List Int} (h : OwnN w base v ls) {a : Addr} (ha : ∀ g cap, v = .slice (some ⟨g, 0, none⟩) ls.length cap → a.block ≠ g) (u : Value) : OwnN (w.setCell a u) base v ls := by
 obtain ⟨h1, h2⟩ := h
 refine ⟨h1, ?_⟩
 rcases h2 with h2 | ⟨g, cap, cur, hv, hb, hg, h3⟩
 ·exact .inl h2
 ·exact .inr ⟨g, cap, cur, hv, hb, (Below.heap_setCell w a u g (fun e => ha g cap hv e.symm)).trans hg, h3⟩
theorem OwnN.lt {w : World} {base : Nat} {v : Value} {ls : List Int} (h : OwnN w base v ls) (hn : 0 < ls.length) : ∃ g cap, v = .slice (some ⟨g, 0, none⟩) ls.length cap ∧ base ≤ g ∧ g < w.heap.size := World.ownsRow.form h hn
theorem OwnN.row {w : World} {base : Nat} {v : Value} {ls : List Int} (h : OwnN w base v ls) : ∃ s c, v = .slice s ls.length c ∧ RowI w w.heap.size s ls := by
 by_cases h0 : ls.length = 0
 ·obtain ⟨s, c, hv⟩ := h.sl
  exact ⟨s, c, hv, .inl (List.length_eq_zero_iff.1 h0)⟩
 ·obtain ⟨g, cap, rfl, -, hlt⟩ := h.lt (by omega)
  exact ⟨_, _, rfl, .inr ⟨g, 0, rfl, hlt, fun i hi => by rw [Nat.zero_add]; exact h.cell hi⟩⟩
theorem run_append_zero (w : World) (base : Nat) (v : Value) (ls : List Int) (hown : OwnN w base v ls) (s : Option Addr) (c : Nat) :
  (Builtin.append_ #[31, 31] 31 #[v, .slice s 0 c]).run Try.prog w = .ok v w := by
 obtain ⟨i0, hi, hz0, hz1, hz2⟩ := infoInt
 rcases hown.2 with ⟨rfl, -⟩ | ⟨g, cap, cur, rfl, _, _, hnc, _⟩
 ·cases s <;> simp [Builtin.append_, run_underlying Try.underlying31, sizeOf, typeInfo, hi, Builtin.lenOf, Builtin.firstCells, loadCells, loadCellsFrom, storeCells]
 ·cases s <;> simp [Builtin.append_, run_underlying Try.underlying31, sizeOf, typeInfo, hi, Builtin.lenOf, Builtin.firstCells, hnc, storeCells, loadCells, loadCellsFrom, storeCells]
theorem app_none {ops : Array Oper} {rest : List Oper} {o : Oper} {a : Act} {Q : Exit → Act → World → Prop} (hgd : o.guard = none) (s x : Operand) (hty : o.type = 31) (ho : o.op = .call { callee := .builtin .append, args := #[s, x], argTypes := #[31, 31] })
  (w : World) (base : Nat) (v : Value) (ls : List Int) (hs : a.eval s = v) (hown : OwnN w base v ls) (sx : Option Addr) (cx : Nat) (hx : a.eval x = .slice sx 0 cx)
  (h : wpList Try.prog ops Q rest (a.put o.dst v) w) : wpList Try.prog ops Q (o :: rest) a w := by
 refine wpList_plain hgd fun K hK => ?_
 have hrun := run_append_zero w base v ls hown sx cx
 unfold Oper.wp
 simp [execOp, ho, resolve, invoke, builtin, hs, hx, hty, hrun, Result.andThen]
 exact hK _ _ h
theorem step_none {ops : Array Oper} {o : Oper} {a : Act} {K : Act → World → Prop} {Q : Exit → Act → World → Prop} {E : Prop} (hgd : o.guard = none) (s x : Operand) (hty : o.type = 31) (ho : o.op = .call { callee := .builtin .append, args := #[s, x], argTypes := #[31, 31] })
  (w : World) (base : Nat) (v : Value) (ls : List Int) (hs : a.eval s = v) (hown : OwnN w base v ls) (sx : Option Addr) (cx : Nat) (hx : a.eval x = .slice sx 0 cx)
  (h : K (a.put o.dst v) w) : if Region.wanted o (yielded ops a.tmps) = true then Oper.wp Try.prog o a w K Q else E := by
 have hw : Region.wanted o (yielded ops a.tmps) = true := by simp [Region.wanted, hgd]
 rw [if_pos hw]
 have hrun := run_append_zero w base v ls hown sx cx
 unfold Oper.wp
 simp [execOp, ho, resolve, invoke, builtin, hs, hx, hty, hrun, Result.andThen]
 exact h
theorem news_row {w : World} {g o : Nat} {l : List Int} (hc : ∀ i, i < l.length → w.cell? ⟨g, o + i, none⟩ = some (.int .i64 (l.getD i 0))) : ∀ j u, (l.map (Value.int .i64))[j]? = some u → w.cell? (Addr.add ⟨g, o, none⟩ j) = some u := by
 intro j u hu
 rw [List.getElem?_map] at hu
 by_cases hj : j < l.length
 ·have e : (Addr.add ⟨g, o, none⟩ j) = ⟨g, o + j, none⟩ := by
   by_cases h : j = 0
   ·subst h; rfl
   ·simp [Addr.add, h]
  rw [e, hc j hj]
  rw [List.getElem?_eq_getElem hj] at hu
  simp at hu
  rw [← hu]
  simp [List.getD_eq_getElem?_getD, List.getElem?_eq_getElem hj]
 ·rw [List.getElem?_eq_none (by omega)] at hu
  cases hu
theorem app_row {ops : Array Oper} {rest : List Oper} {o : Oper} {a : Act} {Q : Exit → Act → World → Prop} (hgd : o.guard = none) (s x : Operand) (ho : o.op = .call { callee := .builtin .append, args := #[s, x], argTypes := #[31, 31] })
  (w : World) (base : Nat) (v : Value) (ls : List Int) (hs : a.eval s = v) (hown : OwnN w base v ls) (g0 o0 c : Nat) (l : List Int) (hx : a.eval x = .slice (some ⟨g0, o0, none⟩) l.length c) (hc : ∀ i, i < l.length → w.cell? ⟨g0, o0 + i, none⟩ = some (.int .i64 (l.getD i 0)))
  (hl : 0 < l.length) (hn : ls.length + l.length ≤ 1099511627776) (hbase : base ≤ w.heap.size)
  (h : ∀ g cap w', OwnN w' base (.slice (some ⟨g, 0, none⟩) (ls.length + l.length) cap) (ls ++ l) → Below base w w' → g < w'.heap.size → base ≤ g → wpList Try.prog ops Q rest (a.put o.dst (.slice (some ⟨g, 0, none⟩) (ls.length + l.length) cap)) w') :
  wpList Try.prog ops Q (o :: rest) a w := by
 obtain ⟨i0, hi, hz0, hz1, hz2⟩ := infoInt
 refine wpList_append_lies _ hgd s x 31 ho base 3 i0 _ 1 8 Try.underlying31 hi hz0 hz1 hz2 rfl (by decide) v ls.length _ hs hown ⟨g0, o0, none⟩ l.length c (l.map (Value.int .i64)) hx (by simp) (news_row hc) (fun u hu => by obtain ⟨z, -, rfl⟩ := List.mem_map.1 hu; rfl) hl (by unfold maxLen; omega) (by omega) hbase _ rfl ?_
 intro g cap w' q1 q2 q3 q4
 have hb : Below base w w' := Below.grown (Below.refl _ _) q2 hbase (fun j hj => (World.ownsRow.lt hown _ hj).1)
 have ho' : OwnN w' base (.slice (some ⟨g, 0, none⟩) (ls.length + l.length) cap) (ls ++ l) := by
  show w'.ownsRow base 3 1 _ (ls ++ l).length ((ls ++ l).map (Value.int .i64))
  rw [List.map_append, List.length_append]
  exact q1
 refine h g cap w' ho' hb q4 ?_
 rcases q3 with q3 | q3
 ·exact (World.ownsRow.lt hown _ q3).1
 ·omega
theorem step_row {ops : Array Oper} {o : Oper} {a : Act} {K : Act → World → Prop} {Q : Exit → Act → World → Prop} {E : Prop} (hgd : o.guard = none) (s x : Operand) (ho : o.op = .call { callee := .builtin .append, args := #[s, x], argTypes := #[31, 31] })
  (w : World) (base : Nat) (v : Value) (ls : List Int) (hs : a.eval s = v) (hown : OwnN w base v ls) (g0 o0 c : Nat) (l : List Int) (hx : a.eval x = .slice (some ⟨g0, o0, none⟩) l.length c) (hc : ∀ i, i < l.length → w.cell? ⟨g0, o0 + i, none⟩ = some (.int .i64 (l.getD i 0)))
  (hl : 0 < l.length) (hn : ls.length + l.length ≤ 1099511627776) (hbase : base ≤ w.heap.size)
  (h : ∀ g cap w', OwnN w' base (.slice (some ⟨g, 0, none⟩) (ls.length + l.length) cap) (ls ++ l) → Below base w w' → g < w'.heap.size → base ≤ g → K (a.put o.dst (.slice (some ⟨g, 0, none⟩) (ls.length + l.length) cap)) w') :
  if Region.wanted o (yielded ops a.tmps) = true then Oper.wp Try.prog o a w K Q else E := by
 obtain ⟨i0, hi, hz0, hz1, hz2⟩ := infoInt
 refine step_append_lies _ hgd s x 31 ho base 3 i0 _ 1 8 Try.underlying31 hi hz0 hz1 hz2 rfl (by decide) v ls.length _ hs hown ⟨g0, o0, none⟩ l.length c (l.map (Value.int .i64)) hx (by simp) (news_row hc) (fun u hu => by obtain ⟨z, -, rfl⟩ := List.mem_map.1 hu; rfl) hl (by unfold maxLen; omega) (by omega) hbase _ rfl ?_
 intro g cap w' q1 q2 q3 q4
 have hb : Below base w w' := Below.grown (Below.refl _ _) q2 hbase (fun j hj => (World.ownsRow.lt hown _ hj).1)
 have ho' : OwnN w' base (.slice (some ⟨g, 0, none⟩) (ls.length + l.length) cap) (ls ++ l) := by
  show w'.ownsRow base 3 1 _ (ls ++ l).length ((ls ++ l).map (Value.int .i64))
  rw [List.map_append, List.length_append]
  exact q1
 refine h g cap w' ho' hb q4 ?_
 rcases q3 with q3 | q3
 ·exact (World.ownsRow.lt hown _ q3).1
 ·omega
theorem own_block_lt {w : World} {base : Nat} {v : Value} {ls : List Int} (h : OwnN w base v ls) {k : Nat} (hk : v.ownBlock = some k) : base ≤ k ∧ k < w.heap.size := World.ownsRow.lt h _ hk
theorem app_one {ops : Array Oper} {rest : List Oper} {o : Oper} {a : Act} {Q : Exit → Act → World → Prop} (hgd : o.guard = none) (s x : Operand) (ho : o.op = .call { callee := .builtin .append, args := #[s, x], argTypes := #[31, 31] })
  (w : World) (z : Int) (base : Nat) (v : Value) (ls : List Int) (hs : a.eval s = v) (hown : OwnN w base v ls) (hx : a.eval x = .slice (some ⟨w.heap.size, 0, none⟩) 1 1) (hn : ls.length ≤ 1099511627775) (hbase : base ≤ w.heap.size)
  (h : ∀ g cap w', OwnN w' base (.slice (some ⟨g, 0, none⟩) (ls.length + 1) cap) (ls ++ [z]) → Below base w w' → (∀ k, k < w.heap.size → v.ownBlock ≠ some k → w'.heap[k]? = w.heap[k]? ∧ k ≠ g) → wpList Try.prog ops Q rest (a.put o.dst (.slice (some ⟨g, 0, none⟩) (ls.length + 1) cap)) w') :
  wpList Try.prog ops Q (o :: rest) a (w.alloc (.cells #[.int .i64 z] 3)) := by
 obtain ⟨i0, hi, hz0, hz1, hz2⟩ := infoInt
 have h1' := hown.alloc (.cells #[.int .i64 z] 3)
 refine wpList_append_lies _ hgd s x 31 ho base 3 i0 _ 1 8 Try.underlying31 hi hz0 hz1 hz2 rfl (by decide) v ls.length _ hs h1' ⟨w.heap.size, 0, none⟩ 1 1 [.int .i64 z] hx rfl (newN1 w _) (fun u hu => by simp at hu; subst hu; rfl) (by decide) (by unfold maxLen; omega) (by omega) (by simp; omega) _ rfl ?_
 intro g cap w' q1 q2 q3 q4
 have hb : Below base w w' := Below.grown (((Below.refl _ _).alloc hbase _)) q2 (by simp; omega) (fun j hj => (World.ownsRow.lt h1' _ hj).1)
 refine h g cap w' ?_ hb (fun k hk hne => ?_)
 ·show w'.ownsRow base 3 1 _ (ls ++ [z]).length ((ls ++ [z]).map (Value.int .i64))
  rw [List.map_append, List.length_append]
  exact q1
 ·refine ⟨(q2.block k (by simp; omega) (fun e => hne e.symm)).trans (Below.heap_alloc _ _ _ hk), ?_⟩
  rintro rfl
  rcases q3 with q3 | q3
  ·exact hne q3
  ·simp at q3; omega
end Go.Proofs.Ytknffngbdakblaa
