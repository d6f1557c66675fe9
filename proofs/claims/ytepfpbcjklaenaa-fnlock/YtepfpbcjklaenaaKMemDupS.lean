/- Memories copied by the specification: l6Copy. Conditions: they are counted. -/
import Derived.Test.YtepfpbcjklaenaaKG00
import Derived.Test.YtepfpbcjklaenaaKG02
import Derived.Test.YtepfpbcjklaenaaKG03
import Derived.Test.YtepfpbcjklaenaaKMemDup2
namespace Go.Proofs.Ytepfpbcjklaenaa
set_option linter.unusedSimpArgs false
set_option linter.unusedVariables false
set_option maxRecDepth 100000
open Go.RowKit
theorem ownV {w : World} {b c n : Nat} {s : Option Addr} {l : List Int} (h : OwnN w b (.slice s n c) l) (hn : n = l.length) : VO w b w.heap.size ⟨s, n, c⟩ l ∧ (∀ a ∈ vAs ⟨s, n, c⟩, TyI w a.block) ∧ (vAs ⟨s, n, c⟩).Nodup ∧ ∀ a ∈ vAs ⟨s, n, c⟩, b ≤ a.block := by
 subst hn
 rcases Nat.eq_zero_or_pos l.length with h0 | hpos
 ·have e : vAs ⟨s, l.length, c⟩ = [] := by simp [vAs, h0]
  rw [e]
  exact ⟨⟨rfl, .inl (List.length_eq_zero_iff.1 h0)⟩, fun a ha => by simp at ha, by simp, fun a ha => by simp at ha⟩
 ·obtain ⟨g, cap, e, -⟩ := World.ownsRow.form h hpos
  injection e with e1 e2 e3
  subst e1
  have hlt := World.ownsRow.lt h g rfl
  have ty : TyI w g := by
   rcases h.2 with ⟨e, -⟩ | ⟨g', cap', cur, e, -, c', -⟩
   ·cases e
   ·injection e with e; injection e with e; injection e with e
    subst e
    exact ⟨_, _, c'⟩
  refine ⟨⟨rfl, .inr ⟨g, 0, rfl, hlt.1, hlt.2, fun i hi' => ⟨?_, World.ownsRow.frozenAt h _⟩⟩⟩, fun a ha => ?_, vAs_nodup (g := g) (o := 0) rfl, fun a ha => ?_⟩
  ·rw [Nat.zero_add]; exact h.cell hi'
  ·obtain ⟨i, -, rfl⟩ := mem_vAs.1 ha; exact ty
  ·obtain ⟨i, -, rfl⟩ := mem_vAs.1 ha; exact hlt.1
theorem infoWr : ∃ i, Try.prog.info? 48 = some i ∧ i.zero = some (.agg #[.int .i64 0, .slice none 0 0]) ∧ i.size = 2 ∧ i.bytes = 32 := ⟨_, rfl, rfl, rfl, rfl⟩
theorem wp_rec {o : Oper} {a : Act} {w : World} {K : Act → World → Prop} {Q : Exit → Act → World → Prop} (s x : Operand) (ho : o.op = .call { callee := .builtin .append, args := #[s, x], argTypes := #[44, 44] })
  (base : Nat) (v : Value) (n : Nat) (xs : List Value) (hs : a.eval s = v) (hown : w.ownsRow base 48 2 v n xs) (g0 : Nat) (u0 u1 : Value) (hu0 : u0.oneCell' = true) (hu1 : u1.oneCell' = true) (hx : a.eval x = .slice (some ⟨g0, 0, none⟩) 1 1) (hc0 : w.cell? ⟨g0, 0, none⟩ = some u0) (hc1 : w.cell? ⟨g0, 1, none⟩ = some u1) (hn : n ≤ 1073741824) (hbase : base ≤ w.heap.size)
  (h : ∀ g cap w', w'.ownsRow base 48 2 (.slice (some ⟨g, 0, none⟩) (n + 1) cap) (n + 1) (xs ++ [u0, u1]) → w.grownBy w' v.ownBlock → (v.ownBlock = some g ∨ w.heap.size ≤ g) → g < w'.heap.size → K (a.put o.dst (.slice (some ⟨g, 0, none⟩) (n + 1) cap)) w') : Oper.wp Try.prog o a w K Q := by
 obtain ⟨i0, hi, hz0, hz1, hz2⟩ := infoWr
 refine wp_append_lies w s x 44 ho base 48 i0 _ 2 32 Try.underlying44 hi hz0 hz1 hz2 rfl (by decide) v n xs hs hown ⟨g0, 0, none⟩ 1 1 [u0, u1] hx rfl (fun j u' hj => ?_) (fun u' hu' => by simp at hu'; rcases hu' with rfl | rfl <;> assumption) (by decide) (by unfold maxLen; omega) (by omega) hbase _ rfl ?_
 ·match j, hj with
  | 0, hj => simp at hj; subst hj; simpa [Addr.add] using hc0
  | 1, hj => simp at hj; subst hj; simpa [Addr.add] using hc1
  | j + 2, hj => simp at hj
 ·intro g cap w' q1 q2 q3 q4
  exact h g cap w' q1 q2 (by rcases q3 with q3 | q3 <;> first | exact .inl q3 | exact .inr (by omega)) q4
theorem step_rec {ops : Array Oper} {o : Oper} {a : Act} {K : Act → World → Prop} {Q : Exit → Act → World → Prop} {E : Prop} (hgd : o.guard = none) (s x : Operand) (ho : o.op = .call { callee := .builtin .append, args := #[s, x], argTypes := #[44, 44] })
  (w : World) (base : Nat) (v : Value) (n : Nat) (xs : List Value) (hs : a.eval s = v) (hown : w.ownsRow base 48 2 v n xs) (g0 : Nat) (u0 u1 : Value) (hu0 : u0.oneCell' = true) (hu1 : u1.oneCell' = true) (hx : a.eval x = .slice (some ⟨g0, 0, none⟩) 1 1) (hc0 : w.cell? ⟨g0, 0, none⟩ = some u0) (hc1 : w.cell? ⟨g0, 1, none⟩ = some u1) (hn : n ≤ 1073741824) (hbase : base ≤ w.heap.size)
  (h : ∀ g cap w', w'.ownsRow base 48 2 (.slice (some ⟨g, 0, none⟩) (n + 1) cap) (n + 1) (xs ++ [u0, u1]) → w.grownBy w' v.ownBlock → (v.ownBlock = some g ∨ w.heap.size ≤ g) → g < w'.heap.size → K (a.put o.dst (.slice (some ⟨g, 0, none⟩) (n + 1) cap)) w') : if Region.wanted o (yielded ops a.tmps) = true then Oper.wp Try.prog o a w K Q else E := by
 have hw : Region.wanted o (yielded ops a.tmps) = true := by simp [Region.wanted, hgd]
 rw [if_pos hw]
 exact wp_rec s x ho base v n xs hs hown g0 u0 u1 hu0 hu1 hx hc0 hc1 hn hbase h
end Go.Proofs.Ytepfpbcjklaenaa
