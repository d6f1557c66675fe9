/- Append of a whole row of integers, or of notes, onto an empty row that a call has made. Conditions: fewer than 2^30 of them. What a walk through a law carries from call to call: boxes, rows and sources between two blocks, and what a call that writes over a source leaves. Conditions: none of its own. -/
import Derived.Test.YtknffngbdakblaaJG00
import Derived.Test.YtknffngbdakblaaJG01
import Derived.Test.YtknffngbdakblaaJChDefs
import Derived.Test.YtknffngbdakblaaJRecApp
import Derived.Test.YtknffngbdakblaaJG03
namespace Go.Proofs.Ytknffngbdakblaa
section
set_option linter.unusedSimpArgs false
set_option linter.unusedVariables false
set_option maxRecDepth 100000
open Go.RowKit
structure Copied (w w' : World) (sv : Option Addr) (cv : Nat) (base n : Nat) (s' : Option Addr) (c' : Nat) : Prop where
 far : ∀ k, k < w.heap.size → (Value.slice sv 0 cv).ownBlock ≠ some k → w'.heap[k]? = w.heap[k]?
 low : Below base w w'
 blk : ∀ k, (Value.slice s' n c').ownBlock = some k → w.heap.size ≤ k ∨ (Value.slice sv 0 cv).ownBlock = some k
theorem wp_copyI {o : Oper} {a : Act} {w : World} {K : Act → World → Prop} {Q : Exit → Act → World → Prop} (s x : Operand) (hty : o.type = 31) (ho : o.op = .call { callee := .builtin .append, args := #[s, x], argTypes := #[31, 31] })
  (base : Nat) (sv : Option Addr) (cv : Nat) (hs : a.eval s = .slice sv 0 cv) (hown : OwnN w base (.slice sv 0 cv) []) (sx : Option Addr) (c : Nat) (l : List Int) {lo hi : Nat} (hx : a.eval x = .slice sx l.length c) (hr : IntsR w lo hi sx l) (hn : l.length ≤ 1073741824) (hbase : base ≤ w.heap.size)
  (h : ∀ s' c' w', OwnN w' base (.slice s' l.length c') l → Copied w w' sv cv base l.length s' c' → K (a.put o.dst (.slice s' l.length c')) w') : Oper.wp Try.prog o a w K Q := by
 rcases hr with rfl | ⟨g, off, rfl, h1, h2, hc⟩
 ·have hrun := run_append_zero w base _ _ hown sx c
  unfold Oper.wp
  simp at hx
  simp [execOp, ho, resolve, invoke, builtin, hs, hx, hty, hrun, Result.andThen]
  exact h sv cv w hown ⟨fun _ _ _ => rfl, Below.refl _ _, fun k hk => .inr hk⟩
 ·rcases Nat.eq_zero_or_pos l.length with h0 | hl
  ·have e := List.length_eq_zero_iff.1 h0
   subst e
   have hrun := run_append_zero w base _ _ hown (some ⟨g, off, none⟩) c
   unfold Oper.wp
   simp at hx
   simp [execOp, ho, resolve, invoke, builtin, hs, hx, hty, hrun, Result.andThen]
   exact h sv cv w hown ⟨fun _ _ _ => rfl, Below.refl _ _, fun k hk => .inr hk⟩
  ·obtain ⟨i0, hi0, hz0, hz1, hz2⟩ := infoInt
   refine wp_append_lies w s x 31 ho base 3 i0 _ 1 8 Try.underlying31 hi0 hz0 hz1 hz2 rfl (by decide) _ 0 _ hs hown ⟨g, off, none⟩ l.length c (l.map (Value.int .i64)) hx (by simp) (news_row hc) (fun u hu => by obtain ⟨z, -, rfl⟩ := List.mem_map.1 hu; rfl) hl (by unfold maxLen; omega) (by omega) hbase _ rfl ?_
   intro g' cap w' q1 q2 q3 q4
   have hb : Below base w w' := Below.grown (Below.refl _ _) q2 hbase (fun j hj => (World.ownsRow.lt hown _ hj).1)
   rw [Nat.zero_add]
   rw [Nat.zero_add] at q1
   refine h _ _ w' (by show w'.ownsRow base 3 1 _ l.length (l.map (Value.int .i64)); exact q1) ⟨fun k hk hne => q2.block k hk (fun e => hne e.symm), hb, fun k hk => ?_⟩
   injection hk with hk
   rcases q3 with q3 | q3
   ·exact .inr (by rw [q3]; exact congrArg some hk)
   ·exact .inl (by have : g' = k := hk; omega)
theorem app_copyI {ops : Array Oper} {rest : List Oper} {o : Oper} {a : Act} {Q : Exit → Act → World → Prop} (hgd : o.guard = none) (s x : Operand) (hty : o.type = 31) (ho : o.op = .call { callee := .builtin .append, args := #[s, x], argTypes := #[31, 31] }) (w : World)
  (base : Nat) (sv : Option Addr) (cv : Nat) (hs : a.eval s = .slice sv 0 cv) (hown : OwnN w base (.slice sv 0 cv) []) (sx : Option Addr) (c : Nat) (l : List Int) {lo hi : Nat} (hx : a.eval x = .slice sx l.length c) (hr : IntsR w lo hi sx l) (hn : l.length ≤ 1073741824) (hbase : base ≤ w.heap.size)
  (h : ∀ s' c' w', OwnN w' base (.slice s' l.length c') l → Copied w w' sv cv base l.length s' c' → wpList Try.prog ops Q rest (a.put o.dst (.slice s' l.length c')) w') : wpList Try.prog ops Q (o :: rest) a w :=
 wpList_plain hgd fun _ hK => wp_copyI s x hty ho base sv cv hs hown sx c l hx hr hn hbase fun s' c' w' h1 h2 => hK _ _ (h s' c' w' h1 h2)
theorem infoD : ∃ i, Try.prog.info? 35 = some i ∧ i.zero = some (.agg #[.int .i64 0, .int .i64 0]) ∧ i.size = 2 ∧ i.bytes = 16 := ⟨_, rfl, rfl, rfl, rfl⟩
theorem run_append_zeroD (w : World) (base : Nat) (v : Value) (l : List ND) (hown : OwnD w base v l) (s : Option Addr) (c : Nat) :
  (Builtin.append_ #[26, 26] 26 #[v, .slice s 0 c]).run Try.prog w = .ok v w := by
 obtain ⟨i0, hi, hz0, hz1, hz2⟩ := infoD
 rcases hown.2 with ⟨rfl, -⟩ | ⟨g, cap, cur, rfl, _, _, hnc, _⟩
 ·cases s <;> simp [Builtin.append_, run_underlying Try.underlying26, sizeOf, typeInfo, hi, Builtin.lenOf, Builtin.firstCells, loadCells, loadCellsFrom, storeCells]
 ·cases s <;> simp [Builtin.append_, run_underlying Try.underlying26, sizeOf, typeInfo, hi, Builtin.lenOf, Builtin.firstCells, hnc, storeCells, loadCells, loadCellsFrom, storeCells]
theorem news_notes {w : World} {g o : Nat} {l : List ND} (hc : ∀ (i : Nat) (n : ND), l[i]? = some n → NtR w g (o + i * 2) n) : ∀ j u, (flatN l)[j]? = some u → w.cell? (Addr.add ⟨g, o, none⟩ j) = some u := by
 intro j u hu
 have hj : j < l.length * 2 := by have := (List.getElem?_eq_some_iff.1 hu).1; rw [flatN_len] at this; exact this
 have ea : (Addr.add ⟨g, o, none⟩ j) = ⟨g, o + j, none⟩ := by
  by_cases h : j = 0
  ·subst h; rfl
  ·simp [Addr.add, h]
 have hi : j / 2 < l.length := by omega
 have h1 := hc (j / 2) _ (List.getElem?_eq_getElem hi)
 obtain ⟨e0, e1⟩ := flatN_at l (j / 2) _ (List.getElem?_eq_getElem hi)
 rw [ea]
 rcases (show j = j / 2 * 2 ∨ j = j / 2 * 2 + 1 by omega) with e | e
 ·rw [e, e0] at hu
  rw [e, ← hu]
  exact h1.1
 ·rw [e, e1] at hu
  rw [e, ← hu]
  exact h1.2
theorem flatN_one : ∀ (l : List ND), ∀ u ∈ flatN l, u.oneCell' = true
 | [], u, h => by simp [flatN] at h
 | x :: r, u, h => by
  simp only [flatN, List.mem_append, List.mem_cons, List.not_mem_nil, or_false] at h
  rcases h with (rfl | rfl) | h
  ·rfl
  ·rfl
  ·exact flatN_one r u h
theorem wp_copyD {o : Oper} {a : Act} {w : World} {K : Act → World → Prop} {Q : Exit → Act → World → Prop} (s x : Operand) (hty : o.type = 26) (ho : o.op = .call { callee := .builtin .append, args := #[s, x], argTypes := #[26, 26] })
  (base : Nat) (sv : Option Addr) (cv : Nat) (hs : a.eval s = .slice sv 0 cv) (hown : OwnD w base (.slice sv 0 cv) []) (sx : Option Addr) (c : Nat) (l : List ND) {lo hi : Nat} (hx : a.eval x = .slice sx l.length c) (hr : NtsR w lo hi sx l) (hn : l.length ≤ 1073741824) (hbase : base ≤ w.heap.size)
  (h : ∀ s' c' w', OwnD w' base (.slice s' l.length c') l → Copied w w' sv cv base l.length s' c' → K (a.put o.dst (.slice s' l.length c')) w') : Oper.wp Try.prog o a w K Q := by
 rcases Nat.eq_zero_or_pos l.length with h0 | hl
 ·have e := List.length_eq_zero_iff.1 h0
  subst e
  have hrun := run_append_zeroD w base _ _ hown sx c
  unfold Oper.wp
  simp at hx
  simp [execOp, ho, resolve, invoke, builtin, hs, hx, hty, hrun, Result.andThen]
  exact h sv cv w hown ⟨fun _ _ _ => rfl, Below.refl _ _, fun k hk => .inr hk⟩
 ·rcases hr with rfl | ⟨g, off, rfl, h1, h2, hc⟩
  ·simp at hl
  ·obtain ⟨i0, hi0, hz0, hz1, hz2⟩ := infoD
   refine wp_append_lies w s x 26 ho base 35 i0 _ 2 16 Try.underlying26 hi0 hz0 hz1 hz2 rfl (by decide) _ 0 _ hs hown ⟨g, off, none⟩ l.length c (flatN l) hx (flatN_len l) (news_notes hc) (flatN_one l) hl (by unfold maxLen; omega) (by omega) hbase _ rfl ?_
   intro g' cap w' q1 q2 q3 q4
   have hb : Below base w w' := Below.grown (Below.refl _ _) q2 hbase (fun j hj => (World.ownsRow.lt hown _ hj).1)
   rw [Nat.zero_add]
   rw [Nat.zero_add] at q1
   refine h _ _ w' q1 ⟨fun k hk hne => q2.block k hk (fun e => hne e.symm), hb, fun k hk => ?_⟩
   injection hk with hk
   rcases q3 with q3 | q3
   ·exact .inr (by rw [q3]; exact congrArg some hk)
   ·exact .inl (by have : g' = k := hk; omega)
theorem app_copyD {ops : Array Oper} {rest : List Oper} {o : Oper} {a : Act} {Q : Exit → Act → World → Prop} (hgd : o.guard = none) (s x : Operand) (hty : o.type = 26) (ho : o.op = .call { callee := .builtin .append, args := #[s, x], argTypes := #[26, 26] }) (w : World)
  (base : Nat) (sv : Option Addr) (cv : Nat) (hs : a.eval s = .slice sv 0 cv) (hown : OwnD w base (.slice sv 0 cv) []) (sx : Option Addr) (c : Nat) (l : List ND) {lo hi : Nat} (hx : a.eval x = .slice sx l.length c) (hr : NtsR w lo hi sx l) (hn : l.length ≤ 1073741824) (hbase : base ≤ w.heap.size)
  (h : ∀ s' c' w', OwnD w' base (.slice s' l.length c') l → Copied w w' sv cv base l.length s' c' → wpList Try.prog ops Q rest (a.put o.dst (.slice s' l.length c')) w') : wpList Try.prog ops Q (o :: rest) a w :=
 wpList_plain hgd fun _ hK => wp_copyD s x hty ho base sv cv hs hown sx c l hx hr hn hbase fun s' c' w' h1 h2 => hK _ _ (h s' c' w' h1 h2)
/- a call of a Go function, as a step of a region that draws its order -/
theorem stepC {ops : Array Oper} {o : Oper} {a : Act} {w : World} {K : Act → World → Prop} {Q : Exit → Act → World → Prop} {F : Prop} (f : FuncId) (args : Array Value) (hgd : o.guard = none) (xs : Array Operand) (ats : Array TypeId) (ho : o.op = .call { callee := .value (.func f), args := xs, argTypes := ats }) (hx : xs.map a.eval = args)
  (hent : ∀ (args : Array Value) (w : World), (callFunc f args).run Try.prog w = .ok (.enter f args) w) (h : Calls Try.prog f args w fun e w' => ∃ v, e = .returned v ∧ K (a.put o.dst v) w') :
  if Region.wanted o (yielded ops a.tmps) = true then Oper.wp Try.prog o a w K Q else F := by
 have hw : Region.wanted o (yielded ops a.tmps) = true := by simp [Region.wanted, hgd]
 rw [if_pos hw]
 obtain ⟨dst, op, ty, pos, after, guard⟩ := o
 simp only at ho
 subst ho
 unfold Oper.wp
 rw [execOp_call_go]
 have e : (#[] ++ xs.map a.eval ++ #[]) = args := by rw [hx]; simp
 rw [e, hent, Oper.upon_enter]
 refine h.mono ?_
 rintro e w' ⟨v, rfl, hk⟩
 exact hk
end
section
set_option linter.unusedSimpArgs false
set_option linter.unusedVariables false
set_option maxRecDepth 100000
open Go.RowKit
structure Bo2 (G : Nat) (W : World) (a b : Value) : Prop where
 c0 : W.cell? ⟨G, 0, none⟩ = some a
 c1 : W.cell? ⟨G, 1, none⟩ = some b
theorem Bo2.new (w : World) (a b : Value) (T : TypeId) : ∃ W, w.alloc (.cells #[a, b] T) = W ∧ Bo2 w.heap.size W a b ∧ Below w.heap.size w W ∧ W.heap.size = w.heap.size + 1 :=
 ⟨_, rfl, ⟨by simp [go_sem], by simp [go_sem]⟩, (Below.refl _ _).alloc (Nat.le_refl _) _, by simp⟩
theorem Bo2.keep {G : Nat} {W W' : World} {a b : Value} (h : Bo2 G W a b) (hk : Keep G (G + 1) W W') : Bo2 G W' a b := ⟨(hk.cell (p := ⟨G, 0, none⟩) (Nat.le_refl _) (Nat.lt_succ_self _)).trans h.c0, (hk.cell (p := ⟨G, 1, none⟩) (Nat.le_refl _) (Nat.lt_succ_self _)).trans h.c1⟩
structure Bo3 (G : Nat) (W : World) (a b c : Value) : Prop where
 c0 : W.cell? ⟨G, 0, none⟩ = some a
 c1 : W.cell? ⟨G, 1, none⟩ = some b
 c2 : W.cell? ⟨G, 2, none⟩ = some c
theorem Bo3.new (w : World) (a b c : Value) (T : TypeId) : ∃ W, w.alloc (.cells #[a, b, c] T) = W ∧ Bo3 w.heap.size W a b c ∧ Below w.heap.size w W ∧ W.heap.size = w.heap.size + 1 :=
 ⟨_, rfl, ⟨by simp [go_sem], by simp [go_sem], by simp [go_sem]⟩, (Below.refl _ _).alloc (Nat.le_refl _) _, by simp⟩
theorem Bo3.keep {G : Nat} {W W' : World} {a b c : Value} (h : Bo3 G W a b c) (hk : Keep G (G + 1) W W') : Bo3 G W' a b c := ⟨(hk.cell (p := ⟨G, 0, none⟩) (Nat.le_refl _) (Nat.lt_succ_self _)).trans h.c0, (hk.cell (p := ⟨G, 1, none⟩) (Nat.le_refl _) (Nat.lt_succ_self _)).trans h.c1, (hk.cell (p := ⟨G, 2, none⟩) (Nat.le_refl _) (Nat.lt_succ_self _)).trans h.c2⟩
theorem OwnS.keepB {w w' : World} {lo : Nat} {v1 v2 v3 : Value} {L1 L2 : List (Rec × Value)} {d : SD} (h : OwnS w lo v1 v2 v3 L1 L2 d) (hk : ∀ k, HitS v1 v2 v3 L1 L2 k → w'.heap[k]? = w.heap[k]?) : OwnS w' lo v1 v2 v3 L1 L2 d :=
 ⟨h.e1, h.e2, h.t.keepB (fun k e => hk k (.inl (.inl e))) (fun i x hx k e => hk k (.inl (.inr ⟨i, x, hx, e⟩))), h.c.keepB (fun k e => hk k (.inr (.inl (.inl e)))) (fun i x hx k e => hk k (.inr (.inl (.inr ⟨i, x, hx, e⟩)))), ownKeep' h.n (fun k e => hk k (.inr (.inr e))), h.sep⟩
end
end Go.Proofs.Ytknffngbdakblaa
