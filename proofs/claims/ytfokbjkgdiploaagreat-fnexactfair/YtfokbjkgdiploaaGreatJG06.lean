/- Append of a whole row of integers, or of notes, onto an empty row that a call has made. Conditions: fewer than 2^30 of them. What a walk through a law carries from call to call: boxes, rows and sources between two blocks, and what a call that writes over a source leaves. Conditions: none of its own. -/
import Derived.Test.YtfokbjkgdiploaaGreatJG00
import Derived.Test.YtfokbjkgdiploaaGreatJG03
import Derived.Test.YtfokbjkgdiploaaGreatJG02
import Derived.Test.YtfokbjkgdiploaaGreatJG04
import Derived.Test.YtfokbjkgdiploaaGreatJG05
namespace Go.Proofs.YtfokbjkgdiploaaGreat
section
set_option linter.unusedSimpArgs false
set_option linter.unusedVariables false
set_option maxRecDepth 100000
open Go.RowKit
structure Copied (w w' : World) (sv : Option Addr) (cv : Nat) (base n : Nat) (s' : Option Addr) (c' : Nat) : Prop where
 far : ∀ k, k < w.heap.size → (Value.slice sv 0 cv).ownBlock ≠ some k → w'.heap[k]? = w.heap[k]?
 low : Below base w w'
 blk : ∀ k, (Value.slice s' n c').ownBlock = some k → w.heap.size ≤ k ∨ (Value.slice sv 0 cv).ownBlock = some k
theorem wp_copyI {o : Oper} {a : Act} {w : World} {K : Act → World → Prop} {Q : Exit → Act → World → Prop} (s x : Operand) (hty : o.type = 22) (ho : o.op = .call { callee := .builtin .append, args := #[s, x], argTypes := #[22, 22] })
  (base : Nat) (sv : Option Addr) (cv : Nat) (hs : a.eval s = .slice sv 0 cv) (hown : OwnN w base (.slice sv 0 cv) []) (sx : Option Addr) (c : Nat) (l : List Int) {lo hi : Nat} (hx : a.eval x = .slice sx l.length c) (hr : IntsR w lo hi sx l) (hn : l.length ≤ 1073741824) (hbase : base ≤ w.heap.size)
  (h : ∀ s' c' w', OwnN w' base (.slice s' l.length c') l → Copied w w' sv cv base l.length s' c' → K (a.put o.dst (.slice s' l.length c')) w') : Oper.wp Tryz.prog o a w K Q := by
 rcases hr with rfl | ⟨g, off, rfl, h1, h2, hc⟩
 ·have hrun := run_append_zero w base _ _ hown sx c
  unfold Oper.wp
  simp at hx
  simp [execOp, ho, resolve, invoke, builtin, hs, hx, hty, hrun, Result.andThen]
  exact h sv cv w hown ⟨fun _ _ _ => rfl, Below.refl _ _, fun k hk => .inr hk⟩
 ·rcases Nat.eq_zero_or_pos l.length with h0 | hl
  ·have e := List.length_eq_zero_iff.1 h0
   subst e
   have hrun := run_append_zero w base _ _ hown (some ⟨g, off, none⟩) c
   unfold Oper.wp
   simp at hx
   simp [execOp, ho, resolve, invoke, builtin, hs, hx, hty, hrun, Result.andThen]
   exact h sv cv w hown ⟨fun _ _ _ => rfl, Below.refl _ _, fun k hk => .inr hk⟩
  ·obtain ⟨i0, hi0, hz0, hz1, hz2⟩ := infoInt
   refine wp_append_lies w s x 22 ho base 3 i0 _ 1 8 Tryz.underlying22 hi0 hz0 hz1 hz2 rfl (by decide) _ 0 _ hs hown ⟨g, off, none⟩ l.length c (l.map (Value.int .i64)) hx (by simp) (news_row hc) (fun u hu => by obtain ⟨z, -, rfl⟩ := List.mem_map.1 hu; rfl) hl (by unfold maxLen; omega) (by omega) hbase _ rfl ?_
   intro g' cap w' q1 q2 q3 q4
   have hb : Below base w w' := Below.grown (Below.refl _ _) q2 hbase (fun j hj => (World.ownsRow.lt hown _ hj).1)
   rw [Nat.zero_add]
   rw [Nat.zero_add] at q1
   refine h _ _ w' (by show w'.ownsRow base 3 1 _ l.length (l.map (Value.int .i64)); exact q1) ⟨fun k hk hne => q2.block k hk (fun e => hne e.symm), hb, fun k hk => ?_⟩
   injection hk with hk
   rcases q3 with q3 | q3
   ·exact .inr (by rw [q3]; exact congrArg some hk)
   ·exact .inl (by have : g' = k := hk; omega)
theorem app_copyI {ops : Array Oper} {rest : List Oper} {o : Oper} {a : Act} {Q : Exit → Act → World → Prop} (hgd : o.guard = none) (s x : Operand) (hty : o.type = 22) (ho : o.op = .call { callee := .builtin .append, args := #[s, x], argTypes := #[22, 22] }) (w : World)
  (base : Nat) (sv : Option Addr) (cv : Nat) (hs : a.eval s = .slice sv 0 cv) (hown : OwnN w base (.slice sv 0 cv) []) (sx : Option Addr) (c : Nat) (l : List Int) {lo hi : Nat} (hx : a.eval x = .slice sx l.length c) (hr : IntsR w lo hi sx l) (hn : l.length ≤ 1073741824) (hbase : base ≤ w.heap.size)
  (h : ∀ s' c' w', OwnN w' base (.slice s' l.length c') l → Copied w w' sv cv base l.length s' c' → wpList Tryz.prog ops Q rest (a.put o.dst (.slice s' l.length c')) w') : wpList Tryz.prog ops Q (o :: rest) a w :=
 wpList_plain hgd fun _ hK => wp_copyI s x hty ho base sv cv hs hown sx c l hx hr hn hbase fun s' c' w' h1 h2 => hK _ _ (h s' c' w' h1 h2)
theorem infoD : ∃ i, Tryz.prog.info? 99 = some i ∧ i.zero = some (.agg #[.int .i64 0, .int .i64 0]) ∧ i.size = 2 ∧ i.bytes = 16 := ⟨_, rfl, rfl, rfl, rfl⟩
theorem run_append_zeroD (w : World) (base : Nat) (v : Value) (l : List ND) (hown : OwnD w base v l) (s : Option Addr) (c : Nat) :
  (Builtin.append_ #[35, 35] 35 #[v, .slice s 0 c]).run Tryz.prog w = .ok v w := by
 obtain ⟨i0, hi, hz0, hz1, hz2⟩ := infoD
 rcases hown.2 with ⟨rfl, -⟩ | ⟨g, cap, cur, rfl, _, _, hnc, _⟩
 ·cases s <;> simp [Builtin.append_, run_underlying Tryz.underlying35, sizeOf, typeInfo, hi, Builtin.lenOf, Builtin.firstCells, loadCells, loadCellsFrom, storeCells]
 ·cases s <;> simp [Builtin.append_, run_underlying Tryz.underlying35, sizeOf, typeInfo, hi, Builtin.lenOf, Builtin.firstCells, hnc, storeCells, loadCells, loadCellsFrom, storeCells]
theorem news_notes {w : World} {g o : Nat} {l : List ND} (hc : ∀ (i : Nat) (n : ND), l[i]? = some n → NtR w g (o + i * 2) n) : ∀ j u, (flatN l)[j]? = some u → w.cell? (Addr.add ⟨g, o, none⟩ j) = some u := by
 intro j u hu
 have hj : j < l.length * 2 := by have := (List.getElem?_eq_some_iff.1 hu).1; rw [flatN_len] at this; exact this
 have ea : (Addr.add ⟨g, o, none⟩ j) = ⟨g, o + j, none⟩ := by
  by_cases h : j = 0
  ·subst h; rfl
  ·simp [Addr.add, h]
 have hi : j / 2 < l.length := by omega
 have h1 := hc (j / 2) _ (List.getElem?_eq_getElem hi)
 obtain ⟨e0, e1⟩ := flatN_at l (j / 2) _ (List.getElem?_eq_getElem hi)
 rw [ea]
 rcases (show j = j / 2 * 2 ∨ j = j / 2 * 2 + 1 by omega) with e | e
 ·rw [e, e0] at hu
  rw [e, ← hu]
  exact h1.1
 ·rw [e, e1] at hu
  rw [e, ← hu]
  exact h1.2
theorem flatN_one : ∀ (l : List ND), ∀ u ∈ flatN l, u.oneCell' = true
 | [], u, h => by simp [flatN] at h
 | x :: r, u, h => by
  simp only [flatN, List.mem_append, List.mem_cons, List.not_mem_nil, or_false] at h
  rcases h with (rfl | rfl) | h
  ·rfl
  ·rfl
  ·exact flatN_one r u h
theorem wp_copyD {o : Oper} {a : Act} {w : World} {K : Act → World → Prop} {Q : Exit → Act → World → Prop} (s x : Operand) (hty : o.type = 35) (ho : o.op = .call { callee := .builtin .append, args := #[s, x], argTypes := #[35, 35] })
  (base : Nat) (sv : Option Addr) (cv : Nat) (hs : a.eval s = .slice sv 0 cv) (hown : OwnD w base (.slice sv 0 cv) []) (sx : Option Addr) (c : Nat) (l : List ND) {lo hi : Nat} (hx : a.eval x = .slice sx l.length c) (hr : NtsR w lo hi sx l) (hn : l.length ≤ 1073741824) (hbase : base ≤ w.heap.size)
  (h : ∀ s' c' w', OwnD w' base (.slice s' l.length c') l → Copied w w' sv cv base l.length s' c' → K (a.put o.dst (.slice s' l.length c')) w') : Oper.wp Tryz.prog o a w K Q := by
 rcases Nat.eq_zero_or_pos l.length with h0 | hl
 ·have e := List.length_eq_zero_iff.1 h0
  subst e
  have hrun := run_append_zeroD w base _ _ hown sx c
  unfold Oper.wp
  simp at hx
  simp [execOp, ho, resolve, invoke, builtin, hs, hx, hty, hrun, Result.andThen]
  exact h sv cv w hown ⟨fun _ _ _ => rfl, Below.refl _ _, fun k hk => .inr hk⟩
 ·rcases hr with rfl | ⟨g, off, rfl, h1, h2, hc⟩
  ·simp at hl
  ·obtain ⟨i0, hi0, hz0, hz1, hz2⟩ := infoD
   refine wp_append_lies w s x 35 ho base 99 i0 _ 2 16 Tryz.underlying35 hi0 hz0 hz1 hz2 rfl (by decide) _ 0 _ hs hown ⟨g, off, none⟩ l.length c (flatN l) hx (flatN_len l) (news_notes hc) (flatN_one l) hl (by unfold maxLen; omega) (by omega) hbase _ rfl ?_
   intro g' cap w' q1 q2 q3 q4
   have hb : Below base w w' := Below.grown (Below.refl _ _) q2 hbase (fun j hj => (World.ownsRow.lt hown _ hj).1)
   rw [Nat.zero_add]
   rw [Nat.zero_add] at q1
   refine h _ _ w' q1 ⟨fun k hk hne => q2.block k hk (fun e => hne e.symm), hb, fun k hk => ?_⟩
   injection hk with hk
   rcases q3 with q3 | q3
   ·exact .inr (by rw [q3]; exact congrArg some hk)
   ·exact .inl (by have : g' = k := hk; omega)
theorem app_copyD {ops : Array Oper} {rest : List Oper} {o : Oper} {a : Act} {Q : Exit → Act → World → Prop} (hgd : o.guard = none) (s x : Operand) (hty : o.type = 35) (ho : o.op = .call { callee := .builtin .append, args := #[s, x], argTypes := #[35, 35] }) (w : World)
  (base : Nat) (sv : Option Addr) (cv : Nat) (hs : a.eval s = .slice sv 0 cv) (hown : OwnD w base (.slice sv 0 cv) []) (sx : Option Addr) (c : Nat) (l : List ND) {lo hi : Nat} (hx : a.eval x = .slice sx l.length c) (hr : NtsR w lo hi sx l) (hn : l.length ≤ 1073741824) (hbase : base ≤ w.heap.size)
  (h : ∀ s' c' w', OwnD w' base (.slice s' l.length c') l → Copied w w' sv cv base l.length s' c' → wpList Tryz.prog ops Q rest (a.put o.dst (.slice s' l.length c')) w') : wpList Tryz.prog ops Q (o :: rest) a w :=
 wpList_plain hgd fun _ hK => wp_copyD s x hty ho base sv cv hs hown sx c l hx hr hn hbase fun s' c' w' h1 h2 => hK _ _ (h s' c' w' h1 h2)
/- a call of a Go function, as a step of a region that draws its order -/
theorem stepC {ops : Array Oper} {o : Oper} {a : Act} {w : World} {K : Act → World → Prop} {Q : Exit → Act → World → Prop} {F : Prop} (f : FuncId) (args : Array Value) (hgd : o.guard = none) (xs : Array Operand) (ats : Array TypeId) (ho : o.op = .call { callee := .value (.func f), args := xs, argTypes := ats }) (hx : xs.map a.eval = args)
  (hent : ∀ (args : Array Value) (w : World), (callFunc f args).run Tryz.prog w = .ok (.enter f args) w) (h : Calls Tryz.prog f args w fun e w' => ∃ v, e = .returned v ∧ K (a.put o.dst v) w') :
  if Region.wanted o (yielded ops a.tmps) = true then Oper.wp Tryz.prog o a w K Q else F := by
 have hw : Region.wanted o (yielded ops a.tmps) = true := by simp [Region.wanted, hgd]
 rw [if_pos hw]
 obtain ⟨dst, op, ty, pos, after, guard⟩ := o
 simp only at ho
 subst ho
 unfold Oper.wp
 rw [execOp_call_go]
 have e : (#[] ++ xs.map a.eval ++ #[]) = args := by rw [hx]; simp
 rw [e, hent, Oper.upon_enter]
 refine h.mono ?_
 rintro e w' ⟨v, rfl, hk⟩
 exact hk
end
section
set_option linter.unusedSimpArgs false
set_option linter.unusedVariables false
set_option maxRecDepth 100000
open Go.RowKit
/- blocks below hi and not from lo on are as they were -/
structure Exc (lo hi : Nat) (w w' : World) : Prop where
 os : w'.os = w.os
 tape : w'.tape = w.tape
 out : w'.output = w.output
 size : w.heap.size ≤ w'.heap.size
 blk : ∀ k, k < w.heap.size → (k < lo ∨ hi ≤ k) → w'.heap[k]? = w.heap[k]?
theorem Exc.below {lo hi B : Nat} {w w' : World} (h : Exc lo hi w w') (h1 : B ≤ lo) (h2 : B ≤ w.heap.size) : Below B w w' := ⟨h.os, h.tape, h.out, h.size, fun k hk => h.blk k (by omega) (.inl (by omega))⟩
theorem Keep.of_exc {lo hi lo' hi' : Nat} {w w' : World} (h : Exc lo' hi' w w') (h1 : hi ≤ w.heap.size) (h2 : hi ≤ lo' ∨ hi' ≤ lo) : Keep lo hi w w' := fun k a b => h.blk k (by omega) (by omega)
structure Bo2 (G : Nat) (W : World) (a b : Value) : Prop where
 c0 : W.cell? ⟨G, 0, none⟩ = some a
 c1 : W.cell? ⟨G, 1, none⟩ = some b
theorem Bo2.new (w : World) (a b : Value) (T : TypeId) : ∃ W, w.alloc (.cells #[a, b] T) = W ∧ Bo2 w.heap.size W a b ∧ Below w.heap.size w W ∧ W.heap.size = w.heap.size + 1 :=
 ⟨_, rfl, ⟨by simp [go_sem], by simp [go_sem]⟩, (Below.refl _ _).alloc (Nat.le_refl _) _, by simp⟩
theorem Bo2.keep {G : Nat} {W W' : World} {a b : Value} (h : Bo2 G W a b) (hk : Keep G (G + 1) W W') : Bo2 G W' a b := ⟨(hk.cell (p := ⟨G, 0, none⟩) (Nat.le_refl _) (Nat.lt_succ_self _)).trans h.c0, (hk.cell (p := ⟨G, 1, none⟩) (Nat.le_refl _) (Nat.lt_succ_self _)).trans h.c1⟩
structure Bo3 (G : Nat) (W : World) (a b c : Value) : Prop where
 c0 : W.cell? ⟨G, 0, none⟩ = some a
 c1 : W.cell? ⟨G, 1, none⟩ = some b
 c2 : W.cell? ⟨G, 2, none⟩ = some c
theorem Bo3.new (w : World) (a b c : Value) (T : TypeId) : ∃ W, w.alloc (.cells #[a, b, c] T) = W ∧ Bo3 w.heap.size W a b c ∧ Below w.heap.size w W ∧ W.heap.size = w.heap.size + 1 :=
 ⟨_, rfl, ⟨by simp [go_sem], by simp [go_sem], by simp [go_sem]⟩, (Below.refl _ _).alloc (Nat.le_refl _) _, by simp⟩
theorem Bo3.keep {G : Nat} {W W' : World} {a b c : Value} (h : Bo3 G W a b c) (hk : Keep G (G + 1) W W') : Bo3 G W' a b c := ⟨(hk.cell (p := ⟨G, 0, none⟩) (Nat.le_refl _) (Nat.lt_succ_self _)).trans h.c0, (hk.cell (p := ⟨G, 1, none⟩) (Nat.le_refl _) (Nat.lt_succ_self _)).trans h.c1, (hk.cell (p := ⟨G, 2, none⟩) (Nat.le_refl _) (Nat.lt_succ_self _)).trans h.c2⟩
/- a row of integers, its block between two -/
structure NB (w : World) (lo hi : Nat) (v : Value) (l : List Int) : Prop where
 o : OwnN w lo v l
 h : ∀ k, v.ownBlock = some k → k < hi
theorem NB.of {w : World} {lo : Nat} {v : Value} {l : List Int} (h : OwnN w lo v l) : NB w lo w.heap.size v l := ⟨h, fun _ hk => (World.ownsRow.lt h _ hk).2⟩
theorem NB.keep {w w' : World} {lo hi : Nat} {v : Value} {l : List Int} (h : NB w lo hi v l) (hk : Keep lo hi w w') : NB w' lo hi v l := ⟨ownKeep' h.o (fun k e => hk k (World.ownsRow.lt h.o _ e).1 (h.h k e)), h.h⟩
theorem markN_exc {lo hi : Nat} {v : Value} {l : List Int} {w : World} (q : Int) (h : NB w lo hi v l) (hn : l.length ≤ 1048577) (hq : 0 ≤ q) (hq' : q ≤ 1000000000000000) :
  Calls Tryz.prog 19 #[v, .int .i64 q] w fun e w' => e = .returned (.int .i64 (q + l.length)) ∧ NB w' lo hi v (relN q l.length) ∧ Exc lo hi w w' := by
 refine (markN_any lo v l q w h.o hn hq hq').mono ?_
 rintro e w' ⟨rfl, o, z, a, b, c, f⟩
 exact ⟨rfl, ⟨o, h.h⟩, a, b, c, by omega, fun k hk hc => f k (fun e => by have := (World.ownsRow.lt h.o _ e).1; have := h.h k e; omega)⟩
/- a source, its blocks between two -/
structure SB (w : World) (lo hi : Nat) (v1 v2 v3 : Value) (L1 L2 : List (Rec × Value)) (d : SD) : Prop where
 o : OwnS w lo v1 v2 v3 L1 L2 d
 h : ∀ k, HitS v1 v2 v3 L1 L2 k → k < hi
theorem SB.of {w : World} {lo : Nat} {v1 v2 v3 : Value} {L1 L2 : List (Rec × Value)} {d : SD} (h : OwnS w lo v1 v2 v3 L1 L2 d) : SB w lo w.heap.size v1 v2 v3 L1 L2 d := ⟨h, fun _ hk => (h.hit hk).2⟩
theorem OwnS.keepB {w w' : World} {lo : Nat} {v1 v2 v3 : Value} {L1 L2 : List (Rec × Value)} {d : SD} (h : OwnS w lo v1 v2 v3 L1 L2 d) (hk : ∀ k, HitS v1 v2 v3 L1 L2 k → w'.heap[k]? = w.heap[k]?) : OwnS w' lo v1 v2 v3 L1 L2 d :=
 ⟨h.e1, h.e2, h.t.keepB (fun k e => hk k (.inl (.inl e))) (fun i x hx k e => hk k (.inl (.inr ⟨i, x, hx, e⟩))), h.c.keepB (fun k e => hk k (.inr (.inl (.inl e)))) (fun i x hx k e => hk k (.inr (.inl (.inr ⟨i, x, hx, e⟩)))), ownKeep' h.n (fun k e => hk k (.inr (.inr e))), h.sep⟩
theorem SB.keep {w w' : World} {lo hi : Nat} {v1 v2 v3 : Value} {L1 L2 : List (Rec × Value)} {d : SD} (h : SB w lo hi v1 v2 v3 L1 L2 d) (hk : Keep lo hi w w') : SB w' lo hi v1 v2 v3 L1 L2 d := ⟨h.o.keepB (fun k e => hk k (h.o.hit e).1 (h.h k e)), h.h⟩
theorem MarkedS.hit {w : World} {lo : Nat} {v1 v2 v3 : Value} {L1 L2 : List (Rec × Value)} {n : Nat} {q : Int} (h : MarkedS w lo v1 v2 v3 L1 L2 n q) {k : Nat} (hk : HitS v1 v2 v3 (mksT q L1) (mksC (q + sumQ L1) L2) k) : lo ≤ k ∧ k < w.heap.size := by
 rcases hk with hk | hk | hk
 ·exact h.t.hit hk
 ·exact h.c.hit hk
 ·exact World.ownsRow.lt h.n _ hk
structure MB (w : World) (lo hi : Nat) (v1 v2 v3 : Value) (L1 L2 : List (Rec × Value)) (n : Nat) (q : Int) : Prop where
 o : MarkedS w lo v1 v2 v3 L1 L2 n q
 h : ∀ k, HitS v1 v2 v3 (mksT q L1) (mksC (q + sumQ L1) L2) k → k < hi
theorem MB.keep {w w' : World} {lo hi : Nat} {v1 v2 v3 : Value} {L1 L2 : List (Rec × Value)} {n : Nat} {q : Int} (h : MB w lo hi v1 v2 v3 L1 L2 n q) (hk : Keep lo hi w w') : MB w' lo hi v1 v2 v3 L1 L2 n q := by
 have f : ∀ k, HitS v1 v2 v3 (mksT q L1) (mksC (q + sumQ L1) L2) k → w'.heap[k]? = w.heap[k]? := fun k e => hk k (h.o.hit e).1 (h.h k e)
 exact ⟨⟨h.o.t.keepB (fun k e => f k (.inl (.inl e))) (fun i x hx k e => f k (.inl (.inr ⟨i, x, hx, e⟩))), h.o.c.keepB (fun k e => f k (.inr (.inl (.inl e)))) (fun i x hx k e => f k (.inr (.inl (.inr ⟨i, x, hx, e⟩)))), ownKeep' h.o.n (fun k e => f k (.inr (.inr e)))⟩, h.h⟩
/- marks of a source that fits stay small -/
theorem sumQ_most : ∀ (L : List (Rec × Value)), (∀ (i : Nat) (x : Rec × Value), L[i]? = some x → x.1.l.length ≤ 1048576) → sumQ L ≤ L.length * 1048578
 | [], _ => Nat.le_refl _
 | x :: r, h => by
  have h1 := sumQ_most r (fun i y hy => h (i + 1) y (by simpa using hy))
  have h2 := h 0 x rfl
  show x.1.l.length + 2 + sumQ r ≤ (r.length + 1) * 1048578
  omega
theorem SB.room {w : World} {lo hi : Nat} {v1 v2 v3 : Value} {L1 L2 : List (Rec × Value)} {d : SD} (h : SB w lo hi v1 v2 v3 L1 L2 d) (hf : SFits d) : sumQ L1 ≤ 2000000000000 ∧ sumQ L2 ≤ 2000000000000 := by
 obtain ⟨⟨f1, f1'⟩, ⟨f2, f2'⟩, f3⟩ := hf
 have a := sumQ_most L1 (fun i x hx => by obtain ⟨t, ht, e⟩ := h.o.at1 hx; rw [e]; exact f1' i t ht)
 have b := sumQ_most L2 (fun i x hx => by obtain ⟨t, ht, e⟩ := h.o.at2 hx; rw [e]; exact f2' i t ht)
 have c := h.o.l1
 have e := h.o.l2
 omega
theorem SB.lens {w : World} {lo hi : Nat} {v1 v2 v3 : Value} {L1 L2 : List (Rec × Value)} {d : SD} (h : SB w lo hi v1 v2 v3 L1 L2 d) (hf : SFits d) : L1.length ≤ 1048577 ∧ (∀ (i : Nat) (x : Rec × Value), L1[i]? = some x → x.1.l.length ≤ 1048577) ∧ L2.length ≤ 1048577 ∧ (∀ (i : Nat) (x : Rec × Value), L2[i]? = some x → x.1.l.length ≤ 1048577) ∧ d.tr.length ≤ 1048577 := by
 obtain ⟨⟨f1, f1'⟩, ⟨f2, f2'⟩, f3⟩ := hf
 have c := h.o.l1
 have e := h.o.l2
 refine ⟨by omega, fun i x hx => ?_, by omega, fun i x hx => ?_, by omega⟩
 ·obtain ⟨t, ht, e⟩ := h.o.at1 hx; rw [e]; exact Nat.le_succ_of_le (f1' i t ht)
 ·obtain ⟨t, ht, e⟩ := h.o.at2 hx; rw [e]; exact Nat.le_succ_of_le (f2' i t ht)
theorem markSource_exc {lo hi : Nat} {v1 v2 v3 : Value} {L1 L2 : List (Rec × Value)} {d : SD} {w : World} (q : Int) (h : SB w lo hi v1 v2 v3 L1 L2 d) (hf : SFits d) (hq : 0 ≤ q) (hq' : q ≤ 500000000000000) :
  Calls Tryz.prog 18 #[.agg #[v1, v2, v3], .int .i64 q] w fun e w' => e = .returned (.int .i64 (q + sumQ L1 + sumQ L2 + 2 * d.tr.length)) ∧ MB w' lo hi v1 v2 v3 L1 L2 d.tr.length q ∧ Exc lo hi w w' := by
 have hr := h.room hf
 have hf3 := hf.2.2
 refine (markSource_any lo v1 v2 v3 L1 L2 d q w h.o hf hq (by omega)).mono ?_
 rintro e w' ⟨rfl, o, z, a, b, c, f⟩
 have hs : ∀ k, HitS v1 v2 v3 (mksT q L1) (mksC (q + sumQ L1) L2) k → HitS v1 v2 v3 L1 L2 k := by
  rintro k ((e | ⟨i, x, hx, e⟩) | (e | ⟨i, x, hx, e⟩) | e)
  ·exact .inl (.inl e)
  ·obtain ⟨y, hy, ey⟩ := mksT_own _ _ _ _ hx
   exact .inl (.inr ⟨i, y, hy, by rw [← ey]; exact e⟩)
  ·exact .inr (.inl (.inl e))
  ·obtain ⟨y, hy, ey⟩ := mksC_own _ _ _ _ hx
   exact .inr (.inl (.inr ⟨i, y, hy, by rw [← ey]; exact e⟩))
  ·exact .inr (.inr e)
 exact ⟨rfl, ⟨o, fun k hk => h.h k (hs k hk)⟩, a, b, c, z, fun k hk hc => f k hk (fun e => by have := (h.o.hit e).1; have := h.h k e; omega)⟩
theorem eqN_true {lo hi lo' hi' : Nat} {s s' : Option Addr} (c c' : Nat) {l : List Int} {w : World} (h : IntsR w lo hi s l) (h' : IntsR w lo' hi' s' l) (hB : hi ≤ w.heap.size) (hB' : hi' ≤ w.heap.size) (hl : l.length ≤ 1048577) :
  Calls Tryz.prog 15 #[.slice s l.length c, .slice s' l.length c'] w fun e w' => e = .returned (.bool true) ∧ Below w.heap.size w w' := by
 refine (eqIntS_any s s' l l c c' w (h.ints hB) (h'.ints hB') (by omega)).mono ?_
 rintro e w' ⟨rfl, n, rfl⟩
 exact ⟨by simp, rfl, rfl, rfl, Nat.le_refl _, fun _ _ => rfl⟩
end
end Go.Proofs.YtfokbjkgdiploaaGreat
