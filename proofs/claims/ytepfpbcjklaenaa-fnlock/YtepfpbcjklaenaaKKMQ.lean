/- Machines that run: all their rows owned whole; append of notes. Conditions: fewer than 2^30 of them. -/
import Derived.Test.YtepfpbcjklaenaaKG00
import Derived.Test.YtepfpbcjklaenaaKG01
import Derived.Test.YtepfpbcjklaenaaKG03
import Derived.Test.YtepfpbcjklaenaaKG04
import Derived.Test.YtepfpbcjklaenaaKG02
import Derived.Test.YtepfpbcjklaenaaKKApp
import Derived.Test.YtepfpbcjklaenaaKMemDupS
import Derived.Test.YtepfpbcjklaenaaKG06
namespace Go.Proofs.Ytepfpbcjklaenaa
set_option linter.unusedSimpArgs false
set_option linter.unusedVariables false
set_option maxRecDepth 100000
open Go.RowKit
theorem infoD : ∃ i, Try.prog.info? 78 = some i ∧ i.zero = some (.agg #[.int .i64 0, .int .i64 0]) ∧ i.size = 2 ∧ i.bytes = 16 := ⟨_, rfl, rfl, rfl, rfl⟩
theorem run_append_zeroD (w : World) (base : Nat) (v : Value) (l : List ND) (hown : OwnD w base v l) (s : Option Addr) (c : Nat) :
  (Builtin.append_ #[32, 32] 32 #[v, .slice s 0 c]).run Try.prog w = .ok v w := by
 obtain ⟨i0, hi, hz0, hz1, hz2⟩ := infoD
 rcases hown.2 with ⟨rfl, -⟩ | ⟨g, cap, cur, rfl, _, _, hnc, _⟩
 ·cases s <;> simp [Builtin.append_, run_underlying Try.underlying32, sizeOf, typeInfo, hi, Builtin.lenOf, Builtin.firstCells, loadCells, loadCellsFrom, storeCells]
 ·cases s <;> simp [Builtin.append_, run_underlying Try.underlying32, sizeOf, typeInfo, hi, Builtin.lenOf, Builtin.firstCells, hnc, storeCells, loadCells, loadCellsFrom, storeCells]
theorem news_notes {w : World} {g o : Nat} {l : List ND} (hc : ∀ (i : Nat) (n : ND), l[i]? = some n → NtR w g (o + i * 2) n) : ∀ j u, (flatN l)[j]? = some u → w.cell? (Addr.add ⟨g, o, none⟩ j) = some u := by
 intro j u hu
 have hj : j < l.length * 2 := by have := (List.getElem?_eq_some_iff.1 hu).1; rw [flatN_len] at this; exact this
 have ea : (Addr.add ⟨g, o, none⟩ j) = ⟨g, o + j, none⟩ := by
  by_cases h : j = 0
  ·subst h; rfl
  ·simp [Addr.add, h]
 have hi : j / 2 < l.length := by omega
 have h1 := hc (j / 2) _ (List.getElem?_eq_getElem hi)
 obtain ⟨e0, e1⟩ := flatN_at l (j / 2) _ (List.getElem?_eq_getElem hi)
 rw [ea]
 rcases (show j = j / 2 * 2 ∨ j = j / 2 * 2 + 1 by omega) with e | e
 ·rw [e, e0] at hu
  rw [e, ← hu]
  exact h1.1
 ·rw [e, e1] at hu
  rw [e, ← hu]
  exact h1.2
theorem flatN_one : ∀ (l : List ND), ∀ u ∈ flatN l, u.oneCell' = true
 | [], u, h => by simp [flatN] at h
 | x :: r, u, h => by
  simp only [flatN, List.mem_append, List.mem_cons, List.not_mem_nil, or_false] at h
  rcases h with (rfl | rfl) | h
  ·rfl
  ·rfl
  ·exact flatN_one r u h
theorem wp_copyD {o : Oper} {a : Act} {w : World} {K : Act → World → Prop} {Q : Exit → Act → World → Prop} (s x : Operand) (hty : o.type = 32) (ho : o.op = .call { callee := .builtin .append, args := #[s, x], argTypes := #[32, 32] })
  (base : Nat) (sv : Option Addr) (cv : Nat) (hs : a.eval s = .slice sv 0 cv) (hown : OwnD w base (.slice sv 0 cv) []) (sx : Option Addr) (c : Nat) (l : List ND) {lo hi : Nat} (hx : a.eval x = .slice sx l.length c) (hr : NtsR w lo hi sx l) (hn : l.length ≤ 1073741824) (hbase : base ≤ w.heap.size)
  (h : ∀ s' c' w', OwnD w' base (.slice s' l.length c') l → Copied w w' sv cv base l.length s' c' → K (a.put o.dst (.slice s' l.length c')) w') : Oper.wp Try.prog o a w K Q := by
 rcases Nat.eq_zero_or_pos l.length with h0 | hl
 ·have e := List.length_eq_zero_iff.1 h0
  subst e
  have hrun := run_append_zeroD w base _ _ hown sx c
  unfold Oper.wp
  simp at hx
  simp [execOp, ho, resolve, invoke, builtin, hs, hx, hty, hrun, Result.andThen]
  exact h sv cv w hown ⟨fun _ _ _ => rfl, Below.refl _ _, fun k hk => .inr hk⟩
 ·rcases hr with rfl | ⟨g, off, rfl, h1, h2, hc⟩
  ·simp at hl
  ·obtain ⟨i0, hi0, hz0, hz1, hz2⟩ := infoD
   refine wp_append_lies w s x 32 ho base 78 i0 _ 2 16 Try.underlying32 hi0 hz0 hz1 hz2 rfl (by decide) _ 0 _ hs hown ⟨g, off, none⟩ l.length c (flatN l) hx (flatN_len l) (news_notes hc) (flatN_one l) hl (by unfold maxLen; omega) (by omega) hbase _ rfl ?_
   intro g' cap w' q1 q2 q3 q4
   have hb : Below base w w' := Below.grown (Below.refl _ _) q2 hbase (fun j hj => (World.ownsRow.lt hown _ hj).1)
   rw [Nat.zero_add]
   rw [Nat.zero_add] at q1
   refine h _ _ w' q1 ⟨fun k hk hne => q2.block k hk (fun e => hne e.symm), hb, fun k hk => ?_⟩
   injection hk with hk
   rcases q3 with q3 | q3
   ·exact .inr (by rw [q3]; exact congrArg some hk)
   ·exact .inl (by have : g' = k := hk; omega)
theorem step_copyD {ops : Array Oper} {o : Oper} {a : Act} {K : Act → World → Prop} {Q : Exit → Act → World → Prop} {E : Prop} (hgd : o.guard = none) (s x : Operand) (hty : o.type = 32) (ho : o.op = .call { callee := .builtin .append, args := #[s, x], argTypes := #[32, 32] }) (w : World)
  (base : Nat) (sv : Option Addr) (cv : Nat) (hs : a.eval s = .slice sv 0 cv) (hown : OwnD w base (.slice sv 0 cv) []) (sx : Option Addr) (c : Nat) (l : List ND) {lo hi : Nat} (hx : a.eval x = .slice sx l.length c) (hr : NtsR w lo hi sx l) (hn : l.length ≤ 1073741824) (hbase : base ≤ w.heap.size)
  (h : ∀ s' c' w', OwnD w' base (.slice s' l.length c') l → Copied w w' sv cv base l.length s' c' → K (a.put o.dst (.slice s' l.length c')) w') : if Region.wanted o (yielded ops a.tmps) = true then Oper.wp Try.prog o a w K Q else E := by
 have hw : Region.wanted o (yielded ops a.tmps) = true := by simp [Region.wanted, hgd]
 rw [if_pos hw]
 exact wp_copyD s x hty ho base sv cv hs hown sx c l hx hr hn hbase h
theorem step_call {ops : Array Oper} {o : Oper} {a : Act} {w : World} {K : Act → World → Prop} {Q : Exit → Act → World → Prop} {F : Prop} (f : FuncId) (args : Array Value) (hgd : o.guard = none) (xs : Array Operand) (ats : Array TypeId) (ho : o.op = .call { callee := .value (.func f), args := xs, argTypes := ats }) (hx : xs.map a.eval = args)
  (hent : ∀ (args : Array Value) (w : World), (callFunc f args).run Try.prog w = .ok (.enter f args) w) (h : Calls Try.prog f args w fun e w' => ∃ v, e = .returned v ∧ K (a.put o.dst v) w') :
  if Region.wanted o (yielded ops a.tmps) = true then Oper.wp Try.prog o a w K Q else F := by
 have hw : Region.wanted o (yielded ops a.tmps) = true := by simp [Region.wanted, hgd]
 rw [if_pos hw]
 obtain ⟨dst, op, ty, pos, after, guard⟩ := o
 simp only at ho
 subst ho
 unfold Oper.wp
 rw [execOp_call_go]
 have e : (#[] ++ xs.map a.eval ++ #[]) = args := by rw [hx]; simp
 rw [e, hent, Oper.upon_enter]
 refine h.mono ?_
 rintro e w' ⟨v, rfl, hk⟩
 exact hk
theorem OwnC.low {w : World} {b b' : Nat} {v : Value} {L : List CV} (h : OwnC w b v L) (hb : b' ≤ b) : OwnC w b' v L := ⟨ownLow' h.row hb, fun i x hx => ownLow' (h.inn i x hx) hb, h.sep⟩
theorem OwnK.low {w : World} {b b' : Nat} {v : Value} {L : List KV} (h : OwnK w b v L) (hb : b' ≤ b) : OwnK w b' v L := ⟨ownLow' h.row hb, fun i x hx => ⟨ownLow' (h.inn i x hx).1 hb, ownLow' (h.inn i x hx).2 hb⟩, h.two, h.sep⟩
/- a machine that runs: all its rows owned whole -/
structure MQ0 (w : World) (B : Nat) (vc vk vm vt : Value) (LC : List CV) (LK : List KV) (S : List RS) (d : MD) : Prop where
 c : OwnC w B vc LC
 ec : LC.map CV.l = d.codes
 k : OwnK w B vk LK
 ek : LK.map KV.d = d.cores
 m : OW w B vm S d.mem
 t : OwnD w B vt d.tr
 sk : ∀ (i : Nat) (x : KV) (q : Nat), LK[i]? = some x → (x.r.ownBlock = some q ∨ x.v.ownBlock = some q) → ∀ a ∈ mAs S, a.block ≠ q
theorem MQ0.low {w : World} {B B' : Nat} {vc vk vm vt : Value} {LC : List CV} {LK : List KV} {S : List RS} {d : MD} (h : MQ0 w B vc vk vm vt LC LK S d) (hb : B' ≤ B) : MQ0 w B' vc vk vm vt LC LK S d := ⟨h.c.low hb, h.ec, h.k.low hb, h.ek, h.m.low hb, ownLow' h.t hb, h.sk⟩
theorem MQ0.keep {w w' : World} {B : Nat} {vc vk vm vt : Value} {LC : List CV} {LK : List KV} {S : List RS} {d : MD} (h : MQ0 w B vc vk vm vt LC LK S d) (hb : ∀ k, B ≤ k → k < w.heap.size → w'.heap[k]? = w.heap[k]?) (hs : w.heap.size ≤ w'.heap.size) : MQ0 w' B vc vk vm vt LC LK S d :=
 ⟨h.c.keep hb, h.ec, h.k.keep hb, h.ek, h.m.kept hb hs, ownKeep' h.t (fun k hk => hb k (World.ownsRow.lt h.t _ hk).1 (World.ownsRow.lt h.t _ hk).2), h.sk⟩
/- all blocks that a machine has are P -/
structure HitQ (P : Nat → Prop) (vc vk vm vt : Value) (LC : List CV) (LK : List KV) (S : List RS) : Prop where
 c : ∀ q, vc.ownBlock = some q → P q
 ci : ∀ (i : Nat) (x : CV) (q : Nat), LC[i]? = some x → x.v.ownBlock = some q → P q
 k : ∀ q, vk.ownBlock = some q → P q
 ki : ∀ (i : Nat) (x : KV) (q : Nat), LK[i]? = some x → (x.r.ownBlock = some q ∨ x.v.ownBlock = some q) → P q
 m : ∀ q, vm.ownBlock = some q → P q
 mi : ∀ a ∈ mAs S, P a.block
 t : ∀ q, vt.ownBlock = some q → P q
structure MQ (w : World) (B : Nat) (Hq : Nat → Prop) (vc vk vm vt : Value) (LC : List CV) (LK : List KV) (S : List RS) (d : MD) : Prop extends MQ0 w B vc vk vm vt LC LK S d where
 hh : HitQ Hq vc vk vm vt LC LK S
 hn : ∀ q, w.heap.size ≤ q → Hq q
theorem MQ.keep {w w' : World} {B : Nat} {Hq : Nat → Prop} {vc vk vm vt : Value} {LC : List CV} {LK : List KV} {S : List RS} {d : MD} (h : MQ w B Hq vc vk vm vt LC LK S d) (hb : ∀ k, B ≤ k → k < w.heap.size → w'.heap[k]? = w.heap[k]?) (hs : w.heap.size ≤ w'.heap.size) : MQ w' B Hq vc vk vm vt LC LK S d :=
 ⟨h.toMQ0.keep hb hs, h.hh, fun q hq => h.hn q (Nat.le_trans hs hq)⟩
theorem X4.zero (w : World) (v0 v1 v2 v3 : Value) : X4 (w.alloc (.cells #[v0, v1, v2, v3] 34)) w.heap.size v0 v1 v2 v3 ∧ ∃ cs f, (w.alloc (.cells #[v0, v1, v2, v3] 34)).heap[w.heap.size]? = some (.cells cs 34 f) := by
 obtain ⟨W, hW, x, -, -⟩ := X4.new w v0 v1 v2 v3 34
 rw [hW]
 refine ⟨x, ?_⟩
 rw [← hW]
 exact ⟨_, _, heap_alloc_new _ _⟩
/- a box of a machine's type is no block of its rows -/
def BxT (w : World) (b : Nat) : Prop := ∃ cs f, w.heap[b]? = some (.cells cs 34 f)
theorem own_bx {w : World} {base size n b : Nat} {e : TypeId} {v : Value} {xs : List Value} (h : w.ownsRow base e size v n xs) (he : e ≠ 34) (hb : BxT w b) : v.ownBlock ≠ some b := by
 obtain ⟨cs, f, c⟩ := hb
 intro hk
 rcases h.2 with ⟨rfl, -⟩ | ⟨g, cap, cur, rfl, -, c', -⟩
 ·cases hk
 ·simp only [Value.ownBlock, Option.some.injEq] at hk
  subst hk
  rw [c] at c'
  injection c' with c'
  injection c' with _ c'
  exact he c'.symm
theorem heap_set {w : World} {g k : Nat} {v : Value} {cur : Array Value} {e : TypeId} {fr : Nat × Nat} (h : w.heap[g]? = some (.cells cur e fr)) : (w.setCell ⟨g, k, none⟩ v).heap[g]? = some (.cells (cur.setIfInBounds k v) e fr) := by
 simp only [World.setCell, Array.getElem?_modify, h]
 simp
theorem BxT.set {w : World} {b g o : Nat} {v : Value} (h : BxT w b) : BxT (w.setCell ⟨g, o, none⟩ v) b := by
 obtain ⟨cs, f, c⟩ := h
 by_cases e : b = g
 ·subst e
  exact ⟨_, f, heap_set c⟩
 ·exact ⟨cs, f, (Below.heap_setCell _ _ _ b e).trans c⟩
theorem OwnC.off {w w' : World} {base b : Nat} {v : Value} {L : List CV} (h : OwnC w base v L) (ht : BxT w b) (hb : ∀ k, k ≠ b → w'.heap[k]? = w.heap[k]?) : OwnC w' base v L :=
 ⟨ownKeep' h.row (fun k hk => hb k (fun e => own_bx h.row (by decide) ht (by rw [hk, e]))), fun i x hx => ownKeep' (h.inn i x hx) (fun k hk => hb k (fun e => own_bx (h.inn i x hx) (by decide) ht (by rw [hk, e]))), h.sep⟩
theorem OwnK.off {w w' : World} {base b : Nat} {v : Value} {L : List KV} (h : OwnK w base v L) (ht : BxT w b) (hb : ∀ k, k ≠ b → w'.heap[k]? = w.heap[k]?) : OwnK w' base v L :=
 ⟨ownKeep' h.row (fun k hk => hb k (fun e => own_bx h.row (by decide) ht (by rw [hk, e]))), fun i x hx => ⟨ownKeep' (h.inn i x hx).1 (fun k hk => hb k (fun e => own_bx (h.inn i x hx).1 (by decide) ht (by rw [hk, e]))), ownKeep' (h.inn i x hx).2 (fun k hk => hb k (fun e => own_bx (h.inn i x hx).2 (by decide) ht (by rw [hk, e])))⟩, h.two, h.sep⟩
theorem OwnD.off {w w' : World} {base b : Nat} {v : Value} {l : List ND} (h : OwnD w base v l) (ht : BxT w b) (hb : ∀ k, k ≠ b → w'.heap[k]? = w.heap[k]?) : OwnD w' base v l := ownKeep' h (fun k hk => hb k (fun e => own_bx h (by decide) ht (by rw [hk, e])))
theorem OW.off {w w' : World} {B b : Nat} {v : Value} {S : List RS} {m : List (List WD)} (h : OW w B v S m) (ht : BxT w b) (hb : ∀ k, k ≠ b → w'.heap[k]? = w.heap[k]?) (hs : w.heap.size ≤ w'.heap.size) : OW w' B v S m := by
 refine ⟨h.n, ownKeep' h.row (fun k hk => hb k (fun e => own_bx h.row (by decide) ht (by rw [hk, e]))), fun i r l hr hl => ?_, h.d⟩
 have q := h.r i r l hr hl
 refine q.kept (fun k hk => hb k (fun e => ?_)) (fun a ha => hb _ (fun e => ?_)) hs
 ·obtain ⟨cs, c⟩ := q.blkT hk
  obtain ⟨cs', f, c'⟩ := ht
  rw [e, c'] at c
  injection c with c
  injection c with _ c
  exact absurd c (by decide)
 ·obtain ⟨cs, f, c⟩ := q.vt a ha
  obtain ⟨cs', f', c'⟩ := ht
  rw [e, c'] at c
  injection c with c
  injection c with _ c
  exact absurd c (by decide)
end Go.Proofs.Ytepfpbcjklaenaa
