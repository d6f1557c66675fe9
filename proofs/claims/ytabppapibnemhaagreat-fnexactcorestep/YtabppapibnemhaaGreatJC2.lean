/- Machines that run: all their rows owned whole; append of notes. Conditions: fewer than 2^30 of them. Cores copied by the program and by the specification. Conditions: their rows of at most 1048576. Cores copied by the specification. Conditions: their rows of at most 1048576. -/
import Derived.Test.YtabppapibnemhaaGreatJKApp
import Derived.Test.YtabppapibnemhaaGreatJMemDupS
import Derived.Test.YtabppapibnemhaaGreatJKMach
import Derived.Test.YtabppapibnemhaaGreatJB5
namespace Go.Proofs.YtabppapibnemhaaGreat
section
set_option linter.unusedSimpArgs false
set_option linter.unusedVariables false
set_option maxRecDepth 100000
open Go.RowKit
theorem infoD : ∃ i, Tryz.prog.info? 95 = some i ∧ i.zero = some (.agg #[.int .i64 0, .int .i64 0]) ∧ i.size = 2 ∧ i.bytes = 16 := ⟨_, rfl, rfl, rfl, rfl⟩
theorem run_append_zeroD (w : World) (base : Nat) (v : Value) (l : List ND) (hown : OwnD w base v l) (s : Option Addr) (c : Nat) :
  (Builtin.append_ #[38, 38] 38 #[v, .slice s 0 c]).run Tryz.prog w = .ok v w := by
 obtain ⟨i0, hi, hz0, hz1, hz2⟩ := infoD
 rcases hown.2 with ⟨rfl, -⟩ | ⟨g, cap, cur, rfl, _, _, hnc, _⟩
 ·cases s <;> simp [Builtin.append_, run_underlying Tryz.underlying38, sizeOf, typeInfo, hi, Builtin.lenOf, Builtin.firstCells, loadCells, loadCellsFrom, storeCells]
 ·cases s <;> simp [Builtin.append_, run_underlying Tryz.underlying38, sizeOf, typeInfo, hi, Builtin.lenOf, Builtin.firstCells, hnc, storeCells, loadCells, loadCellsFrom, storeCells]
theorem news_notes {w : World} {g o : Nat} {l : List ND} (hc : ∀ (i : Nat) (n : ND), l[i]? = some n → NtR w g (o + i * 2) n) : ∀ j u, (flatN l)[j]? = some u → w.cell? (Addr.add ⟨g, o, none⟩ j) = some u := by
 intro j u hu
 have hj : j < l.length * 2 := by have := (List.getElem?_eq_some_iff.1 hu).1; rw [flatN_len] at this; exact this
 have ea : (Addr.add ⟨g, o, none⟩ j) = ⟨g, o + j, none⟩ := by
  by_cases h : j = 0
  ·subst h; rfl
  ·simp [Addr.add, h]
 have hi : j / 2 < l.length := by omega
 have h1 := hc (j / 2) _ (List.getElem?_eq_getElem hi)
 obtain ⟨e0, e1⟩ := flatN_at l (j / 2) _ (List.getElem?_eq_getElem hi)
 rw [ea]
 rcases (show j = j / 2 * 2 ∨ j = j / 2 * 2 + 1 by omega) with e | e
 ·rw [e, e0] at hu
  rw [e, ← hu]
  exact h1.1
 ·rw [e, e1] at hu
  rw [e, ← hu]
  exact h1.2
theorem flatN_one : ∀ (l : List ND), ∀ u ∈ flatN l, u.oneCell' = true
 | [], u, h => by simp [flatN] at h
 | x :: r, u, h => by
  simp only [flatN, List.mem_append, List.mem_cons, List.not_mem_nil, or_false] at h
  rcases h with (rfl | rfl) | h
  ·rfl
  ·rfl
  ·exact flatN_one r u h
theorem wp_copyD {o : Oper} {a : Act} {w : World} {K : Act → World → Prop} {Q : Exit → Act → World → Prop} (s x : Operand) (hty : o.type = 38) (ho : o.op = .call { callee := .builtin .append, args := #[s, x], argTypes := #[38, 38] })
  (base : Nat) (sv : Option Addr) (cv : Nat) (hs : a.eval s = .slice sv 0 cv) (hown : OwnD w base (.slice sv 0 cv) []) (sx : Option Addr) (c : Nat) (l : List ND) {lo hi : Nat} (hx : a.eval x = .slice sx l.length c) (hr : NtsR w lo hi sx l) (hn : l.length ≤ 1073741824) (hbase : base ≤ w.heap.size)
  (h : ∀ s' c' w', OwnD w' base (.slice s' l.length c') l → Copied w w' sv cv base l.length s' c' → K (a.put o.dst (.slice s' l.length c')) w') : Oper.wp Tryz.prog o a w K Q := by
 rcases Nat.eq_zero_or_pos l.length with h0 | hl
 ·have e := List.length_eq_zero_iff.1 h0
  subst e
  have hrun := run_append_zeroD w base _ _ hown sx c
  unfold Oper.wp
  simp at hx
  simp [execOp, ho, resolve, invoke, builtin, hs, hx, hty, hrun, Result.andThen]
  exact h sv cv w hown ⟨fun _ _ _ => rfl, Below.refl _ _, fun k hk => .inr hk⟩
 ·rcases hr with rfl | ⟨g, off, rfl, h1, h2, hc⟩
  ·simp at hl
  ·obtain ⟨i0, hi0, hz0, hz1, hz2⟩ := infoD
   refine wp_append_lies w s x 38 ho base 95 i0 _ 2 16 Tryz.underlying38 hi0 hz0 hz1 hz2 rfl (by decide) _ 0 _ hs hown ⟨g, off, none⟩ l.length c (flatN l) hx (flatN_len l) (news_notes hc) (flatN_one l) hl (by unfold maxLen; omega) (by omega) hbase _ rfl ?_
   intro g' cap w' q1 q2 q3 q4
   have hb : Below base w w' := Below.grown (Below.refl _ _) q2 hbase (fun j hj => (World.ownsRow.lt hown _ hj).1)
   rw [Nat.zero_add]
   rw [Nat.zero_add] at q1
   refine h _ _ w' q1 ⟨fun k hk hne => q2.block k hk (fun e => hne e.symm), hb, fun k hk => ?_⟩
   injection hk with hk
   rcases q3 with q3 | q3
   ·exact .inr (by rw [q3]; exact congrArg some hk)
   ·exact .inl (by have : g' = k := hk; omega)
theorem step_copyD {ops : Array Oper} {o : Oper} {a : Act} {K : Act → World → Prop} {Q : Exit → Act → World → Prop} {E : Prop} (hgd : o.guard = none) (s x : Operand) (hty : o.type = 38) (ho : o.op = .call { callee := .builtin .append, args := #[s, x], argTypes := #[38, 38] }) (w : World)
  (base : Nat) (sv : Option Addr) (cv : Nat) (hs : a.eval s = .slice sv 0 cv) (hown : OwnD w base (.slice sv 0 cv) []) (sx : Option Addr) (c : Nat) (l : List ND) {lo hi : Nat} (hx : a.eval x = .slice sx l.length c) (hr : NtsR w lo hi sx l) (hn : l.length ≤ 1073741824) (hbase : base ≤ w.heap.size)
  (h : ∀ s' c' w', OwnD w' base (.slice s' l.length c') l → Copied w w' sv cv base l.length s' c' → K (a.put o.dst (.slice s' l.length c')) w') : if Region.wanted o (yielded ops a.tmps) = true then Oper.wp Tryz.prog o a w K Q else E := by
 have hw : Region.wanted o (yielded ops a.tmps) = true := by simp [Region.wanted, hgd]
 rw [if_pos hw]
 exact wp_copyD s x hty ho base sv cv hs hown sx c l hx hr hn hbase h
theorem step_call {ops : Array Oper} {o : Oper} {a : Act} {w : World} {K : Act → World → Prop} {Q : Exit → Act → World → Prop} {F : Prop} (f : FuncId) (args : Array Value) (hgd : o.guard = none) (xs : Array Operand) (ats : Array TypeId) (ho : o.op = .call { callee := .value (.func f), args := xs, argTypes := ats }) (hx : xs.map a.eval = args)
  (hent : ∀ (args : Array Value) (w : World), (callFunc f args).run Tryz.prog w = .ok (.enter f args) w) (h : Calls Tryz.prog f args w fun e w' => ∃ v, e = .returned v ∧ K (a.put o.dst v) w') :
  if Region.wanted o (yielded ops a.tmps) = true then Oper.wp Tryz.prog o a w K Q else F := by
 have hw : Region.wanted o (yielded ops a.tmps) = true := by simp [Region.wanted, hgd]
 rw [if_pos hw]
 obtain ⟨dst, op, ty, pos, after, guard⟩ := o
 simp only at ho
 subst ho
 unfold Oper.wp
 rw [execOp_call_go]
 have e : (#[] ++ xs.map a.eval ++ #[]) = args := by rw [hx]; simp
 rw [e, hent, Oper.upon_enter]
 refine h.mono ?_
 rintro e w' ⟨v, rfl, hk⟩
 exact hk
theorem OwnC.low {w : World} {b b' : Nat} {v : Value} {L : List CV} (h : OwnC w b v L) (hb : b' ≤ b) : OwnC w b' v L := ⟨ownLow' h.row hb, fun i x hx => ownLow' (h.inn i x hx) hb, h.sep⟩
theorem OwnK.low {w : World} {b b' : Nat} {v : Value} {L : List KV} (h : OwnK w b v L) (hb : b' ≤ b) : OwnK w b' v L := ⟨ownLow' h.row hb, fun i x hx => ⟨ownLow' (h.inn i x hx).1 hb, ownLow' (h.inn i x hx).2 hb⟩, h.two, h.sep⟩
/- a machine that runs: all its rows owned whole -/
structure MQ (w : World) (B : Nat) (vc vk vm vt : Value) (LC : List CV) (LK : List KV) (S : List RS) (d : MD) : Prop where
 c : OwnC w B vc LC
 ec : LC.map CV.l = d.codes
 k : OwnK w B vk LK
 ek : LK.map KV.d = d.cores
 m : OW w B vm S d.mem
 t : OwnD w B vt d.tr
 sk : ∀ (i : Nat) (x : KV) (q : Nat), LK[i]? = some x → (x.r.ownBlock = some q ∨ x.v.ownBlock = some q) → ∀ a ∈ mAs S, a.block ≠ q
theorem MQ.low {w : World} {B B' : Nat} {vc vk vm vt : Value} {LC : List CV} {LK : List KV} {S : List RS} {d : MD} (h : MQ w B vc vk vm vt LC LK S d) (hb : B' ≤ B) : MQ w B' vc vk vm vt LC LK S d := ⟨h.c.low hb, h.ec, h.k.low hb, h.ek, h.m.low hb, ownLow' h.t hb, h.sk⟩
theorem MQ.keep {w w' : World} {B : Nat} {vc vk vm vt : Value} {LC : List CV} {LK : List KV} {S : List RS} {d : MD} (h : MQ w B vc vk vm vt LC LK S d) (hb : ∀ k, B ≤ k → k < w.heap.size → w'.heap[k]? = w.heap[k]?) (hs : w.heap.size ≤ w'.heap.size) : MQ w' B vc vk vm vt LC LK S d :=
 ⟨h.c.keep hb, h.ec, h.k.keep hb, h.ek, h.m.kept hb hs, ownKeep' h.t (fun k hk => hb k (World.ownsRow.lt h.t _ hk).1 (World.ownsRow.lt h.t _ hk).2), h.sk⟩
theorem X4.zero (w : World) (v0 v1 v2 v3 : Value) : X4 (w.alloc (.cells #[v0, v1, v2, v3] 40)) w.heap.size v0 v1 v2 v3 ∧ ∃ cs f, (w.alloc (.cells #[v0, v1, v2, v3] 40)).heap[w.heap.size]? = some (.cells cs 40 f) := by
 obtain ⟨W, hW, x, -, -⟩ := X4.new w v0 v1 v2 v3 40
 rw [hW]
 refine ⟨x, ?_⟩
 rw [← hW]
 exact ⟨_, _, heap_alloc_new _ _⟩
/- a box of a machine's type is no block of its rows -/
def BxT (w : World) (b : Nat) : Prop := ∃ cs f, w.heap[b]? = some (.cells cs 40 f)
theorem own_bx {w : World} {base size n b : Nat} {e : TypeId} {v : Value} {xs : List Value} (h : w.ownsRow base e size v n xs) (he : e ≠ 40) (hb : BxT w b) : v.ownBlock ≠ some b := by
 obtain ⟨cs, f, c⟩ := hb
 intro hk
 rcases h.2 with ⟨rfl, -⟩ | ⟨g, cap, cur, rfl, -, c', -⟩
 ·cases hk
 ·simp only [Value.ownBlock, Option.some.injEq] at hk
  subst hk
  rw [c] at c'
  injection c' with c'
  injection c' with _ c'
  exact he c'.symm
theorem heap_set {w : World} {g k : Nat} {v : Value} {cur : Array Value} {e : TypeId} {fr : Nat × Nat} (h : w.heap[g]? = some (.cells cur e fr)) : (w.setCell ⟨g, k, none⟩ v).heap[g]? = some (.cells (cur.setIfInBounds k v) e fr) := by
 simp only [World.setCell, Array.getElem?_modify, h]
 simp
theorem BxT.set {w : World} {b g o : Nat} {v : Value} (h : BxT w b) : BxT (w.setCell ⟨g, o, none⟩ v) b := by
 obtain ⟨cs, f, c⟩ := h
 by_cases e : b = g
 ·subst e
  exact ⟨_, f, heap_set c⟩
 ·exact ⟨cs, f, (Below.heap_setCell _ _ _ b e).trans c⟩
theorem OwnC.off {w w' : World} {base b : Nat} {v : Value} {L : List CV} (h : OwnC w base v L) (ht : BxT w b) (hb : ∀ k, k ≠ b → w'.heap[k]? = w.heap[k]?) : OwnC w' base v L :=
 ⟨ownKeep' h.row (fun k hk => hb k (fun e => own_bx h.row (by decide) ht (by rw [hk, e]))), fun i x hx => ownKeep' (h.inn i x hx) (fun k hk => hb k (fun e => own_bx (h.inn i x hx) (by decide) ht (by rw [hk, e]))), h.sep⟩
theorem OwnK.off {w w' : World} {base b : Nat} {v : Value} {L : List KV} (h : OwnK w base v L) (ht : BxT w b) (hb : ∀ k, k ≠ b → w'.heap[k]? = w.heap[k]?) : OwnK w' base v L :=
 ⟨ownKeep' h.row (fun k hk => hb k (fun e => own_bx h.row (by decide) ht (by rw [hk, e]))), fun i x hx => ⟨ownKeep' (h.inn i x hx).1 (fun k hk => hb k (fun e => own_bx (h.inn i x hx).1 (by decide) ht (by rw [hk, e]))), ownKeep' (h.inn i x hx).2 (fun k hk => hb k (fun e => own_bx (h.inn i x hx).2 (by decide) ht (by rw [hk, e])))⟩, h.two, h.sep⟩
theorem OwnD.off {w w' : World} {base b : Nat} {v : Value} {l : List ND} (h : OwnD w base v l) (ht : BxT w b) (hb : ∀ k, k ≠ b → w'.heap[k]? = w.heap[k]?) : OwnD w' base v l := ownKeep' h (fun k hk => hb k (fun e => own_bx h (by decide) ht (by rw [hk, e])))
theorem OW.off {w w' : World} {B b : Nat} {v : Value} {S : List RS} {m : List (List WD)} (h : OW w B v S m) (ht : BxT w b) (hb : ∀ k, k ≠ b → w'.heap[k]? = w.heap[k]?) (hs : w.heap.size ≤ w'.heap.size) : OW w' B v S m := by
 refine ⟨h.n, ownKeep' h.row (fun k hk => hb k (fun e => own_bx h.row (by decide) ht (by rw [hk, e]))), fun i r l hr hl => ?_, h.d⟩
 have q := h.r i r l hr hl
 refine q.kept (fun k hk => hb k (fun e => ?_)) (fun a ha => hb _ (fun e => ?_)) hs
 ·obtain ⟨cs, c⟩ := q.blkT hk
  obtain ⟨cs', f, c'⟩ := ht
  rw [e, c'] at c
  injection c with c
  injection c with _ c
  exact absurd c (by decide)
 ·obtain ⟨cs, f, c⟩ := q.vt a ha
  obtain ⟨cs', f', c'⟩ := ht
  rw [e, c'] at c
  injection c with c
  injection c with _ c
  exact absurd c (by decide)
end
section
set_option linter.unusedSimpArgs false
set_option linter.unusedVariables false
set_option maxRecDepth 100000
open Go.RowKit
theorem two4x {w W : World} {a b c d a' b' c' d' : Value} {T T' : TypeId} (hW : (w.alloc (.cells #[a, b, c, d] T)).alloc (.cells #[a', b', c', d'] T') = W) : Below w.heap.size w W ∧ X4 W w.heap.size a b c d ∧ X4 W (w.heap.size + 1) a' b' c' d' ∧ W.heap.size = w.heap.size + 2 := by
 subst hW
 refine ⟨((Below.refl _ _).alloc (Nat.le_refl _) _).alloc (by simp) _, ⟨⟨?_, ?_, ?_, ?_, ?_⟩, ?_⟩, ⟨⟨?_, ?_, ?_, ?_, ?_⟩, ?_⟩, ?_⟩ <;> first | (simp [go_sem]; done) | (simp [go_sem]; omega) | (intro j; simp [go_sem])
set_option maxHeartbeats 1000000 in
theorem sameCore_any (k : KD) (s1 s2 : Option Addr) (c1 c2 lo hi : Nat) (w : World) (h1 : IntsR w lo hi s1 k.regs) (h2 : IntsR w lo hi s2 k.vw) (hB : hi ≤ w.heap.size) (hl1 : k.regs.length ≤ 1048576) (hl2 : k.vw.length ≤ 1048576) :
  Calls Tryz.prog 71 #[.agg #[.int .i64 k.pc, .slice s1 k.regs.length c1, .slice s2 k.vw.length c2, .int .i64 k.st]] w fun e w' => ∃ a1 b1 a2 b2, e = .returned (.agg #[.int .i64 k.pc, .slice a1 k.regs.length b1, .slice a2 k.vw.length b2, .int .i64 k.st]) ∧ OwnN w' w.heap.size (.slice a1 k.regs.length b1) k.regs ∧ OwnN w' w.heap.size (.slice a2 k.vw.length b2) k.vw ∧ (∀ q, (Value.slice a1 k.regs.length b1).ownBlock = some q → (Value.slice a2 k.vw.length b2).ownBlock ≠ some q) ∧ Below w.heap.size w w' ∧ w.heap.size < w'.heap.size := by
 have H1 : Hid (IntsR w lo hi s1 k.regs) := h1
 have H2 : Hid (IntsR w lo hi s2 k.vw) := h2
 clear h1 h2
 go_enter Tryz.func71, Tryz.ntmps71
 obtain ⟨W, hW⟩ : ∃ W, (w.alloc (.cells #[.int .i64 k.pc, .slice s1 k.regs.length c1, .slice s2 k.vw.length c2, .int .i64 k.st] 69)).alloc (.cells #[.int .i64 0, .slice none 0 0, .slice none 0 0, .int .i64 0] 69) = W := ⟨_, rfl⟩
 obtain ⟨kw, xa, xb, zw⟩ := two4x hW
 have HW : Hid ((w.alloc (.cells #[.int .i64 k.pc, .slice s1 k.regs.length c1, .slice s2 k.vw.length c2, .int .i64 k.st] 69)).alloc (.cells #[.int .i64 0, .slice none 0 0, .slice none 0 0, .int .i64 0] 69) = W) := hW
 have XA : Hid (X4 W w.heap.size (.int .i64 k.pc) (.slice s1 k.regs.length c1) (.slice s2 k.vw.length c2) (.int .i64 k.st)) := xa
 have XB : Hid (X4 W (w.heap.size + 1) (.int .i64 0) (.slice none 0 0) (.slice none 0 0) (.int .i64 0)) := xb
 have KW : Hid (Below w.heap.size w W) := kw
 have zW : w.heap.size + 2 ≤ W.heap.size := by omega
 have HR1 : Hid (IntsR W lo hi s1 k.regs) := H1.out.keep (Keep.of_below kw hB)
 have zW' := zw
 clear hW kw xa xb zw
 go_wp2_with ((at_builtin; rw [HW.out]; refine app_copyI rfl _ _ rfl rfl W W.heap.size none 0 (by first | rfl | (rw [zW']; rfl)) (World.ownsRow_nil _ _ _ _) s1 c1 k.regs (by rfl) (HR1.out) (by omega) (Nat.le_refl _) ?_; intro a1 b1 w1 ho1 hc1; have O1 := (show Hid (OwnN w1 W.heap.size (.slice a1 k.regs.length b1) k.regs) from ho1); have kl := (show Below W.heap.size W w1 from hc1.low); have K1 := (show Hid (Below W.heap.size W w1) from kl); have YA := (show Hid (X4 w1 w.heap.size (.int .i64 k.pc) (.slice s1 k.regs.length c1) (.slice s2 k.vw.length c2) (.int .i64 k.st)) from XA.out.keep kl (by omega)); have YB := (show Hid (X4 w1 (w.heap.size + 1) (.int .i64 0) (.slice none 0 0) (.slice none 0 0) (.int .i64 0)) from XB.out.keep kl (by omega)); have ya := YA.out.x.c1; have ya2 := YA.out.x.c2; have yf := YA.out.fz 1; have za := YA.out.x.z; clear ho1 hc1 kl))
 obtain ⟨V, hV⟩ : ∃ V, w1.setCell ⟨w.heap.size, 1, none⟩ (.slice a1 k.regs.length b1) = V := ⟨_, rfl⟩
 have VA : Hid (X4 V w.heap.size (.int .i64 k.pc) (.slice a1 k.regs.length b1) (.slice s2 k.vw.length c2) (.int .i64 k.st)) := by rw [← hV]; exact YA.out.set1
 have VB : Hid (X4 V (w.heap.size + 1) (.int .i64 0) (.slice none 0 0) (.slice none 0 0) (.int .i64 0)) := by rw [← hV]; exact YB.out.off (by omega)
 have vs : V.heap.size = w1.heap.size := by rw [← hV]; simp
 have k1s := K1.out.size
 have KV : Hid (Below w.heap.size w V) := by rw [← hV]; exact (KW.out.trans (K1.out.mono (by omega))).setCell (p := ⟨w.heap.size, 1, none⟩) (Nat.le_refl _) _
 have OV : Hid (OwnN V W.heap.size (.slice a1 k.regs.length b1) k.regs) := by
  rw [← hV]
  exact ownKeep' O1.out (fun b hb => Below.heap_setCell _ _ _ b (by have := (World.ownsRow.lt O1.out _ hb).1; simp; omega))
 have HR2 : Hid (IntsR V lo hi s2 k.vw) := H2.out.keep (Keep.of_below KV.out hB)
 have zV : w.heap.size + 2 ≤ V.heap.size := by omega
 rw [hV]
 obtain ⟨va0, va1, va2, va3, va4⟩ := VA.out.x
 have vf := VA.out.fz
 clear hV ya ya2 yf za YA YB O1 K1 vs
 refine (copied_any s2 c2 lo hi k.vw V HR2.out (by omega) (by omega)).mono ?_
 rintro e w2 ⟨rfl, ho2, hb2⟩
 obtain ⟨G, hG, g1, g2⟩ : ∃ G, V.heap.size = G ∧ V.heap.size ≤ G ∧ G ≤ V.heap.size := ⟨_, rfl, Nat.le_refl _, Nat.le_refl _⟩
 obtain ⟨a2, ha2⟩ : ∃ a, some (⟨G, 0, none⟩ : Addr) = a := ⟨_, rfl⟩
 obtain ⟨b2, hb2'⟩ : ∃ b, k.vw.length = b := ⟨_, rfl⟩
 have P2 : Hid (OwnN w2 V.heap.size (.slice a2 k.vw.length b2) k.vw) := by rw [← ha2, ← hb2', ← hG]; exact ho2
 have K2 : Hid (Below V.heap.size V w2) := hb2
 have er : (Value.slice (some ⟨V.heap.size, 0, none⟩) k.vw.length k.vw.length) = .slice a2 k.vw.length b2 := by rw [hG, ha2, ← hb2']
 rw [er]
 clear ho2 hb2 hG er ha2 hb2'
 have KK : Hid (Below w.heap.size w w2) := KV.out.trans (K2.out.mono (by omega))
 have ZA : Hid (X4 w2 w.heap.size (.int .i64 k.pc) (.slice a1 k.regs.length b1) (.slice s2 k.vw.length c2) (.int .i64 k.st)) := VA.out.keep K2.out (by omega)
 have ZB : Hid (X4 w2 (w.heap.size + 1) (.int .i64 0) (.slice none 0 0) (.slice none 0 0) (.int .i64 0)) := VB.out.keep K2.out (by omega)
 have P1 : Hid (OwnN w2 W.heap.size (.slice a1 k.regs.length b1) k.regs) := ownKeep' OV.out (fun b hb => K2.out.block b (World.ownsRow.lt OV.out _ hb).2)
 have SP : Hid (∀ q, (Value.slice a1 k.regs.length b1).ownBlock = some q → (Value.slice a2 k.vw.length b2).ownBlock ≠ some q) := fun q h1 h2 => by
  have := (World.ownsRow.lt OV.out _ h1).2
  have := (World.ownsRow.lt P2.out _ h2).1
  omega
 clear va1 va2 va3 va4 vf
 obtain ⟨za0, za1, za2, za3, za4⟩ := ZA.out.x
 have zf := ZA.out.fz
 obtain ⟨yb0, yb1, yb2, yb3, yb4⟩ := ZB.out.x
 have yf2 := ZB.out.fz
 have zz2 := K2.out.size
 go_wp2
 obtain ⟨Z, hZ, xz, kz, sz, fz⟩ : ∃ Z, ((((w2.setCell ⟨w.heap.size, 2, none⟩ (.slice a2 k.vw.length b2)).setCell ⟨w.heap.size + 1, 0, none⟩ (.int .i64 k.pc)).setCell ⟨w.heap.size + 1, 1, none⟩ (.slice a1 k.regs.length b1)).setCell ⟨w.heap.size + 1, 2, none⟩ (.slice a2 k.vw.length b2)).setCell ⟨w.heap.size + 1, 3, none⟩ (.int .i64 k.st) = Z ∧ X4 Z (w.heap.size + 1) (.int .i64 k.pc) (.slice a1 k.regs.length b1) (.slice a2 k.vw.length b2) (.int .i64 k.st) ∧ Below w.heap.size w Z ∧ Z.heap.size = w2.heap.size ∧ ∀ b, w.heap.size + 2 ≤ b → Z.heap[b]? = w2.heap[b]? := by
  refine ⟨_, rfl, (ZB.out.off (by omega)).set0.set1.set2.set3, ?_, by simp, fun b hb => ?_⟩
  ·refine Below.setCell (Below.setCell (Below.setCell (Below.setCell (Below.setCell KK.out ?_ _) ?_ _) ?_ _) ?_ _) ?_ _ <;> simp
  ·rw [Below.heap_setCell _ _ _ b (by simp; omega), Below.heap_setCell _ _ _ b (by simp; omega), Below.heap_setCell _ _ _ b (by simp; omega), Below.heap_setCell _ _ _ b (by simp; omega), Below.heap_setCell _ _ _ b (by simp; omega)]
 have o1 : OwnN Z w.heap.size (.slice a1 k.regs.length b1) k.regs := by
  have o : OwnN w2 w.heap.size (.slice a1 k.regs.length b1) k.regs := ownLow' P1.out (by omega)
  exact ownKeep' o (fun b hb => fz b (by have := (World.ownsRow.lt P1.out _ hb).1; omega))
 have o2 : OwnN Z w.heap.size (.slice a2 k.vw.length b2) k.vw := by
  have o : OwnN w2 w.heap.size (.slice a2 k.vw.length b2) k.vw := ownLow' P2.out (by omega)
  exact ownKeep' o (fun b hb => fz b (by have := (World.ownsRow.lt P2.out _ hb).1; omega))
 refine bodyPost_ret (v := .agg #[.int .i64 k.pc, .slice a1 k.regs.length b1, .slice a2 k.vw.length b2, .int .i64 k.st]) ?_ rfl ?_
 ·rw [hZ]
  simp [results, Tryz.results71, go_sem, xz.x.c0, xz.x.c1, xz.x.c2, xz.x.c3]
 ·rw [hZ]
  exact ⟨a1, b1, a2, b2, rfl, o1, o2, SP.out, kz, by omega⟩
end
section
set_option linter.unusedSimpArgs false
set_option linter.unusedVariables false
set_option maxRecDepth 100000
open Go.RowKit
set_option maxHeartbeats 1000000 in
theorem l8Core_any (k : KD) (s1 s2 : Option Addr) (c1 c2 lo hi : Nat) (w : World) (h1 : IntsR w lo hi s1 k.regs) (h2 : IntsR w lo hi s2 k.vw) (hB : hi ≤ w.heap.size) (hl1 : k.regs.length ≤ 1048576) (hl2 : k.vw.length ≤ 1048576) :
  Calls Tryz.prog 58 #[.agg #[.int .i64 k.pc, .slice s1 k.regs.length c1, .slice s2 k.vw.length c2, .int .i64 k.st]] w fun e w' => ∃ a1 b1 a2 b2, e = .returned (.agg #[.int .i64 k.pc, .slice a1 k.regs.length b1, .slice a2 k.vw.length b2, .int .i64 k.st]) ∧ OwnN w' w.heap.size (.slice a1 k.regs.length b1) k.regs ∧ OwnN w' w.heap.size (.slice a2 k.vw.length b2) k.vw ∧ (∀ q, (Value.slice a1 k.regs.length b1).ownBlock = some q → (Value.slice a2 k.vw.length b2).ownBlock ≠ some q) ∧ Below w.heap.size w w' ∧ w.heap.size < w'.heap.size := by
 have H1 : Hid (IntsR w lo hi s1 k.regs) := h1
 have H2 : Hid (IntsR w lo hi s2 k.vw) := h2
 clear h1 h2
 go_enter Tryz.func58, Tryz.ntmps58
 obtain ⟨W, hW⟩ : ∃ W, (w.alloc (.cells #[.int .i64 k.pc, .slice s1 k.regs.length c1, .slice s2 k.vw.length c2, .int .i64 k.st] 69)).alloc (.cells #[.int .i64 0, .slice none 0 0, .slice none 0 0, .int .i64 0] 69) = W := ⟨_, rfl⟩
 obtain ⟨kw, xa, xb, zw⟩ := two4x hW
 have HW : Hid ((w.alloc (.cells #[.int .i64 k.pc, .slice s1 k.regs.length c1, .slice s2 k.vw.length c2, .int .i64 k.st] 69)).alloc (.cells #[.int .i64 0, .slice none 0 0, .slice none 0 0, .int .i64 0] 69) = W) := hW
 have XA : Hid (X4 W w.heap.size (.int .i64 k.pc) (.slice s1 k.regs.length c1) (.slice s2 k.vw.length c2) (.int .i64 k.st)) := xa
 have XB : Hid (X4 W (w.heap.size + 1) (.int .i64 0) (.slice none 0 0) (.slice none 0 0) (.int .i64 0)) := xb
 have KW : Hid (Below w.heap.size w W) := kw
 have zW : w.heap.size + 2 ≤ W.heap.size := by omega
 have HR1 : Hid (IntsR W lo hi s1 k.regs) := H1.out.keep (Keep.of_below kw hB)
 have zW' := zw
 clear hW kw xa xb zw
 go_wp2_with (first | (at_builtin; rw [HW.out]; refine app_copyI rfl _ _ rfl rfl (W.alloc (.cells #[] 3)) W.heap.size (some ⟨W.heap.size, 0, none⟩) 0 (by first | rfl | (rw [zW']; rfl)) (World.ownsRow_lit W #[] 0 (Nat.le_refl _) (by unfold maxLen; omega) rfl) s1 c1 k.regs (by rfl) (HR1.out.keep (Keep.of_below ((Below.refl W.heap.size W).alloc (Nat.le_refl _) _) (by omega))) (by omega) (by simp) ?_; intro a1 b1 w1 ho1 hc1; have O1 := (show Hid (OwnN w1 W.heap.size (.slice a1 k.regs.length b1) k.regs) from ho1); have kl := (show Below W.heap.size W w1 from ((Below.refl W.heap.size W).alloc (Nat.le_refl _) _).trans hc1.low); have K1 := (show Hid (Below W.heap.size W w1) from kl); have YA := (show Hid (X4 w1 w.heap.size (.int .i64 k.pc) (.slice s1 k.regs.length c1) (.slice s2 k.vw.length c2) (.int .i64 k.st)) from XA.out.keep kl (by omega)); have YB := (show Hid (X4 w1 (w.heap.size + 1) (.int .i64 0) (.slice none 0 0) (.slice none 0 0) (.int .i64 0)) from XB.out.keep kl (by omega)); have ya := YA.out.x.c1; have ya2 := YA.out.x.c2; have yf := YA.out.fz 1; have za := YA.out.x.z; clear ho1 hc1 kl) | (
  at_builtin
  obtain ⟨V, hV⟩ : ∃ V, w1.setCell ⟨w.heap.size, 1, none⟩ (.slice a1 k.regs.length b1) = V := ⟨_, rfl⟩
  have VA : Hid (X4 V w.heap.size (.int .i64 k.pc) (.slice a1 k.regs.length b1) (.slice s2 k.vw.length c2) (.int .i64 k.st)) := by rw [← hV]; exact YA.out.set1
  have VB : Hid (X4 V (w.heap.size + 1) (.int .i64 0) (.slice none 0 0) (.slice none 0 0) (.int .i64 0)) := by rw [← hV]; exact YB.out.off (by omega)
  have vs : V.heap.size = w1.heap.size := by rw [← hV]; simp
  have k1s := K1.out.size
  have KV : Hid (Below w.heap.size w V) := by rw [← hV]; exact (KW.out.trans (K1.out.mono (by omega))).setCell (p := ⟨w.heap.size, 1, none⟩) (Nat.le_refl _) _
  have OV : Hid (OwnN V W.heap.size (.slice a1 k.regs.length b1) k.regs) := by
   rw [← hV]
   exact ownKeep' O1.out (fun b hb => Below.heap_setCell _ _ _ b (by have := (World.ownsRow.lt O1.out _ hb).1; simp; omega))
  have HR2 : Hid (IntsR V lo hi s2 k.vw) := H2.out.keep (Keep.of_below KV.out hB)
  have zV : w.heap.size + 2 ≤ V.heap.size := by omega
  rw [hV]
  obtain ⟨va0, va1, va2, va3, va4⟩ := VA.out.x
  have vf := VA.out.fz
  have vs' := vs
  clear hV ya ya2 yf za YA YB O1 K1 vs
  refine app_copyI rfl _ _ rfl rfl (V.alloc (.cells #[] 3)) V.heap.size (some ⟨V.heap.size, 0, none⟩) 0 (by first | rfl | (rw [vs']; rfl)) (World.ownsRow_lit V #[] 0 (Nat.le_refl _) (by unfold maxLen; omega) rfl) s2 c2 k.vw (by rfl) (HR2.out.keep (Keep.of_below ((Below.refl V.heap.size V).alloc (Nat.le_refl _) _) (by omega))) (by omega) (by simp) ?_
  intro a2 b2 w2 ho2 hc2
  have P2 := (show Hid (OwnN w2 V.heap.size (.slice a2 k.vw.length b2) k.vw) from ho2)
  have K2 := (show Hid (Below V.heap.size V w2) from ((Below.refl V.heap.size V).alloc (Nat.le_refl _) _).trans hc2.low)
  clear ho2 hc2
  have KK : Hid (Below w.heap.size w w2) := KV.out.trans (K2.out.mono (by omega))
  have ZA : Hid (X4 w2 w.heap.size (.int .i64 k.pc) (.slice a1 k.regs.length b1) (.slice s2 k.vw.length c2) (.int .i64 k.st)) := VA.out.keep K2.out (by omega)
  have ZB : Hid (X4 w2 (w.heap.size + 1) (.int .i64 0) (.slice none 0 0) (.slice none 0 0) (.int .i64 0)) := VB.out.keep K2.out (by omega)
  have P1 : Hid (OwnN w2 W.heap.size (.slice a1 k.regs.length b1) k.regs) := ownKeep' OV.out (fun b hb => K2.out.block b (World.ownsRow.lt OV.out _ hb).2)
  have SP : Hid (∀ q, (Value.slice a1 k.regs.length b1).ownBlock = some q → (Value.slice a2 k.vw.length b2).ownBlock ≠ some q) := fun q h1 h2 => by
   have := (World.ownsRow.lt OV.out _ h1).2
   have := (World.ownsRow.lt P2.out _ h2).1
   omega
  clear va1 va2 va3 va4 vf
  obtain ⟨za0, za1, za2, za3, za4⟩ := ZA.out.x
  have zf := ZA.out.fz
  obtain ⟨yb0, yb1, yb2, yb3, yb4⟩ := ZB.out.x
  have yf2 := ZB.out.fz
  have zz2 := K2.out.size))
 obtain ⟨Z, hZ, xz, kz, sz, fz⟩ : ∃ Z, ((((w2.setCell ⟨w.heap.size, 2, none⟩ (.slice a2 k.vw.length b2)).setCell ⟨w.heap.size + 1, 0, none⟩ (.int .i64 k.pc)).setCell ⟨w.heap.size + 1, 1, none⟩ (.slice a1 k.regs.length b1)).setCell ⟨w.heap.size + 1, 2, none⟩ (.slice a2 k.vw.length b2)).setCell ⟨w.heap.size + 1, 3, none⟩ (.int .i64 k.st) = Z ∧ X4 Z (w.heap.size + 1) (.int .i64 k.pc) (.slice a1 k.regs.length b1) (.slice a2 k.vw.length b2) (.int .i64 k.st) ∧ Below w.heap.size w Z ∧ Z.heap.size = w2.heap.size ∧ ∀ b, w.heap.size + 2 ≤ b → Z.heap[b]? = w2.heap[b]? := by
  refine ⟨_, rfl, (ZB.out.off (by omega)).set0.set1.set2.set3, ?_, by simp, fun b hb => ?_⟩
  ·refine Below.setCell (Below.setCell (Below.setCell (Below.setCell (Below.setCell KK.out ?_ _) ?_ _) ?_ _) ?_ _) ?_ _ <;> simp
  ·rw [Below.heap_setCell _ _ _ b (by simp; omega), Below.heap_setCell _ _ _ b (by simp; omega), Below.heap_setCell _ _ _ b (by simp; omega), Below.heap_setCell _ _ _ b (by simp; omega), Below.heap_setCell _ _ _ b (by simp; omega)]
 have o1 : OwnN Z w.heap.size (.slice a1 k.regs.length b1) k.regs := by
  have o : OwnN w2 w.heap.size (.slice a1 k.regs.length b1) k.regs := ownLow' P1.out (by omega)
  exact ownKeep' o (fun b hb => fz b (by have := (World.ownsRow.lt P1.out _ hb).1; omega))
 have o2 : OwnN Z w.heap.size (.slice a2 k.vw.length b2) k.vw := by
  have o : OwnN w2 w.heap.size (.slice a2 k.vw.length b2) k.vw := ownLow' P2.out (by omega)
  exact ownKeep' o (fun b hb => fz b (by have := (World.ownsRow.lt P2.out _ hb).1; omega))
 refine bodyPost_ret (v := .agg #[.int .i64 k.pc, .slice a1 k.regs.length b1, .slice a2 k.vw.length b2, .int .i64 k.st]) ?_ rfl ?_
 ·rw [hZ]
  simp [results, Tryz.results58, go_sem, xz.x.c0, xz.x.c1, xz.x.c2, xz.x.c3]
 ·rw [hZ]
  exact ⟨a1, b1, a2, b2, rfl, o1, o2, SP.out, kz, by omega⟩
end
end Go.Proofs.YtabppapibnemhaaGreat
