/- A turn settled: the thread has what became of it. No condition. settle, walked. No condition. -/
import Derived.Test.YtfokbjkgdiploaaGreatJG14
import Derived.Laws.CopyOwn
import Derived.Deep.RegionHeld3
import Derived.Deep.DeepCutAuto
import Derived.ChangeKeysEq
namespace Go.Proofs.YtfokbjkgdiploaaGreat
section
set_option linter.unusedSimpArgs false
set_option linter.unusedVariables false
set_option maxRecDepth 100000
open Go.RowKit
theorem app_cpy4 {ops : Array Oper} {rest : List Oper} {o : Oper} {a : Act} {Q : Exit → Act → World → Prop} (hgd : o.guard = none) (d s : Operand) (ho : o.op = .call { callee := .builtin .copy, args := #[d, s], argTypes := #[22, 22] })
  (w : World) (R : Nat) (cur : List Value) (hg : w.heap[R]? = some (.cells cur.toArray 3 (0, 0))) (dc sc : Nat) (g off : Nat) (hd : a.eval d = .slice (some ⟨R, 0, none⟩) 4 dc) (hs : a.eval s = .slice (some ⟨g, off, none⟩) 4 sc) (l : List Int) (hl : l.length = 4)
  (hc : ∀ i, i < l.length → w.cell? ⟨g, off + i, none⟩ = some (.int .i64 (l.getD i 0))) (hfit : 4 ≤ cur.length)
  (h : ∀ w', w'.heap[R]? = some (.cells (splice cur 0 (l.map (Value.int .i64))).toArray 3 (0, 0)) → (∀ q, q ≠ R → w'.heap[q]? = w.heap[q]?) → w'.heap.size = w.heap.size → w'.os = w.os → w'.tape = w.tape → w'.output = w.output → wpList Tryz.prog ops Q rest (a.put o.dst (.int .i64 4)) w') : wpList Tryz.prog ops Q (o :: rest) a w := by
 refine wpList_copy_own hgd d s 22 22 ho 3 Tryz.underlying22 rfl R 0 4 dc ⟨g, off, none⟩ 4 sc hd hs cur.toArray 3 hg (l.map (Value.int .i64)) (by simp [hl]) (news_row hc) (by simpa [hl] using hfit) (fun v hv => by obtain ⟨z, -, rfl⟩ := List.mem_map.1 hv; rfl) ?_
 rw [List.length_map, hl]
 refine h _ ?_ (fun q hq => setRow_other w R q _ hq) (by simp [World.setRow]) rfl rfl rfl
 have := setRow_heap w R _ (cur.take 0 ++ (l.map (Value.int .i64) ++ cur.drop (0 + 4))).toArray 3 _ hg
 simpa [splice, hl] using this
/- four registers written one by one, and at once -/
def put4 (w : World) (g : Nat) (a b c d : Int) : World := (((w.setCell ⟨g, 0, none⟩ (.int .i64 a)).setCell ⟨g, 1, none⟩ (.int .i64 b)).setCell ⟨g, 2, none⟩ (.int .i64 c)).setCell ⟨g, 3, none⟩ (.int .i64 d)
theorem put4_off {w : World} {g q : Nat} {a b c d : Int} (h : q ≠ g) : (put4 w g a b c d).heap[q]? = w.heap[q]? := by
 unfold put4
 rw [Below.heap_setCell _ _ _ q h, Below.heap_setCell _ _ _ q h, Below.heap_setCell _ _ _ q h, Below.heap_setCell _ _ _ q h]
theorem put4_at {w : World} {g : Nat} {x0 x1 x2 x3 : Value} {rest : List Value} {T : TypeId} {f : Nat × Nat} {a b c d : Int} (h : w.heap[g]? = some (.cells (x0 :: x1 :: x2 :: x3 :: rest).toArray T f)) : (put4 w g a b c d).heap[g]? = some (.cells (splice (x0 :: x1 :: x2 :: x3 :: rest) 0 [Value.int .i64 a, .int .i64 b, .int .i64 c, .int .i64 d]).toArray T f) := by
 unfold put4
 rw [heap_setS (heap_setS (heap_setS (heap_setS h)))]
 simp [splice]
theorem OwnS.put4 {w : World} {base g c : Nat} {v1 v2 v3 : Value} {L1 L2 : List (Rec × Value)} {d : SD} (h : OwnS w base v1 v2 v3 L1 L2 d) {k : Nat} {t : TD} {x : Rec × Value} (hx : L1[k]? = some x) (ht : d.ths[k]? = some t) (hx2 : x.2 = .slice (some ⟨g, 0, none⟩) 4 c) (h4 : t.regs.length = 4) (a b c' e : Int) :
  ∃ L1', OwnS (put4 w g a b c' e) base v1 v2 v3 L1' L2 ⟨d.ths.set k ⟨t.pc, [a, b, c', e], t.st⟩, d.chs, d.tr⟩ ∧ (∀ q, HitQ v1 L1' q → HitQ v1 L1 q) ∧ ∃ x', L1'[k]? = some x' ∧ x'.2 = .slice (some ⟨g, 0, none⟩) 4 c := by
 have hkl : k < d.ths.length := (List.getElem?_eq_some_iff.1 ht).1
 obtain ⟨pc, rg, st⟩ := t
 simp only at h4
 obtain ⟨r0, r1, r2, r3, rfl⟩ : ∃ a b c d, rg = [a, b, c, d] := by
  match rg, h4 with
  | [a, b, c, d], _ => exact ⟨a, b, c, d, rfl⟩
 obtain ⟨M1, e1, o1, q1⟩ := h.setR hx ht hx2 rfl 0 a
 have t1 : (d.ths.set k ⟨pc, [a, r1, r2, r3], st⟩)[k]? = some ⟨pc, [a, r1, r2, r3], st⟩ := List.getElem?_set_self hkl
 obtain ⟨M2, e2, o2, q2⟩ := OwnS.setR (d := ⟨d.ths.set k ⟨pc, [a, r1, r2, r3], st⟩, d.chs, d.tr⟩) o1 e1 t1 hx2 rfl 1 b
 simp only [List.set_set] at o2
 have t2 : (d.ths.set k ⟨pc, [a, b, r2, r3], st⟩)[k]? = some ⟨pc, [a, b, r2, r3], st⟩ := List.getElem?_set_self hkl
 obtain ⟨M3, e3, o3, q3⟩ := OwnS.setR (d := ⟨d.ths.set k ⟨pc, [a, b, r2, r3], st⟩, d.chs, d.tr⟩) o2 e2 t2 hx2 rfl 2 c'
 simp only [List.set_set] at o3
 have t3 : (d.ths.set k ⟨pc, [a, b, c', r3], st⟩)[k]? = some ⟨pc, [a, b, c', r3], st⟩ := List.getElem?_set_self hkl
 obtain ⟨M4, e4, o4, q4⟩ := OwnS.setR (d := ⟨d.ths.set k ⟨pc, [a, b, c', r3], st⟩, d.chs, d.tr⟩) o3 e3 t3 hx2 rfl 3 e
 simp only [List.set_set] at o4
 exact ⟨M4, o4, fun q hq => q1 q (q2 q (q3 q (q4 q hq))), _, e4, hx2⟩
/- the registers are the thread's -/
structure Mid (w w2 : World) (b S base g1 c1 n3 c3 k : Nat) (s3 : Option Addr) (v2 : Value) (L1 L2 L1' : List (Rec × Value)) (d : SD) (who pc nx st : Int) (rg : List Int) (t : TD) : Prop where
 o : OwnS w2 base (.slice (some ⟨g1, 0, none⟩) d.ths.length c1) v2 (.slice s3 n3 c3) L1' L2 ⟨d.ths.set k ⟨t.pc, rg, t.st⟩, d.chs, d.tr⟩
 t : Tn w2 b S who pc nx st rg
 s : BoF S w2 (.slice (some ⟨g1, 0, none⟩) d.ths.length c1) v2 (.slice s3 n3 c3)
 bs : BxS w2 S
 h : ∀ q, HitQ (.slice (some ⟨g1, 0, none⟩) d.ths.length c1) L1' q → HitQ (.slice (some ⟨g1, 0, none⟩) d.ths.length c1) L1 q
 f : ∀ q, q < w.heap.size → ¬ HitS (.slice (some ⟨g1, 0, none⟩) d.ths.length c1) v2 (.slice s3 n3 c3) L1 L2 q → w2.heap[q]? = w.heap[q]?
 b : Below base w w2
structure SetQ (w w2 : World) (S base g1 c1 n3 c3 k : Nat) (s3 : Option Addr) (v2 : Value) (L1 L2 L1' : List (Rec × Value)) (d : SD) (T : TD) : Prop where
 o : OwnS w2 base (.slice (some ⟨g1, 0, none⟩) d.ths.length c1) v2 (.slice s3 n3 c3) L1' L2 ⟨d.ths.set k T, d.chs, d.tr⟩
 s : BoF S w2 (.slice (some ⟨g1, 0, none⟩) d.ths.length c1) v2 (.slice s3 n3 c3)
 bs : BxS w2 S
 h : ∀ q, HitQ (.slice (some ⟨g1, 0, none⟩) d.ths.length c1) L1' q → HitQ (.slice (some ⟨g1, 0, none⟩) d.ths.length c1) L1 q
 f : ∀ q, q < w.heap.size → ¬ HitS (.slice (some ⟨g1, 0, none⟩) d.ths.length c1) v2 (.slice s3 n3 c3) L1 L2 q → w2.heap[q]? = w.heap[q]?
 b : Below base w w2
theorem ths_same {t : TD} {ths : List TD} {k : Nat} (h : ths[k]? = some t) : ths.set k t = ths := by
 apply List.ext_getElem?
 intro j
 by_cases e : j = k
 ·subst e
  rw [List.getElem?_set_self (List.getElem?_eq_some_iff.1 h).1, h]
 ·rw [List.getElem?_set_ne (Ne.symm e)]
theorem mid_eq {w w2 : World} {b S base g1 c1 n3 c3 k : Nat} {s3 : Option Addr} {v2 : Value} {L1 L2 : List (Rec × Value)} {d : SD} {who pc nx st : Int} {rg : List Int} {t : TD} (h : Rd w b S base (.slice (some ⟨g1, 0, none⟩) d.ths.length c1) v2 (.slice s3 n3 c3) L1 L2 d who pc nx st rg) (ht : d.ths[k]? = some t) (e : rg = t.regs) (kk : Below w.heap.size w w2) : Mid w w2 b S base g1 c1 n3 c3 k s3 v2 L1 L2 L1 d who pc nx st rg t := by
 have q := h.put (W2 := w) (fun q _ => rfl) rfl h.bt (Below.refl _ _) h.t kk
 refine ⟨?_, q.r.t, q.r.s, q.r.bs, fun _ hq => hq, fun q h1 _ => kk.block q h1, kk.mono h.hb⟩
 have e2 : d.ths.set k ⟨t.pc, rg, t.st⟩ = d.ths := by rw [e]; exact ths_same ht
 rw [e2]
 exact q.r.o
theorem mid_ne {w w1 w2 : World} {b S base g1 c1 n3 c3 k gr cr : Nat} {s3 : Option Addr} {v2 : Value} {L1 L2 : List (Rec × Value)} {d : SD} {who pc nx st : Int} {t : TD} {y : Rec × Value} {a0 a1 a2 a3 : Int} {x0 x1 x2 x3 : Value} {rest : List Value} {T : TypeId} (h : Rd w b S base (.slice (some ⟨g1, 0, none⟩) d.ths.length c1) v2 (.slice s3 n3 c3) L1 L2 d who pc nx st [a0, a1, a2, a3]) (ht : d.ths[k]? = some t) (h4 : t.regs.length = 4) (hy : L1[k]? = some y) (hy2 : y.2 = .slice (some ⟨gr, 0, none⟩) 4 cr) (kk : Below w.heap.size w w1) (hgr : base ≤ gr) (hg : w1.heap[gr]? = some (.cells (x0 :: x1 :: x2 :: x3 :: rest).toArray T (0, 0))) (hw : w2.heap[gr]? = some (.cells (splice (x0 :: x1 :: x2 :: x3 :: rest) 0 ([a0, a1, a2, a3].map (Value.int .i64))).toArray T (0, 0))) (hf : ∀ q, q ≠ gr → w2.heap[q]? = w1.heap[q]?) (hs : w2.heap.size = w1.heap.size) (hos : w2.os = w1.os) (htp : w2.tape = w1.tape) (hou : w2.output = w1.output) : ∃ L1', Mid w w2 b S base g1 c1 n3 c3 k s3 v2 L1 L2 L1' d who pc nx st [a0, a1, a2, a3] t := by
 have q := h.put (W2 := w) (fun q _ => rfl) rfl h.bt (Below.refl _ _) h.t kk
 obtain ⟨L1', o, hh, -⟩ := q.r.o.put4 hy ht hy2 h4 a0 a1 a2 a3
 have hit : HitS (.slice (some ⟨g1, 0, none⟩) d.ths.length c1) v2 (.slice s3 n3 c3) L1 L2 gr := .inl (.inr ⟨k, y, hy, by rw [hy2]; rfl⟩)
 have nb : b ≠ gr := fun e => h.o.hitU h.bt (by rw [e]; exact hit)
 have nS : S ≠ gr := fun e => h.o.hitB h.bs (by rw [e]; exact hit)
 have e2 : ∀ q, w2.heap[q]? = (put4 w1 gr a0 a1 a2 a3).heap[q]? := fun q => by
  by_cases e : q = gr
  ·subst e
   rw [hw, put4_at hg]
   rfl
  ·rw [hf q e, put4_off e]
 refine ⟨L1', o.keepB (fun q _ => e2 q), q.r.t.same (hf b nb) (by omega), q.r.s.keep (hf S nS) (by omega), q.r.bs.same (hf S nS), hh, fun q h1 h2 => (hf q (fun e => h2 (by rw [e]; exact hit))).trans (kk.block q h1), ?_⟩
 exact (kk.mono h.hb).trans ⟨hos, htp, hou, by omega, fun q hq => hf q (by omega)⟩
theorem mid_fault {w w2 : World} {b S base g1 c1 n3 c3 k : Nat} {s3 : Option Addr} {v2 : Value} {L1 L2 L1' : List (Rec × Value)} {d : SD} {who pc nx st : Int} {rg : List Int} {t : TD} (h : Mid w w2 b S base g1 c1 n3 c3 k s3 v2 L1 L2 L1' d who pc nx st rg t) (hk : k < d.ths.length) (hg : base ≤ g1) : ∃ M, SetQ w (w2.setCell ⟨g1, k * 3 + 2, none⟩ (.int .i64 2)) S base g1 c1 n3 c3 k s3 v2 L1 L2 M d ⟨t.pc, rg, 2⟩ := by
 have q9 : OwnS w2 base (.slice (some ⟨g1, 0, none⟩) (⟨d.ths.set k ⟨t.pc, rg, t.st⟩, d.chs, d.tr⟩ : SD).ths.length c1) v2 (.slice s3 n3 c3) L1' L2 ⟨d.ths.set k ⟨t.pc, rg, t.st⟩, d.chs, d.tr⟩ := by simp only [List.length_set]; exact h.o
 have T9 : (d.ths.set k ⟨t.pc, rg, t.st⟩)[k]? = some ⟨t.pc, rg, t.st⟩ := List.getElem?_set_self hk
 obtain ⟨M, o, hh⟩ := (q9.setT T9 2).2
 simp only [List.length_set, List.set_set] at o hh
 have nS : S ≠ g1 := fun e => h.o.hitB h.bs (by rw [e]; exact .inl (.inl rfl))
 exact ⟨M, o, h.s.keep (Below.heap_setCell _ _ _ S nS) (by simp), h.bs.set, fun q hq => h.h q (hh q hq), fun q h1 h2 => (Below.heap_setCell _ _ _ q (fun e => h2 (.inl (.inl (by rw [e]; rfl))))).trans (h.f q h1 h2), Below.setCell h.b hg _⟩
theorem mid_done {w w2 : World} {b S base g1 c1 n3 c3 k : Nat} {s3 : Option Addr} {v2 : Value} {L1 L2 L1' : List (Rec × Value)} {d : SD} {who pc nx st : Int} {rg : List Int} {t : TD} (h : Mid w w2 b S base g1 c1 n3 c3 k s3 v2 L1 L2 L1' d who pc nx st rg t) (hk : k < d.ths.length) (hg : base ≤ g1) : ∃ M, SetQ w ((w2.setCell ⟨g1, k * 3, none⟩ (.int .i64 nx)).setCell ⟨g1, k * 3 + 2, none⟩ (.int .i64 st)) S base g1 c1 n3 c3 k s3 v2 L1 L2 M d ⟨nx, rg, st⟩ := by
 have q9 : OwnS w2 base (.slice (some ⟨g1, 0, none⟩) (⟨d.ths.set k ⟨t.pc, rg, t.st⟩, d.chs, d.tr⟩ : SD).ths.length c1) v2 (.slice s3 n3 c3) L1' L2 ⟨d.ths.set k ⟨t.pc, rg, t.st⟩, d.chs, d.tr⟩ := by simp only [List.length_set]; exact h.o
 have T9 : (d.ths.set k ⟨t.pc, rg, t.st⟩)[k]? = some ⟨t.pc, rg, t.st⟩ := List.getElem?_set_self hk
 obtain ⟨M, o, hh⟩ := (q9.setT T9 nx).1
 simp only [List.length_set, List.set_set] at o hh
 have q8 : OwnS (w2.setCell ⟨g1, k * 3, none⟩ (.int .i64 nx)) base (.slice (some ⟨g1, 0, none⟩) (⟨d.ths.set k ⟨nx, rg, t.st⟩, d.chs, d.tr⟩ : SD).ths.length c1) v2 (.slice s3 n3 c3) M L2 ⟨d.ths.set k ⟨nx, rg, t.st⟩, d.chs, d.tr⟩ := by simp only [List.length_set]; exact o
 have T8 : (d.ths.set k ⟨nx, rg, t.st⟩)[k]? = some ⟨nx, rg, t.st⟩ := List.getElem?_set_self hk
 obtain ⟨M2, o2, hh2⟩ := (q8.setT T8 st).2
 simp only [List.length_set, List.set_set] at o2 hh2
 have nS : S ≠ g1 := fun e => h.o.hitB h.bs (by rw [e]; exact .inl (.inl rfl))
 exact ⟨M2, o2, (h.s.keep (Below.heap_setCell _ _ _ S nS) (by simp)).keep (Below.heap_setCell _ _ _ S nS) (by simp), h.bs.set.set, fun q hq => h.h q (hh q (hh2 q hq)), fun q h1 h2 => (Below.heap_setCell _ _ _ q (fun e => h2 (.inl (.inl (by rw [e]; rfl))))).trans ((Below.heap_setCell _ _ _ q (fun e => h2 (.inl (.inl (by rw [e]; rfl))))).trans (h.f q h1 h2)), Below.setCell (Below.setCell h.b hg _) hg _⟩
theorem own_cur {w : World} {base g c : Nat} {l : List Int} (h : OwnN w base (.slice (some ⟨g, 0, none⟩) 4 c) l) (h4 : l.length = 4) : ∃ x0 x1 x2 x3 rest, w.heap[g]? = some (.cells (x0 :: x1 :: x2 :: x3 :: rest).toArray 3 (0, 0)) := by
 rcases h.2 with ⟨q, -⟩ | ⟨g', cap, cur, q, -, hc, h1, h2, h3, h5⟩
 ·cases q
 ·injection q with q1 q2 q3
  injection q1 with q1
  injection q1 with q1
  subst q1
  have hl : 4 ≤ cur.toList.length := by simp at h1 h2 h3 ⊢; omega
  match hcu : cur.toList, hl with
  | x0 :: x1 :: x2 :: x3 :: rest, _ =>
   refine ⟨x0, x1, x2, x3, rest, ?_⟩
   rw [hc, ← hcu]
end
section
set_option linter.unusedSimpArgs false
set_option linter.unusedVariables false
set_option maxRecDepth 100000
open Go.RowKit
theorem eqR (a b c d a' b' c' d' : Int) (w : World) : (Op.equal 113 (.agg #[.int .i64 a, .int .i64 b, .int .i64 c, .int .i64 d]) (.agg #[.int .i64 a', .int .i64 b', .int .i64 c', .int .i64 d'])).run Tryz.prog w = .ok (a == a' && (b == b' && (c == c' && d == d'))) w := by
 have hi : ∃ i, Tryz.prog.info? 3 = some i := ⟨_, rfl⟩
 obtain ⟨i, hi⟩ := hi
 show (Op.equalIn (9999 + 1) _ _ _).run Tryz.prog w = _
 rw [run_equalIn_array w 9999 _ _ Tryz.underlying113 hi]
 have e : ∀ (x y : Int), (Op.equalIn 9999 3 (.int .i64 x) (.int .i64 y)).run Tryz.prog w = .ok (x == y) w := fun x y => run_equalIn_int w 9998 _ _ _ x y Tryz.underlying3
 have er : List.range 4 = [0, 1, 2, 3] := rfl
 rw [er]
 have hc : Tryz.prog.cellsOf 3 = 1 := rfl
 rw [hc]
 have p : ∀ (x0 x1 x2 x3 : Value), (part 3 #[x0, x1, x2, x3] 0).run Tryz.prog w = .ok x0 w ∧ (part 3 #[x0, x1, x2, x3] 1).run Tryz.prog w = .ok x1 w ∧ (part 3 #[x0, x1, x2, x3] 2).run Tryz.prog w = .ok x2 w ∧ (part 3 #[x0, x1, x2, x3] 3).run Tryz.prog w = .ok x3 w := fun x0 x1 x2 x3 => ⟨by simp [part, go_sem], by simp [part, go_sem], by simp [part, go_sem], by simp [part, go_sem]⟩
 simp only [Op.eqItems, Sem.run_bind, Nat.zero_mul, Nat.one_mul, Nat.mul_one, (p _ _ _ _).1, (p _ _ _ _).2.1, (p _ _ _ _).2.2.1, (p _ _ _ _).2.2.2, Result.andThen_ok, e]
 by_cases h0 : a = a' <;> by_cases h1 : b = b' <;> by_cases h2 : c = c' <;> by_cases h3 : d = d' <;> simp [Op.eqItems, Sem.run_bind, (p _ _ _ _).1, (p _ _ _ _).2.1, (p _ _ _ _).2.2.1, (p _ _ _ _).2.2.2, Result.andThen_ok, e, h0, h1, h2, h3]
theorem SetQ.drew {w w2 : World} {S base g1 c1 n3 c3 k : Nat} {s3 : Option Addr} {v2 : Value} {L1 L2 M : List (Rec × Value)} {d : SD} {T : TD} (h : SetQ w w2 S base g1 c1 n3 c3 k s3 v2 L1 L2 M d T) : SetQ w w2.drew S base g1 c1 n3 c3 k s3 v2 L1 L2 M d T :=
 ⟨h.o.keepB (fun _ _ => rfl), h.s.keep rfl (Nat.le_refl _), h.bs.same rfl, h.h, h.f, h.b.drew⟩
theorem gR (x y : Operand) (xs ys : Array Value) (w : World) : (eqGuard .neq 113 x y (.agg xs) (.agg ys)).run Tryz.prog w = .ok () w := by
 simp [eqGuard, go_sem]
set_option maxHeartbeats 8000000 in
theorem settle_any (b S base n3 c3 g1 c1 k nb : Nat) (s3 : Option Addr) (v2 : Value) (L1 L2 : List (Rec × Value)) (d : SD) (who pc nx st : Int) (rg : List Int) (t : TD) (code : Int) (w : World) (h : Rd w b S base (.slice (some ⟨g1, 0, none⟩) d.ths.length c1) v2 (.slice s3 n3 c3) L1 L2 d who pc nx st rg) (ht : d.ths[k]? = some t) (h4 : t.regs.length = 4) (hkl : k < 1000) :
  Calls Tryz.prog 78 #[.pointer (some ⟨b, 0, none⟩), .pointer (some ⟨g1, k * 3, none⟩), .int .i64 code, .int .i64 nb] w fun e w' => e = .returned (.tuple #[]) ∧ ∃ M, SetQ w w' S base g1 c1 n3 c3 k s3 v2 L1 L2 M d (if code = 2 ∨ ¬ (0 ≤ nx ∧ nx < (nb : Int)) then ⟨t.pc, rg, 2⟩ else ⟨nx, rg, st⟩) := by
 have hk : k < d.ths.length := (List.getElem?_eq_some_iff.1 ht).1
 obtain ⟨g9, c9, y, e9, hy, ey, hg0, hg1, k0, k1, k2, kf⟩ := h.o.thread ht
 injection e9 with h1 h2 h3
 injection h1 with h1
 injection h1 with h1
 subst h1 h3
 clear h2
 obtain ⟨gr, cr, y2, ar, zr, rr, fr⟩ := h.o.regs hy ey h4
 rw [y2] at k1
 have ON : OwnN w base (.slice (some ⟨gr, 0, none⟩) 4 cr) t.regs := by have q := h.o.t.inn k y hy; rw [ey, y2] at q; exact q
 obtain ⟨x0, x1, x2, x3, rest, hcur⟩ := own_cur ON h4
 obtain ⟨tpc, trg, tst⟩ := t
 simp only at h4 rr k0 k2 ON
 obtain ⟨r0, r1, r2, r3, rfl⟩ : ∃ a b c d, trg = [a, b, c, d] := by
  match trg, h4 with
  | [a, b, c, d], _ => exact ⟨a, b, c, d, rfl⟩
 obtain ⟨a0, a1, a2, a3, rfl⟩ : ∃ a b c d, rg = [a, b, c, d] := by
  match rg, h.t.l with
  | [a, b, c, d], _ => exact ⟨a, b, c, d, rfl⟩
 have RG : Hid (∀ X, Below w.heap.size w X → Calls Tryz.prog 76 #[.slice (some ⟨gr, 0, none⟩) 4 cr] X fun e w' => e = .returned (.agg #[.int .i64 r0, .int .i64 r1, .int .i64 r2, .int .i64 r3]) ∧ Below X.heap.size X w') := fun X hX => regsOf_any (some ⟨gr, 0, none⟩) cr gr (gr + 1) [r0, r1, r2, r3] X (.inr ⟨gr, 0, rfl, Nat.le_refl _, Nat.lt_succ_self _, fun i hi => by rw [Nat.zero_add]; exact (hX.cell (p := ⟨gr, i, none⟩) zr).trans (rr i hi)⟩) (by have := hX.size; omega) rfl
 have HH := hidW h
 have HT := hidW ht
 have HY := hidW hy
 have HY2 := hidW y2
 have HCUR := hidW hcur
 have K1 := hidW k1
 have hz := h.t.z
 have m0 : w.cell? ⟨b, 5, none⟩ = some (.int .i64 a0) := h.t.r 0 (by omega)
 have m1 : w.cell? ⟨b, 6, none⟩ = some (.int .i64 a1) := h.t.r 1 (by omega)
 have m2 : w.cell? ⟨b, 7, none⟩ = some (.int .i64 a2) := h.t.r 2 (by omega)
 have m3 : w.cell? ⟨b, 8, none⟩ = some (.int .i64 a3) := h.t.r 3 (by omega)
 obtain ⟨T, hTT⟩ : ∃ T : TD, (if code = 2 ∨ ¬ (0 ≤ nx ∧ nx < (nb : Int)) then (⟨tpc, [a0, a1, a2, a3], 2⟩ : TD) else ⟨nx, [a0, a1, a2, a3], st⟩) = T := ⟨_, rfl⟩
 rw [hTT]
 have HTT := hidW hTT
 clear hTT
 have E4 : Hid (∀ x y : Int, x = y → (x == y) = true) := fun x y e => by simp [e]
 have hne := ext_ne w
 have u0 := Ext.fit m0 hz
 have u1 := Ext.fit m1 hz
 have u2 := Ext.fit m2 hz
 have u3 := Ext.fit m3 hz
 have u4 := Ext.fit k1 hg1
 clear h hy y2 hcur ey ON m0 m1 m2 m3 k0 k1 k2 kf rr fr
 obtain ⟨bv, hbv⟩ : ∃ bv, (a0 == r0 && (a1 == r1 && (a2 == r2 && a3 == r3))) = bv := ⟨_, rfl⟩
 have EQ4 := hidW (fun w => eqR a0 a1 a2 a3 r0 r1 r2 r3 w)
 rw [hbv] at EQ4
 cases bv
 ·clear hbv
  go_enter Tryz.func78, Tryz.ntmps78
  go_upto_region 0 with fail
  refine regionExt w (by kernel_rfl) (by kernel_rfl) ?_
  repeat (go_big_quiet_step ((rename_i X; go_at_call 76; refine Calls.mono (RG.out _ X.b) ?_; rintro e w3 ⟨rfl, hb3⟩; exact ⟨rfl, X.on hb3⟩)))
  refine Go.BigFrame.wpQuiet_want (by rfl) (fun K hK => ⟨.bool true, fun w' _ => ?_, hK _ ?_⟩)
  ·have q := EQ4.out w'
   simp [Oper.quietAt, execOp, gR, binOp, q, Oper.quietUpon, go_sem]
  refine wpQuiet_nil ?_
  clear hne u0 u1 u2 u3 u4 EQ4
  rintro w3 ⟨X3, rfl⟩
  obtain ⟨V2, hX3⟩ : ∃ V2, X3.w = V2 := ⟨_, rfl⟩
  have hb3 := X3.b
  rw [hX3] at hb3 ⊢
  clear hX3 X3
  have B3 := hidW hb3
  have k1 := (hb3.cell (p := ⟨g1, k * 3 + 1, none⟩) hg1).trans K1.out
  have zg1 : g1 < V2.heap.size := by have := hb3.size; omega
  have hne := ext_ne V2
  have u4 := Ext.fit k1 zg1
  clear hb3 k1
  go_wp2_with fail
  refine regionSuf V2 8 (by decide) (by kernel_rfl) (by kernel_rfl) (by kernel_rfl) (by kernel_rfl) ?_
  dsimp only [List.take, List.drop]
  repeat (go_big_quiet_step (fail))
  refine wpQuiet_nil ?_
  clear hne u4
  rintro w4 ⟨X4, rfl⟩
  obtain ⟨V3, hX4⟩ : ∃ V3, X4.w = V3 := ⟨_, rfl⟩
  have hb4 := X4.b
  rw [hX4] at hb4 ⊢
  clear hX4 X4
  have B4 := hidW (B3.out.trans (hb4.mono B3.out.size))
  clear hb4
  have HG4 := (B4.out.block gr zr).trans HCUR.out
  refine app_cpy4 rfl _ _ rfl V3 gr (x0 :: x1 :: x2 :: x3 :: rest) HG4 _ _ b 5 rfl rfl [a0, a1, a2, a3] rfl (fun i hi => (B4.out.cell (p := ⟨b, 5 + i, none⟩) hz).trans (HH.out.t.r i hi)) (by simp) ?_
  intro V5 q1 q2 q3 q4 q5 q6
  obtain ⟨LL, hm⟩ := mid_ne HH.out HT.out rfl HY.out HY2.out B4.out ar HG4 q1 q2 q3 q4 q5 q6
  have HM := hidW hm
  have nbr : b ≠ gr := fun e => HH.out.o.hitU HH.out.bt (by rw [e]; exact .inl (.inr ⟨k, y, HY.out, by rw [HY2.out]; rfl⟩))
  have HBTU := hidW (HH.out.bt.same ((q2 b nbr).trans (B4.out.block b hz)))
  clear hm q1 q2 q3 q4 q5 q6 HG4
  have hkb := HM.out.o
  obtain ⟨g9, c9, y9, e9, -, -, -, zg, l0, -, l2, lf⟩ := HM.out.o.thread (show (⟨d.ths.set k ⟨tpc, [a0, a1, a2, a3], tst⟩, d.chs, d.tr⟩ : SD).ths[k]? = some ⟨tpc, [a0, a1, a2, a3], tst⟩ from List.getElem?_set_self hk)
  injection e9 with h1 h2 h3
  injection h1 with h1
  injection h1 with h1
  subst h1 h3
  clear h2 hkb
  obtain ⟨-, -, -, p3, p4, -, pf, pz, -⟩ := HM.out.t
  by_cases h2c : code = 2
  ·have HTE := hidW (show (⟨tpc, [a0, a1, a2, a3], 2⟩ : TD) = T from by rw [← HTT.out, if_pos (.inl h2c)])
   obtain ⟨M, q⟩ := mid_fault HM.out hk hg0
   have Q9 := hidW q
   have hee : (code == 2) = true := by simp [h2c]
   clear q h2c
   go_wp2
   refine bodyPost_ret (v := .tuple #[]) (by simp [results, Tryz.results78, go_sem]) rfl ⟨rfl, M, ?_⟩
   rw [← HTE.out]
   exact Q9.out
  have hee : (code == 2) = false := by simp [h2c]
  by_cases hin : 0 ≤ nx ∧ nx < (nb : Int)
  ·have HTE := hidW (show (⟨nx, [a0, a1, a2, a3], st⟩ : TD) = T from by rw [← HTT.out, if_neg (fun q => by rcases q with q | q; exact h2c q; exact q hin)])
   obtain ⟨M, q⟩ := mid_done HM.out hk hg0
   have Q9 := hidW q
   have ONE := hidW (show Plain.oneB nx nb = true from by unfold Plain.oneB; simp; omega)
   clear q h2c hin
   go_wp2_with fail
   refine (isOneOf_any _ _ _).mono ?_
   rintro e w9 ⟨rfl, hw9⟩
   rw [hw9, ONE.out]
   clear hw9 w9
   go_wp2_with fail
   have ngb : ¬ g1 = b := fun e => HM.out.o.hitU (HBTU.out) (by rw [← e]; exact .inl (.inl rfl))
   have nbg : ¬ b = g1 := fun e => ngb e.symm
   go_region_held3 (fun w' => w'.cell? ⟨b, 3, none⟩ = some (.int .i64 nx) ∧ w'.cell? ⟨b, 4, none⟩ = some (.int .i64 st)) (go_keep) (fail)
   all_goals
    go_wp2
    exact ⟨rfl, .tuple #[], by simp [results, Tryz.results78, go_sem], rfl, M, by rw [← HTE.out]; first | exact Q9.out | exact Q9.out.drew⟩
  ·have HTE := hidW (show (⟨tpc, [a0, a1, a2, a3], 2⟩ : TD) = T from by rw [← HTT.out, if_pos (.inr hin)])
   obtain ⟨M, q⟩ := mid_fault HM.out hk hg0
   have Q9 := hidW q
   have ONE := hidW (show Plain.oneB nx nb = false from by unfold Plain.oneB; simp; omega)
   clear q h2c hin
   go_wp2_with fail
   refine (isOneOf_any _ _ _).mono ?_
   rintro e w9 ⟨rfl, hw9⟩
   rw [hw9, ONE.out]
   clear hw9 w9
   go_wp2
   refine bodyPost_ret (v := .tuple #[]) (by simp [results, Tryz.results78, go_sem]) rfl ⟨rfl, M, ?_⟩
   rw [← HTE.out]
   exact Q9.out
 ·have e4 : a0 = r0 ∧ a1 = r1 ∧ a2 = r2 ∧ a3 = r3 := by simpa using hbv
  obtain ⟨rfl, rfl, rfl, rfl⟩ := e4
  clear hbv
  go_enter Tryz.func78, Tryz.ntmps78
  go_upto_region 0 with fail
  refine regionExt w (by kernel_rfl) (by kernel_rfl) ?_
  repeat (go_big_quiet_step ((rename_i X; go_at_call 76; refine Calls.mono (RG.out _ X.b) ?_; rintro e w3 ⟨rfl, hb3⟩; exact ⟨rfl, X.on hb3⟩)))
  refine Go.BigFrame.wpQuiet_want (by rfl) (fun K hK => ⟨.bool false, fun w' _ => ?_, hK _ ?_⟩)
  ·have q := EQ4.out w'
   simp [Oper.quietAt, execOp, gR, binOp, q, Oper.quietUpon, go_sem]
  refine wpQuiet_nil ?_
  clear hne u0 u1 u2 u3 u4 EQ4
  rintro w3 ⟨X3, rfl⟩
  obtain ⟨V2, hX3⟩ : ∃ V2, X3.w = V2 := ⟨_, rfl⟩
  have hb3 := X3.b
  rw [hX3] at hb3 ⊢
  clear hX3 X3
  have HM := hidW (mid_eq HH.out HT.out rfl hb3)
  have HBTU := hidW (HH.out.bt.same (hb3.block b hz))
  clear hb3
  have hkb := HM.out.o
  obtain ⟨g9, c9, y9, e9, -, -, -, zg, l0, -, l2, lf⟩ := HM.out.o.thread (show (⟨d.ths.set k ⟨tpc, [a0, a1, a2, a3], tst⟩, d.chs, d.tr⟩ : SD).ths[k]? = some ⟨tpc, [a0, a1, a2, a3], tst⟩ from List.getElem?_set_self hk)
  injection e9 with h1 h2 h3
  injection h1 with h1
  injection h1 with h1
  subst h1 h3
  clear h2 hkb
  obtain ⟨-, -, -, p3, p4, -, pf, pz, -⟩ := HM.out.t
  by_cases h2c : code = 2
  ·have HTE := hidW (show (⟨tpc, [a0, a1, a2, a3], 2⟩ : TD) = T from by rw [← HTT.out, if_pos (.inl h2c)])
   obtain ⟨M, q⟩ := mid_fault HM.out hk hg0
   have Q9 := hidW q
   have hee : (code == 2) = true := by simp [h2c]
   clear q h2c
   go_wp2
   refine bodyPost_ret (v := .tuple #[]) (by simp [results, Tryz.results78, go_sem]) rfl ⟨rfl, M, ?_⟩
   rw [← HTE.out]
   exact Q9.out
  have hee : (code == 2) = false := by simp [h2c]
  by_cases hin : 0 ≤ nx ∧ nx < (nb : Int)
  ·have HTE := hidW (show (⟨nx, [a0, a1, a2, a3], st⟩ : TD) = T from by rw [← HTT.out, if_neg (fun q => by rcases q with q | q; exact h2c q; exact q hin)])
   obtain ⟨M, q⟩ := mid_done HM.out hk hg0
   have Q9 := hidW q
   have ONE := hidW (show Plain.oneB nx nb = true from by unfold Plain.oneB; simp; omega)
   clear q h2c hin
   go_wp2_with fail
   refine (isOneOf_any _ _ _).mono ?_
   rintro e w9 ⟨rfl, hw9⟩
   rw [hw9, ONE.out]
   clear hw9 w9
   go_wp2_with fail
   have ngb : ¬ g1 = b := fun e => HM.out.o.hitU (HBTU.out) (by rw [← e]; exact .inl (.inl rfl))
   have nbg : ¬ b = g1 := fun e => ngb e.symm
   go_region_held3 (fun w' => w'.cell? ⟨b, 3, none⟩ = some (.int .i64 nx) ∧ w'.cell? ⟨b, 4, none⟩ = some (.int .i64 st)) (go_keep) (fail)
   all_goals
    go_wp2
    exact ⟨rfl, .tuple #[], by simp [results, Tryz.results78, go_sem], rfl, M, by rw [← HTE.out]; first | exact Q9.out | exact Q9.out.drew⟩
  ·have HTE := hidW (show (⟨tpc, [a0, a1, a2, a3], 2⟩ : TD) = T from by rw [← HTT.out, if_pos (.inr hin)])
   obtain ⟨M, q⟩ := mid_fault HM.out hk hg0
   have Q9 := hidW q
   have ONE := hidW (show Plain.oneB nx nb = false from by unfold Plain.oneB; simp; omega)
   clear q h2c hin
   go_wp2_with fail
   refine (isOneOf_any _ _ _).mono ?_
   rintro e w9 ⟨rfl, hw9⟩
   rw [hw9, ONE.out]
   clear hw9 w9
   go_wp2
   refine bodyPost_ret (v := .tuple #[]) (by simp [results, Tryz.results78, go_sem]) rfl ⟨rfl, M, ?_⟩
   rw [← HTE.out]
   exact Q9.out
end
end Go.Proofs.YtfokbjkgdiploaaGreat
