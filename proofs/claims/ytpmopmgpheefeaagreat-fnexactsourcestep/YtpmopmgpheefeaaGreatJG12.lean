/- A region that draws its order, in which the last operation alone writes and waits for all others: one walk of these, in the order of the text, and then that one. No condition. A step of the specification: reckoning. No condition. A step of the specification: jumping and ending. No condition. A step of the specification: printing. No condition. -/
import Derived.Test.YtpmopmgpheefeaaGreatJG00
import Derived.Test.YtpmopmgpheefeaaGreatJG08
import Derived.Deep.DeepCutAuto
import Derived.Test.YtpmopmgpheefeaaGreatJG09
namespace Go.Proofs.YtpmopmgpheefeaaGreat
section
set_option linter.unusedSimpArgs false
set_option linter.unusedVariables false
set_option maxRecDepth 100000
open Go.RowKit
/- the same operation, made to do nothing -/
def idle (o : Oper) : Oper := { o with op := .assign (.const (.bool false)) }
def lastOk (l : List Oper) (o : Oper) : Bool :=
 (List.range l.length).all (fun i => o.after.any fun e => Region.binds .any e && e.on == i) && ((List.range (l.length + 1)).all fun i => ((l ++ [o])[i]?.map fun x => x.after.all fun e => !Region.binds .any e || decide (e.on < i)).getD true)
theorem idle_at (l : List Oper) (o : Oper) (i : Nat) : (i < l.length ∧ (l ++ [idle o])[i]? = l[i]? ∧ (l ++ [o])[i]? = l[i]?) ∨ (i = l.length ∧ (l ++ [idle o])[i]? = some (idle o) ∧ (l ++ [o])[i]? = some o) ∨ (l.length < i ∧ (l ++ [idle o])[i]? = none ∧ (l ++ [o])[i]? = none) := by
 rcases Nat.lt_trichotomy i l.length with h | h | h
 ·exact .inl ⟨h, List.getElem?_append_left h, List.getElem?_append_left h⟩
 ·subst h
  exact .inr (.inl ⟨rfl, by simp, by simp⟩)
 ·exact .inr (.inr ⟨h, by simp; omega, by simp; omega⟩)
theorem ready_idle (l : List Oper) (o : Oper) (listed : Array Bool) : Region.ready .any (l ++ [idle o]).toArray listed = Region.ready .any (l ++ [o]).toArray listed := by
 unfold Region.ready
 have hs : (l ++ [idle o]).toArray.size = (l ++ [o]).toArray.size := by simp
 rw [hs]
 refine List.filter_congr fun i _ => ?_
 rw [List.getElem?_toArray, List.getElem?_toArray]
 rcases idle_at l o i with ⟨-, h1, h2⟩ | ⟨-, h1, h2⟩ | ⟨-, h1, h2⟩ <;> rw [h1, h2] <;> rfl
theorem yielded_idle (l : List Oper) (o : Oper) (t : Array Value) : yielded (l ++ [idle o]).toArray t = yielded (l ++ [o]).toArray t := by
 funext j
 unfold yielded
 rw [List.getElem?_toArray, List.getElem?_toArray]
 rcases idle_at l o j with ⟨-, h1, h2⟩ | ⟨-, h1, h2⟩ | ⟨-, h1, h2⟩ <;> rw [h1, h2] <;> rfl
theorem mem_ready {ops : Array Oper} {listed : Array Bool} {i : Nat} : i ∈ Region.ready .any ops listed ↔ i < ops.size ∧ listed.getD i true = false ∧ ((ops[i]?).map (·.after.all fun e => !Region.binds .any e || listed.getD e.on false)).getD false = true := by
 unfold Region.ready
 rw [List.mem_filter, List.mem_range, Bool.and_eq_true, Bool.not_eq_true']
theorem ready_some {l : List Oper} {o : Oper} (hL : lastOk l o = true) {listed : Array Bool} (hs : listed.size = l.length + 1) : ∀ (k : Nat), k ≤ l.length → listed.getD k true = false → Region.ready .any (l ++ [o]).toArray listed ≠ [] := by
 intro k
 induction k using Nat.strongRecOn with
 | ind k ih =>
  intro hk hf
  by_cases h : ∃ j, j < k ∧ listed.getD j true = false
  ·obtain ⟨j, h1, h2⟩ := h
   exact ih j h1 (by omega) h2
  ·intro hn
   have : k ∈ Region.ready .any (l ++ [o]).toArray listed := by
    rw [mem_ready]
    refine ⟨by simp; omega, hf, ?_⟩
    unfold lastOk at hL
    rw [Bool.and_eq_true, List.all_eq_true, List.all_eq_true] at hL
    have q := hL.2 k (List.mem_range.2 (by omega))
    rw [List.getElem?_toArray]
    obtain ⟨x, hx⟩ : ∃ x, (l ++ [o])[k]? = some x := ⟨_, List.getElem?_eq_getElem (by simp; omega)⟩
    rw [hx] at q ⊢
    simp only [Option.map_some, Option.getD_some] at q ⊢
    rw [Array.all_eq_true'] at q ⊢
    intro e he
    have q' := q e he
    rw [Bool.or_eq_true] at q' ⊢
    rcases q' with q' | q'
    ·exact .inl q'
    ·refine .inr ?_
     rw [decide_eq_true_eq] at q'
     have hj : ¬ listed.getD e.on true = false := fun hh => h ⟨e.on, q', hh⟩
     have hlt : e.on < listed.size := by omega
     simp only [Array.getD, hlt, dif_pos] at hj ⊢
     simpa using hj
   rw [hn] at this
   cases this
theorem ready_last {l : List Oper} {o : Oper} (hL : lastOk l o = true) {listed : Array Bool} (hs : listed.size = l.length + 1) (h : l.length ∈ Region.ready .any (l ++ [o]).toArray listed) : Region.ready .any (l ++ [o]).toArray (listed.setIfInBounds l.length true) = [] := by
 rw [mem_ready] at h
 obtain ⟨-, -, h⟩ := h
 have e : (l ++ [o]).toArray[l.length]? = some o := by rw [List.getElem?_toArray]; simp
 rw [e] at h
 simp only [Option.map_some, Option.getD_some] at h
 rw [Array.all_eq_true'] at h
 unfold lastOk at hL
 rw [Bool.and_eq_true, List.all_eq_true] at hL
 refine List.eq_nil_iff_forall_not_mem.2 fun i hi => ?_
 rw [mem_ready] at hi
 obtain ⟨h1, h2, -⟩ := hi
 simp at h1
 by_cases hil : i = l.length
 ·subst hil
  have : l.length < listed.size := by omega
  simp [Array.getD, this] at h2
 ·have q := hL.1 i (List.mem_range.2 (by omega))
  rw [Array.any_eq_true'] at q
  obtain ⟨x, hx, q⟩ := q
  rw [Bool.and_eq_true, beq_iff_eq] at q
  have := h x hx
  rw [q.1, q.2] at this
  have hlt : i < listed.size := by omega
  simp [Array.getD, hlt] at this
  simp [Array.getD, hlt, Array.getElem_setIfInBounds, Ne.symm hil, this] at h2
theorem any_done {P : Program} {ops : Array Oper} {Q : Exit → Act → World → Prop} {listed : Array Bool} (hr : Region.ready .any ops listed = []) {a : Act} {w : World} (h : Q .normal a w) : ∀ fuel, wpAny P .any ops Q fuel listed a w
 | 0 => ⟨hr, h⟩
 | _ + 1 => ⟨fun _ => h, by rw [hr]; simp⟩
theorem last_conv {P : Program} {Q : Exit → Act → World → Prop} {C : World → Prop} {Qa : Act → Prop} {l : List Oper} {o : Oper} (hL : lastOk l o = true) (hg : o.guard = none) (hd : o.dst = none) {A : Array Oper} (hQ : ∀ a w, C w → Qa a → wpList P A Q [o] a w) :
  ∀ (fuel : Nat) (listed : Array Bool) (a : Act) (w : World), listed.size = l.length + 1 → listed.getD l.length true = false → C w → wpAnyQ P .any (l ++ [idle o]).toArray C Qa fuel listed a → wpAny P .any (l ++ [o]).toArray Q fuel listed a w
 | 0, listed, a, w, hs, hf, hC, h => absurd ((ready_idle l o listed) ▸ h.1) (ready_some hL hs l.length (Nat.le_refl _) hf)
 | fuel + 1, listed, a, w, hs, hf, hC, h => by
  refine ⟨fun h0 => absurd h0 (ready_some hL hs l.length (Nat.le_refl _) hf), fun i hi => ?_⟩
  have hq := h.2 i ((ready_idle l o listed).symm ▸ hi)
  have hlt := (mem_ready.1 hi).1
  simp at hlt
  by_cases hil : i = l.length
  ·subst hil
   have hr := ready_last hL hs hi
   have e' : (l ++ [idle o]).toArray[l.length]? = some (idle o) := by rw [List.getElem?_toArray]; simp
   have e : (l ++ [o]).toArray[l.length]? = some o := by rw [List.getElem?_toArray]; simp
   unfold qOp at hq
   simp only [e'] at hq
   have hw : ∀ t, Region.wanted (idle o) t = true := fun t => by simp [Region.wanted, idle, hg]
   have hw' : ∀ t, Region.wanted o t = true := fun t => by simp [Region.wanted, hg]
   rw [if_pos (hw _)] at hq
   obtain ⟨v, -, hq⟩ := hq
   have ep : a.put (idle o).dst v = a := by show a.put o.dst v = a; rw [hd]; rfl
   rw [ep] at hq
   have ha : Qa a := by
    cases fuel with
    | zero => exact hq.2
    | succ n => exact hq.1 (by rw [ready_idle]; exact hr)
   unfold wpOp
   simp only [e]
   rw [if_pos (hw' _)]
   have hh := hQ a w hC ha
   unfold wpList at hh
   rw [if_pos (hw' _)] at hh
   exact hh.imp (Oper.wp_mono (fun a' w' hh => any_done hr hh fuel)) id
  ·have hi2 : i < l.length := by omega
   have ee : (l ++ [idle o]).toArray[i]? = (l ++ [o]).toArray[i]? := by rw [List.getElem?_toArray, List.getElem?_toArray, List.getElem?_append_left hi2, List.getElem?_append_left hi2]
   have hq' : qOp P (l ++ [o]).toArray C i (wpAnyQ P .any (l ++ [idle o]).toArray C Qa fuel (listed.setIfInBounds i true)) a := by
    unfold qOp at hq ⊢
    rw [ee, yielded_idle] at hq
    exact hq
   refine wpOp_of_qOp hC (fun a' w' hC' hk => last_conv hL hg hd hQ fuel _ a' w' (by simpa using hs) ?_ hC' hk) hq'
   have h9 : l.length < listed.size := by omega
   simp only [Array.getD, h9, dif_pos] at hf
   simp [Array.getD, h9, Array.getElem_setIfInBounds, hil]
   simpa using hf
theorem quiet_snoc {P : Program} {ops : Array Oper} {C : World → Prop} {Qa : Act → Prop} {o : Oper} (hg : o.guard = none) (hd : o.dst = none) : ∀ (l : List Oper) (a : Act), wpQuiet P ops C Qa l a → wpQuiet P ops C Qa (l ++ [idle o]) a
 | [], a, h => by
  have hw : Region.wanted (idle o) (yielded ops a.tmps) = true := by simp [Region.wanted, idle, hg]
  refine BigFrame.wpQuiet_want hw fun K hK => ?_
  refine BigFrame.quiet_assign (.const (.bool false)) rfl ?_
  refine hK _ ?_
  show Qa (a.put o.dst _)
  rw [hd]
  exact h
 | x :: r, a, h => by
  unfold wpQuiet at h
  show wpQuiet P ops C Qa (x :: (r ++ [idle o])) a
  unfold wpQuiet
  split
  ·rename_i hw
   rw [if_pos hw] at h
   exact Oper.quiet_mono (fun a' => quiet_snoc hg hd r a') h
  ·rename_i hw
   rw [if_neg hw] at h
   exact quiet_snoc hg hd r _ h
theorem regionLast {P : Program} {id : Nat} {Q : Exit → Act → World → Prop} {a : Act} (W : World) {full : List Oper} (o : Oper) (hf : full.getLast? = some o) (hm : P.follows .mixedOrders = true) (hB : Region.lexB .any (full.dropLast ++ [idle o]).toArray = true) (hL : lastOk full.dropLast o = true) (hg : o.guard = none) (hd : o.dst = none)
  (h : wpQuiet P (full.dropLast ++ [idle o]).toArray (fun w' => ∃ x : Ext W, w' = x.w) (fun a' => ∀ w', (∃ x : Ext W, w' = x.w) → wpList P full.toArray Q [o] a' w') full.dropLast a) : (Code.region id full.toArray true).wp P Q a W := by
 have hfull : full = full.dropLast ++ [o] := by
  have hne : full ≠ [] := fun e => by rw [e] at hf; cases hf
  rw [List.getLast?_eq_some_getLast hne] at hf
  injection hf with hf
  rw [← hf]
  exact (List.dropLast_concat_getLast hne).symm
 have hq := quiet_snoc hg hd _ _ h
 simp only [Region.lexB, Bool.and_eq_true] at hB
 have h2 := wpAnyQ_lex (md := .any) hB.1 (full.dropLast ++ [idle o]) 0 (Array.replicate (full.dropLast ++ [idle o]).toArray.size false) a (by simp) (by simpa using hB.2) hq
 have hgoal : (Code.region id (full.dropLast ++ [o]).toArray true).wp P Q a W → (Code.region id full.toArray true).wp P Q a W := fun hh => by rw [← hfull] at hh; exact hh
 refine hgoal ?_
 refine wp_region_any hm ?_
 have hn : (full.dropLast ++ [o]).toArray.size = full.dropLast.length + 1 := by simp
 rw [hn]
 refine last_conv (C := fun w' => ∃ x : Ext W, w' = x.w) (Qa := fun a' => ∀ w', (∃ x : Ext W, w' = x.w) → wpList P full.toArray Q [o] a' w') hL hg hd (fun a' w' hC hh => hh w' hC) _ _ _ _ (by simp) ?_ ⟨⟨{ W with drawn := W.drawn + 1 }, ⟨rfl, rfl, rfl, Nat.le_refl _, fun _ _ => rfl⟩⟩, rfl⟩ ?_
 ·simp [Array.getD]
 ·have e2 : (full.dropLast ++ [idle o]).toArray.size = full.dropLast.length + 1 := by simp
  rw [e2] at h2
  simpa using h2
end
section
set_option linter.unusedSimpArgs false
set_option linter.unusedVariables false
set_option maxRecDepth 100000
open Go.RowKit
theorem retI {v : Value} {a b : Int} (h : a = b) : Ending.returned (.tuple #[v, .int .i64 a]) = .returned (.tuple #[v, .int .i64 b]) := by rw [h]
theorem wrap_is (z : Int) : IntKind.i64.wrap z = wrap64 z := by rw [IntKind.wrap_i64, wrap64]
def StepY (w : World) (base : Nat) (H : Nat → Prop) (o : Out) (d : SD) (k : Nat) (e : Ending) (w' : World) : Prop := ∃ s1 n1 c1 s2 n2 c2 s3 n3 c3, e = .returned (.tuple #[.agg #[.slice s1 n1 c1, .slice s2 n2 c2, .slice s3 n3 c3], .int .i64 o.code]) ∧ (o.code = 0 → ∃ L1 L2, OwnS w' base (.slice s1 n1 c1) (.slice s2 n2 c2) (.slice s3 n3 c3) L1 L2 (doneS d k o)) ∧ Below base w w' ∧ ∀ b, b < w.heap.size → ¬ H b → w'.heap[b]? = w.heap[b]?
theorem set3_off {W : World} {z b : Nat} {x : Option Obj} {u0 u1 u2 : Value} (hb : b ≠ z) (h : W.heap[b]? = x) : (((W.setCell ⟨z, 0, none⟩ u0).setCell ⟨z, 1, none⟩ u1).setCell ⟨z, 2, none⟩ u2).heap[b]? = x := by
 rw [Below.heap_setCell _ _ _ b hb, Below.heap_setCell _ _ _ b hb, Below.heap_setCell _ _ _ b hb, h]
set_option maxHeartbeats 4000000 in
theorem sq1 (p1 p2 : Option Addr) (a1 a2 lo hi base : Nat) (p : PD) (v1 v2 v3 : Value) (L1 L2 : List (Rec × Value)) (d : SD) (k : Nat) (t : TD) (w : World) (hP : ProgR w lo hi p1 p2 p) (hB : hi ≤ base) (hO : OwnS w base v1 v2 v3 L1 L2 d) (hb : base ≤ w.heap.size) (hR : Right p d) (ht : d.ths[k]? = some t) (hst : t.st = 0) (ho : (insOf p d k).o = 1) :
  Calls Tryz.prog 23 #[.agg #[.slice p1 p.caps.length a1, .slice p2 p.bods.length a2], .agg #[v1, v2, v3], .int .i64 k] w fun e w' => StepY w base (HitS v1 v2 v3 L1 L2) (outOf p d k) d k e w' := by
 obtain ⟨q, g1, c1, gr, cr, gb, ob, gi, oi, cb, nb, s2, s3, c2, c3, y, O⟩ := hO.open hP hB hb hR ht
 rw [O.ou]
 have hcl := hR.pc
 have hbl := hR.bd k O.kb
 have hpb := hR.pb
 have hnl := hR.nl
 have HCH := hidW hR.cl
 have HTL := hidW hR.tl
 have HR := hidW hR
 obtain ⟨x, hx⟩ : ∃ x, insOf p d k = x := ⟨_, rfl⟩
 rw [hx] at O ho ⊢
 clear hx
 obtain ⟨e1, e2, e3, ep, hy, y1, y2, hq, nq, kl, kb, hbn, t0, t1, t2, b0, ⟨x0, x1, x2, x3, x4⟩, rr, f1, fr, z1, zr, zb, zi, i1, ir, ib, ii, n1, hok, -, h4⟩ := O
 subst e1 e2 e3 ep
 rw [hbn] at hbl
 have HBN := hidW hbn
 unfold insX Plain.insB at hok
 rw [decide_eq_true_eq] at hok
 obtain ⟨o, r, a, b, n⟩ := x
 simp only at ho hok x0 x1 x2 x3 x4
 subst ho
 obtain ⟨r', hr'⟩ : ∃ r' : Nat, r = r' := ⟨r.toNat, by omega⟩
 subst hr'
 have br0 : (0 : Int) ≤ (r' : Int) := by omega
 have br1 : (r' : Int) < 4 := by omega
 have br2 : r' < 4 := by omega
 obtain ⟨a', ha'⟩ : ∃ a' : Nat, a = a' := ⟨a.toNat, by omega⟩
 subst ha'
 have ba0 : (0 : Int) ≤ (a' : Int) := by omega
 have ba1 : (a' : Int) < 4 := by omega
 have ba2 : a' < 4 := by omega
 obtain ⟨b', hb'⟩ : ∃ b' : Nat, b = b' := ⟨b.toNat, by omega⟩
 subst hb'
 have bb0 : (0 : Int) ≤ (b' : Int) := by omega
 have bb1 : (b' : Int) < 4 := by omega
 have bb2 : b' < 4 := by omega
 obtain ⟨pc, rg, st⟩ := t
 simp only at hq hst h4 rr t0 t2
 subst hq hst
 have i0 : (0 : Int) ≤ (k : Int) := by omega
 have j1 : (k : Int) < (d.ths.length : Int) := by omega
 have j2 : (k : Int) < (p.bods.length : Int) := by omega
 have j3 : (0 : Int) ≤ (q : Int) := by omega
 have j4 : (q : Int) < (nb : Int) := by omega
 have w1 : IntKind.i64.wrap ((q : Int) + 1) = (q : Int) + 1 := Go.IntWalk.i64_in _ (by omega)
 obtain ⟨W, hW⟩ : ∃ W, (((w.alloc (.cells #[.slice p1 p.caps.length a1, .slice (some ⟨gb, ob, none⟩) p.bods.length a2] 42)).alloc (.cells #[.slice (some ⟨g1, 0, none⟩) d.ths.length c1, .slice s2 d.chs.length c2, .slice s3 d.tr.length c3] 37)).alloc (.cells #[.slice none 0 0, .slice none 0 0, .slice none 0 0] 37)) = W := ⟨_, rfl⟩
 obtain ⟨V, hV⟩ : ∃ V, W.alloc (.cells #[.int .i64 1, .int .i64 r', .int .i64 a', .int .i64 b', .int .i64 n] 91) = V := ⟨_, rfl⟩
 obtain ⟨BX, KV⟩ := bq_new hW hV
 have HW := hidW hW
 have HV := hidW hV
 have HBX := hidW BX
 have HKV := hidW KV
 have HO := hidW hO
 have HP := hidW hP
 have HT := hidW ht
 have HY := hidW hy
 have HY2 := hidW y2
 have H4 := hidW h4
 have RR := hidW rr
 have F1 := hidW f1
 have FR := hidW fr
 have HOK := hidW hok
 have y0 : g1 < w.heap.size + 1 := by omega
 have y3 : g1 < w.heap.size + 1 + 1 := by omega
 have y4 : g1 < w.heap.size + 1 + 1 + 1 := by omega
 have y5 : gb < w.heap.size + 1 := by omega
 have y6 : gb < w.heap.size + 1 + 1 := by omega
 have y7 : gi < w.heap.size + 1 := by omega
 have y8 : gi < w.heap.size + 1 + 1 := by omega
 clear hW hV BX KV hO hP ht hy y1 y2 h4 rr f1 fr hok hR hbn
 go_enter Tryz.func23, Tryz.ntmps23
 go_upto_region 14 with fail
 rw [HW.out, HV.out]
 clear x0 x1 x2 x3 x4 t0 t1 t2 b0 y0 y3 y4 y5 y6 y7 y8
 obtain ⟨⟨m0, m1⟩, ⟨v0, v1', v2', fs, zs⟩, ⟨w0, w1', w2', fa, za⟩, x0, x1, x2, x3, x4, bs, ba, zz⟩ := HBX.out
 have zv1 : w.heap.size < V.heap.size := by omega
 have zv2 : g1 < V.heap.size := by omega
 have zv3 : gr < V.heap.size := by omega
 have ng00 : ¬ gr = w.heap.size := by omega
 have nh00 : ¬ w.heap.size = gr := by omega
 have ng01 : ¬ gr = w.heap.size + 1 := by omega
 have nh01 : ¬ w.heap.size + 1 = gr := by omega
 have ng02 : ¬ gr = w.heap.size + 1 + 1 := by omega
 have nh02 : ¬ w.heap.size + 1 + 1 = gr := by omega
 have ng03 : ¬ gr = w.heap.size + 1 + 1 + 1 := by omega
 have nh03 : ¬ w.heap.size + 1 + 1 + 1 = gr := by omega
 have ng10 : ¬ g1 = w.heap.size := by omega
 have nh10 : ¬ w.heap.size = g1 := by omega
 have ng11 : ¬ g1 = w.heap.size + 1 := by omega
 have nh11 : ¬ w.heap.size + 1 = g1 := by omega
 have ng12 : ¬ g1 = w.heap.size + 1 + 1 := by omega
 have nh12 : ¬ w.heap.size + 1 + 1 = g1 := by omega
 have ng13 : ¬ g1 = w.heap.size + 1 + 1 + 1 := by omega
 have nh13 : ¬ w.heap.size + 1 + 1 + 1 = g1 := by omega
 obtain ⟨vr, hvr⟩ : ∃ v, rg.getD r' 0 = v := ⟨_, rfl⟩
 have HVr := hidW hvr
 clear hvr
 have lr : V.cell? ⟨gr, r', none⟩ = some (.int .i64 vr) := by rw [← HVr.out]; exact (HKV.out.cell (p := ⟨gr, r', none⟩) zr).trans (RR.out r' (by omega))
 have ff : ∀ j, V.frozen? ⟨gr, j, none⟩ = false := fun j => (HKV.out.frozen (p := ⟨gr, j, none⟩) zr).trans (FR.out j)
 go_wp2_with fail
 obtain ⟨L9, -, o9, -⟩ := (HO.out.keep (w' := V) (fun b _ hb => HKV.out.block b hb)).setR HY.out HT.out HY2.out H4.out r' (n)
 have O9 := hidW o9
 have T9 := hidW (show (d.ths.set k ⟨q, rg.set r' (n), 0⟩)[k]? = some ⟨q, rg.set r' (n), 0⟩ from List.getElem?_set_self kl)
 have K9 : Hid (∀ b, w.heap.size ≤ b → b < V.heap.size → (V.setCell ⟨gr, r', none⟩ (.int .i64 (n))).heap[b]? = V.heap[b]?) := fun b h1 h2 => (Below.heap_setCell V ⟨gr, r', none⟩ _ b (by show b ≠ gr; omega))
 have B9 : Hid (Below base w (V.setCell ⟨gr, r', none⟩ (.int .i64 (n)))) := (HKV.out.mono hb).setCell (p := ⟨gr, r', none⟩) ir _
 have Z9 : V.heap.size ≤ (V.setCell ⟨gr, r', none⟩ (.int .i64 (n))).heap.size := by simp
 have F9 : Hid (∀ b, b < w.heap.size → ¬ HitS (.slice (some ⟨g1, 0, none⟩) d.ths.length c1) (.slice s2 d.chs.length c2) (.slice s3 d.tr.length c3) L1 L2 b → (V.setCell ⟨gr, r', none⟩ (.int .i64 (n))).heap[b]? = w.heap[b]?) := fun b h1 h2 => (Below.heap_setCell V ⟨gr, r', none⟩ _ b (by show b ≠ gr; intro e; subst e; exact h2 (.inl (.inr ⟨k, y, HY.out, by rw [HY2.out]; rfl⟩)))).trans (HKV.out.block b h1)
 clear o9
 have GO := hidW (l4Go_any p1 (some ⟨gb, ob, none⟩) a1 a2 lo hi base p _ _ _ _ _ _ k ⟨q, rg.set r' n, 0⟩ (q + 1) _ (ProgR.keep' HP.out (fun b h1 h2 => B9.out.block b (by omega))) hB O9.out (by have := Z9; have := HKV.out.size; omega) T9.out rfl kb hpb (by rw [HBN.out]; exact hbl))
 refine Calls.mono GO.out ?_
 rintro e w2 ⟨L1', rfl, hO2, hb2, hf2⟩
 have O2 := hidW hO2
 have B2 := hidW (B9.out.trans hb2)
 have F2 : Hid (∀ b, b < w.heap.size → ¬ HitS _ _ _ L1 L2 b → w2.heap[b]? = w.heap[b]?) := fun b h1 h2 => (hf2 b (by have := Z9; have := HKV.out.size; omega) (fun e => h2 (.inl (.inl e)))).trans (F9.out b h1 h2)
 have HB2 := hidW (HBX.out.keep (V' := w2) (fun b h1 h2 => (hf2 b (by have := Z9; omega) (fun e => by have e' : g1 = b := Option.some.inj e; omega)).trans (K9.out b h1 h2)) (by have := hb2.size; have := Z9; omega))
 have z2 := hb2.size
 clear m0 m1 v0 v1' v2' fs zs w0 w1' w2' fa za x0 x1 x2 x3 x4 bs ba zz zv1 zv2 zv3 ff GO hO2 hb2 hf2
 obtain ⟨⟨m0, m1⟩, ⟨v0, v1', v2', fs, zs⟩, ⟨w0, w1', w2', fa, za⟩, x0, x1, x2, x3, x4, bs, ba, zz⟩ := HB2.out
 go_wp2
 refine bodyPost_ret (v := .tuple #[.agg #[.slice (some ⟨g1, 0, none⟩) d.ths.length c1, .slice s2 d.chs.length c2, .slice s3 d.tr.length c3], .int .i64 0]) (by simp [results, Tryz.results23, go_sem, w0, w1', w2', fa]) rfl ?_
 refine ⟨_, _, _, _, _, _, _, _, _, rfl, fun _ => ⟨L1', L2, ?_⟩, ?_, fun b h1 h2 => set3_off (by omega) (F2.out b h1 h2)⟩
 ·have q2 := O2.out
  rw [HBN.out] at q2
  have E : (⟨(d.ths.set k ⟨q, rg.set r' (n), 0⟩).set k (moveT ⟨q, rg.set r' (n), 0⟩ nb (rg.set r' (n)) (q + 1)), d.chs, d.tr⟩ : SD) = doneS d k (stepO nb ⟨q, rg, 0⟩ ⟨1, r', a', b', n⟩ d.chs d.tr k) := by simp [doneS, stepO, putN, moveT, List.set_set]
  rw [E] at q2
  exact ((q2.offB ba).offB ba.set).offB ba.set.set
 ·refine Below.setCell (Below.setCell (Below.setCell B2.out ?_ _) ?_ _) ?_ _ <;> (show base ≤ w.heap.size + 1 + 1; omega)
set_option maxHeartbeats 4000000 in
theorem sq2 (p1 p2 : Option Addr) (a1 a2 lo hi base : Nat) (p : PD) (v1 v2 v3 : Value) (L1 L2 : List (Rec × Value)) (d : SD) (k : Nat) (t : TD) (w : World) (hP : ProgR w lo hi p1 p2 p) (hB : hi ≤ base) (hO : OwnS w base v1 v2 v3 L1 L2 d) (hb : base ≤ w.heap.size) (hR : Right p d) (ht : d.ths[k]? = some t) (hst : t.st = 0) (ho : (insOf p d k).o = 2) :
  Calls Tryz.prog 23 #[.agg #[.slice p1 p.caps.length a1, .slice p2 p.bods.length a2], .agg #[v1, v2, v3], .int .i64 k] w fun e w' => StepY w base (HitS v1 v2 v3 L1 L2) (outOf p d k) d k e w' := by
 obtain ⟨q, g1, c1, gr, cr, gb, ob, gi, oi, cb, nb, s2, s3, c2, c3, y, O⟩ := hO.open hP hB hb hR ht
 rw [O.ou]
 have hcl := hR.pc
 have hbl := hR.bd k O.kb
 have hpb := hR.pb
 have hnl := hR.nl
 have HCH := hidW hR.cl
 have HTL := hidW hR.tl
 have HR := hidW hR
 obtain ⟨x, hx⟩ : ∃ x, insOf p d k = x := ⟨_, rfl⟩
 rw [hx] at O ho ⊢
 clear hx
 obtain ⟨e1, e2, e3, ep, hy, y1, y2, hq, nq, kl, kb, hbn, t0, t1, t2, b0, ⟨x0, x1, x2, x3, x4⟩, rr, f1, fr, z1, zr, zb, zi, i1, ir, ib, ii, n1, hok, -, h4⟩ := O
 subst e1 e2 e3 ep
 rw [hbn] at hbl
 have HBN := hidW hbn
 unfold insX Plain.insB at hok
 rw [decide_eq_true_eq] at hok
 obtain ⟨o, r, a, b, n⟩ := x
 simp only at ho hok x0 x1 x2 x3 x4
 subst ho
 obtain ⟨r', hr'⟩ : ∃ r' : Nat, r = r' := ⟨r.toNat, by omega⟩
 subst hr'
 have br0 : (0 : Int) ≤ (r' : Int) := by omega
 have br1 : (r' : Int) < 4 := by omega
 have br2 : r' < 4 := by omega
 obtain ⟨a', ha'⟩ : ∃ a' : Nat, a = a' := ⟨a.toNat, by omega⟩
 subst ha'
 have ba0 : (0 : Int) ≤ (a' : Int) := by omega
 have ba1 : (a' : Int) < 4 := by omega
 have ba2 : a' < 4 := by omega
 obtain ⟨b', hb'⟩ : ∃ b' : Nat, b = b' := ⟨b.toNat, by omega⟩
 subst hb'
 have bb0 : (0 : Int) ≤ (b' : Int) := by omega
 have bb1 : (b' : Int) < 4 := by omega
 have bb2 : b' < 4 := by omega
 obtain ⟨pc, rg, st⟩ := t
 simp only at hq hst h4 rr t0 t2
 subst hq hst
 have i0 : (0 : Int) ≤ (k : Int) := by omega
 have j1 : (k : Int) < (d.ths.length : Int) := by omega
 have j2 : (k : Int) < (p.bods.length : Int) := by omega
 have j3 : (0 : Int) ≤ (q : Int) := by omega
 have j4 : (q : Int) < (nb : Int) := by omega
 have w1 : IntKind.i64.wrap ((q : Int) + 1) = (q : Int) + 1 := Go.IntWalk.i64_in _ (by omega)
 obtain ⟨W, hW⟩ : ∃ W, (((w.alloc (.cells #[.slice p1 p.caps.length a1, .slice (some ⟨gb, ob, none⟩) p.bods.length a2] 42)).alloc (.cells #[.slice (some ⟨g1, 0, none⟩) d.ths.length c1, .slice s2 d.chs.length c2, .slice s3 d.tr.length c3] 37)).alloc (.cells #[.slice none 0 0, .slice none 0 0, .slice none 0 0] 37)) = W := ⟨_, rfl⟩
 obtain ⟨V, hV⟩ : ∃ V, W.alloc (.cells #[.int .i64 2, .int .i64 r', .int .i64 a', .int .i64 b', .int .i64 n] 91) = V := ⟨_, rfl⟩
 obtain ⟨BX, KV⟩ := bq_new hW hV
 have HW := hidW hW
 have HV := hidW hV
 have HBX := hidW BX
 have HKV := hidW KV
 have HO := hidW hO
 have HP := hidW hP
 have HT := hidW ht
 have HY := hidW hy
 have HY2 := hidW y2
 have H4 := hidW h4
 have RR := hidW rr
 have F1 := hidW f1
 have FR := hidW fr
 have HOK := hidW hok
 have y0 : g1 < w.heap.size + 1 := by omega
 have y3 : g1 < w.heap.size + 1 + 1 := by omega
 have y4 : g1 < w.heap.size + 1 + 1 + 1 := by omega
 have y5 : gb < w.heap.size + 1 := by omega
 have y6 : gb < w.heap.size + 1 + 1 := by omega
 have y7 : gi < w.heap.size + 1 := by omega
 have y8 : gi < w.heap.size + 1 + 1 := by omega
 clear hW hV BX KV hO hP ht hy y1 y2 h4 rr f1 fr hok hR hbn
 go_enter Tryz.func23, Tryz.ntmps23
 go_upto_region 14 with fail
 rw [HW.out, HV.out]
 clear x0 x1 x2 x3 x4 t0 t1 t2 b0 y0 y3 y4 y5 y6 y7 y8
 obtain ⟨⟨m0, m1⟩, ⟨v0, v1', v2', fs, zs⟩, ⟨w0, w1', w2', fa, za⟩, x0, x1, x2, x3, x4, bs, ba, zz⟩ := HBX.out
 have zv1 : w.heap.size < V.heap.size := by omega
 have zv2 : g1 < V.heap.size := by omega
 have zv3 : gr < V.heap.size := by omega
 have ng00 : ¬ gr = w.heap.size := by omega
 have nh00 : ¬ w.heap.size = gr := by omega
 have ng01 : ¬ gr = w.heap.size + 1 := by omega
 have nh01 : ¬ w.heap.size + 1 = gr := by omega
 have ng02 : ¬ gr = w.heap.size + 1 + 1 := by omega
 have nh02 : ¬ w.heap.size + 1 + 1 = gr := by omega
 have ng03 : ¬ gr = w.heap.size + 1 + 1 + 1 := by omega
 have nh03 : ¬ w.heap.size + 1 + 1 + 1 = gr := by omega
 have ng10 : ¬ g1 = w.heap.size := by omega
 have nh10 : ¬ w.heap.size = g1 := by omega
 have ng11 : ¬ g1 = w.heap.size + 1 := by omega
 have nh11 : ¬ w.heap.size + 1 = g1 := by omega
 have ng12 : ¬ g1 = w.heap.size + 1 + 1 := by omega
 have nh12 : ¬ w.heap.size + 1 + 1 = g1 := by omega
 have ng13 : ¬ g1 = w.heap.size + 1 + 1 + 1 := by omega
 have nh13 : ¬ w.heap.size + 1 + 1 + 1 = g1 := by omega
 obtain ⟨vr, hvr⟩ : ∃ v, rg.getD r' 0 = v := ⟨_, rfl⟩
 have HVr := hidW hvr
 clear hvr
 have lr : V.cell? ⟨gr, r', none⟩ = some (.int .i64 vr) := by rw [← HVr.out]; exact (HKV.out.cell (p := ⟨gr, r', none⟩) zr).trans (RR.out r' (by omega))
 obtain ⟨va, hva⟩ : ∃ v, rg.getD a' 0 = v := ⟨_, rfl⟩
 have HVa := hidW hva
 clear hva
 have la : V.cell? ⟨gr, a', none⟩ = some (.int .i64 va) := by rw [← HVa.out]; exact (HKV.out.cell (p := ⟨gr, a', none⟩) zr).trans (RR.out a' (by omega))
 obtain ⟨vb, hvb⟩ : ∃ v, rg.getD b' 0 = v := ⟨_, rfl⟩
 have HVb := hidW hvb
 clear hvb
 have lb : V.cell? ⟨gr, b', none⟩ = some (.int .i64 vb) := by rw [← HVb.out]; exact (HKV.out.cell (p := ⟨gr, b', none⟩) zr).trans (RR.out b' (by omega))
 have ff : ∀ j, V.frozen? ⟨gr, j, none⟩ = false := fun j => (HKV.out.frozen (p := ⟨gr, j, none⟩) zr).trans (FR.out j)
 go_wp2_with fail
 have hne := ext_ne V
 have u1 := Ext.fit x1 zz
 have u2 := Ext.fit x2 zz
 have u3 := Ext.fit x3 zz
 have ua := Ext.fit la zv3
 have ub := Ext.fit lb zv3
 refine regionLast V _ rfl (by kernel_rfl) (by kernel_rfl) (by kernel_rfl) rfl rfl ?_
 dsimp only [List.dropLast, List.cons_append, List.nil_append, idle]
 repeat (go_big_quiet_step (fail))
 refine wpQuiet_nil ?_
 clear hne u1 u2 u3 ua ub
 rintro w3 ⟨X3, rfl⟩
 obtain ⟨V2, hX3⟩ : ∃ V2, X3.w = V2 := ⟨_, rfl⟩
 have hb3 := X3.b
 rw [hX3] at hb3 ⊢
 have HBX := hidW (HBX.out.keep (fun b _ h2 => hb3.block b h2) hb3.size)
 have HKV := hidW (HKV.out.trans (hb3.mono (by omega)))
 clear hb3 hX3 X3 m0 m1 v0 v1' v2' fs zs w0 w1' w2' fa za x0 x1 x2 x3 x4 bs ba zz zv1 zv2 zv3 ff lr la lb ng00 nh00 ng01 nh01 ng02 nh02 ng03 nh03 ng10 nh10 ng11 nh11 ng12 nh12 ng13 nh13
 obtain ⟨⟨m0, m1⟩, ⟨v0, v1', v2', fs, zs⟩, ⟨w0, w1', w2', fa, za⟩, x0, x1, x2, x3, x4, bs, ba, zz⟩ := HBX.out
 have zv1 : w.heap.size < V2.heap.size := by omega
 have zv2 : g1 < V2.heap.size := by omega
 have zv3 : gr < V2.heap.size := by omega
 have ng00 : ¬ gr = w.heap.size := by omega
 have nh00 : ¬ w.heap.size = gr := by omega
 have ng01 : ¬ gr = w.heap.size + 1 := by omega
 have nh01 : ¬ w.heap.size + 1 = gr := by omega
 have ng02 : ¬ gr = w.heap.size + 1 + 1 := by omega
 have nh02 : ¬ w.heap.size + 1 + 1 = gr := by omega
 have ng03 : ¬ gr = w.heap.size + 1 + 1 + 1 := by omega
 have nh03 : ¬ w.heap.size + 1 + 1 + 1 = gr := by omega
 have ng10 : ¬ g1 = w.heap.size := by omega
 have nh10 : ¬ w.heap.size = g1 := by omega
 have ng11 : ¬ g1 = w.heap.size + 1 := by omega
 have nh11 : ¬ w.heap.size + 1 = g1 := by omega
 have ng12 : ¬ g1 = w.heap.size + 1 + 1 := by omega
 have nh12 : ¬ w.heap.size + 1 + 1 = g1 := by omega
 have ng13 : ¬ g1 = w.heap.size + 1 + 1 + 1 := by omega
 have nh13 : ¬ w.heap.size + 1 + 1 + 1 = g1 := by omega
 have ff : ∀ j, V2.frozen? ⟨gr, j, none⟩ = false := fun j => (HKV.out.frozen (p := ⟨gr, j, none⟩) zr).trans (FR.out j)
 have lr : V2.cell? ⟨gr, r', none⟩ = some (.int .i64 vr) := by rw [← HVr.out]; exact (HKV.out.cell (p := ⟨gr, r', none⟩) zr).trans (RR.out r' (by omega))
 have la : V2.cell? ⟨gr, a', none⟩ = some (.int .i64 va) := by rw [← HVa.out]; exact (HKV.out.cell (p := ⟨gr, a', none⟩) zr).trans (RR.out a' (by omega))
 have lb : V2.cell? ⟨gr, b', none⟩ = some (.int .i64 vb) := by rw [← HVb.out]; exact (HKV.out.cell (p := ⟨gr, b', none⟩) zr).trans (RR.out b' (by omega))
 go_wp2_with fail
 obtain ⟨L9, -, o9, -⟩ := (HO.out.keep (w' := V2) (fun b _ hb => HKV.out.block b hb)).setR HY.out HT.out HY2.out H4.out r' (wrap64 (va + vb))
 have O9 := hidW o9
 have T9 := hidW (show (d.ths.set k ⟨q, rg.set r' (wrap64 (va + vb)), 0⟩)[k]? = some ⟨q, rg.set r' (wrap64 (va + vb)), 0⟩ from List.getElem?_set_self kl)
 have K9 : Hid (∀ b, w.heap.size ≤ b → b < V2.heap.size → (V2.setCell ⟨gr, r', none⟩ (.int .i64 (wrap64 (va + vb)))).heap[b]? = V2.heap[b]?) := fun b h1 h2 => (Below.heap_setCell V2 ⟨gr, r', none⟩ _ b (by show b ≠ gr; omega))
 have B9 : Hid (Below base w (V2.setCell ⟨gr, r', none⟩ (.int .i64 (wrap64 (va + vb))))) := (HKV.out.mono hb).setCell (p := ⟨gr, r', none⟩) ir _
 have Z9 : V2.heap.size ≤ (V2.setCell ⟨gr, r', none⟩ (.int .i64 (wrap64 (va + vb)))).heap.size := by simp
 have F9 : Hid (∀ b, b < w.heap.size → ¬ HitS (.slice (some ⟨g1, 0, none⟩) d.ths.length c1) (.slice s2 d.chs.length c2) (.slice s3 d.tr.length c3) L1 L2 b → (V2.setCell ⟨gr, r', none⟩ (.int .i64 (wrap64 (va + vb)))).heap[b]? = w.heap[b]?) := fun b h1 h2 => (Below.heap_setCell V2 ⟨gr, r', none⟩ _ b (by show b ≠ gr; intro e; subst e; exact h2 (.inl (.inr ⟨k, y, HY.out, by rw [HY2.out]; rfl⟩)))).trans (HKV.out.block b h1)
 clear o9
 have GO := hidW (l4Go_any p1 (some ⟨gb, ob, none⟩) a1 a2 lo hi base p _ _ _ _ _ _ k ⟨q, rg.set r' (wrap64 (va + vb)), 0⟩ (q + 1) _ (ProgR.keep' HP.out (fun b h1 h2 => B9.out.block b (by omega))) hB O9.out (by have := Z9; have := HKV.out.size; omega) T9.out rfl kb hpb (by rw [HBN.out]; exact hbl))
 refine Calls.mono GO.out ?_
 rintro e w2 ⟨L1', rfl, hO2, hb2, hf2⟩
 have O2 := hidW hO2
 have B2 := hidW (B9.out.trans hb2)
 have F2 : Hid (∀ b, b < w.heap.size → ¬ HitS _ _ _ L1 L2 b → w2.heap[b]? = w.heap[b]?) := fun b h1 h2 => (hf2 b (by have := Z9; have := HKV.out.size; omega) (fun e => h2 (.inl (.inl e)))).trans (F9.out b h1 h2)
 have HB2 := hidW (HBX.out.keep (V' := w2) (fun b h1 h2 => (hf2 b (by have := Z9; omega) (fun e => by have e' : g1 = b := Option.some.inj e; omega)).trans (K9.out b h1 h2)) (by have := hb2.size; have := Z9; omega))
 have z2 := hb2.size
 clear m0 m1 v0 v1' v2' fs zs w0 w1' w2' fa za x0 x1 x2 x3 x4 bs ba zz zv1 zv2 zv3 ff GO hO2 hb2 hf2
 obtain ⟨⟨m0, m1⟩, ⟨v0, v1', v2', fs, zs⟩, ⟨w0, w1', w2', fa, za⟩, x0, x1, x2, x3, x4, bs, ba, zz⟩ := HB2.out
 go_wp2
 refine bodyPost_ret (v := .tuple #[.agg #[.slice (some ⟨g1, 0, none⟩) d.ths.length c1, .slice s2 d.chs.length c2, .slice s3 d.tr.length c3], .int .i64 0]) (by simp [results, Tryz.results23, go_sem, w0, w1', w2', fa]) rfl ?_
 refine ⟨_, _, _, _, _, _, _, _, _, rfl, fun _ => ⟨L1', L2, ?_⟩, ?_, fun b h1 h2 => set3_off (by omega) (F2.out b h1 h2)⟩
 ·have q2 := O2.out
  rw [HBN.out] at q2
  have E : (⟨(d.ths.set k ⟨q, rg.set r' (wrap64 (va + vb)), 0⟩).set k (moveT ⟨q, rg.set r' (wrap64 (va + vb)), 0⟩ nb (rg.set r' (wrap64 (va + vb))) (q + 1)), d.chs, d.tr⟩ : SD) = doneS d k (stepO nb ⟨q, rg, 0⟩ ⟨2, r', a', b', n⟩ d.chs d.tr k) := by rw [← HVa.out, ← HVb.out]; simp [doneS, stepO, putN, regN, moveT, List.set_set, wrap_is]
  rw [E] at q2
  exact ((q2.offB ba).offB ba.set).offB ba.set.set
 ·refine Below.setCell (Below.setCell (Below.setCell B2.out ?_ _) ?_ _) ?_ _ <;> (show base ≤ w.heap.size + 1 + 1; omega)
set_option maxHeartbeats 4000000 in
theorem sq3 (p1 p2 : Option Addr) (a1 a2 lo hi base : Nat) (p : PD) (v1 v2 v3 : Value) (L1 L2 : List (Rec × Value)) (d : SD) (k : Nat) (t : TD) (w : World) (hP : ProgR w lo hi p1 p2 p) (hB : hi ≤ base) (hO : OwnS w base v1 v2 v3 L1 L2 d) (hb : base ≤ w.heap.size) (hR : Right p d) (ht : d.ths[k]? = some t) (hst : t.st = 0) (ho : (insOf p d k).o = 3) :
  Calls Tryz.prog 23 #[.agg #[.slice p1 p.caps.length a1, .slice p2 p.bods.length a2], .agg #[v1, v2, v3], .int .i64 k] w fun e w' => StepY w base (HitS v1 v2 v3 L1 L2) (outOf p d k) d k e w' := by
 obtain ⟨q, g1, c1, gr, cr, gb, ob, gi, oi, cb, nb, s2, s3, c2, c3, y, O⟩ := hO.open hP hB hb hR ht
 rw [O.ou]
 have hcl := hR.pc
 have hbl := hR.bd k O.kb
 have hpb := hR.pb
 have hnl := hR.nl
 have HCH := hidW hR.cl
 have HTL := hidW hR.tl
 have HR := hidW hR
 obtain ⟨x, hx⟩ : ∃ x, insOf p d k = x := ⟨_, rfl⟩
 rw [hx] at O ho ⊢
 clear hx
 obtain ⟨e1, e2, e3, ep, hy, y1, y2, hq, nq, kl, kb, hbn, t0, t1, t2, b0, ⟨x0, x1, x2, x3, x4⟩, rr, f1, fr, z1, zr, zb, zi, i1, ir, ib, ii, n1, hok, -, h4⟩ := O
 subst e1 e2 e3 ep
 rw [hbn] at hbl
 have HBN := hidW hbn
 unfold insX Plain.insB at hok
 rw [decide_eq_true_eq] at hok
 obtain ⟨o, r, a, b, n⟩ := x
 simp only at ho hok x0 x1 x2 x3 x4
 subst ho
 obtain ⟨r', hr'⟩ : ∃ r' : Nat, r = r' := ⟨r.toNat, by omega⟩
 subst hr'
 have br0 : (0 : Int) ≤ (r' : Int) := by omega
 have br1 : (r' : Int) < 4 := by omega
 have br2 : r' < 4 := by omega
 obtain ⟨a', ha'⟩ : ∃ a' : Nat, a = a' := ⟨a.toNat, by omega⟩
 subst ha'
 have ba0 : (0 : Int) ≤ (a' : Int) := by omega
 have ba1 : (a' : Int) < 4 := by omega
 have ba2 : a' < 4 := by omega
 obtain ⟨b', hb'⟩ : ∃ b' : Nat, b = b' := ⟨b.toNat, by omega⟩
 subst hb'
 have bb0 : (0 : Int) ≤ (b' : Int) := by omega
 have bb1 : (b' : Int) < 4 := by omega
 have bb2 : b' < 4 := by omega
 obtain ⟨pc, rg, st⟩ := t
 simp only at hq hst h4 rr t0 t2
 subst hq hst
 have i0 : (0 : Int) ≤ (k : Int) := by omega
 have j1 : (k : Int) < (d.ths.length : Int) := by omega
 have j2 : (k : Int) < (p.bods.length : Int) := by omega
 have j3 : (0 : Int) ≤ (q : Int) := by omega
 have j4 : (q : Int) < (nb : Int) := by omega
 have w1 : IntKind.i64.wrap ((q : Int) + 1) = (q : Int) + 1 := Go.IntWalk.i64_in _ (by omega)
 obtain ⟨W, hW⟩ : ∃ W, (((w.alloc (.cells #[.slice p1 p.caps.length a1, .slice (some ⟨gb, ob, none⟩) p.bods.length a2] 42)).alloc (.cells #[.slice (some ⟨g1, 0, none⟩) d.ths.length c1, .slice s2 d.chs.length c2, .slice s3 d.tr.length c3] 37)).alloc (.cells #[.slice none 0 0, .slice none 0 0, .slice none 0 0] 37)) = W := ⟨_, rfl⟩
 obtain ⟨V, hV⟩ : ∃ V, W.alloc (.cells #[.int .i64 3, .int .i64 r', .int .i64 a', .int .i64 b', .int .i64 n] 91) = V := ⟨_, rfl⟩
 obtain ⟨BX, KV⟩ := bq_new hW hV
 have HW := hidW hW
 have HV := hidW hV
 have HBX := hidW BX
 have HKV := hidW KV
 have HO := hidW hO
 have HP := hidW hP
 have HT := hidW ht
 have HY := hidW hy
 have HY2 := hidW y2
 have H4 := hidW h4
 have RR := hidW rr
 have F1 := hidW f1
 have FR := hidW fr
 have HOK := hidW hok
 have y0 : g1 < w.heap.size + 1 := by omega
 have y3 : g1 < w.heap.size + 1 + 1 := by omega
 have y4 : g1 < w.heap.size + 1 + 1 + 1 := by omega
 have y5 : gb < w.heap.size + 1 := by omega
 have y6 : gb < w.heap.size + 1 + 1 := by omega
 have y7 : gi < w.heap.size + 1 := by omega
 have y8 : gi < w.heap.size + 1 + 1 := by omega
 clear hW hV BX KV hO hP ht hy y1 y2 h4 rr f1 fr hok hR hbn
 go_enter Tryz.func23, Tryz.ntmps23
 go_upto_region 14 with fail
 rw [HW.out, HV.out]
 clear x0 x1 x2 x3 x4 t0 t1 t2 b0 y0 y3 y4 y5 y6 y7 y8
 obtain ⟨⟨m0, m1⟩, ⟨v0, v1', v2', fs, zs⟩, ⟨w0, w1', w2', fa, za⟩, x0, x1, x2, x3, x4, bs, ba, zz⟩ := HBX.out
 have zv1 : w.heap.size < V.heap.size := by omega
 have zv2 : g1 < V.heap.size := by omega
 have zv3 : gr < V.heap.size := by omega
 have ng00 : ¬ gr = w.heap.size := by omega
 have nh00 : ¬ w.heap.size = gr := by omega
 have ng01 : ¬ gr = w.heap.size + 1 := by omega
 have nh01 : ¬ w.heap.size + 1 = gr := by omega
 have ng02 : ¬ gr = w.heap.size + 1 + 1 := by omega
 have nh02 : ¬ w.heap.size + 1 + 1 = gr := by omega
 have ng03 : ¬ gr = w.heap.size + 1 + 1 + 1 := by omega
 have nh03 : ¬ w.heap.size + 1 + 1 + 1 = gr := by omega
 have ng10 : ¬ g1 = w.heap.size := by omega
 have nh10 : ¬ w.heap.size = g1 := by omega
 have ng11 : ¬ g1 = w.heap.size + 1 := by omega
 have nh11 : ¬ w.heap.size + 1 = g1 := by omega
 have ng12 : ¬ g1 = w.heap.size + 1 + 1 := by omega
 have nh12 : ¬ w.heap.size + 1 + 1 = g1 := by omega
 have ng13 : ¬ g1 = w.heap.size + 1 + 1 + 1 := by omega
 have nh13 : ¬ w.heap.size + 1 + 1 + 1 = g1 := by omega
 obtain ⟨vr, hvr⟩ : ∃ v, rg.getD r' 0 = v := ⟨_, rfl⟩
 have HVr := hidW hvr
 clear hvr
 have lr : V.cell? ⟨gr, r', none⟩ = some (.int .i64 vr) := by rw [← HVr.out]; exact (HKV.out.cell (p := ⟨gr, r', none⟩) zr).trans (RR.out r' (by omega))
 obtain ⟨va, hva⟩ : ∃ v, rg.getD a' 0 = v := ⟨_, rfl⟩
 have HVa := hidW hva
 clear hva
 have la : V.cell? ⟨gr, a', none⟩ = some (.int .i64 va) := by rw [← HVa.out]; exact (HKV.out.cell (p := ⟨gr, a', none⟩) zr).trans (RR.out a' (by omega))
 obtain ⟨vb, hvb⟩ : ∃ v, rg.getD b' 0 = v := ⟨_, rfl⟩
 have HVb := hidW hvb
 clear hvb
 have lb : V.cell? ⟨gr, b', none⟩ = some (.int .i64 vb) := by rw [← HVb.out]; exact (HKV.out.cell (p := ⟨gr, b', none⟩) zr).trans (RR.out b' (by omega))
 have ff : ∀ j, V.frozen? ⟨gr, j, none⟩ = false := fun j => (HKV.out.frozen (p := ⟨gr, j, none⟩) zr).trans (FR.out j)
 go_wp2_with fail
 have hne := ext_ne V
 have u1 := Ext.fit x1 zz
 have u2 := Ext.fit x2 zz
 have u3 := Ext.fit x3 zz
 have ua := Ext.fit la zv3
 have ub := Ext.fit lb zv3
 refine regionLast V _ rfl (by kernel_rfl) (by kernel_rfl) (by kernel_rfl) rfl rfl ?_
 dsimp only [List.dropLast, List.cons_append, List.nil_append, idle]
 repeat (go_big_quiet_step (fail))
 refine wpQuiet_nil ?_
 clear hne u1 u2 u3 ua ub
 rintro w3 ⟨X3, rfl⟩
 obtain ⟨V2, hX3⟩ : ∃ V2, X3.w = V2 := ⟨_, rfl⟩
 have hb3 := X3.b
 rw [hX3] at hb3 ⊢
 have HBX := hidW (HBX.out.keep (fun b _ h2 => hb3.block b h2) hb3.size)
 have HKV := hidW (HKV.out.trans (hb3.mono (by omega)))
 clear hb3 hX3 X3 m0 m1 v0 v1' v2' fs zs w0 w1' w2' fa za x0 x1 x2 x3 x4 bs ba zz zv1 zv2 zv3 ff lr la lb ng00 nh00 ng01 nh01 ng02 nh02 ng03 nh03 ng10 nh10 ng11 nh11 ng12 nh12 ng13 nh13
 obtain ⟨⟨m0, m1⟩, ⟨v0, v1', v2', fs, zs⟩, ⟨w0, w1', w2', fa, za⟩, x0, x1, x2, x3, x4, bs, ba, zz⟩ := HBX.out
 have zv1 : w.heap.size < V2.heap.size := by omega
 have zv2 : g1 < V2.heap.size := by omega
 have zv3 : gr < V2.heap.size := by omega
 have ng00 : ¬ gr = w.heap.size := by omega
 have nh00 : ¬ w.heap.size = gr := by omega
 have ng01 : ¬ gr = w.heap.size + 1 := by omega
 have nh01 : ¬ w.heap.size + 1 = gr := by omega
 have ng02 : ¬ gr = w.heap.size + 1 + 1 := by omega
 have nh02 : ¬ w.heap.size + 1 + 1 = gr := by omega
 have ng03 : ¬ gr = w.heap.size + 1 + 1 + 1 := by omega
 have nh03 : ¬ w.heap.size + 1 + 1 + 1 = gr := by omega
 have ng10 : ¬ g1 = w.heap.size := by omega
 have nh10 : ¬ w.heap.size = g1 := by omega
 have ng11 : ¬ g1 = w.heap.size + 1 := by omega
 have nh11 : ¬ w.heap.size + 1 = g1 := by omega
 have ng12 : ¬ g1 = w.heap.size + 1 + 1 := by omega
 have nh12 : ¬ w.heap.size + 1 + 1 = g1 := by omega
 have ng13 : ¬ g1 = w.heap.size + 1 + 1 + 1 := by omega
 have nh13 : ¬ w.heap.size + 1 + 1 + 1 = g1 := by omega
 have ff : ∀ j, V2.frozen? ⟨gr, j, none⟩ = false := fun j => (HKV.out.frozen (p := ⟨gr, j, none⟩) zr).trans (FR.out j)
 have lr : V2.cell? ⟨gr, r', none⟩ = some (.int .i64 vr) := by rw [← HVr.out]; exact (HKV.out.cell (p := ⟨gr, r', none⟩) zr).trans (RR.out r' (by omega))
 have la : V2.cell? ⟨gr, a', none⟩ = some (.int .i64 va) := by rw [← HVa.out]; exact (HKV.out.cell (p := ⟨gr, a', none⟩) zr).trans (RR.out a' (by omega))
 have lb : V2.cell? ⟨gr, b', none⟩ = some (.int .i64 vb) := by rw [← HVb.out]; exact (HKV.out.cell (p := ⟨gr, b', none⟩) zr).trans (RR.out b' (by omega))
 go_wp2_with fail
 obtain ⟨L9, -, o9, -⟩ := (HO.out.keep (w' := V2) (fun b _ hb => HKV.out.block b hb)).setR HY.out HT.out HY2.out H4.out r' (wrap64 (va - vb))
 have O9 := hidW o9
 have T9 := hidW (show (d.ths.set k ⟨q, rg.set r' (wrap64 (va - vb)), 0⟩)[k]? = some ⟨q, rg.set r' (wrap64 (va - vb)), 0⟩ from List.getElem?_set_self kl)
 have K9 : Hid (∀ b, w.heap.size ≤ b → b < V2.heap.size → (V2.setCell ⟨gr, r', none⟩ (.int .i64 (wrap64 (va - vb)))).heap[b]? = V2.heap[b]?) := fun b h1 h2 => (Below.heap_setCell V2 ⟨gr, r', none⟩ _ b (by show b ≠ gr; omega))
 have B9 : Hid (Below base w (V2.setCell ⟨gr, r', none⟩ (.int .i64 (wrap64 (va - vb))))) := (HKV.out.mono hb).setCell (p := ⟨gr, r', none⟩) ir _
 have Z9 : V2.heap.size ≤ (V2.setCell ⟨gr, r', none⟩ (.int .i64 (wrap64 (va - vb)))).heap.size := by simp
 have F9 : Hid (∀ b, b < w.heap.size → ¬ HitS (.slice (some ⟨g1, 0, none⟩) d.ths.length c1) (.slice s2 d.chs.length c2) (.slice s3 d.tr.length c3) L1 L2 b → (V2.setCell ⟨gr, r', none⟩ (.int .i64 (wrap64 (va - vb)))).heap[b]? = w.heap[b]?) := fun b h1 h2 => (Below.heap_setCell V2 ⟨gr, r', none⟩ _ b (by show b ≠ gr; intro e; subst e; exact h2 (.inl (.inr ⟨k, y, HY.out, by rw [HY2.out]; rfl⟩)))).trans (HKV.out.block b h1)
 clear o9
 have GO := hidW (l4Go_any p1 (some ⟨gb, ob, none⟩) a1 a2 lo hi base p _ _ _ _ _ _ k ⟨q, rg.set r' (wrap64 (va - vb)), 0⟩ (q + 1) _ (ProgR.keep' HP.out (fun b h1 h2 => B9.out.block b (by omega))) hB O9.out (by have := Z9; have := HKV.out.size; omega) T9.out rfl kb hpb (by rw [HBN.out]; exact hbl))
 refine Calls.mono GO.out ?_
 rintro e w2 ⟨L1', rfl, hO2, hb2, hf2⟩
 have O2 := hidW hO2
 have B2 := hidW (B9.out.trans hb2)
 have F2 : Hid (∀ b, b < w.heap.size → ¬ HitS _ _ _ L1 L2 b → w2.heap[b]? = w.heap[b]?) := fun b h1 h2 => (hf2 b (by have := Z9; have := HKV.out.size; omega) (fun e => h2 (.inl (.inl e)))).trans (F9.out b h1 h2)
 have HB2 := hidW (HBX.out.keep (V' := w2) (fun b h1 h2 => (hf2 b (by have := Z9; omega) (fun e => by have e' : g1 = b := Option.some.inj e; omega)).trans (K9.out b h1 h2)) (by have := hb2.size; have := Z9; omega))
 have z2 := hb2.size
 clear m0 m1 v0 v1' v2' fs zs w0 w1' w2' fa za x0 x1 x2 x3 x4 bs ba zz zv1 zv2 zv3 ff GO hO2 hb2 hf2
 obtain ⟨⟨m0, m1⟩, ⟨v0, v1', v2', fs, zs⟩, ⟨w0, w1', w2', fa, za⟩, x0, x1, x2, x3, x4, bs, ba, zz⟩ := HB2.out
 go_wp2
 refine bodyPost_ret (v := .tuple #[.agg #[.slice (some ⟨g1, 0, none⟩) d.ths.length c1, .slice s2 d.chs.length c2, .slice s3 d.tr.length c3], .int .i64 0]) (by simp [results, Tryz.results23, go_sem, w0, w1', w2', fa]) rfl ?_
 refine ⟨_, _, _, _, _, _, _, _, _, rfl, fun _ => ⟨L1', L2, ?_⟩, ?_, fun b h1 h2 => set3_off (by omega) (F2.out b h1 h2)⟩
 ·have q2 := O2.out
  rw [HBN.out] at q2
  have E : (⟨(d.ths.set k ⟨q, rg.set r' (wrap64 (va - vb)), 0⟩).set k (moveT ⟨q, rg.set r' (wrap64 (va - vb)), 0⟩ nb (rg.set r' (wrap64 (va - vb))) (q + 1)), d.chs, d.tr⟩ : SD) = doneS d k (stepO nb ⟨q, rg, 0⟩ ⟨3, r', a', b', n⟩ d.chs d.tr k) := by rw [← HVa.out, ← HVb.out]; simp [doneS, stepO, putN, regN, moveT, List.set_set, wrap_is]
  rw [E] at q2
  exact ((q2.offB ba).offB ba.set).offB ba.set.set
 ·refine Below.setCell (Below.setCell (Below.setCell B2.out ?_ _) ?_ _) ?_ _ <;> (show base ≤ w.heap.size + 1 + 1; omega)
set_option maxHeartbeats 4000000 in
theorem sq4 (p1 p2 : Option Addr) (a1 a2 lo hi base : Nat) (p : PD) (v1 v2 v3 : Value) (L1 L2 : List (Rec × Value)) (d : SD) (k : Nat) (t : TD) (w : World) (hP : ProgR w lo hi p1 p2 p) (hB : hi ≤ base) (hO : OwnS w base v1 v2 v3 L1 L2 d) (hb : base ≤ w.heap.size) (hR : Right p d) (ht : d.ths[k]? = some t) (hst : t.st = 0) (ho : (insOf p d k).o = 4) :
  Calls Tryz.prog 23 #[.agg #[.slice p1 p.caps.length a1, .slice p2 p.bods.length a2], .agg #[v1, v2, v3], .int .i64 k] w fun e w' => StepY w base (HitS v1 v2 v3 L1 L2) (outOf p d k) d k e w' := by
 obtain ⟨q, g1, c1, gr, cr, gb, ob, gi, oi, cb, nb, s2, s3, c2, c3, y, O⟩ := hO.open hP hB hb hR ht
 rw [O.ou]
 have hcl := hR.pc
 have hbl := hR.bd k O.kb
 have hpb := hR.pb
 have hnl := hR.nl
 have HCH := hidW hR.cl
 have HTL := hidW hR.tl
 have HR := hidW hR
 obtain ⟨x, hx⟩ : ∃ x, insOf p d k = x := ⟨_, rfl⟩
 rw [hx] at O ho ⊢
 clear hx
 obtain ⟨e1, e2, e3, ep, hy, y1, y2, hq, nq, kl, kb, hbn, t0, t1, t2, b0, ⟨x0, x1, x2, x3, x4⟩, rr, f1, fr, z1, zr, zb, zi, i1, ir, ib, ii, n1, hok, -, h4⟩ := O
 subst e1 e2 e3 ep
 rw [hbn] at hbl
 have HBN := hidW hbn
 unfold insX Plain.insB at hok
 rw [decide_eq_true_eq] at hok
 obtain ⟨o, r, a, b, n⟩ := x
 simp only at ho hok x0 x1 x2 x3 x4
 subst ho
 obtain ⟨r', hr'⟩ : ∃ r' : Nat, r = r' := ⟨r.toNat, by omega⟩
 subst hr'
 have br0 : (0 : Int) ≤ (r' : Int) := by omega
 have br1 : (r' : Int) < 4 := by omega
 have br2 : r' < 4 := by omega
 obtain ⟨a', ha'⟩ : ∃ a' : Nat, a = a' := ⟨a.toNat, by omega⟩
 subst ha'
 have ba0 : (0 : Int) ≤ (a' : Int) := by omega
 have ba1 : (a' : Int) < 4 := by omega
 have ba2 : a' < 4 := by omega
 obtain ⟨b', hb'⟩ : ∃ b' : Nat, b = b' := ⟨b.toNat, by omega⟩
 subst hb'
 have bb0 : (0 : Int) ≤ (b' : Int) := by omega
 have bb1 : (b' : Int) < 4 := by omega
 have bb2 : b' < 4 := by omega
 obtain ⟨pc, rg, st⟩ := t
 simp only at hq hst h4 rr t0 t2
 subst hq hst
 have i0 : (0 : Int) ≤ (k : Int) := by omega
 have j1 : (k : Int) < (d.ths.length : Int) := by omega
 have j2 : (k : Int) < (p.bods.length : Int) := by omega
 have j3 : (0 : Int) ≤ (q : Int) := by omega
 have j4 : (q : Int) < (nb : Int) := by omega
 have w1 : IntKind.i64.wrap ((q : Int) + 1) = (q : Int) + 1 := Go.IntWalk.i64_in _ (by omega)
 obtain ⟨W, hW⟩ : ∃ W, (((w.alloc (.cells #[.slice p1 p.caps.length a1, .slice (some ⟨gb, ob, none⟩) p.bods.length a2] 42)).alloc (.cells #[.slice (some ⟨g1, 0, none⟩) d.ths.length c1, .slice s2 d.chs.length c2, .slice s3 d.tr.length c3] 37)).alloc (.cells #[.slice none 0 0, .slice none 0 0, .slice none 0 0] 37)) = W := ⟨_, rfl⟩
 obtain ⟨V, hV⟩ : ∃ V, W.alloc (.cells #[.int .i64 4, .int .i64 r', .int .i64 a', .int .i64 b', .int .i64 n] 91) = V := ⟨_, rfl⟩
 obtain ⟨BX, KV⟩ := bq_new hW hV
 have HW := hidW hW
 have HV := hidW hV
 have HBX := hidW BX
 have HKV := hidW KV
 have HO := hidW hO
 have HP := hidW hP
 have HT := hidW ht
 have HY := hidW hy
 have HY2 := hidW y2
 have H4 := hidW h4
 have RR := hidW rr
 have F1 := hidW f1
 have FR := hidW fr
 have HOK := hidW hok
 have y0 : g1 < w.heap.size + 1 := by omega
 have y3 : g1 < w.heap.size + 1 + 1 := by omega
 have y4 : g1 < w.heap.size + 1 + 1 + 1 := by omega
 have y5 : gb < w.heap.size + 1 := by omega
 have y6 : gb < w.heap.size + 1 + 1 := by omega
 have y7 : gi < w.heap.size + 1 := by omega
 have y8 : gi < w.heap.size + 1 + 1 := by omega
 clear hW hV BX KV hO hP ht hy y1 y2 h4 rr f1 fr hok hR hbn
 go_enter Tryz.func23, Tryz.ntmps23
 go_upto_region 14 with fail
 rw [HW.out, HV.out]
 clear x0 x1 x2 x3 x4 t0 t1 t2 b0 y0 y3 y4 y5 y6 y7 y8
 obtain ⟨⟨m0, m1⟩, ⟨v0, v1', v2', fs, zs⟩, ⟨w0, w1', w2', fa, za⟩, x0, x1, x2, x3, x4, bs, ba, zz⟩ := HBX.out
 have zv1 : w.heap.size < V.heap.size := by omega
 have zv2 : g1 < V.heap.size := by omega
 have zv3 : gr < V.heap.size := by omega
 have ng00 : ¬ gr = w.heap.size := by omega
 have nh00 : ¬ w.heap.size = gr := by omega
 have ng01 : ¬ gr = w.heap.size + 1 := by omega
 have nh01 : ¬ w.heap.size + 1 = gr := by omega
 have ng02 : ¬ gr = w.heap.size + 1 + 1 := by omega
 have nh02 : ¬ w.heap.size + 1 + 1 = gr := by omega
 have ng03 : ¬ gr = w.heap.size + 1 + 1 + 1 := by omega
 have nh03 : ¬ w.heap.size + 1 + 1 + 1 = gr := by omega
 have ng10 : ¬ g1 = w.heap.size := by omega
 have nh10 : ¬ w.heap.size = g1 := by omega
 have ng11 : ¬ g1 = w.heap.size + 1 := by omega
 have nh11 : ¬ w.heap.size + 1 = g1 := by omega
 have ng12 : ¬ g1 = w.heap.size + 1 + 1 := by omega
 have nh12 : ¬ w.heap.size + 1 + 1 = g1 := by omega
 have ng13 : ¬ g1 = w.heap.size + 1 + 1 + 1 := by omega
 have nh13 : ¬ w.heap.size + 1 + 1 + 1 = g1 := by omega
 obtain ⟨vr, hvr⟩ : ∃ v, rg.getD r' 0 = v := ⟨_, rfl⟩
 have HVr := hidW hvr
 clear hvr
 have lr : V.cell? ⟨gr, r', none⟩ = some (.int .i64 vr) := by rw [← HVr.out]; exact (HKV.out.cell (p := ⟨gr, r', none⟩) zr).trans (RR.out r' (by omega))
 obtain ⟨va, hva⟩ : ∃ v, rg.getD a' 0 = v := ⟨_, rfl⟩
 have HVa := hidW hva
 clear hva
 have la : V.cell? ⟨gr, a', none⟩ = some (.int .i64 va) := by rw [← HVa.out]; exact (HKV.out.cell (p := ⟨gr, a', none⟩) zr).trans (RR.out a' (by omega))
 obtain ⟨vb, hvb⟩ : ∃ v, rg.getD b' 0 = v := ⟨_, rfl⟩
 have HVb := hidW hvb
 clear hvb
 have lb : V.cell? ⟨gr, b', none⟩ = some (.int .i64 vb) := by rw [← HVb.out]; exact (HKV.out.cell (p := ⟨gr, b', none⟩) zr).trans (RR.out b' (by omega))
 have ff : ∀ j, V.frozen? ⟨gr, j, none⟩ = false := fun j => (HKV.out.frozen (p := ⟨gr, j, none⟩) zr).trans (FR.out j)
 go_wp2_with fail
 have hne := ext_ne V
 have u1 := Ext.fit x1 zz
 have u2 := Ext.fit x2 zz
 have u3 := Ext.fit x3 zz
 have ua := Ext.fit la zv3
 have ub := Ext.fit lb zv3
 refine regionLast V _ rfl (by kernel_rfl) (by kernel_rfl) (by kernel_rfl) rfl rfl ?_
 dsimp only [List.dropLast, List.cons_append, List.nil_append, idle]
 repeat (go_big_quiet_step ((rename_i X; go_at_call 51; refine (l4Bit_any _ _).mono ?_; rintro e w9 ⟨rfl, rfl⟩; exact ⟨rfl, X.on (Below.refl _ _)⟩)))
 refine wpQuiet_nil ?_
 clear hne u1 u2 u3 ua ub
 rintro w3 ⟨X3, rfl⟩
 obtain ⟨V2, hX3⟩ : ∃ V2, X3.w = V2 := ⟨_, rfl⟩
 have hb3 := X3.b
 rw [hX3] at hb3 ⊢
 have HBX := hidW (HBX.out.keep (fun b _ h2 => hb3.block b h2) hb3.size)
 have HKV := hidW (HKV.out.trans (hb3.mono (by omega)))
 clear hb3 hX3 X3 m0 m1 v0 v1' v2' fs zs w0 w1' w2' fa za x0 x1 x2 x3 x4 bs ba zz zv1 zv2 zv3 ff lr la lb ng00 nh00 ng01 nh01 ng02 nh02 ng03 nh03 ng10 nh10 ng11 nh11 ng12 nh12 ng13 nh13
 obtain ⟨⟨m0, m1⟩, ⟨v0, v1', v2', fs, zs⟩, ⟨w0, w1', w2', fa, za⟩, x0, x1, x2, x3, x4, bs, ba, zz⟩ := HBX.out
 have zv1 : w.heap.size < V2.heap.size := by omega
 have zv2 : g1 < V2.heap.size := by omega
 have zv3 : gr < V2.heap.size := by omega
 have ng00 : ¬ gr = w.heap.size := by omega
 have nh00 : ¬ w.heap.size = gr := by omega
 have ng01 : ¬ gr = w.heap.size + 1 := by omega
 have nh01 : ¬ w.heap.size + 1 = gr := by omega
 have ng02 : ¬ gr = w.heap.size + 1 + 1 := by omega
 have nh02 : ¬ w.heap.size + 1 + 1 = gr := by omega
 have ng03 : ¬ gr = w.heap.size + 1 + 1 + 1 := by omega
 have nh03 : ¬ w.heap.size + 1 + 1 + 1 = gr := by omega
 have ng10 : ¬ g1 = w.heap.size := by omega
 have nh10 : ¬ w.heap.size = g1 := by omega
 have ng11 : ¬ g1 = w.heap.size + 1 := by omega
 have nh11 : ¬ w.heap.size + 1 = g1 := by omega
 have ng12 : ¬ g1 = w.heap.size + 1 + 1 := by omega
 have nh12 : ¬ w.heap.size + 1 + 1 = g1 := by omega
 have ng13 : ¬ g1 = w.heap.size + 1 + 1 + 1 := by omega
 have nh13 : ¬ w.heap.size + 1 + 1 + 1 = g1 := by omega
 have ff : ∀ j, V2.frozen? ⟨gr, j, none⟩ = false := fun j => (HKV.out.frozen (p := ⟨gr, j, none⟩) zr).trans (FR.out j)
 have lr : V2.cell? ⟨gr, r', none⟩ = some (.int .i64 vr) := by rw [← HVr.out]; exact (HKV.out.cell (p := ⟨gr, r', none⟩) zr).trans (RR.out r' (by omega))
 have la : V2.cell? ⟨gr, a', none⟩ = some (.int .i64 va) := by rw [← HVa.out]; exact (HKV.out.cell (p := ⟨gr, a', none⟩) zr).trans (RR.out a' (by omega))
 have lb : V2.cell? ⟨gr, b', none⟩ = some (.int .i64 vb) := by rw [← HVb.out]; exact (HKV.out.cell (p := ⟨gr, b', none⟩) zr).trans (RR.out b' (by omega))
 go_wp2_with fail
 obtain ⟨L9, -, o9, -⟩ := (HO.out.keep (w' := V2) (fun b _ hb => HKV.out.block b hb)).setR HY.out HT.out HY2.out H4.out r' (bitN (decide (va < vb)))
 have O9 := hidW o9
 have T9 := hidW (show (d.ths.set k ⟨q, rg.set r' (bitN (decide (va < vb))), 0⟩)[k]? = some ⟨q, rg.set r' (bitN (decide (va < vb))), 0⟩ from List.getElem?_set_self kl)
 have K9 : Hid (∀ b, w.heap.size ≤ b → b < V2.heap.size → (V2.setCell ⟨gr, r', none⟩ (.int .i64 (bitN (decide (va < vb))))).heap[b]? = V2.heap[b]?) := fun b h1 h2 => (Below.heap_setCell V2 ⟨gr, r', none⟩ _ b (by show b ≠ gr; omega))
 have B9 : Hid (Below base w (V2.setCell ⟨gr, r', none⟩ (.int .i64 (bitN (decide (va < vb)))))) := (HKV.out.mono hb).setCell (p := ⟨gr, r', none⟩) ir _
 have Z9 : V2.heap.size ≤ (V2.setCell ⟨gr, r', none⟩ (.int .i64 (bitN (decide (va < vb))))).heap.size := by simp
 have F9 : Hid (∀ b, b < w.heap.size → ¬ HitS (.slice (some ⟨g1, 0, none⟩) d.ths.length c1) (.slice s2 d.chs.length c2) (.slice s3 d.tr.length c3) L1 L2 b → (V2.setCell ⟨gr, r', none⟩ (.int .i64 (bitN (decide (va < vb))))).heap[b]? = w.heap[b]?) := fun b h1 h2 => (Below.heap_setCell V2 ⟨gr, r', none⟩ _ b (by show b ≠ gr; intro e; subst e; exact h2 (.inl (.inr ⟨k, y, HY.out, by rw [HY2.out]; rfl⟩)))).trans (HKV.out.block b h1)
 clear o9
 have GO := hidW (l4Go_any p1 (some ⟨gb, ob, none⟩) a1 a2 lo hi base p _ _ _ _ _ _ k ⟨q, rg.set r' (bitN (decide (va < vb))), 0⟩ (q + 1) _ (ProgR.keep' HP.out (fun b h1 h2 => B9.out.block b (by omega))) hB O9.out (by have := Z9; have := HKV.out.size; omega) T9.out rfl kb hpb (by rw [HBN.out]; exact hbl))
 refine Calls.mono GO.out ?_
 rintro e w2 ⟨L1', rfl, hO2, hb2, hf2⟩
 have O2 := hidW hO2
 have B2 := hidW (B9.out.trans hb2)
 have F2 : Hid (∀ b, b < w.heap.size → ¬ HitS _ _ _ L1 L2 b → w2.heap[b]? = w.heap[b]?) := fun b h1 h2 => (hf2 b (by have := Z9; have := HKV.out.size; omega) (fun e => h2 (.inl (.inl e)))).trans (F9.out b h1 h2)
 have HB2 := hidW (HBX.out.keep (V' := w2) (fun b h1 h2 => (hf2 b (by have := Z9; omega) (fun e => by have e' : g1 = b := Option.some.inj e; omega)).trans (K9.out b h1 h2)) (by have := hb2.size; have := Z9; omega))
 have z2 := hb2.size
 clear m0 m1 v0 v1' v2' fs zs w0 w1' w2' fa za x0 x1 x2 x3 x4 bs ba zz zv1 zv2 zv3 ff GO hO2 hb2 hf2
 obtain ⟨⟨m0, m1⟩, ⟨v0, v1', v2', fs, zs⟩, ⟨w0, w1', w2', fa, za⟩, x0, x1, x2, x3, x4, bs, ba, zz⟩ := HB2.out
 go_wp2
 refine bodyPost_ret (v := .tuple #[.agg #[.slice (some ⟨g1, 0, none⟩) d.ths.length c1, .slice s2 d.chs.length c2, .slice s3 d.tr.length c3], .int .i64 0]) (by simp [results, Tryz.results23, go_sem, w0, w1', w2', fa]) rfl ?_
 refine ⟨_, _, _, _, _, _, _, _, _, rfl, fun _ => ⟨L1', L2, ?_⟩, ?_, fun b h1 h2 => set3_off (by omega) (F2.out b h1 h2)⟩
 ·have q2 := O2.out
  rw [HBN.out] at q2
  have E : (⟨(d.ths.set k ⟨q, rg.set r' (bitN (decide (va < vb))), 0⟩).set k (moveT ⟨q, rg.set r' (bitN (decide (va < vb))), 0⟩ nb (rg.set r' (bitN (decide (va < vb)))) (q + 1)), d.chs, d.tr⟩ : SD) = doneS d k (stepO nb ⟨q, rg, 0⟩ ⟨4, r', a', b', n⟩ d.chs d.tr k) := by rw [← HVa.out, ← HVb.out]; simp [doneS, stepO, putN, regN, moveT, List.set_set, wrap_is]
  rw [E] at q2
  exact ((q2.offB ba).offB ba.set).offB ba.set.set
 ·refine Below.setCell (Below.setCell (Below.setCell B2.out ?_ _) ?_ _) ?_ _ <;> (show base ≤ w.heap.size + 1 + 1; omega)
end
section
set_option linter.unusedSimpArgs false
set_option linter.unusedVariables false
set_option maxRecDepth 100000
open Go.RowKit
set_option maxHeartbeats 4000000 in
theorem sq11 (p1 p2 : Option Addr) (a1 a2 lo hi base : Nat) (p : PD) (v1 v2 v3 : Value) (L1 L2 : List (Rec × Value)) (d : SD) (k : Nat) (t : TD) (w : World) (hP : ProgR w lo hi p1 p2 p) (hB : hi ≤ base) (hO : OwnS w base v1 v2 v3 L1 L2 d) (hb : base ≤ w.heap.size) (hR : Right p d) (ht : d.ths[k]? = some t) (hst : t.st = 0) (ho : (insOf p d k).o = 11) :
  Calls Tryz.prog 23 #[.agg #[.slice p1 p.caps.length a1, .slice p2 p.bods.length a2], .agg #[v1, v2, v3], .int .i64 k] w fun e w' => StepY w base (HitS v1 v2 v3 L1 L2) (outOf p d k) d k e w' := by
 obtain ⟨q, g1, c1, gr, cr, gb, ob, gi, oi, cb, nb, s2, s3, c2, c3, y, O⟩ := hO.open hP hB hb hR ht
 rw [O.ou]
 have hcl := hR.pc
 have hbl := hR.bd k O.kb
 have hpb := hR.pb
 have hnl := hR.nl
 have HCH := hidW hR.cl
 have HTL := hidW hR.tl
 have HR := hidW hR
 obtain ⟨x, hx⟩ : ∃ x, insOf p d k = x := ⟨_, rfl⟩
 rw [hx] at O ho ⊢
 clear hx
 obtain ⟨e1, e2, e3, ep, hy, y1, y2, hq, nq, kl, kb, hbn, t0, t1, t2, b0, ⟨x0, x1, x2, x3, x4⟩, rr, f1, fr, z1, zr, zb, zi, i1, ir, ib, ii, n1, hok, -, h4⟩ := O
 subst e1 e2 e3 ep
 rw [hbn] at hbl
 have HBN := hidW hbn
 unfold insX Plain.insB at hok
 rw [decide_eq_true_eq] at hok
 obtain ⟨o, r, a, b, n⟩ := x
 simp only at ho hok x0 x1 x2 x3 x4
 subst ho
 obtain ⟨r', hr'⟩ : ∃ r' : Nat, r = r' := ⟨r.toNat, by omega⟩
 subst hr'
 have br0 : (0 : Int) ≤ (r' : Int) := by omega
 have br1 : (r' : Int) < 4 := by omega
 have br2 : r' < 4 := by omega
 obtain ⟨a', ha'⟩ : ∃ a' : Nat, a = a' := ⟨a.toNat, by omega⟩
 subst ha'
 have ba0 : (0 : Int) ≤ (a' : Int) := by omega
 have ba1 : (a' : Int) < 4 := by omega
 have ba2 : a' < 4 := by omega
 obtain ⟨b', hb'⟩ : ∃ b' : Nat, b = b' := ⟨b.toNat, by omega⟩
 subst hb'
 have bb0 : (0 : Int) ≤ (b' : Int) := by omega
 have bb1 : (b' : Int) < 4 := by omega
 have bb2 : b' < 4 := by omega
 obtain ⟨pc, rg, st⟩ := t
 simp only at hq hst h4 rr t0 t2
 subst hq hst
 have i0 : (0 : Int) ≤ (k : Int) := by omega
 have j1 : (k : Int) < (d.ths.length : Int) := by omega
 have j2 : (k : Int) < (p.bods.length : Int) := by omega
 have j3 : (0 : Int) ≤ (q : Int) := by omega
 have j4 : (q : Int) < (nb : Int) := by omega
 have w1 : IntKind.i64.wrap ((q : Int) + 1) = (q : Int) + 1 := Go.IntWalk.i64_in _ (by omega)
 obtain ⟨W, hW⟩ : ∃ W, (((w.alloc (.cells #[.slice p1 p.caps.length a1, .slice (some ⟨gb, ob, none⟩) p.bods.length a2] 42)).alloc (.cells #[.slice (some ⟨g1, 0, none⟩) d.ths.length c1, .slice s2 d.chs.length c2, .slice s3 d.tr.length c3] 37)).alloc (.cells #[.slice none 0 0, .slice none 0 0, .slice none 0 0] 37)) = W := ⟨_, rfl⟩
 obtain ⟨V, hV⟩ : ∃ V, W.alloc (.cells #[.int .i64 11, .int .i64 r', .int .i64 a', .int .i64 b', .int .i64 n] 91) = V := ⟨_, rfl⟩
 obtain ⟨BX, KV⟩ := bq_new hW hV
 have HW := hidW hW
 have HV := hidW hV
 have HBX := hidW BX
 have HKV := hidW KV
 have HO := hidW hO
 have HP := hidW hP
 have HT := hidW ht
 have HY := hidW hy
 have HY2 := hidW y2
 have H4 := hidW h4
 have RR := hidW rr
 have F1 := hidW f1
 have FR := hidW fr
 have HOK := hidW hok
 have y0 : g1 < w.heap.size + 1 := by omega
 have y3 : g1 < w.heap.size + 1 + 1 := by omega
 have y4 : g1 < w.heap.size + 1 + 1 + 1 := by omega
 have y5 : gb < w.heap.size + 1 := by omega
 have y6 : gb < w.heap.size + 1 + 1 := by omega
 have y7 : gi < w.heap.size + 1 := by omega
 have y8 : gi < w.heap.size + 1 + 1 := by omega
 clear hW hV BX KV hO hP ht hy y1 y2 h4 rr f1 fr hok hR hbn
 go_enter Tryz.func23, Tryz.ntmps23
 go_upto_region 14 with fail
 rw [HW.out, HV.out]
 clear x0 x1 x2 x3 x4 t0 t1 t2 b0 y0 y3 y4 y5 y6 y7 y8
 obtain ⟨⟨m0, m1⟩, ⟨v0, v1', v2', fs, zs⟩, ⟨w0, w1', w2', fa, za⟩, x0, x1, x2, x3, x4, bs, ba, zz⟩ := HBX.out
 have zv1 : w.heap.size < V.heap.size := by omega
 have zv2 : g1 < V.heap.size := by omega
 have zv3 : gr < V.heap.size := by omega
 have ng00 : ¬ gr = w.heap.size := by omega
 have nh00 : ¬ w.heap.size = gr := by omega
 have ng01 : ¬ gr = w.heap.size + 1 := by omega
 have nh01 : ¬ w.heap.size + 1 = gr := by omega
 have ng02 : ¬ gr = w.heap.size + 1 + 1 := by omega
 have nh02 : ¬ w.heap.size + 1 + 1 = gr := by omega
 have ng03 : ¬ gr = w.heap.size + 1 + 1 + 1 := by omega
 have nh03 : ¬ w.heap.size + 1 + 1 + 1 = gr := by omega
 have ng10 : ¬ g1 = w.heap.size := by omega
 have nh10 : ¬ w.heap.size = g1 := by omega
 have ng11 : ¬ g1 = w.heap.size + 1 := by omega
 have nh11 : ¬ w.heap.size + 1 = g1 := by omega
 have ng12 : ¬ g1 = w.heap.size + 1 + 1 := by omega
 have nh12 : ¬ w.heap.size + 1 + 1 = g1 := by omega
 have ng13 : ¬ g1 = w.heap.size + 1 + 1 + 1 := by omega
 have nh13 : ¬ w.heap.size + 1 + 1 + 1 = g1 := by omega
 have ff : ∀ j, V.frozen? ⟨gr, j, none⟩ = false := fun j => (HKV.out.frozen (p := ⟨gr, j, none⟩) zr).trans (FR.out j)
 go_wp2_with fail
 have O9 := hidW (HO.out.keep (w' := V) (fun b _ hb => HKV.out.block b hb))
 have T9 := HT
 have K9 : Hid (∀ b, w.heap.size ≤ b → b < V.heap.size → V.heap[b]? = V.heap[b]?) := fun b _ _ => rfl
 have B9 : Hid (Below base w V) := HKV.out.mono hb
 have Z9 : V.heap.size ≤ V.heap.size := Nat.le_refl _
 have F9 : Hid (∀ b, b < w.heap.size → ¬ HitS (.slice (some ⟨g1, 0, none⟩) d.ths.length c1) (.slice s2 d.chs.length c2) (.slice s3 d.tr.length c3) L1 L2 b → V.heap[b]? = w.heap[b]?) := fun b h1 _ => HKV.out.block b h1
 have GO := hidW (l4Go_any p1 (some ⟨gb, ob, none⟩) a1 a2 lo hi base p _ _ _ _ _ _ k ⟨q, rg, 0⟩ n _ (ProgR.keep' HP.out (fun b h1 h2 => B9.out.block b (by omega))) hB O9.out (by have := Z9; have := HKV.out.size; omega) T9.out rfl kb hpb (by rw [HBN.out]; exact hbl))
 refine Calls.mono GO.out ?_
 rintro e w2 ⟨L1', rfl, hO2, hb2, hf2⟩
 have O2 := hidW hO2
 have B2 := hidW (B9.out.trans hb2)
 have F2 : Hid (∀ b, b < w.heap.size → ¬ HitS _ _ _ L1 L2 b → w2.heap[b]? = w.heap[b]?) := fun b h1 h2 => (hf2 b (by have := Z9; have := HKV.out.size; omega) (fun e => h2 (.inl (.inl e)))).trans (F9.out b h1 h2)
 have HB2 := hidW (HBX.out.keep (V' := w2) (fun b h1 h2 => (hf2 b (by have := Z9; omega) (fun e => by have e' : g1 = b := Option.some.inj e; omega)).trans (K9.out b h1 h2)) (by have := hb2.size; have := Z9; omega))
 have z2 := hb2.size
 clear m0 m1 v0 v1' v2' fs zs w0 w1' w2' fa za x0 x1 x2 x3 x4 bs ba zz zv1 zv2 zv3 ff GO hO2 hb2 hf2
 obtain ⟨⟨m0, m1⟩, ⟨v0, v1', v2', fs, zs⟩, ⟨w0, w1', w2', fa, za⟩, x0, x1, x2, x3, x4, bs, ba, zz⟩ := HB2.out
 go_wp2
 refine bodyPost_ret (v := .tuple #[.agg #[.slice (some ⟨g1, 0, none⟩) d.ths.length c1, .slice s2 d.chs.length c2, .slice s3 d.tr.length c3], .int .i64 0]) (by simp [results, Tryz.results23, go_sem, w0, w1', w2', fa]) rfl ?_
 refine ⟨_, _, _, _, _, _, _, _, _, rfl, fun _ => ⟨L1', L2, ?_⟩, ?_, fun b h1 h2 => set3_off (by omega) (F2.out b h1 h2)⟩
 ·have q2 := O2.out
  rw [HBN.out] at q2
  have E : (⟨d.ths.set k (moveT ⟨q, rg, 0⟩ nb rg n), d.chs, d.tr⟩ : SD) = doneS d k (stepO nb ⟨q, rg, 0⟩ ⟨11, r', a', b', n⟩ d.chs d.tr k) := by simp [doneS, stepO]
  rw [E] at q2
  exact ((q2.offB ba).offB ba.set).offB ba.set.set
 ·refine Below.setCell (Below.setCell (Below.setCell B2.out ?_ _) ?_ _) ?_ _ <;> (show base ≤ w.heap.size + 1 + 1; omega)
set_option maxHeartbeats 4000000 in
theorem sq12 (p1 p2 : Option Addr) (a1 a2 lo hi base : Nat) (p : PD) (v1 v2 v3 : Value) (L1 L2 : List (Rec × Value)) (d : SD) (k : Nat) (t : TD) (w : World) (hP : ProgR w lo hi p1 p2 p) (hB : hi ≤ base) (hO : OwnS w base v1 v2 v3 L1 L2 d) (hb : base ≤ w.heap.size) (hR : Right p d) (ht : d.ths[k]? = some t) (hst : t.st = 0) (ho : (insOf p d k).o = 12) :
  Calls Tryz.prog 23 #[.agg #[.slice p1 p.caps.length a1, .slice p2 p.bods.length a2], .agg #[v1, v2, v3], .int .i64 k] w fun e w' => StepY w base (HitS v1 v2 v3 L1 L2) (outOf p d k) d k e w' := by
 obtain ⟨q, g1, c1, gr, cr, gb, ob, gi, oi, cb, nb, s2, s3, c2, c3, y, O⟩ := hO.open hP hB hb hR ht
 rw [O.ou]
 have hcl := hR.pc
 have hbl := hR.bd k O.kb
 have hpb := hR.pb
 have hnl := hR.nl
 have HCH := hidW hR.cl
 have HTL := hidW hR.tl
 have HR := hidW hR
 obtain ⟨x, hx⟩ : ∃ x, insOf p d k = x := ⟨_, rfl⟩
 rw [hx] at O ho ⊢
 clear hx
 obtain ⟨e1, e2, e3, ep, hy, y1, y2, hq, nq, kl, kb, hbn, t0, t1, t2, b0, ⟨x0, x1, x2, x3, x4⟩, rr, f1, fr, z1, zr, zb, zi, i1, ir, ib, ii, n1, hok, -, h4⟩ := O
 subst e1 e2 e3 ep
 rw [hbn] at hbl
 have HBN := hidW hbn
 unfold insX Plain.insB at hok
 rw [decide_eq_true_eq] at hok
 obtain ⟨o, r, a, b, n⟩ := x
 simp only at ho hok x0 x1 x2 x3 x4
 subst ho
 obtain ⟨r', hr'⟩ : ∃ r' : Nat, r = r' := ⟨r.toNat, by omega⟩
 subst hr'
 have br0 : (0 : Int) ≤ (r' : Int) := by omega
 have br1 : (r' : Int) < 4 := by omega
 have br2 : r' < 4 := by omega
 obtain ⟨a', ha'⟩ : ∃ a' : Nat, a = a' := ⟨a.toNat, by omega⟩
 subst ha'
 have ba0 : (0 : Int) ≤ (a' : Int) := by omega
 have ba1 : (a' : Int) < 4 := by omega
 have ba2 : a' < 4 := by omega
 obtain ⟨b', hb'⟩ : ∃ b' : Nat, b = b' := ⟨b.toNat, by omega⟩
 subst hb'
 have bb0 : (0 : Int) ≤ (b' : Int) := by omega
 have bb1 : (b' : Int) < 4 := by omega
 have bb2 : b' < 4 := by omega
 obtain ⟨pc, rg, st⟩ := t
 simp only at hq hst h4 rr t0 t2
 subst hq hst
 have i0 : (0 : Int) ≤ (k : Int) := by omega
 have j1 : (k : Int) < (d.ths.length : Int) := by omega
 have j2 : (k : Int) < (p.bods.length : Int) := by omega
 have j3 : (0 : Int) ≤ (q : Int) := by omega
 have j4 : (q : Int) < (nb : Int) := by omega
 have w1 : IntKind.i64.wrap ((q : Int) + 1) = (q : Int) + 1 := Go.IntWalk.i64_in _ (by omega)
 obtain ⟨W, hW⟩ : ∃ W, (((w.alloc (.cells #[.slice p1 p.caps.length a1, .slice (some ⟨gb, ob, none⟩) p.bods.length a2] 42)).alloc (.cells #[.slice (some ⟨g1, 0, none⟩) d.ths.length c1, .slice s2 d.chs.length c2, .slice s3 d.tr.length c3] 37)).alloc (.cells #[.slice none 0 0, .slice none 0 0, .slice none 0 0] 37)) = W := ⟨_, rfl⟩
 obtain ⟨V, hV⟩ : ∃ V, W.alloc (.cells #[.int .i64 12, .int .i64 r', .int .i64 a', .int .i64 b', .int .i64 n] 91) = V := ⟨_, rfl⟩
 obtain ⟨BX, KV⟩ := bq_new hW hV
 have HW := hidW hW
 have HV := hidW hV
 have HBX := hidW BX
 have HKV := hidW KV
 have HO := hidW hO
 have HP := hidW hP
 have HT := hidW ht
 have HY := hidW hy
 have HY2 := hidW y2
 have H4 := hidW h4
 have RR := hidW rr
 have F1 := hidW f1
 have FR := hidW fr
 have HOK := hidW hok
 have y0 : g1 < w.heap.size + 1 := by omega
 have y3 : g1 < w.heap.size + 1 + 1 := by omega
 have y4 : g1 < w.heap.size + 1 + 1 + 1 := by omega
 have y5 : gb < w.heap.size + 1 := by omega
 have y6 : gb < w.heap.size + 1 + 1 := by omega
 have y7 : gi < w.heap.size + 1 := by omega
 have y8 : gi < w.heap.size + 1 + 1 := by omega
 clear hW hV BX KV hO hP ht hy y1 y2 h4 rr f1 fr hok hR hbn
 go_enter Tryz.func23, Tryz.ntmps23
 go_upto_region 14 with fail
 rw [HW.out, HV.out]
 clear x0 x1 x2 x3 x4 t0 t1 t2 b0 y0 y3 y4 y5 y6 y7 y8
 obtain ⟨⟨m0, m1⟩, ⟨v0, v1', v2', fs, zs⟩, ⟨w0, w1', w2', fa, za⟩, x0, x1, x2, x3, x4, bs, ba, zz⟩ := HBX.out
 have zv1 : w.heap.size < V.heap.size := by omega
 have zv2 : g1 < V.heap.size := by omega
 have zv3 : gr < V.heap.size := by omega
 have ng00 : ¬ gr = w.heap.size := by omega
 have nh00 : ¬ w.heap.size = gr := by omega
 have ng01 : ¬ gr = w.heap.size + 1 := by omega
 have nh01 : ¬ w.heap.size + 1 = gr := by omega
 have ng02 : ¬ gr = w.heap.size + 1 + 1 := by omega
 have nh02 : ¬ w.heap.size + 1 + 1 = gr := by omega
 have ng03 : ¬ gr = w.heap.size + 1 + 1 + 1 := by omega
 have nh03 : ¬ w.heap.size + 1 + 1 + 1 = gr := by omega
 have ng10 : ¬ g1 = w.heap.size := by omega
 have nh10 : ¬ w.heap.size = g1 := by omega
 have ng11 : ¬ g1 = w.heap.size + 1 := by omega
 have nh11 : ¬ w.heap.size + 1 = g1 := by omega
 have ng12 : ¬ g1 = w.heap.size + 1 + 1 := by omega
 have nh12 : ¬ w.heap.size + 1 + 1 = g1 := by omega
 have ng13 : ¬ g1 = w.heap.size + 1 + 1 + 1 := by omega
 have nh13 : ¬ w.heap.size + 1 + 1 + 1 = g1 := by omega
 obtain ⟨va, hva⟩ : ∃ v, rg.getD a' 0 = v := ⟨_, rfl⟩
 have HVa := hidW hva
 clear hva
 have la : V.cell? ⟨gr, a', none⟩ = some (.int .i64 va) := by rw [← HVa.out]; exact (HKV.out.cell (p := ⟨gr, a', none⟩) zr).trans (RR.out a' (by omega))
 have ff : ∀ j, V.frozen? ⟨gr, j, none⟩ = false := fun j => (HKV.out.frozen (p := ⟨gr, j, none⟩) zr).trans (FR.out j)
 by_cases hva : va = 0
 ·have hee : (va == 0) = true := by simp [hva]
  have HVZ := hidW hva
  clear hva
  go_wp2_with fail
  have O9 := hidW (HO.out.keep (w' := V) (fun b _ hb => HKV.out.block b hb))
  have T9 := HT
  have K9 : Hid (∀ b, w.heap.size ≤ b → b < V.heap.size → V.heap[b]? = V.heap[b]?) := fun b _ _ => rfl
  have B9 : Hid (Below base w V) := HKV.out.mono hb
  have Z9 : V.heap.size ≤ V.heap.size := Nat.le_refl _
  have F9 : Hid (∀ b, b < w.heap.size → ¬ HitS (.slice (some ⟨g1, 0, none⟩) d.ths.length c1) (.slice s2 d.chs.length c2) (.slice s3 d.tr.length c3) L1 L2 b → V.heap[b]? = w.heap[b]?) := fun b h1 _ => HKV.out.block b h1
  have GO := hidW (l4Go_any p1 (some ⟨gb, ob, none⟩) a1 a2 lo hi base p _ _ _ _ _ _ k ⟨q, rg, 0⟩ n _ (ProgR.keep' HP.out (fun b h1 h2 => B9.out.block b (by omega))) hB O9.out (by have := Z9; have := HKV.out.size; omega) T9.out rfl kb hpb (by rw [HBN.out]; exact hbl))
  refine Calls.mono GO.out ?_
  rintro e w2 ⟨L1', rfl, hO2, hb2, hf2⟩
  have O2 := hidW hO2
  have B2 := hidW (B9.out.trans hb2)
  have F2 : Hid (∀ b, b < w.heap.size → ¬ HitS _ _ _ L1 L2 b → w2.heap[b]? = w.heap[b]?) := fun b h1 h2 => (hf2 b (by have := Z9; have := HKV.out.size; omega) (fun e => h2 (.inl (.inl e)))).trans (F9.out b h1 h2)
  have HB2 := hidW (HBX.out.keep (V' := w2) (fun b h1 h2 => (hf2 b (by have := Z9; omega) (fun e => by have e' : g1 = b := Option.some.inj e; omega)).trans (K9.out b h1 h2)) (by have := hb2.size; have := Z9; omega))
  have z2 := hb2.size
  clear m0 m1 v0 v1' v2' fs zs w0 w1' w2' fa za x0 x1 x2 x3 x4 bs ba zz zv1 zv2 zv3 ff GO hO2 hb2 hf2
  obtain ⟨⟨m0, m1⟩, ⟨v0, v1', v2', fs, zs⟩, ⟨w0, w1', w2', fa, za⟩, x0, x1, x2, x3, x4, bs, ba, zz⟩ := HB2.out
  go_wp2
  refine bodyPost_ret (v := .tuple #[.agg #[.slice (some ⟨g1, 0, none⟩) d.ths.length c1, .slice s2 d.chs.length c2, .slice s3 d.tr.length c3], .int .i64 0]) (by simp [results, Tryz.results23, go_sem, w0, w1', w2', fa]) rfl ?_
  refine ⟨_, _, _, _, _, _, _, _, _, rfl, fun _ => ⟨L1', L2, ?_⟩, ?_, fun b h1 h2 => set3_off (by omega) (F2.out b h1 h2)⟩
  ·have q2 := O2.out
   rw [HBN.out] at q2
   have E : (⟨d.ths.set k (moveT ⟨q, rg, 0⟩ nb rg n), d.chs, d.tr⟩ : SD) = doneS d k (stepO nb ⟨q, rg, 0⟩ ⟨12, r', a', b', n⟩ d.chs d.tr k) := by have h9 := HVa.out; have h8 := HVZ.out; rw [List.getD_eq_getElem?_getD] at h9; simp [doneS, stepO, regN, h9, h8]
   rw [E] at q2
   exact ((q2.offB ba).offB ba.set).offB ba.set.set
  ·refine Below.setCell (Below.setCell (Below.setCell B2.out ?_ _) ?_ _) ?_ _ <;> (show base ≤ w.heap.size + 1 + 1; omega)
 ·have hee : (va == 0) = false := by simp [hva]
  have HVZ := hidW hva
  clear hva
  go_wp2_with fail
  have O9 := hidW (HO.out.keep (w' := V) (fun b _ hb => HKV.out.block b hb))
  have T9 := HT
  have K9 : Hid (∀ b, w.heap.size ≤ b → b < V.heap.size → V.heap[b]? = V.heap[b]?) := fun b _ _ => rfl
  have B9 : Hid (Below base w V) := HKV.out.mono hb
  have Z9 : V.heap.size ≤ V.heap.size := Nat.le_refl _
  have F9 : Hid (∀ b, b < w.heap.size → ¬ HitS (.slice (some ⟨g1, 0, none⟩) d.ths.length c1) (.slice s2 d.chs.length c2) (.slice s3 d.tr.length c3) L1 L2 b → V.heap[b]? = w.heap[b]?) := fun b h1 _ => HKV.out.block b h1
  have GO := hidW (l4Go_any p1 (some ⟨gb, ob, none⟩) a1 a2 lo hi base p _ _ _ _ _ _ k ⟨q, rg, 0⟩ (q + 1) _ (ProgR.keep' HP.out (fun b h1 h2 => B9.out.block b (by omega))) hB O9.out (by have := Z9; have := HKV.out.size; omega) T9.out rfl kb hpb (by rw [HBN.out]; exact hbl))
  refine Calls.mono GO.out ?_
  rintro e w2 ⟨L1', rfl, hO2, hb2, hf2⟩
  have O2 := hidW hO2
  have B2 := hidW (B9.out.trans hb2)
  have F2 : Hid (∀ b, b < w.heap.size → ¬ HitS _ _ _ L1 L2 b → w2.heap[b]? = w.heap[b]?) := fun b h1 h2 => (hf2 b (by have := Z9; have := HKV.out.size; omega) (fun e => h2 (.inl (.inl e)))).trans (F9.out b h1 h2)
  have HB2 := hidW (HBX.out.keep (V' := w2) (fun b h1 h2 => (hf2 b (by have := Z9; omega) (fun e => by have e' : g1 = b := Option.some.inj e; omega)).trans (K9.out b h1 h2)) (by have := hb2.size; have := Z9; omega))
  have z2 := hb2.size
  clear m0 m1 v0 v1' v2' fs zs w0 w1' w2' fa za x0 x1 x2 x3 x4 bs ba zz zv1 zv2 zv3 ff GO hO2 hb2 hf2
  obtain ⟨⟨m0, m1⟩, ⟨v0, v1', v2', fs, zs⟩, ⟨w0, w1', w2', fa, za⟩, x0, x1, x2, x3, x4, bs, ba, zz⟩ := HB2.out
  go_wp2
  refine bodyPost_ret (v := .tuple #[.agg #[.slice (some ⟨g1, 0, none⟩) d.ths.length c1, .slice s2 d.chs.length c2, .slice s3 d.tr.length c3], .int .i64 0]) (by simp [results, Tryz.results23, go_sem, w0, w1', w2', fa]) rfl ?_
  refine ⟨_, _, _, _, _, _, _, _, _, rfl, fun _ => ⟨L1', L2, ?_⟩, ?_, fun b h1 h2 => set3_off (by omega) (F2.out b h1 h2)⟩
  ·have q2 := O2.out
   rw [HBN.out] at q2
   have E : (⟨d.ths.set k (moveT ⟨q, rg, 0⟩ nb rg (q + 1)), d.chs, d.tr⟩ : SD) = doneS d k (stepO nb ⟨q, rg, 0⟩ ⟨12, r', a', b', n⟩ d.chs d.tr k) := by have h9 := HVa.out; have h8 := HVZ.out; rw [List.getD_eq_getElem?_getD] at h9; simp [doneS, stepO, regN, h9, h8]
   rw [E] at q2
   exact ((q2.offB ba).offB ba.set).offB ba.set.set
  ·refine Below.setCell (Below.setCell (Below.setCell B2.out ?_ _) ?_ _) ?_ _ <;> (show base ≤ w.heap.size + 1 + 1; omega)
set_option maxHeartbeats 4000000 in
theorem sq13 (p1 p2 : Option Addr) (a1 a2 lo hi base : Nat) (p : PD) (v1 v2 v3 : Value) (L1 L2 : List (Rec × Value)) (d : SD) (k : Nat) (t : TD) (w : World) (hP : ProgR w lo hi p1 p2 p) (hB : hi ≤ base) (hO : OwnS w base v1 v2 v3 L1 L2 d) (hb : base ≤ w.heap.size) (hR : Right p d) (ht : d.ths[k]? = some t) (hst : t.st = 0) (ho : (insOf p d k).o = 13) :
  Calls Tryz.prog 23 #[.agg #[.slice p1 p.caps.length a1, .slice p2 p.bods.length a2], .agg #[v1, v2, v3], .int .i64 k] w fun e w' => StepY w base (HitS v1 v2 v3 L1 L2) (outOf p d k) d k e w' := by
 obtain ⟨q, g1, c1, gr, cr, gb, ob, gi, oi, cb, nb, s2, s3, c2, c3, y, O⟩ := hO.open hP hB hb hR ht
 rw [O.ou]
 have hcl := hR.pc
 have hbl := hR.bd k O.kb
 have hpb := hR.pb
 have hnl := hR.nl
 have HCH := hidW hR.cl
 have HTL := hidW hR.tl
 have HR := hidW hR
 obtain ⟨x, hx⟩ : ∃ x, insOf p d k = x := ⟨_, rfl⟩
 rw [hx] at O ho ⊢
 clear hx
 obtain ⟨e1, e2, e3, ep, hy, y1, y2, hq, nq, kl, kb, hbn, t0, t1, t2, b0, ⟨x0, x1, x2, x3, x4⟩, rr, f1, fr, z1, zr, zb, zi, i1, ir, ib, ii, n1, hok, -, h4⟩ := O
 subst e1 e2 e3 ep
 rw [hbn] at hbl
 have HBN := hidW hbn
 unfold insX Plain.insB at hok
 rw [decide_eq_true_eq] at hok
 obtain ⟨o, r, a, b, n⟩ := x
 simp only at ho hok x0 x1 x2 x3 x4
 subst ho
 obtain ⟨r', hr'⟩ : ∃ r' : Nat, r = r' := ⟨r.toNat, by omega⟩
 subst hr'
 have br0 : (0 : Int) ≤ (r' : Int) := by omega
 have br1 : (r' : Int) < 4 := by omega
 have br2 : r' < 4 := by omega
 obtain ⟨a', ha'⟩ : ∃ a' : Nat, a = a' := ⟨a.toNat, by omega⟩
 subst ha'
 have ba0 : (0 : Int) ≤ (a' : Int) := by omega
 have ba1 : (a' : Int) < 4 := by omega
 have ba2 : a' < 4 := by omega
 obtain ⟨b', hb'⟩ : ∃ b' : Nat, b = b' := ⟨b.toNat, by omega⟩
 subst hb'
 have bb0 : (0 : Int) ≤ (b' : Int) := by omega
 have bb1 : (b' : Int) < 4 := by omega
 have bb2 : b' < 4 := by omega
 obtain ⟨pc, rg, st⟩ := t
 simp only at hq hst h4 rr t0 t2
 subst hq hst
 have i0 : (0 : Int) ≤ (k : Int) := by omega
 have j1 : (k : Int) < (d.ths.length : Int) := by omega
 have j2 : (k : Int) < (p.bods.length : Int) := by omega
 have j3 : (0 : Int) ≤ (q : Int) := by omega
 have j4 : (q : Int) < (nb : Int) := by omega
 have w1 : IntKind.i64.wrap ((q : Int) + 1) = (q : Int) + 1 := Go.IntWalk.i64_in _ (by omega)
 obtain ⟨W, hW⟩ : ∃ W, (((w.alloc (.cells #[.slice p1 p.caps.length a1, .slice (some ⟨gb, ob, none⟩) p.bods.length a2] 42)).alloc (.cells #[.slice (some ⟨g1, 0, none⟩) d.ths.length c1, .slice s2 d.chs.length c2, .slice s3 d.tr.length c3] 37)).alloc (.cells #[.slice none 0 0, .slice none 0 0, .slice none 0 0] 37)) = W := ⟨_, rfl⟩
 obtain ⟨V, hV⟩ : ∃ V, W.alloc (.cells #[.int .i64 13, .int .i64 r', .int .i64 a', .int .i64 b', .int .i64 n] 91) = V := ⟨_, rfl⟩
 obtain ⟨BX, KV⟩ := bq_new hW hV
 have HW := hidW hW
 have HV := hidW hV
 have HBX := hidW BX
 have HKV := hidW KV
 have HO := hidW hO
 have HP := hidW hP
 have HT := hidW ht
 have HY := hidW hy
 have HY2 := hidW y2
 have H4 := hidW h4
 have RR := hidW rr
 have F1 := hidW f1
 have FR := hidW fr
 have HOK := hidW hok
 have y0 : g1 < w.heap.size + 1 := by omega
 have y3 : g1 < w.heap.size + 1 + 1 := by omega
 have y4 : g1 < w.heap.size + 1 + 1 + 1 := by omega
 have y5 : gb < w.heap.size + 1 := by omega
 have y6 : gb < w.heap.size + 1 + 1 := by omega
 have y7 : gi < w.heap.size + 1 := by omega
 have y8 : gi < w.heap.size + 1 + 1 := by omega
 clear hW hV BX KV hO hP ht hy y1 y2 h4 rr f1 fr hok hR hbn
 go_enter Tryz.func23, Tryz.ntmps23
 go_upto_region 14 with fail
 rw [HW.out, HV.out]
 clear x0 x1 x2 x3 x4 t0 t1 t2 b0 y0 y3 y4 y5 y6 y7 y8
 obtain ⟨⟨m0, m1⟩, ⟨v0, v1', v2', fs, zs⟩, ⟨w0, w1', w2', fa, za⟩, x0, x1, x2, x3, x4, bs, ba, zz⟩ := HBX.out
 have zv1 : w.heap.size < V.heap.size := by omega
 have zv2 : g1 < V.heap.size := by omega
 have zv3 : gr < V.heap.size := by omega
 have ng00 : ¬ gr = w.heap.size := by omega
 have nh00 : ¬ w.heap.size = gr := by omega
 have ng01 : ¬ gr = w.heap.size + 1 := by omega
 have nh01 : ¬ w.heap.size + 1 = gr := by omega
 have ng02 : ¬ gr = w.heap.size + 1 + 1 := by omega
 have nh02 : ¬ w.heap.size + 1 + 1 = gr := by omega
 have ng03 : ¬ gr = w.heap.size + 1 + 1 + 1 := by omega
 have nh03 : ¬ w.heap.size + 1 + 1 + 1 = gr := by omega
 have ng10 : ¬ g1 = w.heap.size := by omega
 have nh10 : ¬ w.heap.size = g1 := by omega
 have ng11 : ¬ g1 = w.heap.size + 1 := by omega
 have nh11 : ¬ w.heap.size + 1 = g1 := by omega
 have ng12 : ¬ g1 = w.heap.size + 1 + 1 := by omega
 have nh12 : ¬ w.heap.size + 1 + 1 = g1 := by omega
 have ng13 : ¬ g1 = w.heap.size + 1 + 1 + 1 := by omega
 have nh13 : ¬ w.heap.size + 1 + 1 + 1 = g1 := by omega
 have ff : ∀ j, V.frozen? ⟨gr, j, none⟩ = false := fun j => (HKV.out.frozen (p := ⟨gr, j, none⟩) zr).trans (FR.out j)
 obtain ⟨g9, c9, y9, e9, -, -, -, -, l0, -, l2, f9⟩ := (HO.out.keep (w' := V) (fun b _ hb => HKV.out.block b hb)).thread HT.out
 injection e9 with h1 h2 h3
 injection h1 with h1
 injection h1 with h1
 subst h1 h3
 obtain ⟨L9, o9, -⟩ := ((HO.out.keep (w' := V) (fun b _ hb => HKV.out.block b hb)).setT HT.out 1).2
 have O9 := hidW o9
 clear h2 o9 l0
 go_wp2
 refine bodyPost_ret (v := .tuple #[.agg #[.slice (some ⟨g1, 0, none⟩) d.ths.length c1, .slice s2 d.chs.length c2, .slice s3 d.tr.length c3], .int .i64 0]) (by simp [results, Tryz.results23, go_sem, w0, w1', w2', fa]) rfl ?_
 refine ⟨_, _, _, _, _, _, _, _, _, rfl, fun _ => ⟨L9, L2, ?_⟩, ?_, fun b h1 h2 => set3_off (by omega) ((Below.heap_setCell V ⟨g1, k * 3 + 2, none⟩ _ b (by show b ≠ g1; intro e; subst e; exact h2 (.inl (.inl rfl)))).trans (HKV.out.block b h1))⟩
 ·have E : (⟨d.ths.set k ⟨q, rg, 1⟩, d.chs, d.tr⟩ : SD) = doneS d k (stepO nb ⟨q, rg, 0⟩ ⟨13, r', a', b', n⟩ d.chs d.tr k) := by simp [doneS, stepO, haltT]
  have q2 := O9.out
  rw [E] at q2
  exact ((q2.offB ba.set).offB ba.set.set).offB ba.set.set.set
 ·refine Below.setCell (Below.setCell (Below.setCell (Below.setCell (HKV.out.mono hb) ?_ _) ?_ _) ?_ _) ?_ _
  ·exact i1
  all_goals (show base ≤ w.heap.size + 1 + 1; omega)
end
section
set_option linter.unusedSimpArgs false
set_option linter.unusedVariables false
set_option maxRecDepth 100000
open Go.RowKit
set_option maxHeartbeats 4000000 in
theorem sq10 (p1 p2 : Option Addr) (a1 a2 lo hi base : Nat) (p : PD) (v1 v2 v3 : Value) (L1 L2 : List (Rec × Value)) (d : SD) (k : Nat) (t : TD) (w : World) (hP : ProgR w lo hi p1 p2 p) (hB : hi ≤ base) (hO : OwnS w base v1 v2 v3 L1 L2 d) (hb : base ≤ w.heap.size) (hR : Right p d) (ht : d.ths[k]? = some t) (hst : t.st = 0) (ho : (insOf p d k).o = 10) :
  Calls Tryz.prog 23 #[.agg #[.slice p1 p.caps.length a1, .slice p2 p.bods.length a2], .agg #[v1, v2, v3], .int .i64 k] w fun e w' => StepY w base (HitS v1 v2 v3 L1 L2) (outOf p d k) d k e w' := by
 obtain ⟨q, g1, c1, gr, cr, gb, ob, gi, oi, cb, nb, s2, s3, c2, c3, y, O⟩ := hO.open hP hB hb hR ht
 rw [O.ou]
 have hcl := hR.pc
 have hbl := hR.bd k O.kb
 have hpb := hR.pb
 have hnl := hR.nl
 have HCH := hidW hR.cl
 have HTL := hidW hR.tl
 have HR := hidW hR
 obtain ⟨x, hx⟩ : ∃ x, insOf p d k = x := ⟨_, rfl⟩
 rw [hx] at O ho ⊢
 clear hx
 obtain ⟨e1, e2, e3, ep, hy, y1, y2, hq, nq, kl, kb, hbn, t0, t1, t2, b0, ⟨x0, x1, x2, x3, x4⟩, rr, f1, fr, z1, zr, zb, zi, i1, ir, ib, ii, n1, hok, -, h4⟩ := O
 subst e1 e2 e3 ep
 rw [hbn] at hbl
 have HBN := hidW hbn
 unfold insX Plain.insB at hok
 rw [decide_eq_true_eq] at hok
 obtain ⟨o, r, a, b, n⟩ := x
 simp only at ho hok x0 x1 x2 x3 x4
 subst ho
 obtain ⟨r', hr'⟩ : ∃ r' : Nat, r = r' := ⟨r.toNat, by omega⟩
 subst hr'
 have br0 : (0 : Int) ≤ (r' : Int) := by omega
 have br1 : (r' : Int) < 4 := by omega
 have br2 : r' < 4 := by omega
 obtain ⟨a', ha'⟩ : ∃ a' : Nat, a = a' := ⟨a.toNat, by omega⟩
 subst ha'
 have ba0 : (0 : Int) ≤ (a' : Int) := by omega
 have ba1 : (a' : Int) < 4 := by omega
 have ba2 : a' < 4 := by omega
 obtain ⟨b', hb'⟩ : ∃ b' : Nat, b = b' := ⟨b.toNat, by omega⟩
 subst hb'
 have bb0 : (0 : Int) ≤ (b' : Int) := by omega
 have bb1 : (b' : Int) < 4 := by omega
 have bb2 : b' < 4 := by omega
 obtain ⟨pc, rg, st⟩ := t
 simp only at hq hst h4 rr t0 t2
 subst hq hst
 have i0 : (0 : Int) ≤ (k : Int) := by omega
 have j1 : (k : Int) < (d.ths.length : Int) := by omega
 have j2 : (k : Int) < (p.bods.length : Int) := by omega
 have j3 : (0 : Int) ≤ (q : Int) := by omega
 have j4 : (q : Int) < (nb : Int) := by omega
 have w1 : IntKind.i64.wrap ((q : Int) + 1) = (q : Int) + 1 := Go.IntWalk.i64_in _ (by omega)
 obtain ⟨W, hW⟩ : ∃ W, (((w.alloc (.cells #[.slice p1 p.caps.length a1, .slice (some ⟨gb, ob, none⟩) p.bods.length a2] 42)).alloc (.cells #[.slice (some ⟨g1, 0, none⟩) d.ths.length c1, .slice s2 d.chs.length c2, .slice s3 d.tr.length c3] 37)).alloc (.cells #[.slice none 0 0, .slice none 0 0, .slice none 0 0] 37)) = W := ⟨_, rfl⟩
 obtain ⟨V, hV⟩ : ∃ V, W.alloc (.cells #[.int .i64 10, .int .i64 r', .int .i64 a', .int .i64 b', .int .i64 n] 91) = V := ⟨_, rfl⟩
 obtain ⟨BX, KV⟩ := bq_new hW hV
 have HW := hidW hW
 have HV := hidW hV
 have HBX := hidW BX
 have HKV := hidW KV
 have HO := hidW hO
 have HP := hidW hP
 have HT := hidW ht
 have HY := hidW hy
 have HY2 := hidW y2
 have H4 := hidW h4
 have RR := hidW rr
 have F1 := hidW f1
 have FR := hidW fr
 have HOK := hidW hok
 have y0 : g1 < w.heap.size + 1 := by omega
 have y3 : g1 < w.heap.size + 1 + 1 := by omega
 have y4 : g1 < w.heap.size + 1 + 1 + 1 := by omega
 have y5 : gb < w.heap.size + 1 := by omega
 have y6 : gb < w.heap.size + 1 + 1 := by omega
 have y7 : gi < w.heap.size + 1 := by omega
 have y8 : gi < w.heap.size + 1 + 1 := by omega
 clear hW hV BX KV hO hP ht hy y1 y2 h4 rr f1 fr hok hR hbn
 go_enter Tryz.func23, Tryz.ntmps23
 go_upto_region 14 with fail
 rw [HW.out, HV.out]
 clear x0 x1 x2 x3 x4 t0 t1 t2 b0 y0 y3 y4 y5 y6 y7 y8
 obtain ⟨⟨m0, m1⟩, ⟨v0, v1', v2', fs, zs⟩, ⟨w0, w1', w2', fa, za⟩, x0, x1, x2, x3, x4, bs, ba, zz⟩ := HBX.out
 have zv1 : w.heap.size < V.heap.size := by omega
 have zv2 : g1 < V.heap.size := by omega
 have zv3 : gr < V.heap.size := by omega
 have ng00 : ¬ gr = w.heap.size := by omega
 have nh00 : ¬ w.heap.size = gr := by omega
 have ng01 : ¬ gr = w.heap.size + 1 := by omega
 have nh01 : ¬ w.heap.size + 1 = gr := by omega
 have ng02 : ¬ gr = w.heap.size + 1 + 1 := by omega
 have nh02 : ¬ w.heap.size + 1 + 1 = gr := by omega
 have ng03 : ¬ gr = w.heap.size + 1 + 1 + 1 := by omega
 have nh03 : ¬ w.heap.size + 1 + 1 + 1 = gr := by omega
 have ng10 : ¬ g1 = w.heap.size := by omega
 have nh10 : ¬ w.heap.size = g1 := by omega
 have ng11 : ¬ g1 = w.heap.size + 1 := by omega
 have nh11 : ¬ w.heap.size + 1 = g1 := by omega
 have ng12 : ¬ g1 = w.heap.size + 1 + 1 := by omega
 have nh12 : ¬ w.heap.size + 1 + 1 = g1 := by omega
 have ng13 : ¬ g1 = w.heap.size + 1 + 1 + 1 := by omega
 have nh13 : ¬ w.heap.size + 1 + 1 + 1 = g1 := by omega
 obtain ⟨va, hva⟩ : ∃ v, rg.getD a' 0 = v := ⟨_, rfl⟩
 have HVa := hidW hva
 clear hva
 have la : V.cell? ⟨gr, a', none⟩ = some (.int .i64 va) := by rw [← HVa.out]; exact (HKV.out.cell (p := ⟨gr, a', none⟩) zr).trans (RR.out a' (by omega))
 have ff : ∀ j, V.frozen? ⟨gr, j, none⟩ = false := fun j => (HKV.out.frozen (p := ⟨gr, j, none⟩) zr).trans (FR.out j)
 by_cases hf : d.tr.length = 4000
 ·have hfi : ((d.tr.length : Int) == 4000) = true := by simp; omega
  have HF := hidW hf
  clear hf
  go_wp2
  refine bodyPost_ret (v := .tuple #[.agg #[.slice (some ⟨g1, 0, none⟩) d.ths.length c1, .slice s2 d.chs.length c2, .slice s3 d.tr.length c3], .int .i64 3]) (by simp [results, Tryz.results23, go_sem, w0, w1', w2', fa]) rfl ?_
  refine ⟨_, _, _, _, _, _, _, _, _, retI (by simp [stepO, HF.out]), fun h => ?_, ?_, fun b h1 _ => set3_off (by omega) (HKV.out.block b h1)⟩
  ·exfalso
   simp [stepO, HF.out] at h
  ·refine Below.setCell (Below.setCell (Below.setCell (HKV.out.mono hb) ?_ _) ?_ _) ?_ _ <;> (show base ≤ w.heap.size + 1 + 1; omega)
 ·have hfi : ((d.tr.length : Int) == 4000) = false := by simp; omega
  have HF := hidW hf
  clear hf
  go_wp2_with fail
  have HTN := hidW HO.out.n
  have TB : Hid (∀ q, (Value.slice s3 d.tr.length c3).ownBlock = some q → q < w.heap.size) := fun q hq => (World.ownsRow.lt HTN.out _ hq).2
  have TN : ∀ q, w.heap.size ≤ q → (Value.slice s3 d.tr.length c3).ownBlock ≠ some q := fun q hq e => by have := TB.out q e; omega
  have TR : (Value.slice s3 d.tr.length c3).ownBlock ≠ some gr := fun e => ownType' HTN.out (HO.out.t.inn k y HY.out) (by decide) e (by rw [HY2.out]; rfl)
  have T1 : (Value.slice s3 d.tr.length c3).ownBlock ≠ some g1 := fun e => ownType' HTN.out HO.out.t.row (by decide) e rfl
  have hne := extN_ne V (Value.slice s3 d.tr.length c3).ownBlock
  have u1 := ExtN.fit x2 zz (TN _ (by omega))
  have u2 := ExtN.fit v2' zs (TN _ (by omega))
  have ua := ExtN.fit la zv3 TR
  refine regionMix V (CN V (Value.slice s3 d.tr.length c3).ownBlock) 9 11 (by kernel_rfl) (by kernel_rfl) (fun _ _ d _ _ h => by cases d <;> exact h) (CN.drew _ _) ?_
  unfold CN
  dsimp only [List.take, List.drop]
  repeat (go_big_quiet_step (fail))
  refine wpQuiet_nil ?_
  clear hne u1 u2 ua
  have OT := hidW (show OwnD (V.drew.alloc (.cells #[.int .i64 k, .int .i64 va] 88)) base (.slice s3 d.tr.length c3) d.tr from ownKeep' HTN.out (fun q hq => by have := TB.out q hq; exact (Below.heap_alloc V.drew _ _ (by show q < V.heap.size; omega)).trans (HKV.out.block q this)))
  have QY := hidW (HO.out.keep (w' := V.drew.alloc (.cells #[.int .i64 k, .int .i64 va] 88)) (fun b _ hb1 => (Below.heap_alloc V.drew _ _ (by show b < V.heap.size; omega)).trans (HKV.out.block b hb1)))
  unfold wpListC
  go_wp2
  refine And.intro (fun _ hc => CN.below hc ((Below.refl _ _).alloc (Nat.le_refl _) _)) ?_
  unfold wpListC
  refine app_note rfl _ _ rfl (V.drew.alloc (.cells #[.int .i64 k, .int .i64 va] 88)) base (.slice s3 d.tr.length c3) d.tr.length (flatN d.tr) rfl OT.out V.heap.size (.int .i64 k) (.int .i64 va) rfl rfl rfl (by simp [go_sem]) (by simp [go_sem]) (by omega) (by simp; show base ≤ V.heap.size + 1; omega) ?_
  intro g6 c6 w6 ho6 hg6 hn6 hl6
  refine And.intro (fun _ hc => CN.grown hc hg6) ?_
  refine listC_late _ _ _ _ (by decide) ?_
  have kb6 : ∀ b, w.heap.size ≤ b → b < V.heap.size → w6.heap[b]? = V.heap[b]? := fun b h1 h2 => (hg6.block b (by simp; show b < V.heap.size + 1; omega) (fun e => TN b h1 e.symm)).trans (Below.heap_alloc V.drew _ _ h2)
  have zs6 : V.heap.size < w6.heap.size := by have := hg6.size; simp at this; have h9 : V.drew.heap.size = V.heap.size := rfl; omega
  have Q6 := hidW (QY.out.note (⟨k, va⟩ : ND) (v4 := .slice (some ⟨g6, 0, none⟩) (d.tr.length + 1) c6) (by
   show w6.ownsRow base 88 2 _ (d.tr ++ [(⟨k, va⟩ : ND)]).length (flatN (d.tr ++ [(⟨k, va⟩ : ND)]))
   rw [flatN_app, List.length_append]
   exact ho6) (fun b h1 h2 => hg6.block b h1 (fun e => h2 e.symm)))
  have K6 := hidW ((HKV.out.mono hb).trans (Below.grown (((Below.drew (Below.refl _ _)).alloc (by show base ≤ V.heap.size; omega) _)) hg6 (by simp; show base ≤ V.heap.size + 1; omega) (fun q hq => (World.ownsRow.lt HTN.out _ hq).1)))
  have HB6 := hidW (HBX.out.keep kb6 (by omega))
  have c6a : Hid (∀ b, b < w.heap.size → (Value.slice s3 d.tr.length c3).ownBlock ≠ some b → w6.heap[b]? = w.heap[b]?) := fun b h1 h2 => (hg6.block b (by simp; show b < V.heap.size + 1; omega) (fun e => h2 e.symm)).trans ((Below.heap_alloc V.drew _ _ (by show b < V.heap.size; omega)).trans (HKV.out.block b h1))
  clear m0 m1 v0 v1' v2' fs zs w0 w1' w2' fa za x0 x1 x2 x3 x4 bs ba zz zv1 zv2 zv3 ff la ng00 nh00 ng01 nh01 ng02 nh02 ng03 nh03 ng10 nh10 ng11 nh11 ng12 nh12 ng13 nh13 ho6 hg6 hn6 hl6 kb6 OT QY HTN TB TN TR
  obtain ⟨⟨m0, m1⟩, ⟨v0, v1', v2', fs, zs⟩, ⟨w0, w1', w2', fa, za⟩, x0, x1, x2, x3, x4, bs, ba, zz⟩ := HB6.out
  have zv1 : w.heap.size < w6.heap.size := by omega
  go_wp2_with fail
  obtain ⟨U, hU⟩ : ∃ U, w6.setCell ⟨w.heap.size + 1, 2, none⟩ (.slice (some ⟨g6, 0, none⟩) (d.tr.length + 1) c6) = U := ⟨_, rfl⟩
  rw [hU]
  have HU := hidW (show Bq U w.heap.size _ _ _ _ _ _ _ _ _ _ from by rw [← hU]; exact HB6.out.put2 _)
  have O9 := hidW (show OwnS U base _ _ _ L1 L2 ⟨d.ths, d.chs, d.tr ++ [⟨k, va⟩]⟩ from by rw [← hU]; exact Q6.out.offB bs)
  have B9 := hidW (show Below base w U from by rw [← hU]; exact Below.setCell K6.out (by show base ≤ w.heap.size + 1; omega) _)
  have zU : w6.heap.size ≤ U.heap.size := by rw [← hU]; simp
  have F9 : Hid (∀ b, b < w.heap.size → ¬ HitS (.slice (some ⟨g1, 0, none⟩) d.ths.length c1) (.slice s2 d.chs.length c2) (.slice s3 d.tr.length c3) L1 L2 b → U.heap[b]? = w.heap[b]?) := fun b h1 h2 => by rw [← hU, Below.heap_setCell _ _ _ b (by show b ≠ w.heap.size + 1; omega)]; exact c6a.out b h1 (fun e => h2 (.inr (.inr e)))
  clear hU m0 m1 v0 v1' v2' fs zs w0 w1' w2' fa za x0 x1 x2 x3 x4 bs ba zz zv1 HB6 Q6 K6
  have HBX := HU
  have T9 := HT
  have K9 : Hid (∀ b, w.heap.size ≤ b → b < U.heap.size → U.heap[b]? = U.heap[b]?) := fun b _ _ => rfl
  have Z9 : U.heap.size ≤ U.heap.size := Nat.le_refl _
  have GO := hidW (l4Go_any p1 (some ⟨gb, ob, none⟩) a1 a2 lo hi base p _ _ _ _ _ _ k ⟨q, rg, 0⟩ (q + 1) _ (ProgR.keep' HP.out (fun b h1 h2 => B9.out.block b (by omega))) hB O9.out (by have := HKV.out.size; omega) T9.out rfl kb hpb (by rw [HBN.out]; exact hbl))
  refine Calls.mono GO.out ?_
  rintro e w2 ⟨L1', rfl, hO2, hb2, hf2⟩
  have O2 := hidW hO2
  have B2 := hidW (B9.out.trans hb2)
  have F2 : Hid (∀ b, b < w.heap.size → ¬ HitS _ _ _ L1 L2 b → w2.heap[b]? = w.heap[b]?) := fun b h1 h2 => (hf2 b (by have := HKV.out.size; omega) (fun e => h2 (.inl (.inl e)))).trans (F9.out b h1 h2)
  have HB2 := hidW (HBX.out.keep (V' := w2) (fun b h1 h2 => (hf2 b (by have := Z9; omega) (fun e => by have e' : g1 = b := Option.some.inj e; omega)).trans (K9.out b h1 h2)) (by have := hb2.size; have := Z9; omega))
  have z2 := hb2.size
  clear GO hO2 hb2 hf2
  obtain ⟨⟨m0, m1⟩, ⟨v0, v1', v2', fs, zs⟩, ⟨w0, w1', w2', fa, za⟩, x0, x1, x2, x3, x4, bs, ba, zz⟩ := HB2.out
  go_wp2
  refine bodyPost_ret (v := .tuple #[.agg #[.slice (some ⟨g1, 0, none⟩) d.ths.length c1, .slice s2 d.chs.length c2, .slice (some ⟨g6, 0, none⟩) (d.tr.length + 1) c6], .int .i64 0]) (by simp [results, Tryz.results23, go_sem, w0, w1', w2', fa]) rfl ?_
  refine ⟨_, _, _, _, _, _, _, _, _, retI (by simp [stepO, HF.out]), fun _ => ⟨L1', L2, ?_⟩, ?_, fun b h1 h2 => set3_off (by omega) (F2.out b h1 h2)⟩
  ·have q2 := O2.out
   rw [HBN.out] at q2
   have E : (⟨d.ths.set k (moveT ⟨q, rg, 0⟩ nb rg (q + 1)), d.chs, d.tr ++ [⟨k, va⟩]⟩ : SD) = doneS d k (stepO nb ⟨q, rg, 0⟩ ⟨10, r', a', b', n⟩ d.chs d.tr k) := by have h9 := HVa.out; rw [List.getD_eq_getElem?_getD] at h9; simp [doneS, stepO, regN, h9, HF.out]
   rw [E] at q2
   exact ((q2.offB ba).offB ba.set).offB ba.set.set
  ·refine Below.setCell (Below.setCell (Below.setCell B2.out ?_ _) ?_ _) ?_ _ <;> (show base ≤ w.heap.size + 1 + 1; omega)
end
end Go.Proofs.YtpmopmgpheefeaaGreat
