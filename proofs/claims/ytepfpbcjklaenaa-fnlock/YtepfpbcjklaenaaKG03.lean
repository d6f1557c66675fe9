/- A region that draws its order, in which the last operation alone writes and waits for all others: one walk of these, in the order of the text, and then that one. No condition. Rows of rows of writes that append makes. No condition. Memories whose rows are owned whole: rows of writes and rows of rows that append may grow. No condition. -/
import Derived.Test.YtepfpbcjklaenaaKG00
import Derived.Test.YtepfpbcjklaenaaKG02
namespace Go.Proofs.Ytepfpbcjklaenaa
section
set_option linter.unusedSimpArgs false
set_option linter.unusedVariables false
set_option maxRecDepth 100000
open Go.RowKit
/- the same operation, made to do nothing -/
def idle (o : Oper) : Oper := { o with op := .assign (.const (.bool false)) }
def lastOk (l : List Oper) (o : Oper) : Bool :=
 (List.range l.length).all (fun i => o.after.any fun e => Region.binds .any e && e.on == i) && ((List.range (l.length + 1)).all fun i => ((l ++ [o])[i]?.map fun x => x.after.all fun e => !Region.binds .any e || decide (e.on < i)).getD true)
theorem idle_at (l : List Oper) (o : Oper) (i : Nat) : (i < l.length ∧ (l ++ [idle o])[i]? = l[i]? ∧ (l ++ [o])[i]? = l[i]?) ∨ (i = l.length ∧ (l ++ [idle o])[i]? = some (idle o) ∧ (l ++ [o])[i]? = some o) ∨ (l.length < i ∧ (l ++ [idle o])[i]? = none ∧ (l ++ [o])[i]? = none) := by
 rcases Nat.lt_trichotomy i l.length with h | h | h
 ·exact .inl ⟨h, List.getElem?_append_left h, List.getElem?_append_left h⟩
 ·subst h
  exact .inr (.inl ⟨rfl, by simp, by simp⟩)
 ·exact .inr (.inr ⟨h, by simp; omega, by simp; omega⟩)
theorem ready_idle (l : List Oper) (o : Oper) (listed : Array Bool) : Region.ready .any (l ++ [idle o]).toArray listed = Region.ready .any (l ++ [o]).toArray listed := by
 unfold Region.ready
 have hs : (l ++ [idle o]).toArray.size = (l ++ [o]).toArray.size := by simp
 rw [hs]
 refine List.filter_congr fun i _ => ?_
 rw [List.getElem?_toArray, List.getElem?_toArray]
 rcases idle_at l o i with ⟨-, h1, h2⟩ | ⟨-, h1, h2⟩ | ⟨-, h1, h2⟩ <;> rw [h1, h2] <;> rfl
theorem yielded_idle (l : List Oper) (o : Oper) (t : Array Value) : yielded (l ++ [idle o]).toArray t = yielded (l ++ [o]).toArray t := by
 funext j
 unfold yielded
 rw [List.getElem?_toArray, List.getElem?_toArray]
 rcases idle_at l o j with ⟨-, h1, h2⟩ | ⟨-, h1, h2⟩ | ⟨-, h1, h2⟩ <;> rw [h1, h2] <;> rfl
theorem mem_ready {ops : Array Oper} {listed : Array Bool} {i : Nat} : i ∈ Region.ready .any ops listed ↔ i < ops.size ∧ listed.getD i true = false ∧ ((ops[i]?).map (·.after.all fun e => !Region.binds .any e || listed.getD e.on false)).getD false = true := by
 unfold Region.ready
 rw [List.mem_filter, List.mem_range, Bool.and_eq_true, Bool.not_eq_true']
theorem ready_some {l : List Oper} {o : Oper} (hL : lastOk l o = true) {listed : Array Bool} (hs : listed.size = l.length + 1) : ∀ (k : Nat), k ≤ l.length → listed.getD k true = false → Region.ready .any (l ++ [o]).toArray listed ≠ [] := by
 intro k
 induction k using Nat.strongRecOn with
 | ind k ih =>
  intro hk hf
  by_cases h : ∃ j, j < k ∧ listed.getD j true = false
  ·obtain ⟨j, h1, h2⟩ := h
   exact ih j h1 (by omega) h2
  ·intro hn
   have : k ∈ Region.ready .any (l ++ [o]).toArray listed := by
    rw [mem_ready]
    refine ⟨by simp; omega, hf, ?_⟩
    unfold lastOk at hL
    rw [Bool.and_eq_true, List.all_eq_true, List.all_eq_true] at hL
    have q := hL.2 k (List.mem_range.2 (by omega))
    rw [List.getElem?_toArray]
    obtain ⟨x, hx⟩ : ∃ x, (l ++ [o])[k]? = some x := ⟨_, List.getElem?_eq_getElem (by simp; omega)⟩
    rw [hx] at q ⊢
    simp only [Option.map_some, Option.getD_some] at q ⊢
    rw [Array.all_eq_true'] at q ⊢
    intro e he
    have q' := q e he
    rw [Bool.or_eq_true] at q' ⊢
    rcases q' with q' | q'
    ·exact .inl q'
    ·refine .inr ?_
     rw [decide_eq_true_eq] at q'
     have hj : ¬ listed.getD e.on true = false := fun hh => h ⟨e.on, q', hh⟩
     have hlt : e.on < listed.size := by omega
     simp only [Array.getD, hlt, dif_pos] at hj ⊢
     simpa using hj
   rw [hn] at this
   cases this
theorem ready_last {l : List Oper} {o : Oper} (hL : lastOk l o = true) {listed : Array Bool} (hs : listed.size = l.length + 1) (h : l.length ∈ Region.ready .any (l ++ [o]).toArray listed) : Region.ready .any (l ++ [o]).toArray (listed.setIfInBounds l.length true) = [] := by
 rw [mem_ready] at h
 obtain ⟨-, -, h⟩ := h
 have e : (l ++ [o]).toArray[l.length]? = some o := by rw [List.getElem?_toArray]; simp
 rw [e] at h
 simp only [Option.map_some, Option.getD_some] at h
 rw [Array.all_eq_true'] at h
 unfold lastOk at hL
 rw [Bool.and_eq_true, List.all_eq_true] at hL
 refine List.eq_nil_iff_forall_not_mem.2 fun i hi => ?_
 rw [mem_ready] at hi
 obtain ⟨h1, h2, -⟩ := hi
 simp at h1
 by_cases hil : i = l.length
 ·subst hil
  have : l.length < listed.size := by omega
  simp [Array.getD, this] at h2
 ·have q := hL.1 i (List.mem_range.2 (by omega))
  rw [Array.any_eq_true'] at q
  obtain ⟨x, hx, q⟩ := q
  rw [Bool.and_eq_true, beq_iff_eq] at q
  have := h x hx
  rw [q.1, q.2] at this
  have hlt : i < listed.size := by omega
  simp [Array.getD, hlt] at this
  simp [Array.getD, hlt, Array.getElem_setIfInBounds, Ne.symm hil, this] at h2
theorem any_done {P : Program} {ops : Array Oper} {Q : Exit → Act → World → Prop} {listed : Array Bool} (hr : Region.ready .any ops listed = []) {a : Act} {w : World} (h : Q .normal a w) : ∀ fuel, wpAny P .any ops Q fuel listed a w
 | 0 => ⟨hr, h⟩
 | _ + 1 => ⟨fun _ => h, by rw [hr]; simp⟩
theorem last_conv {P : Program} {Q : Exit → Act → World → Prop} {C : World → Prop} {Qa : Act → Prop} {l : List Oper} {o : Oper} (hL : lastOk l o = true) (hg : o.guard = none) (hd : o.dst = none) {A : Array Oper} (hQ : ∀ a w, C w → Qa a → wpList P A Q [o] a w) :
  ∀ (fuel : Nat) (listed : Array Bool) (a : Act) (w : World), listed.size = l.length + 1 → listed.getD l.length true = false → C w → wpAnyQ P .any (l ++ [idle o]).toArray C Qa fuel listed a → wpAny P .any (l ++ [o]).toArray Q fuel listed a w
 | 0, listed, a, w, hs, hf, hC, h => absurd ((ready_idle l o listed) ▸ h.1) (ready_some hL hs l.length (Nat.le_refl _) hf)
 | fuel + 1, listed, a, w, hs, hf, hC, h => by
  refine ⟨fun h0 => absurd h0 (ready_some hL hs l.length (Nat.le_refl _) hf), fun i hi => ?_⟩
  have hq := h.2 i ((ready_idle l o listed).symm ▸ hi)
  have hlt := (mem_ready.1 hi).1
  simp at hlt
  by_cases hil : i = l.length
  ·subst hil
   have hr := ready_last hL hs hi
   have e' : (l ++ [idle o]).toArray[l.length]? = some (idle o) := by rw [List.getElem?_toArray]; simp
   have e : (l ++ [o]).toArray[l.length]? = some o := by rw [List.getElem?_toArray]; simp
   unfold qOp at hq
   simp only [e'] at hq
   have hw : ∀ t, Region.wanted (idle o) t = true := fun t => by simp [Region.wanted, idle, hg]
   have hw' : ∀ t, Region.wanted o t = true := fun t => by simp [Region.wanted, hg]
   rw [if_pos (hw _)] at hq
   obtain ⟨v, -, hq⟩ := hq
   have ep : a.put (idle o).dst v = a := by show a.put o.dst v = a; rw [hd]; rfl
   rw [ep] at hq
   have ha : Qa a := by
    cases fuel with
    | zero => exact hq.2
    | succ n => exact hq.1 (by rw [ready_idle]; exact hr)
   unfold wpOp
   simp only [e]
   rw [if_pos (hw' _)]
   have hh := hQ a w hC ha
   unfold wpList at hh
   rw [if_pos (hw' _)] at hh
   exact hh.imp (Oper.wp_mono (fun a' w' hh => any_done hr hh fuel)) id
  ·have hi2 : i < l.length := by omega
   have ee : (l ++ [idle o]).toArray[i]? = (l ++ [o]).toArray[i]? := by rw [List.getElem?_toArray, List.getElem?_toArray, List.getElem?_append_left hi2, List.getElem?_append_left hi2]
   have hq' : qOp P (l ++ [o]).toArray C i (wpAnyQ P .any (l ++ [idle o]).toArray C Qa fuel (listed.setIfInBounds i true)) a := by
    unfold qOp at hq ⊢
    rw [ee, yielded_idle] at hq
    exact hq
   refine wpOp_of_qOp hC (fun a' w' hC' hk => last_conv hL hg hd hQ fuel _ a' w' (by simpa using hs) ?_ hC' hk) hq'
   have h9 : l.length < listed.size := by omega
   simp only [Array.getD, h9, dif_pos] at hf
   simp [Array.getD, h9, Array.getElem_setIfInBounds, hil]
   simpa using hf
theorem quiet_snoc {P : Program} {ops : Array Oper} {C : World → Prop} {Qa : Act → Prop} {o : Oper} (hg : o.guard = none) (hd : o.dst = none) : ∀ (l : List Oper) (a : Act), wpQuiet P ops C Qa l a → wpQuiet P ops C Qa (l ++ [idle o]) a
 | [], a, h => by
  have hw : Region.wanted (idle o) (yielded ops a.tmps) = true := by simp [Region.wanted, idle, hg]
  refine BigFrame.wpQuiet_want hw fun K hK => ?_
  refine BigFrame.quiet_assign (.const (.bool false)) rfl ?_
  refine hK _ ?_
  show Qa (a.put o.dst _)
  rw [hd]
  exact h
 | x :: r, a, h => by
  unfold wpQuiet at h
  show wpQuiet P ops C Qa (x :: (r ++ [idle o])) a
  unfold wpQuiet
  split
  ·rename_i hw
   rw [if_pos hw] at h
   exact Oper.quiet_mono (fun a' => quiet_snoc hg hd r a') h
  ·rename_i hw
   rw [if_neg hw] at h
   exact quiet_snoc hg hd r _ h
theorem regionLast {P : Program} {id : Nat} {Q : Exit → Act → World → Prop} {a : Act} (W : World) {full : List Oper} (o : Oper) (hf : full.getLast? = some o) (hm : P.follows .mixedOrders = true) (hB : Region.lexB .any (full.dropLast ++ [idle o]).toArray = true) (hL : lastOk full.dropLast o = true) (hg : o.guard = none) (hd : o.dst = none)
  (h : wpQuiet P (full.dropLast ++ [idle o]).toArray (fun w' => ∃ x : Ext W, w' = x.w) (fun a' => ∀ w', (∃ x : Ext W, w' = x.w) → wpList P full.toArray Q [o] a' w') full.dropLast a) : (Code.region id full.toArray true).wp P Q a W := by
 have hfull : full = full.dropLast ++ [o] := by
  have hne : full ≠ [] := fun e => by rw [e] at hf; cases hf
  rw [List.getLast?_eq_some_getLast hne] at hf
  injection hf with hf
  rw [← hf]
  exact (List.dropLast_concat_getLast hne).symm
 have hq := quiet_snoc hg hd _ _ h
 simp only [Region.lexB, Bool.and_eq_true] at hB
 have h2 := wpAnyQ_lex (md := .any) hB.1 (full.dropLast ++ [idle o]) 0 (Array.replicate (full.dropLast ++ [idle o]).toArray.size false) a (by simp) (by simpa using hB.2) hq
 have hgoal : (Code.region id (full.dropLast ++ [o]).toArray true).wp P Q a W → (Code.region id full.toArray true).wp P Q a W := fun hh => by rw [← hfull] at hh; exact hh
 refine hgoal ?_
 refine wp_region_any hm ?_
 have hn : (full.dropLast ++ [o]).toArray.size = full.dropLast.length + 1 := by simp
 rw [hn]
 refine last_conv (C := fun w' => ∃ x : Ext W, w' = x.w) (Qa := fun a' => ∀ w', (∃ x : Ext W, w' = x.w) → wpList P full.toArray Q [o] a' w') hL hg hd (fun a' w' hC hh => hh w' hC) _ _ _ _ (by simp) ?_ ⟨⟨{ W with drawn := W.drawn + 1 }, ⟨rfl, rfl, rfl, Nat.le_refl _, fun _ _ => rfl⟩⟩, rfl⟩ ?_
 ·simp [Array.getD]
 ·have e2 : (full.dropLast ++ [idle o]).toArray.size = full.dropLast.length + 1 := by simp
  rw [e2] at h2
  simpa using h2
end
section
set_option linter.unusedSimpArgs false
set_option linter.unusedVariables false
set_option maxRecDepth 100000
open Go.RowKit
def RS.val (r : RS) : Value := .slice r.s r.vs.length r.c
structure OM (w : World) (B : Nat) (v : Value) (S : List RS) (m : List (List WD)) : Prop where
 n : S.length = m.length
 row : w.ownsRow B 44 1 v S.length (S.map RS.val)
 r : ∀ (i : Nat) (r : RS) (l : List WD), S[i]? = some r → m[i]? = some l → RO w B w.heap.size r l
 d : (mAs S).Nodup
 sep : ∀ a ∈ mAs S, v.ownBlock ≠ some a.block
theorem OM.nil (w : World) (B : Nat) : OM w B (.slice none 0 0) [] [] := ⟨rfl, World.ownsRow_nil _ _ _ _, fun i r l h => by simp at h, by simp [mAs], fun a ha => by simp [mAs] at ha⟩
theorem OM.mo {w : World} {B : Nat} {v : Value} {S : List RS} {m : List (List WD)} (h : OM w B v S m) : ∃ s c, v = .slice s m.length c ∧ MO w B w.heap.size s S m := by
 rcases Nat.eq_zero_or_pos S.length with h0 | hpos
 ·obtain ⟨s, c, e⟩ := ownSl h.row
  have h1 := h.n
  have hm : m = [] := List.length_eq_zero_iff.1 (by omega)
  exact ⟨s, c, by rw [e, h1], h1, .inl hm, h.r, h.d⟩
 ·obtain ⟨g, cap, rfl, -⟩ := World.ownsRow.form h.row hpos
  have hlt := World.ownsRow.lt h.row g rfl
  refine ⟨_, _, by rw [h.n], h.n, .inr ⟨g, 0, rfl, hlt.1, hlt.2, fun i r hr => ?_⟩, h.r, h.d⟩
  have hi' := (List.getElem?_eq_some_iff.1 hr).1
  rw [Nat.zero_add, World.ownsRow.cellAt h.row i (by omega), List.getElem?_map, hr]
  rfl
theorem OM.blk {w : World} {B : Nat} {v : Value} {S : List RS} {m : List (List WD)} (h : OM w B v S m) {a : Addr} (ha : a ∈ mAs S) : B ≤ a.block ∧ a.block < w.heap.size := by
 obtain ⟨s, c, -, hm⟩ := h.mo
 exact hm.blk ha
theorem OM.below {w w1 : World} {B : Nat} {v : Value} {S : List RS} {m : List (List WD)} (h : OM w B v S m) (hb : Below w.heap.size w w1) : OM w1 B v S m :=
 ⟨h.n, ownKeep' h.row (fun k hk => hb.block k (World.ownsRow.lt h.row _ hk).2), fun i r l hr hl => ((h.r i r l hr hl).keep (Keep.of_below hb (Nat.le_refl _))).mono (Nat.le_refl _) hb.size, h.d, h.sep⟩
theorem OM.push {w w1 w2 : World} {B g cap : Nat} {v : Value} {S : List RS} {m : List (List WD)} (r : RS) (l : List WD) (h : OM w B v S m) (hb : Below w.heap.size w w1) (hr : RO w1 w.heap.size w1.heap.size r l) (hB : B ≤ w.heap.size)
  (h2 : w2.ownsRow B 44 1 (.slice (some ⟨g, 0, none⟩) (S.length + 1) cap) (S.length + 1) (S.map RS.val ++ [r.val])) (hg : w1.grownBy w2 v.ownBlock) (hn : v.ownBlock = some g ∨ w1.heap.size ≤ g) : OM w2 B (.slice (some ⟨g, 0, none⟩) (S ++ [r]).length cap) (S ++ [r]) (m ++ [l]) := by
 have vb : ∀ k, v.ownBlock = some k → k < w.heap.size := fun k hk => (World.ownsRow.lt h.row _ hk).2
 have hn1 := h.n
 refine ⟨by simp [hn1], by simpa using h2, fun i r1 l1 e1 e2 => ?_, ?_, fun a ha => ?_⟩
 ·rcases getElem?_push e1 with e1 | ⟨i1, rfl⟩
  ·rcases getElem?_push e2 with e2 | ⟨i2, rfl⟩
   ·have q := ((h.below hb).r i r1 l1 e1 e2).far2 (w' := w2) (fun a ha => by
     have hm : a ∈ mAs S := mem_mAs.2 ⟨r1, List.mem_of_getElem? e1, ha⟩
     exact hg.block _ (by have := (h.blk hm).2; have := hb.size; omega) (fun e => h.sep a hm e.symm))
    exact q.mono (Nat.le_refl _) hg.size
   ·have := (List.getElem?_eq_some_iff.1 e1).1; omega
  ·rcases getElem?_push e2 with e2 | ⟨i2, rfl⟩
   ·have := (List.getElem?_eq_some_iff.1 e2).1; omega
   ·have q := hr.far2 (w' := w2) (fun a ha => by
     have hb' := hr.blk ha
     exact hg.block _ hb'.2 (fun e => by have := vb a.block e.symm; omega))
    exact q.mono hB hg.size
 ·rw [mAs_app]
  refine List.nodup_append.2 ⟨h.d, hr.d, fun a ha b hb' e => ?_⟩
  subst e
  have h1 := (h.blk ha).2
  have h3 := (hr.blk hb').1
  omega
 ·intro e
  have e : g = a.block := by injection e
  rw [mAs_app] at ha
  rcases List.mem_append.1 ha with ha | ha
  ·rcases hn with hn | hn
   ·exact h.sep a ha (by rw [hn, e])
   ·have h1 := (h.blk ha).2
    have := hb.size
    omega
  ·have h3 := hr.blk ha
   rcases hn with hn | hn
   ·have := vb g hn
    omega
   ·omega
theorem OM.keepB {w w' : World} {B : Nat} {v : Value} {S : List RS} {m : List (List WD)} (h : OM w B v S m) (hk : ∀ b, B ≤ b → w'.heap[b]? = w.heap[b]?) (hs : w'.heap.size = w.heap.size) : OM w' B v S m :=
 ⟨h.n, ownKeep' h.row (fun k e => hk k (World.ownsRow.lt h.row _ e).1), fun i r l hr hl => by rw [hs]; exact (h.r i r l hr hl).keep (fun b h1 _ => hk b h1), h.d, h.sep⟩
theorem infoW : ∃ i, Try.prog.info? 44 = some i ∧ i.zero = some (.slice none 0 0) ∧ i.size = 1 ∧ i.bytes = 24 := ⟨_, rfl, rfl, rfl, rfl⟩
theorem wp_rowW {o : Oper} {a : Act} {w : World} {K : Act → World → Prop} {Q : Exit → Act → World → Prop} (s x : Operand) (ho : o.op = .call { callee := .builtin .append, args := #[s, x], argTypes := #[29, 29] })
  (base : Nat) (v : Value) (n : Nat) (xs : List Value) (hs : a.eval s = v) (hown : w.ownsRow base 44 1 v n xs) (g0 : Nat) (u : Value) (hu : u.oneCell' = true) (hx : a.eval x = .slice (some ⟨g0, 0, none⟩) 1 1) (hc : w.cell? ⟨g0, 0, none⟩ = some u) (hn : n ≤ 1073741824) (hbase : base ≤ w.heap.size)
  (h : ∀ g cap w', w'.ownsRow base 44 1 (.slice (some ⟨g, 0, none⟩) (n + 1) cap) (n + 1) (xs ++ [u]) → w.grownBy w' v.ownBlock → (v.ownBlock = some g ∨ w.heap.size ≤ g) → g < w'.heap.size → K (a.put o.dst (.slice (some ⟨g, 0, none⟩) (n + 1) cap)) w') : Oper.wp Try.prog o a w K Q := by
 obtain ⟨i0, hi, hz0, hz1, hz2⟩ := infoW
 refine wp_append_lies w s x 29 ho base 44 i0 _ 1 24 Try.underlying29 hi hz0 hz1 hz2 rfl (by decide) v n xs hs hown ⟨g0, 0, none⟩ 1 1 [u] hx rfl (fun j u' hj => ?_) (fun u' hu' => by simp at hu'; subst hu'; exact hu) (by decide) (by unfold maxLen; omega) (by omega) hbase _ rfl ?_
 ·match j, hj with
  | 0, hj => simp at hj; subst hj; simpa [Addr.add] using hc
  | j + 1, hj => simp at hj
 ·intro g cap w' q1 q2 q3 q4
  exact h g cap w' q1 q2 (by rcases q3 with q3 | q3 <;> first | exact .inl q3 | exact .inr (by omega)) q4
theorem step_rowW {ops : Array Oper} {o : Oper} {a : Act} {K : Act → World → Prop} {Q : Exit → Act → World → Prop} {E : Prop} (hgd : o.guard = none) (s x : Operand) (ho : o.op = .call { callee := .builtin .append, args := #[s, x], argTypes := #[29, 29] })
  (w : World) (base : Nat) (v : Value) (n : Nat) (xs : List Value) (hs : a.eval s = v) (hown : w.ownsRow base 44 1 v n xs) (g0 : Nat) (u : Value) (hu : u.oneCell' = true) (hx : a.eval x = .slice (some ⟨g0, 0, none⟩) 1 1) (hc : w.cell? ⟨g0, 0, none⟩ = some u) (hn : n ≤ 1073741824) (hbase : base ≤ w.heap.size)
  (h : ∀ g cap w', w'.ownsRow base 44 1 (.slice (some ⟨g, 0, none⟩) (n + 1) cap) (n + 1) (xs ++ [u]) → w.grownBy w' v.ownBlock → (v.ownBlock = some g ∨ w.heap.size ≤ g) → g < w'.heap.size → K (a.put o.dst (.slice (some ⟨g, 0, none⟩) (n + 1) cap)) w') : if Region.wanted o (yielded ops a.tmps) = true then Oper.wp Try.prog o a w K Q else E := by
 have hw : Region.wanted o (yielded ops a.tmps) = true := by simp [Region.wanted, hgd]
 rw [if_pos hw]
 exact wp_rowW s x ho base v n xs hs hown g0 u hu hx hc hn hbase h
end
section
set_option linter.unusedSimpArgs false
set_option linter.unusedVariables false
set_option maxRecDepth 100000
open Go.RowKit
def flatV : List VS → List WD → List Value
 | x :: r, y :: t => .int .i64 y.v :: .slice x.s x.n x.c :: flatV r t
 | _, _ => []
theorem flatV_len : ∀ (vs : List VS) (l : List WD), vs.length = l.length → (flatV vs l).length = vs.length * 2
 | [], [], _ => rfl
 | x :: r, y :: t, h => by
  have := flatV_len r t (by simpa using h)
  simp [flatV, this]
  omega
 | [], _ :: _, h => by simp at h
 | _ :: _, [], h => by simp at h
theorem flatV_at : ∀ (vs : List VS) (l : List WD) (i : Nat) (x : VS) (y : WD), vs[i]? = some x → l[i]? = some y → (flatV vs l)[i * 2]? = some (.int .i64 y.v) ∧ (flatV vs l)[i * 2 + 1]? = some (.slice x.s x.n x.c)
 | [], _, i, x, y, h, _ => by simp at h
 | _ :: _, [], i, x, y, _, h => by simp at h
 | a :: r, b :: t, 0, x, y, h, h' => by
  simp at h h'
  subst h h'
  exact ⟨rfl, rfl⟩
 | a :: r, b :: t, i + 1, x, y, h, h' => by
  have e := flatV_at r t i x y (by simpa using h) (by simpa using h')
  have e0 : (i + 1) * 2 = i * 2 + 2 := by omega
  rw [e0]
  exact e
theorem flatV_app (x : VS) (y : WD) : ∀ (vs : List VS) (l : List WD), vs.length = l.length → flatV (vs ++ [x]) (l ++ [y]) = flatV vs l ++ [.int .i64 y.v, .slice x.s x.n x.c]
 | [], [], _ => rfl
 | a :: r, b :: t, h => by
  have := flatV_app x y r t (by simpa using h)
  simp [flatV, this]
 | [], _ :: _, h => by simp at h
 | _ :: _, [], h => by simp at h
def TyI (w : World) (b : Nat) : Prop := ∃ cs f, w.heap[b]? = some (.cells cs 3 f)
def vsA : List VS → List Addr
 | [] => []
 | x :: r => vAs x ++ vsA r
theorem mem_vsA {a : Addr} : ∀ {vs : List VS}, a ∈ vsA vs ↔ ∃ x ∈ vs, a ∈ vAs x
 | [] => by simp [vsA]
 | y :: r => by simp [vsA, mem_vsA (vs := r)]
theorem vsA_app (x : VS) : ∀ (vs : List VS), vsA (vs ++ [x]) = vsA vs ++ vAs x
 | [] => by simp [vsA]
 | y :: r => by simp [vsA, vsA_app x r]
structure ORow (w : World) (B : Nat) (r : RS) (l : List WD) : Prop where
 n : r.vs.length = l.length
 own : w.ownsRow B 48 2 r.val r.vs.length (flatV r.vs l)
 v : ∀ (i : Nat) (x : VS) (y : WD), r.vs[i]? = some x → l[i]? = some y → VO w B w.heap.size x y.vw
 vt : ∀ a ∈ vsA r.vs, TyI w a.block
 vd : (vsA r.vs).Nodup
theorem rAs_nodup {g : Nat} : ∀ (vs : List VS) (k : Nat), (∀ a ∈ vsA vs, a.block ≠ g) → (vsA vs).Nodup → (rAs (some ⟨g, 0, none⟩) vs k).Nodup
 | [], k, _, _ => by simp [rAs]
 | x :: r, k, h, hd => by
  rw [vsA] at hd
  obtain ⟨d1, d2, d3⟩ := List.nodup_append.1 hd
  have ih := rAs_nodup (g := g) r (k + 1) (fun a ha => h a (by simp [vsA, ha])) d2
  rw [rAs]
  refine List.nodup_cons.2 ⟨fun hm => ?_, List.nodup_append.2 ⟨d1, ih, fun a ha b hb e => ?_⟩⟩
  ·rcases List.mem_append.1 hm with hm | hm
   ·exact h _ (by rw [vsA]; exact List.mem_append_left _ hm) rfl
   ·rcases mem_rAs.1 hm with ⟨i, hi', e⟩ | ⟨x', hx', hax⟩
    ·simp [adr] at e; omega
    ·exact h _ (by rw [vsA]; exact List.mem_append_right _ (mem_vsA.2 ⟨x', hx', hax⟩)) rfl
  ·subst e
   rcases mem_rAs.1 hb with ⟨i, hi', e⟩ | ⟨x', hx', hax⟩
   ·exact h a (by rw [vsA]; exact List.mem_append_left _ ha) (by rw [e]; rfl)
   ·exact d3 a ha a (mem_vsA.2 ⟨x', hx', hax⟩) rfl
theorem ORow.blkT {w : World} {B : Nat} {r : RS} {l : List WD} (h : ORow w B r l) {k : Nat} (hk : r.val.ownBlock = some k) : ∃ cs, w.heap[k]? = some (.cells cs 48 (0, 0)) := by
 rcases h.own.2 with ⟨e, -⟩ | ⟨g, cap, cur, e, -, c, -⟩
 ·rw [e] at hk; cases hk
 ·rw [e] at hk
  injection hk with hk
  have hk : g = k := hk
  subst hk
  exact ⟨_, c⟩
theorem ORow.sepV {w : World} {B : Nat} {r : RS} {l : List WD} (h : ORow w B r l) {k : Nat} (hk : r.val.ownBlock = some k) {a : Addr} (ha : TyI w a.block) : a.block ≠ k := by
 obtain ⟨cs, h1⟩ := h.blkT hk
 obtain ⟨cs', f, h2⟩ := ha
 intro e
 rw [e, h1] at h2
 injection h2 with h2
 injection h2 with _ h2
 exact absurd h2 (by decide)
theorem ORow.ro {w : World} {B : Nat} {r : RS} {l : List WD} (h : ORow w B r l) : RO w B w.heap.size r l := by
 refine ⟨h.n, ?_, h.v, fun x hx a ha g o e => ?_, ?_⟩
 ·rcases Nat.eq_zero_or_pos r.vs.length with h0 | hpos
  ·exact .inl (List.length_eq_zero_iff.1 (by have := h.n; omega))
  ·obtain ⟨g, cap, e, -⟩ := World.ownsRow.form h.own hpos
   have hlt := World.ownsRow.lt h.own g (by rw [e]; rfl)
   have e2 : r.s = some ⟨g, 0, none⟩ := by unfold RS.val at e; injection e with e
   have e3 : r.c = cap := by unfold RS.val at e; injection e
   refine .inr ⟨g, 0, e2, hlt.1, hlt.2, fun i x y hx hy => ?_⟩
   have hi' := (List.getElem?_eq_some_iff.1 hx).1
   have ho : w.ownsRow B 48 2 (.slice (some ⟨g, 0, none⟩) r.vs.length cap) r.vs.length (flatV r.vs l) := by rw [← e]; exact h.own
   obtain ⟨f1, f2⟩ := flatV_at r.vs l i x y hx hy
   rw [Nat.zero_add]
   exact ⟨(World.ownsRow.cellAt ho (i * 2) (by omega)).trans f1, World.ownsRow.frozenAt ho _, (World.ownsRow.cellAt ho (i * 2 + 1) (by omega)).trans f2⟩
 ·exact h.sepV (k := g) (by unfold RS.val; rw [e]; rfl) (h.vt a (mem_vsA.2 ⟨x, hx, ha⟩))
 ·rcases Nat.eq_zero_or_pos r.vs.length with h0 | hpos
  ·rw [List.length_eq_zero_iff.1 h0]; simp [rAs]
  ·obtain ⟨g, cap, e, -⟩ := World.ownsRow.form h.own hpos
   have e2 : r.s = some ⟨g, 0, none⟩ := by unfold RS.val at e; injection e with e
   rw [e2]
   exact rAs_nodup r.vs 0 (fun a ha => h.sepV (k := g) (by rw [e]; rfl) (h.vt a ha)) h.vd
theorem ORow.blk {w : World} {B : Nat} {r : RS} {l : List WD} (h : ORow w B r l) {a : Addr} (ha : a ∈ vsA r.vs) : B ≤ a.block ∧ a.block < w.heap.size := by
 obtain ⟨x, hx, hax⟩ := mem_vsA.1 ha
 exact h.ro.blk (mem_rAs.2 (.inr ⟨x, hx, hax⟩))
theorem ORow.kept {w w' : World} {B : Nat} {r : RS} {l : List WD} (h : ORow w B r l) (h1 : ∀ k, r.val.ownBlock = some k → w'.heap[k]? = w.heap[k]?) (h2 : ∀ a ∈ vsA r.vs, w'.heap[a.block]? = w.heap[a.block]?) (hs : w.heap.size ≤ w'.heap.size) : ORow w' B r l := by
 refine ⟨h.n, ownKeep' h.own h1, fun i x y hx hy => ?_, fun a ha => ?_, h.vd⟩
 ·have hv := h.v i x y hx hy
  refine ⟨hv.n, ?_⟩
  rcases hv.c with h0 | ⟨g, o, es, b1, b2, hc⟩
  ·exact .inl h0
  ·refine .inr ⟨g, o, es, b1, by omega, fun j hj => ?_⟩
   have hne : w'.heap[g]? = w.heap[g]? := by
    have := h2 (adr x.s j) (mem_vsA.2 ⟨x, List.mem_of_getElem? hx, mem_vAs.2 ⟨j, by rw [hv.n]; exact hj, rfl⟩⟩)
    rw [es] at this
    exact this
   exact ⟨(World.cell?_of_block (w := w) hne).trans (hc j hj).1, (World.frozen?_of_block (w := w) hne).trans (hc j hj).2⟩
 ·obtain ⟨cs, f, e⟩ := h.vt a ha
  exact ⟨cs, f, (h2 a ha).trans e⟩
theorem ORow.below {w w' : World} {B : Nat} {r : RS} {l : List WD} (h : ORow w B r l) (hb : Below w.heap.size w w') : ORow w' B r l :=
 h.kept (fun k e => hb.block k (World.ownsRow.lt h.own _ e).2) (fun a ha => hb.block _ (h.blk ha).2) hb.size
theorem ORow.low {w : World} {B B' : Nat} {r : RS} {l : List WD} (h : ORow w B r l) (hb : B' ≤ B) : ORow w B' r l :=
 ⟨h.n, ownLow' h.own hb, fun i x y hx hy => (h.v i x y hx hy).mono hb (Nat.le_refl _), h.vt, h.vd⟩
/- a row that append has grown by one write -/
theorem ORow.push {w w2 : World} {B g cap : Nat} {r : RS} {l : List WD} (x : VS) (y : WD) (h : ORow w B r l) (hx : VO w B w.heap.size x y.vw) (hxt : ∀ a ∈ vAs x, TyI w a.block) (hxd : (vAs x).Nodup) (hd : ∀ a ∈ vsA r.vs, a ∉ vAs x)
  (h2 : w2.ownsRow B 48 2 (.slice (some ⟨g, 0, none⟩) (r.vs.length + 1) cap) (r.vs.length + 1) (flatV r.vs l ++ [.int .i64 y.v, .slice x.s x.n x.c])) (hg : w.grownBy w2 r.val.ownBlock) : ORow w2 B ⟨some ⟨g, 0, none⟩, cap, r.vs ++ [x]⟩ (l ++ [y]) := by
 have hn := h.n
 have kp : ∀ a : Addr, a.block < w.heap.size → TyI w a.block → w2.heap[a.block]? = w.heap[a.block]? := fun a ha ht => hg.block _ ha (fun e => h.sepV (k := a.block) e.symm ht rfl)
 have hv2 : ∀ (x' : VS) (l' : List Int), VO w B w.heap.size x' l' → (∀ a ∈ vAs x', TyI w a.block) → VO w2 B w2.heap.size x' l' := fun x' l' hv ht => by
  refine ⟨hv.n, ?_⟩
  rcases hv.c with h0 | ⟨g', o, es, b1, b2, hc⟩
  ·exact .inl h0
  ·refine .inr ⟨g', o, es, b1, by have := hg.size; omega, fun j hj => ?_⟩
   have hne : w2.heap[g']? = w.heap[g']? := by
    have hm : adr x'.s j ∈ vAs x' := mem_vAs.2 ⟨j, by rw [hv.n]; exact hj, rfl⟩
    have := kp (adr x'.s j) (by rw [es]; exact b2) (ht _ hm)
    rw [es] at this
    exact this
   exact ⟨(World.cell?_of_block (w := w) hne).trans (hc j hj).1, (World.frozen?_of_block (w := w) hne).trans (hc j hj).2⟩
 refine ⟨by simp [hn], ?_, fun i x1 y1 e1 e2 => ?_, fun a ha => ?_, ?_⟩
 ·show w2.ownsRow B 48 2 (.slice (some ⟨g, 0, none⟩) (r.vs ++ [x]).length cap) (r.vs ++ [x]).length (flatV (r.vs ++ [x]) (l ++ [y]))
  rw [flatV_app x y r.vs l hn]
  simpa using h2
 ·rcases getElem?_push e1 with e1 | ⟨i1, rfl⟩
  ·rcases getElem?_push e2 with e2 | ⟨i2, rfl⟩
   ·exact hv2 x1 y1.vw (h.v i x1 y1 e1 e2) (fun a ha => h.vt a (mem_vsA.2 ⟨x1, List.mem_of_getElem? e1, ha⟩))
   ·have := (List.getElem?_eq_some_iff.1 e1).1; omega
  ·rcases getElem?_push e2 with e2 | ⟨i2, rfl⟩
   ·have := (List.getElem?_eq_some_iff.1 e2).1; omega
   ·exact hv2 x1 y1.vw hx hxt
 ·rw [vsA_app] at ha
  rcases List.mem_append.1 ha with ha | ha
  ·obtain ⟨cs, f, e⟩ := h.vt a ha
   exact ⟨cs, f, (kp a (h.blk ha).2 (h.vt a ha)).trans e⟩
  ·obtain ⟨cs, f, e⟩ := hxt a ha
   exact ⟨cs, f, (kp a (hx.blk ha).2 (hxt a ha)).trans e⟩
 ·rw [vsA_app]
  exact List.nodup_append.2 ⟨h.vd, hxd, fun a ha b hb e => hd a ha (by rw [e]; exact hb)⟩
structure OW (w : World) (B : Nat) (v : Value) (S : List RS) (m : List (List WD)) : Prop where
 n : S.length = m.length
 row : w.ownsRow B 44 1 v S.length (S.map RS.val)
 r : ∀ (i : Nat) (r : RS) (l : List WD), S[i]? = some r → m[i]? = some l → ORow w B r l
 d : (mAs S).Nodup
theorem rows_blkT {w : World} {B n : Nat} {v : Value} {xs : List Value} (h : w.ownsRow B 44 1 v n xs) {k : Nat} (hk : v.ownBlock = some k) : ∃ cs, w.heap[k]? = some (.cells cs 44 (0, 0)) := by
 rcases h.2 with ⟨e, -⟩ | ⟨g, cap, cur, e, -, c, -⟩
 ·rw [e] at hk; cases hk
 ·rw [e] at hk
  injection hk with hk
  have hk : g = k := hk
  subst hk
  exact ⟨_, c⟩
theorem ORow.sepO {w : World} {B : Nat} {r : RS} {l : List WD} (h : ORow w B r l) {a : Addr} (ha : a ∈ rAs r.s r.vs 0) : ∃ cs t f, w.heap[a.block]? = some (.cells cs t f) ∧ t ≠ 44 := by
 rcases mem_rAs.1 ha with ⟨i, hi', e⟩ | ⟨x, hx, hax⟩
 ·obtain ⟨g, cap, ev, -⟩ := World.ownsRow.form h.own (by omega)
  obtain ⟨cs, hc⟩ := h.blkT (k := g) (by rw [ev]; rfl)
  have e2 : r.s = some ⟨g, 0, none⟩ := by unfold RS.val at ev; injection ev with ev
  rw [e, e2]
  exact ⟨cs, _, _, hc, by decide⟩
 ·obtain ⟨cs, f, e⟩ := h.vt a (mem_vsA.2 ⟨x, hx, hax⟩)
  exact ⟨cs, _, f, e, by decide⟩
theorem OW.om {w : World} {B : Nat} {v : Value} {S : List RS} {m : List (List WD)} (h : OW w B v S m) : OM w B v S m := by
 refine ⟨h.n, h.row, fun i r l hr hl => (h.r i r l hr hl).ro, h.d, fun a ha e => ?_⟩
 obtain ⟨r, hr, har⟩ := mem_mAs.1 ha
 obtain ⟨i, hi', er⟩ := List.getElem_of_mem hr
 have hl : i < m.length := by have := h.n; omega
 obtain ⟨cs, t, f, h1, h2⟩ := (h.r i r m[i] (by rw [List.getElem?_eq_getElem hi', er]) (List.getElem?_eq_getElem hl)).sepO har
 obtain ⟨cs', h3⟩ := rows_blkT h.row e
 rw [h1] at h3
 injection h3 with h3
 injection h3 with _ h3
 exact h2 h3
theorem OW.kept {w w' : World} {B : Nat} {v : Value} {S : List RS} {m : List (List WD)} (h : OW w B v S m) (hb : ∀ k, B ≤ k → k < w.heap.size → w'.heap[k]? = w.heap[k]?) (hs : w.heap.size ≤ w'.heap.size) : OW w' B v S m :=
 ⟨h.n, ownKeep' h.row (fun k e => hb k (World.ownsRow.lt h.row _ e).1 (World.ownsRow.lt h.row _ e).2), fun i r l hr hl => by
  have q := h.r i r l hr hl
  exact q.kept (fun k e => hb k (World.ownsRow.lt q.own _ e).1 (World.ownsRow.lt q.own _ e).2) (fun a ha => hb _ (q.blk ha).1 (q.blk ha).2) hs, h.d⟩
theorem OW.below {w w' : World} {B : Nat} {v : Value} {S : List RS} {m : List (List WD)} (h : OW w B v S m) (hb : Below w.heap.size w w') : OW w' B v S m := h.kept (fun k _ hk => hb.block k hk) hb.size
end
end Go.Proofs.Ytepfpbcjklaenaa
