/- A region that draws its order, in which the last operation alone writes and waits for all others: one walk of these, in the order of the text, and then that one. No condition. -/
import Derived.Test.YteefnjngcnebpaaGreatJG00
namespace Go.Proofs.YteefnjngcnebpaaGreat
set_option linter.unusedSimpArgs false
set_option linter.unusedVariables false
set_option maxRecDepth 100000
open Go.RowKit
/- the same operation, made to do nothing -/
def idle (o : Oper) : Oper := { o with op := .assign (.const (.bool false)) }
def lastOk (l : List Oper) (o : Oper) : Bool :=
 (List.range l.length).all (fun i => o.after.any fun e => Region.binds .any e && e.on == i) && ((List.range (l.length + 1)).all fun i => ((l ++ [o])[i]?.map fun x => x.after.all fun e => !Region.binds .any e || decide (e.on < i)).getD true)
theorem idle_at (l : List Oper) (o : Oper) (i : Nat) : (i < l.length ∧ (l ++ [idle o])[i]? = l[i]? ∧ (l ++ [o])[i]? = l[i]?) ∨ (i = l.length ∧ (l ++ [idle o])[i]? = some (idle o) ∧ (l ++ [o])[i]? = some o) ∨ (l.length < i ∧ (l ++ [idle o])[i]? = none ∧ (l ++ [o])[i]? = none) := by
 rcases Nat.lt_trichotomy i l.length with h | h | h
 ·exact .inl ⟨h, List.getElem?_append_left h, List.getElem?_append_left h⟩
 ·subst h
  exact .inr (.inl ⟨rfl, by simp, by simp⟩)
 ·exact .inr (.inr ⟨h, by simp; omega, by simp; omega⟩)
theorem ready_idle (l : List Oper) (o : Oper) (listed : Array Bool) : Region.ready .any (l ++ [idle o]).toArray listed = Region.ready .any (l ++ [o]).toArray listed := by
 unfold Region.ready
 have hs : (l ++ [idle o]).toArray.size = (l ++ [o]).toArray.size := by simp
 rw [hs]
 refine List.filter_congr fun i _ => ?_
 rw [List.getElem?_toArray, List.getElem?_toArray]
 rcases idle_at l o i with ⟨-, h1, h2⟩ | ⟨-, h1, h2⟩ | ⟨-, h1, h2⟩ <;> rw [h1, h2] <;> rfl
theorem yielded_idle (l : List Oper) (o : Oper) (t : Array Value) : yielded (l ++ [idle o]).toArray t = yielded (l ++ [o]).toArray t := by
 funext j
 unfold yielded
 rw [List.getElem?_toArray, List.getElem?_toArray]
 rcases idle_at l o j with ⟨-, h1, h2⟩ | ⟨-, h1, h2⟩ | ⟨-, h1, h2⟩ <;> rw [h1, h2] <;> rfl
theorem mem_ready {ops : Array Oper} {listed : Array Bool} {i : Nat} : i ∈ Region.ready .any ops listed ↔ i < ops.size ∧ listed.getD i true = false ∧ ((ops[i]?).map (·.after.all fun e => !Region.binds .any e || listed.getD e.on false)).getD false = true := by
 unfold Region.ready
 rw [List.mem_filter, List.mem_range, Bool.and_eq_true, Bool.not_eq_true']
theorem ready_some {l : List Oper} {o : Oper} (hL : lastOk l o = true) {listed : Array Bool} (hs : listed.size = l.length + 1) : ∀ (k : Nat), k ≤ l.length → listed.getD k true = false → Region.ready .any (l ++ [o]).toArray listed ≠ [] := by
 intro k
 induction k using Nat.strongRecOn with
 | ind k ih =>
  intro hk hf
  by_cases h : ∃ j, j < k ∧ listed.getD j true = false
  ·obtain ⟨j, h1, h2⟩ := h
   exact ih j h1 (by omega) h2
  ·intro hn
   have : k ∈ Region.ready .any (l ++ [o]).toArray listed := by
    rw [mem_ready]
    refine ⟨by simp; omega, hf, ?_⟩
    unfold lastOk at hL
    rw [Bool.and_eq_true, List.all_eq_true, List.all_eq_true] at hL
    have q := hL.2 k (List.mem_range.2 (by omega))
    rw [List.getElem?_toArray]
    obtain ⟨x, hx⟩ : ∃ x, (l ++ [o])[k]? = some x := ⟨_, List.getElem?_eq_getElem (by simp; omega)⟩
    rw [hx] at q ⊢
    simp only [Option.map_some, Option.getD_some] at q ⊢
    rw [Array.all_eq_true'] at q ⊢
    intro e he
    have q' := q e he
    rw [Bool.or_eq_true] at q' ⊢
    rcases q' with q' | q'
    ·exact .inl q'
    ·refine .inr ?_
     rw [decide_eq_true_eq] at q'
     have hj : ¬ listed.getD e.on true = false := fun hh => h ⟨e.on, q', hh⟩
     have hlt : e.on < listed.size := by omega
     simp only [Array.getD, hlt, dif_pos] at hj ⊢
     simpa using hj
   rw [hn] at this
   cases this
theorem ready_last {l : List Oper} {o : Oper} (hL : lastOk l o = true) {listed : Array Bool} (hs : listed.size = l.length + 1) (h : l.length ∈ Region.ready .any (l ++ [o]).toArray listed) : Region.ready .any (l ++ [o]).toArray (listed.setIfInBounds l.length true) = [] := by
 rw [mem_ready] at h
 obtain ⟨-, -, h⟩ := h
 have e : (l ++ [o]).toArray[l.length]? = some o := by rw [List.getElem?_toArray]; simp
 rw [e] at h
 simp only [Option.map_some, Option.getD_some] at h
 rw [Array.all_eq_true'] at h
 unfold lastOk at hL
 rw [Bool.and_eq_true, List.all_eq_true] at hL
 refine List.eq_nil_iff_forall_not_mem.2 fun i hi => ?_
 rw [mem_ready] at hi
 obtain ⟨h1, h2, -⟩ := hi
 simp at h1
 by_cases hil : i = l.length
 ·subst hil
  have : l.length < listed.size := by omega
  simp [Array.getD, this] at h2
 ·have q := hL.1 i (List.mem_range.2 (by omega))
  rw [Array.any_eq_true'] at q
  obtain ⟨x, hx, q⟩ := q
  rw [Bool.and_eq_true, beq_iff_eq] at q
  have := h x hx
  rw [q.1, q.2] at this
  have hlt : i < listed.size := by omega
  simp [Array.getD, hlt] at this
  simp [Array.getD, hlt, Array.getElem_setIfInBounds, Ne.symm hil, this] at h2
theorem any_done {P : Program} {ops : Array Oper} {Q : Exit → Act → World → Prop} {listed : Array Bool} (hr : Region.ready .any ops listed = []) {a : Act} {w : World} (h : Q .normal a w) : ∀ fuel, wpAny P .any ops Q fuel listed a w
 | 0 => ⟨hr, h⟩
 | _ + 1 => ⟨fun _ => h, by rw [hr]; simp⟩
theorem last_conv {P : Program} {Q : Exit → Act → World → Prop} {C : World → Prop} {Qa : Act → Prop} {l : List Oper} {o : Oper} (hL : lastOk l o = true) (hg : o.guard = none) (hd : o.dst = none) {A : Array Oper} (hQ : ∀ a w, C w → Qa a → wpList P A Q [o] a w) :
  ∀ (fuel : Nat) (listed : Array Bool) (a : Act) (w : World), listed.size = l.length + 1 → listed.getD l.length true = false → C w → wpAnyQ P .any (l ++ [idle o]).toArray C Qa fuel listed a → wpAny P .any (l ++ [o]).toArray Q fuel listed a w
 | 0, listed, a, w, hs, hf, hC, h => absurd ((ready_idle l o listed) ▸ h.1) (ready_some hL hs l.length (Nat.le_refl _) hf)
 | fuel + 1, listed, a, w, hs, hf, hC, h => by
  refine ⟨fun h0 => absurd h0 (ready_some hL hs l.length (Nat.le_refl _) hf), fun i hi => ?_⟩
  have hq := h.2 i ((ready_idle l o listed).symm ▸ hi)
  have hlt := (mem_ready.1 hi).1
  simp at hlt
  by_cases hil : i = l.length
  ·subst hil
   have hr := ready_last hL hs hi
   have e' : (l ++ [idle o]).toArray[l.length]? = some (idle o) := by rw [List.getElem?_toArray]; simp
   have e : (l ++ [o]).toArray[l.length]? = some o := by rw [List.getElem?_toArray]; simp
   unfold qOp at hq
   simp only [e'] at hq
   have hw : ∀ t, Region.wanted (idle o) t = true := fun t => by simp [Region.wanted, idle, hg]
   have hw' : ∀ t, Region.wanted o t = true := fun t => by simp [Region.wanted, hg]
   rw [if_pos (hw _)] at hq
   obtain ⟨v, -, hq⟩ := hq
   have ep : a.put (idle o).dst v = a := by show a.put o.dst v = a; rw [hd]; rfl
   rw [ep] at hq
   have ha : Qa a := by
    cases fuel with
    | zero => exact hq.2
    | succ n => exact hq.1 (by rw [ready_idle]; exact hr)
   unfold wpOp
   simp only [e]
   rw [if_pos (hw' _)]
   have hh := hQ a w hC ha
   unfold wpList at hh
   rw [if_pos (hw' _)] at hh
   exact hh.imp (Oper.wp_mono (fun a' w' hh => any_done hr hh fuel)) id
  ·have hi2 : i < l.length := by omega
   have ee : (l ++ [idle o]).toArray[i]? = (l ++ [o]).toArray[i]? := by rw [List.getElem?_toArray, List.getElem?_toArray, List.getElem?_append_left hi2, List.getElem?_append_left hi2]
   have hq' : qOp P (l ++ [o]).toArray C i (wpAnyQ P .any (l ++ [idle o]).toArray C Qa fuel (listed.setIfInBounds i true)) a := by
    unfold qOp at hq ⊢
    rw [ee, yielded_idle] at hq
    exact hq
   refine wpOp_of_qOp hC (fun a' w' hC' hk => last_conv hL hg hd hQ fuel _ a' w' (by simpa using hs) ?_ hC' hk) hq'
   have h9 : l.length < listed.size := by omega
   simp only [Array.getD, h9, dif_pos] at hf
   simp [Array.getD, h9, Array.getElem_setIfInBounds, hil]
   simpa using hf
theorem quiet_snoc {P : Program} {ops : Array Oper} {C : World → Prop} {Qa : Act → Prop} {o : Oper} (hg : o.guard = none) (hd : o.dst = none) : ∀ (l : List Oper) (a : Act), wpQuiet P ops C Qa l a → wpQuiet P ops C Qa (l ++ [idle o]) a
 | [], a, h => by
  have hw : Region.wanted (idle o) (yielded ops a.tmps) = true := by simp [Region.wanted, idle, hg]
  refine BigFrame.wpQuiet_want hw fun K hK => ?_
  refine BigFrame.quiet_assign (.const (.bool false)) rfl ?_
  refine hK _ ?_
  show Qa (a.put o.dst _)
  rw [hd]
  exact h
 | x :: r, a, h => by
  unfold wpQuiet at h
  show wpQuiet P ops C Qa (x :: (r ++ [idle o])) a
  unfold wpQuiet
  split
  ·rename_i hw
   rw [if_pos hw] at h
   exact Oper.quiet_mono (fun a' => quiet_snoc hg hd r a') h
  ·rename_i hw
   rw [if_neg hw] at h
   exact quiet_snoc hg hd r _ h
theorem regionLast {P : Program} {id : Nat} {Q : Exit → Act → World → Prop} {a : Act} (W : World) {full : List Oper} (o : Oper) (hf : full.getLast? = some o) (hm : P.follows .mixedOrders = true) (hB : Region.lexB .any (full.dropLast ++ [idle o]).toArray = true) (hL : lastOk full.dropLast o = true) (hg : o.guard = none) (hd : o.dst = none)
  (h : wpQuiet P (full.dropLast ++ [idle o]).toArray (fun w' => ∃ x : Ext W, w' = x.w) (fun a' => ∀ w', (∃ x : Ext W, w' = x.w) → wpList P full.toArray Q [o] a' w') full.dropLast a) : (Code.region id full.toArray true).wp P Q a W := by
 have hfull : full = full.dropLast ++ [o] := by
  have hne : full ≠ [] := fun e => by rw [e] at hf; cases hf
  rw [List.getLast?_eq_some_getLast hne] at hf
  injection hf with hf
  rw [← hf]
  exact (List.dropLast_concat_getLast hne).symm
 have hq := quiet_snoc hg hd _ _ h
 simp only [Region.lexB, Bool.and_eq_true] at hB
 have h2 := wpAnyQ_lex (md := .any) hB.1 (full.dropLast ++ [idle o]) 0 (Array.replicate (full.dropLast ++ [idle o]).toArray.size false) a (by simp) (by simpa using hB.2) hq
 have hgoal : (Code.region id (full.dropLast ++ [o]).toArray true).wp P Q a W → (Code.region id full.toArray true).wp P Q a W := fun hh => by rw [← hfull] at hh; exact hh
 refine hgoal ?_
 refine wp_region_any hm ?_
 have hn : (full.dropLast ++ [o]).toArray.size = full.dropLast.length + 1 := by simp
 rw [hn]
 refine last_conv (C := fun w' => ∃ x : Ext W, w' = x.w) (Qa := fun a' => ∀ w', (∃ x : Ext W, w' = x.w) → wpList P full.toArray Q [o] a' w') hL hg hd (fun a' w' hC hh => hh w' hC) _ _ _ _ (by simp) ?_ ⟨⟨{ W with drawn := W.drawn + 1 }, ⟨rfl, rfl, rfl, Nat.le_refl _, fun _ _ => rfl⟩⟩, rfl⟩ ?_
 ·simp [Array.getD]
 ·have e2 : (full.dropLast ++ [idle o]).toArray.size = full.dropLast.length + 1 := by simp
  rw [e2] at h2
  simpa using h2
end Go.Proofs.YteefnjngcnebpaaGreat
