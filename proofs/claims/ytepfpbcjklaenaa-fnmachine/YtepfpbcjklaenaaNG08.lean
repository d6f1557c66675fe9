/- A region that draws its order, whose first operations only read and whose others come one behind the other: one walk of the first ones, in the order of the text, and then the others. No condition. A region that draws its order: first operations that only read, as long as the world stays in a class; then such as keep the class, one behind the other; then such as wait for all that was read. One walk, in the order of the text. No condition. A region that draws its order, in which the last operation alone writes and waits for all others: one walk of these, in the order of the text, and then that one. No condition. A step keeps a machine right: views and memories. No condition. Cores copied by the program and by the specification. Conditions: their rows of at most 1048576. -/
import Derived.Test.YtepfpbcjklaenaaNG00
import Derived.OrdersHeld
import Derived.Test.YtepfpbcjklaenaaNG01
import Derived.Test.YtepfpbcjklaenaaNG02
import Derived.Test.YtepfpbcjklaenaaNMemStore
import Derived.Test.YtepfpbcjklaenaaNKOkB
import Derived.Test.YtepfpbcjklaenaaNG03
import Derived.Test.YtepfpbcjklaenaaNG06
namespace Go.Proofs.Ytepfpbcjklaenaa
section
set_option linter.unusedSimpArgs false
set_option linter.unusedVariables false
set_option maxRecDepth 100000
open Go.RowKit
def edgeB (full : List Oper) (i' i : Nat) : Bool := (full[i']?.map fun x => x.after.any fun e => Region.binds .any e && e.on == i).getD false
def lexE (full : List Oper) : Bool := (List.range full.length).all fun i => (full[i]?.map fun x => x.after.all fun e => !Region.binds .any e || decide (e.on < i)).getD true
/- whatever is ahead of number j is listed when j may come up -/
def covB (full : List Oper) (j : Nat) : Bool := (List.range j).all fun i => (List.range (j + 1)).any fun i' => decide (i < i') && edgeB full i' i
def sufOk (full : List Oper) (k : Nat) : Bool := lexE full && ((List.range full.length).all fun j => decide (j < k) || covB full j)
theorem edge_iff {full : List Oper} {i' i : Nat} : edgeB full i' i = true ↔ ∃ x, full[i']? = some x ∧ ∃ e ∈ x.after, Region.binds .any e = true ∧ e.on = i := by
 unfold edgeB
 cases h : full[i']? with
 | none => simp
 | some x =>
  simp only [Option.map_some, Option.getD_some, Array.any_eq_true', Bool.and_eq_true, beq_iff_eq]
  constructor
  ·rintro ⟨e, h1, h2, h3⟩; exact ⟨x, rfl, e, h1, h2, h3⟩
  ·rintro ⟨y, hy, e, h1, h2, h3⟩; injection hy with hy; subst hy; exact ⟨e, h1, h2, h3⟩
theorem mem_rdy {full : List Oper} {listed : Array Bool} {i : Nat} : i ∈ Region.ready .any full.toArray listed ↔ i < full.length ∧ listed.getD i true = false ∧ ∀ i2, edgeB full i i2 = true → listed.getD i2 false = true := by
 unfold Region.ready
 rw [List.mem_filter, List.mem_range, Bool.and_eq_true, Bool.not_eq_true', List.size_toArray, List.getElem?_toArray]
 refine and_congr_right fun hi => and_congr_right fun _ => ?_
 rw [List.getElem?_eq_getElem hi]
 simp only [Option.map_some, Option.getD_some, Array.all_eq_true', Bool.or_eq_true, Bool.not_eq_true']
 constructor
 ·intro h i2 h2
  rw [edge_iff] at h2
  obtain ⟨x, hx, e, he, hb, rfl⟩ := h2
  rw [List.getElem?_eq_getElem hi] at hx
  injection hx with hx
  subst hx
  rcases h e he with h | h
  ·rw [hb] at h; cases h
  ·exact h
 ·intro h e he
  cases hb : Region.binds .any e with
  | false => exact .inl rfl
  | true => exact .inr (h e.on (edge_iff.2 ⟨_, List.getElem?_eq_getElem hi, e, he, hb, rfl⟩))
/- what is listed was waited for -/
def Down (full : List Oper) (listed : Array Bool) : Prop := ∀ i i2, i < full.length → listed.getD i true = true → edgeB full i i2 = true → listed.getD i2 false = true
theorem lex_lt {full : List Oper} (h : lexE full = true) {i i2 : Nat} (he : edgeB full i i2 = true) : i2 < i ∧ i < full.length := by
 rw [edge_iff] at he
 obtain ⟨x, hx, e, hm, hb, rfl⟩ := he
 have hi := (List.getElem?_eq_some_iff.1 hx).1
 unfold lexE at h
 rw [List.all_eq_true] at h
 have q := h i (List.mem_range.2 hi)
 rw [hx] at q
 simp only [Option.map_some, Option.getD_some, Array.all_eq_true', Bool.or_eq_true, Bool.not_eq_true'] at q
 rcases q e hm with q | q
 ·rw [hb] at q; cases q
 ·exact ⟨by simpa using q, hi⟩
theorem getD_in {listed : Array Bool} {i : Nat} (h : i < listed.size) (b c : Bool) : listed.getD i b = listed.getD i c := by simp [Array.getD, h]
theorem down_set {full : List Oper} {listed : Array Bool} (hs : listed.size = full.length) (hd : Down full listed) (hx : lexE full = true) {k : Nat} (hk : k ∈ Region.ready .any full.toArray listed) : Down full (listed.setIfInBounds k true) := fun i i2 hi hl he => by
 have h2 := lex_lt hx he
 have q : listed.getD i2 false = true := by
  by_cases e : i = k
  ·subst e
   exact (mem_rdy.1 hk).2.2 i2 he
  ·refine hd i i2 hi ?_ he
   have : i < listed.size := by omega
   simpa [Array.getD, this, Array.getElem_setIfInBounds, Ne.symm e] using hl
 have : i2 < listed.size := by omega
 by_cases e : k = i2
 ·subst e; simp [Array.getD, this]
 ·simp only [Array.getD, this, dif_pos] at q
  simp [Array.getD, this, Array.getElem_setIfInBounds, e]
  exact q
theorem cov_all {full : List Oper} {listed : Array Bool} (hs : listed.size = full.length) (hd : Down full listed) {j : Nat} (hj : j < full.length) (hc : covB full j = true) (hr : ∀ i2, edgeB full j i2 = true → listed.getD i2 false = true) : ∀ n i, j - i ≤ n → i < j → listed.getD i false = true := by
 intro n
 induction n with
 | zero => intro i h1 h2; omega
 | succ n ih =>
  intro i h1 h2
  unfold covB at hc
  rw [List.all_eq_true] at hc
  have q := hc i (List.mem_range.2 h2)
  rw [List.any_eq_true] at q
  obtain ⟨i', hm, q⟩ := q
  rw [List.mem_range] at hm
  rw [Bool.and_eq_true, decide_eq_true_eq] at q
  by_cases e : i' = j
  ·subst e; exact hr i q.2
  ·have := ih i' (by omega) (by omega)
   exact hd i' i (by omega) (by rw [getD_in (by omega) true false]; exact this) q.2
theorem rdy_some {full : List Oper} (hx : lexE full = true) {listed : Array Bool} (hs : listed.size = full.length) : ∀ (k : Nat), k < full.length → listed.getD k true = false → ∃ i, i ≤ k ∧ i ∈ Region.ready .any full.toArray listed := by
 intro k
 induction k using Nat.strongRecOn with
 | ind k ih =>
  intro hk hf
  by_cases h : ∃ j, j < k ∧ listed.getD j true = false
  ·obtain ⟨j, h1, h2⟩ := h
   obtain ⟨i, h3, h4⟩ := ih j h1 (by omega) h2
   exact ⟨i, by omega, h4⟩
  ·refine ⟨k, Nat.le_refl _, mem_rdy.2 ⟨hk, hf, fun i2 he => ?_⟩⟩
   have h2 := lex_lt hx he
   have hn : ¬ listed.getD i2 true = false := fun hh => h ⟨i2, h2.1, hh⟩
   rw [getD_in (by omega) false true]
   simpa using hn
/- all below k are listed, none from k on -/
def Upto (n : Nat) (listed : Array Bool) (k : Nat) : Prop := listed.size = n ∧ (∀ i, i < k → i < n → listed.getD i true = true) ∧ ∀ i, k ≤ i → i < n → listed.getD i true = false
theorem Upto.next {n k : Nat} {listed : Array Bool} (h : Upto n listed k) (hk : k < n) : Upto n (listed.setIfInBounds k true) (k + 1) := by
 obtain ⟨h1, h2, h3⟩ := h
 refine ⟨by simpa using h1, fun i a b => ?_, fun i a b => ?_⟩
 ·have hi : i < listed.size := by omega
  by_cases e : k = i
  ·subst e; simp [Array.getD, hi]
  ·have q := h2 i (by omega) b
   simp only [Array.getD, hi, dif_pos] at q
   simp [Array.getD, hi, Array.getElem_setIfInBounds, e]
   exact q
 ·have hi : i < listed.size := by omega
  have q := h3 i (by omega) b
  simp only [Array.getD, hi, dif_pos] at q
  simp [Array.getD, hi, Array.getElem_setIfInBounds, show ¬ k = i by omega]
  exact q
theorem forced {P : Program} {Q : Exit → Act → World → Prop} {full : List Oper} (hx : lexE full = true) : ∀ (t : List Oper) (k : Nat) (listed : Array Bool) (a : Act) (w : World), full.drop k = t → (∀ j, k ≤ j → j < full.length → covB full j = true) → Down full listed → Upto full.length listed k → wpList P full.toArray Q t a w → wpAny P .any full.toArray Q t.length listed a w
 | [], k, listed, a, w, ht, hc, hd, hu, h => by
  have hk : full.length ≤ k := List.drop_eq_nil_iff.1 ht
  refine ⟨List.eq_nil_iff_forall_not_mem.2 fun i hi => ?_, h⟩
  obtain ⟨h1, h2, -⟩ := mem_rdy.1 hi
  rw [hu.2.1 i (by omega) h1] at h2
  cases h2
 | o :: t, k, listed, a, w, ht, hc, hd, hu, h => by
  have hk : k < full.length := by
   rcases Nat.lt_or_ge k full.length with q | q
   ·exact q
   ·rw [List.drop_eq_nil_of_le q] at ht; cases ht
  have ho : full[k]? = some o := by
   have : (full.drop k)[0]? = some o := by rw [ht]; rfl
   rw [List.getElem?_drop] at this
   simpa using this
  have hall : ∀ i, i ∈ Region.ready .any full.toArray listed → i = k := fun i hi => by
   obtain ⟨h1, h2, h3⟩ := mem_rdy.1 hi
   rcases Nat.lt_trichotomy i k with q | q | q
   ·rw [hu.2.1 i q h1] at h2; cases h2
   ·exact q
   ·have c := cov_all hu.1 hd h1 (hc i (by omega) h1) h3 i k (by omega) q
    have c2 := hu.2.2 k (Nat.le_refl _) hk
    rw [getD_in (by have := hu.1; omega) true false, c] at c2
    cases c2
  refine ⟨fun h0 => ?_, fun i hi => ?_⟩
  ·obtain ⟨i, -, hi⟩ := rdy_some hx hu.1 k hk (hu.2.2 k (Nat.le_refl _) hk)
   rw [h0] at hi
   cases hi
  ·have e := hall i hi
   subst e
   unfold wpList at h
   unfold wpOp
   have ho2 : full.toArray[i]? = some o := by rw [List.getElem?_toArray]; exact ho
   have hd2 := down_set hu.1 hd hx hi
   have go : ∀ a' w', wpList P full.toArray Q t a' w' → wpAny P .any full.toArray Q t.length (listed.setIfInBounds i true) a' w' := fun a' w' hh => forced hx t (i + 1) _ a' w' (by rw [← List.drop_drop, ht]; rfl) (fun j a b => hc j (by omega) b) hd2 (hu.next hk) hh
   simp only [ho2]
   split
   ·rename_i hw
    rw [if_pos hw] at h
    exact h.imp (Oper.wp_mono go) id
   ·rename_i hw
    rw [if_neg hw] at h
    exact go _ _ h
theorem take_at {full : List Oper} {k i : Nat} (h : i < k) : (full.take k)[i]? = full[i]? := by rw [List.getElem?_take]; simp [h]
theorem edge_take {full : List Oper} {k i i2 : Nat} (h : i < k) : edgeB (full.take k) i i2 = edgeB full i i2 := by unfold edgeB; rw [take_at h]
/- the first k in whatever order, then the others -/
theorem suf_conv {P : Program} {Q : Exit → Act → World → Prop} {C : World → Prop} {Qa : Act → Prop} {full : List Oper} {k : Nat} (hk : k < full.length) (hx : lexE full = true) (hc : ∀ j, k ≤ j → j < full.length → covB full j = true) (hy : ∀ i x, i < k → full[i]? = some x → ∀ t : Array Value, Region.wanted x (yielded (full.take k).toArray t) = Region.wanted x (yielded full.toArray t))
  (hQ : ∀ a w, C w → Qa a → wpList P full.toArray Q (full.drop k) a w) :
  ∀ (fuel : Nat) (l1 listed : Array Bool) (a : Act) (w : World), listed.size = full.length → l1.size = k → (∀ i, i < k → l1.getD i true = listed.getD i true) → (∀ i, k ≤ i → i < full.length → listed.getD i true = false) → Down full listed → C w → wpAnyQ P .any (full.take k).toArray C Qa fuel l1 a → wpAny P .any full.toArray Q (fuel + (full.length - k)) listed a w := by
 have hl : (full.take k).length = k := by rw [List.length_take]; omega
 have hx1 : lexE (full.take k) = true := by
  unfold lexE at hx ⊢
  rw [List.all_eq_true] at hx ⊢
  intro i hi
  rw [List.mem_range, hl] at hi
  rw [take_at hi]
  exact hx i (List.mem_range.2 (by omega))
 have fin : ∀ (fuel : Nat) (l1 listed : Array Bool) (a : Act) (w : World), listed.size = full.length → l1.size = k → (∀ i, i < k → l1.getD i true = listed.getD i true) → (∀ i, k ≤ i → i < full.length → listed.getD i true = false) → Down full listed → Region.ready .any (full.take k).toArray l1 = [] → wpList P full.toArray Q (full.drop k) a w → wpAny P .any full.toArray Q (fuel + (full.length - k)) listed a w := by
  intro fuel l1 listed a w hs h1 hsame hun hd h0 hw
  have hup : Upto full.length listed k := by
   refine ⟨hs, fun i a1 a2 => ?_, hun⟩
   rw [← hsame i a1]
   cases hb : l1.getD i true with
   | true => rfl
   | false =>
    obtain ⟨i', -, hi'⟩ := rdy_some hx1 (by omega) i (by omega) hb
    rw [h0] at hi'
    cases hi'
  have q := forced (P := P) (Q := Q) hx (full.drop k) k listed a w rfl hc hd hup hw
  have mono : ∀ (n : Nat) (f : Nat) (l : Array Bool) (a : Act) (w : World), wpAny P .any full.toArray Q f l a w → wpAny P .any full.toArray Q (n + f) l a w := by
   intro n f
   induction f with
   | zero =>
    intro l a w h
    cases n with
    | zero => exact h
    | succ n => exact ⟨fun _ => h.2, by rw [h.1]; simp⟩
   | succ f ih => intro l a w h; exact ⟨h.1, fun i hi => wpOp_mono (fun a' w' hh => ih _ a' w' hh) (h.2 i hi)⟩
  have e : (full.drop k).length = full.length - k := List.length_drop
  rw [e] at q
  exact mono fuel _ _ _ _ q
 intro fuel
 induction fuel with
 | zero =>
  intro l1 listed a w hs h1 hsame hun hd hC h
  exact fin 0 l1 listed a w hs h1 hsame hun hd h.1 (hQ a w hC h.2)
 | succ fuel ih =>
  intro l1 listed a w hs h1 hsame hun hd hC h
  by_cases h0 : Region.ready .any (full.take k).toArray l1 = []
  ·exact fin (fuel + 1) l1 listed a w hs h1 hsame hun hd h0 (hQ a w hC (h.1 h0))
  ·rw [show fuel + 1 + (full.length - k) = (fuel + (full.length - k)) + 1 by omega]
   have hlt : ∀ i, i ∈ Region.ready .any full.toArray listed → i < k := fun i hi => by
    rcases Nat.lt_or_ge i k with q | q
    ·exact q
    ·exfalso
     obtain ⟨a1, a2, a3⟩ := mem_rdy.1 hi
     apply h0
     refine List.eq_nil_iff_forall_not_mem.2 fun j hj => ?_
     obtain ⟨b1, b2, -⟩ := mem_rdy.1 hj
     rw [hl] at b1
     have c := cov_all hs hd a1 (hc i q a1) a3 i j (by omega) (by omega)
     rw [hsame j b1, getD_in (by omega) true false, c] at b2
     cases b2
   refine ⟨fun hn => ?_, fun i hi => ?_⟩
   ·obtain ⟨i, -, hi⟩ := rdy_some hx hs k hk (hun k (Nat.le_refl _) hk)
    rw [hn] at hi
    cases hi
   ·have hik := hlt i hi
    obtain ⟨a1, a2, a3⟩ := mem_rdy.1 hi
    have hi1 : i ∈ Region.ready .any (full.take k).toArray l1 := by
     refine mem_rdy.2 ⟨by omega, by rw [hsame i hik]; exact a2, fun i2 he => ?_⟩
     rw [edge_take hik] at he
     have := (lex_lt hx he).1
     rw [getD_in (by omega) false true, hsame i2 (by omega), getD_in (by omega) true false]
     exact a3 i2 he
    have hq := h.2 i hi1
    obtain ⟨o, ho⟩ : ∃ o, full[i]? = some o := ⟨_, List.getElem?_eq_getElem a1⟩
    have hq' : qOp P full.toArray C i (wpAnyQ P .any (full.take k).toArray C Qa fuel (l1.setIfInBounds i true)) a := by
     unfold qOp at hq ⊢
     rw [List.getElem?_toArray] at hq ⊢
     rw [take_at hik, ho] at hq
     rw [ho]
     simp only at hq ⊢
     rw [hy i o hik ho] at hq
     exact hq
    refine wpOp_of_qOp hC (fun a' w' hC' hk' => ih _ _ a' w' (by simpa using hs) (by simpa using h1) (fun j hj => ?_) (fun j b1 b2 => ?_) (down_set hs hd hx hi) hC' hk') hq'
    ·have j1 : j < l1.size := by omega
     have j2 : j < listed.size := by omega
     have q := hsame j hj
     simp only [Array.getD, j1, j2, dif_pos] at q
     by_cases e : i = j
     ·subst e; simp [Array.getD, j1, j2]
     ·simp [Array.getD, j1, j2, Array.getElem_setIfInBounds, e]
      exact q
    ·have j2 : j < listed.size := by omega
     have q := hun j b1 b2
     simp only [Array.getD, j2, dif_pos] at q
     simp [Array.getD, j2, Array.getElem_setIfInBounds, show ¬ i = j by omega]
     exact q
/- no guard among the first k looks beyond them -/
def grdB (full : List Oper) (k : Nat) : Bool := (full.take k).all fun x => match x.guard with | some (g, _) => decide (g < k) | none => true
theorem regionSuf {P : Program} {id : Nat} {Q : Exit → Act → World → Prop} {a : Act} (W : World) {full : List Oper} (k : Nat) (hk : decide (k < full.length) = true) (hm : P.follows .mixedOrders = true) (hB : Region.lexB .any (full.take k).toArray = true) (hS : sufOk full k = true) (hG : grdB full k = true)
  (h : wpQuiet P (full.take k).toArray (fun w' => ∃ x : Ext W, w' = x.w) (fun a' => ∀ w', (∃ x : Ext W, w' = x.w) → wpList P full.toArray Q (full.drop k) a' w') (full.take k) a) : (Code.region id full.toArray true).wp P Q a W := by
 rw [decide_eq_true_eq] at hk
 unfold sufOk at hS
 rw [Bool.and_eq_true, List.all_eq_true] at hS
 obtain ⟨hx, hc⟩ := hS
 have hc' : ∀ j, k ≤ j → j < full.length → covB full j = true := fun j a1 a2 => by
  have q := hc j (List.mem_range.2 a2)
  rw [Bool.or_eq_true, decide_eq_true_eq] at q
  rcases q with q | q
  ·omega
  ·exact q
 have hl : (full.take k).length = k := by rw [List.length_take]; omega
 simp only [Region.lexB, Bool.and_eq_true] at hB
 have h2 := wpAnyQ_lex (md := .any) hB.1 (full.take k) 0 (Array.replicate (full.take k).toArray.size false) a (by simp) (by simpa using hB.2) h
 refine wp_region_any hm ?_
 have hy : ∀ i x, i < k → full[i]? = some x → ∀ t : Array Value, Region.wanted x (yielded (full.take k).toArray t) = Region.wanted x (yielded full.toArray t) := fun i x hi hx' t => by
  unfold grdB at hG
  rw [List.all_eq_true] at hG
  have q := hG x (List.mem_of_getElem? (by rw [take_at hi]; exact hx'))
  unfold Region.wanted
  cases hg : x.guard with
  | none => rfl
  | some y =>
   rw [hg] at q
   simp only [decide_eq_true_eq] at q
   have e : yielded (full.take k).toArray t y.1 = yielded full.toArray t y.1 := by
    unfold yielded
    rw [List.getElem?_toArray, List.getElem?_toArray, take_at q]
   simp only [e]
 have q := suf_conv (P := P) (Q := Q) (C := fun w' => ∃ x : Ext W, w' = x.w) (Qa := fun a' => ∀ w', (∃ x : Ext W, w' = x.w) → wpList P full.toArray Q (full.drop k) a' w') hk hx hc' hy (fun a' w' hC hh => hh w' hC) k (Array.replicate k false) (Array.replicate full.length false) a { W with drawn := W.drawn + 1 } (by simp) (by simp) (fun i hi => by simp [Array.getD, hi, show i < full.length by omega]) (fun i _ hi => by simp [Array.getD, hi]) (fun i i2 hi hl => by simp [Array.getD, hi] at hl) ⟨⟨{ W with drawn := W.drawn + 1 }, ⟨rfl, rfl, rfl, Nat.le_refl _, fun _ _ => rfl⟩⟩, rfl⟩ (by simp only [List.size_toArray, hl] at h2; exact h2)
 have e : k + (full.length - k) = full.toArray.size := by simp; omega
 rw [e] at q
 simpa using q
end
section
set_option linter.unusedSimpArgs false
set_option linter.unusedVariables false
set_option maxRecDepth 100000
open Go.RowKit
section
variable {P : Program} {full : List Oper} {Q : Exit → Act → World → Prop} {C : World → Prop} {m : Nat}
/- whatever order is picked; behind one of the first m the world is of the class -/
def wpAnyU (P : Program) (full : List Oper) (Q : Exit → Act → World → Prop) (C : World → Prop) (m : Nat) : Nat → Array Bool → Act → World → Prop
 | 0, listed, a, w => Region.ready .any full.toArray listed = [] ∧ Q .normal a w
 | fuel + 1, listed, a, w => (Region.ready .any full.toArray listed = [] → Q .normal a w) ∧ ∀ i ∈ Region.ready .any full.toArray listed, wpOp P full.toArray Q i (fun a' w' => (i < m → C w → C w') ∧ wpAnyU P full Q C m fuel (listed.setIfInBounds i true) a' w') a w
theorem any_of_U : ∀ (fuel : Nat) (listed : Array Bool) (a : Act) (w : World), wpAnyU P full Q C m fuel listed a w → wpAny P .any full.toArray Q fuel listed a w
 | 0, _, _, _, h => h
 | fuel + 1, _, _, _, h => ⟨h.1, fun i hi => wpOp_mono (fun a' w' h' => any_of_U fuel _ a' w' h'.2) (h.2 i hi)⟩
theorem U_first {T : World → Prop} {i : Nat} {oi : Oper} {v : Value} (hi : full[i]? = some oi) (hsel : Region.noSelect full.toArray = true) (hQ : ∀ c a w, Q (.panic c) (a.put oi.dst v) w → Q (.panic c) a w) (hT : ∀ j, j < full.length → j ≠ i → edgeB full j i = false → ∀ w w', (j < m → C w → C w') → T w → T w') :
  ∀ (fuel : Nat) (listed : Array Bool) (a : Act) (w : World), (∀ j oj, full[j]? = some oj → j ≠ i → listed.getD j true = false → edgeB full j i = false → oi.apart full.toArray oj = true) → i ∈ Region.ready .any full.toArray listed → i < listed.size → YieldsIf P full.toArray T oi v a → T w →
   wpAnyU P full Q C m fuel (listed.setIfInBounds i true) (a.put oi.dst v) w → wpAnyU P full Q C m (fuel + 1) listed a w := by
 have hi' : full.toArray[i]? = some oi := by rw [List.getElem?_toArray]; exact hi
 have sl := Region.noSelect_spec hsel
 intro fuel
 induction fuel with
 | zero =>
  intro listed a w _ hr _ hy hw H
  refine ⟨fun h => (by rw [h] at hr; cases hr), fun j hj => ?_⟩
  by_cases e : j = i
  ·subst e; exact hy.wpOp hi' hw ⟨fun _ hc => hc, H⟩
  ·have q := ready_mono hj e
   rw [H.1] at q
   cases q
 | succ n ih =>
  intro listed a w hf hr hsz hy hw H
  refine ⟨fun h => (by rw [h] at hr; cases hr), fun j hj => ?_⟩
  by_cases e : j = i
  ·subst e; exact hy.wpOp hi' hw ⟨fun _ hc => hc, H⟩
  ·have h1 := H.2 j (ready_mono hj e)
   obtain ⟨b1, b2, b3⟩ := mem_rdy.1 hj
   obtain ⟨oj, hoj⟩ : ∃ o, full[j]? = some o := ⟨_, List.getElem?_eq_getElem b1⟩
   have hno : edgeB full j i = false := by
    cases hh : edgeB full j i with
    | false => rfl
    | true =>
     have q := b3 i hh
     have q2 := (mem_rdy.1 hr).2.1
     rw [getD_in hsz true false, q] at q2
     cases q2
   have hoj' : full.toArray[j]? = some oj := by rw [List.getElem?_toArray]; exact hoj
   have h2 := wpOp_putIf hoj' (hf j oj hoj e b2 hno) (fun cs b => sl i oi cs b hi') (fun cs b => sl j oj cs b hoj') hQ hy h1
   refine wpOp_mono (fun a' w' h3 => ⟨h3.2.1, ih (listed.setIfInBounds j true) a' w' (fun k ok hk hki hun hn => hf k ok hk hki ?_ hn) (ready_mono hr (Ne.symm e)) (by simpa using hsz) h3.1 (hT j b1 e hno w w' h3.2.1 hw) ?_⟩) h2
   ·by_cases hjk : j = k
    ·subst hjk; exact b2
    ·rw [getD_set_ne true hjk] at hun; exact hun
   ·rw [Array.setIfInBounds_comm _ _ e]
    exact h3.2.2
/- the operations whose result is a value -/
def isVal (o : Oper) : Bool := match o.op with | .load .. | .fieldAddr .. | .indexAddr .. | .move _ | .assign _ | .nilCheck _ | .binOp .. | .unOp .. | .build .. | .extract .. => true | _ => false
theorem val_run {ρ : Operand → Value} {o : Oper} {w w' : World} {n : Next} (hv : isVal o = true) (h : (execOp ρ o).run P w = .ok n w') : ∃ u, n = .value u := by
 have vv : ∀ (s : Sem Value), (do pure (Next.value (← s)) : Sem Next).run P w = .ok n w' → ∃ u, n = .value u := fun s hs => by
  rw [Sem.run_bind] at hs
  cases hr : s.run P w with
  | ok u w2 =>
   rw [hr] at hs
   simp only [Result.andThen, Sem.run_pure] at hs
   injection hs with h1 h2
   exact ⟨u, h1.symm⟩
  | halt x w2 =>
   rw [hr] at hs
   simp only [Result.andThen] at hs
   cases hs
 have bd : ∀ {α : Type} (s : Sem α) (f : α → Sem Next) (w : World), (∀ x w1, (f x).run P w1 = .ok n w' → ∃ u, n = .value u) → (s >>= f).run P w = .ok n w' → ∃ u, n = .value u := fun s f w hf hs => by
  rw [Sem.run_bind] at hs
  cases hr : s.run P w with
  | ok u w2 => rw [hr] at hs; exact hf u w2 hs
  | halt x w2 =>
   rw [hr] at hs
   simp only [Result.andThen] at hs
   cases hs
 have pr : ∀ (v : Value) (w : World), (pure (Next.value v) : Sem Next).run P w = .ok n w' → ∃ u, n = .value u := fun v w hs => by
  rw [Sem.run_pure] at hs
  injection hs with h1 h2
  exact ⟨_, h1.symm⟩
 unfold isVal at hv
 unfold execOp at h
 split at hv
 all_goals first
  | cases hv
  | skip
 all_goals (rename_i heq; rw [heq] at h; simp only at h)
 all_goals first
  | exact vv _ h
  | (rw [Sem.run_pure] at h; injection h with h1 h2; exact ⟨_, h1.symm⟩)
  | skip
 split at h
 all_goals first
  | (simp [runtimePanic] at h; done)
  | (rw [Sem.run_pure] at h; injection h with h1 h2; exact ⟨_, h1.symm⟩)
  | skip
 split at h
 ·simp [runtimePanic] at h
 ·refine bd _ _ _ (fun x w1 h1 => ?_) h
  refine bd _ _ _ (fun y w2 h2 => ?_) h1
  split at h2
  ·exact bd _ _ _ (fun z w3 h3 => pr _ _ h3) h2
  ·exact pr _ _ h2
 ·exact pr _ _ h
/- what is quiet and a value yields it in every world of the class -/
theorem val_quiet {o : Oper} {a : Act} {w : World} {v : Value} (hv : isVal o = true) (h : o.quietAt P a C w v) : (execOp a.eval o).run P w = .ok (.value v) w := by
 unfold Oper.quietAt at h
 cases hr : (execOp a.eval o).run P w with
 | ok n w' =>
  obtain ⟨u, rfl⟩ := val_run hv hr
  rw [hr] at h
  obtain ⟨rfl, rfl⟩ := h
  rfl
 | halt x w' => rw [hr] at h; cases h
theorem ext_run {o : Oper} {t : Operand} {ix : Nat} (ho : o.op = .extract t ix) (a : Act) : ((∃ v, ∀ w, (execOp a.eval o).run P w = .ok (.value v) w) ∨ ∃ s, ∀ w, (execOp a.eval o).run P w = .halt (.stuck s) w) ∧ ∀ w, ((execOp a.eval o).runT P w #[]).2 = #[] := by
 have e : execOp a.eval o = (do pure (Next.value (← Instr.extract (a.eval t) ix))) := by unfold execOp; rw [ho]
 rw [e]
 unfold Instr.extract
 split
 ·split
  ·exact ⟨.inl ⟨_, fun w => rfl⟩, fun w => rfl⟩
  ·exact ⟨.inr ⟨_, fun w => rfl⟩, fun w => rfl⟩
 ·exact ⟨.inr ⟨_, fun w => rfl⟩, fun w => rfl⟩
def up (n k : Nat) : Array Bool := ((List.range n).map fun i => decide (i < k)).toArray
theorem up_size (n k : Nat) : (up n k).size = n := by simp [up]
theorem up_at {n k i : Nat} (h : i < n) (b : Bool) : (up n k).getD i b = decide (i < k) := by simp [up, Array.getD, h]
theorem up_next {n k : Nat} (h : k < n) : (up n k).setIfInBounds k true = up n (k + 1) := by
 refine Array.ext (by simp [up]) fun i h1 h2 => ?_
 simp [up] at h1 h2
 by_cases e : k = i
 ·subst e; simp [up]
 ·simp [up, Array.getElem_setIfInBounds, e]
  omega
theorem up_zero (n : Nat) : Array.replicate n false = up n 0 := Array.ext (by simp [up]) fun i h1 h2 => by simp [up]
def barB (full : List Oper) (k : Nat) : Bool := (List.range full.length).all fun j => decide (j ≤ k) || (List.range j).any fun i => decide (k ≤ i) && edgeB full j i
def isExt (o : Oper) : Bool := o.guard.isNone && match o.op with | .extract .. => true | _ => false
def stepOkB (full : List Oper) (j : Nat) : Bool := barB full j || (((full[j]?).map isExt).getD false && Region.free .any full.toArray (up full.length j) j)
def readB (full : List Oper) (i : Nat) : Bool := ((full[i]?).map isVal).getD false && Region.free .any full.toArray (up full.length i) i
def mixOk (full : List Oper) (k m : Nat) : Bool :=
 decide (k < full.length) && (lexE full && (Region.noSelect full.toArray && ((List.range k).all (readB full) && ((List.range full.length).all (fun j => decide (j < m) || (List.range k).all fun i => edgeB full j i) && (List.range full.length).all (fun j => decide (j < k) || stepOkB full j)))))
/- another end where all went well -/
def Qn (Q : Exit → Act → World → Prop) (K : Act → World → Prop) : Exit → Act → World → Prop
 | .normal, a, w => K a w
 | e, a, w => Q e a w
def wpListC (P : Program) (ops : Array Oper) (Q : Exit → Act → World → Prop) (C : World → Prop) (m : Nat) : Nat → List Oper → Act → World → Prop
 | _, [], a, w => Q .normal a w
 | j, o :: t, a, w => wpList P ops (Qn Q fun a' w' => (j < m → C w → C w') ∧ wpListC P ops Q C m (j + 1) t a' w') [o] a w
theorem wp_monoQ {o : Oper} {a : Act} {w : World} {K K' L : Act → World → Prop} (h : ∀ a w, K a w → K' a w) (hh : o.wp P a w K (Qn Q L)) : o.wp P a w K' Q := by
 unfold Oper.wp at *
 generalize (execOp a.eval o).run P w = r at *
 cases r with
 | ok n w' =>
  cases n <;> simp only [Oper.upon] at hh ⊢ <;>
   first
    | exact h _ _ hh
    | exact Calls.mono hh (fun e w'' he => by cases e <;> first | exact h _ _ he | exact he)
    | exact Rows.mono hh (fun _ _ he => h _ _ he)
 | halt x w' => cases x <;> simp only [Oper.upon] at hh ⊢ <;> exact hh
/- from number m on: the walk as ever -/
theorem listC_late {ops : Array Oper} : ∀ (t : List Oper) (j : Nat) (a : Act) (w : World), m ≤ j → wpList P ops Q t a w → wpListC P ops Q C m j t a w
 | [], _, _, _, _, h => h
 | o :: t, j, a, w, hj, h => by
  unfold wpListC
  unfold wpList at h ⊢
  have go : ∀ a' w', wpList P ops Q t a' w' → (Qn Q fun a' w' => (j < m → C w → C w') ∧ wpListC P ops Q C m (j + 1) t a' w') .normal a' w' := fun a' w' hh => ⟨fun q => by omega, listC_late t (j + 1) a' w' (by omega) hh⟩
  split
  ·rename_i hw
   rw [if_pos hw] at h
   rcases h with h | ⟨h1, a2, w2, h2⟩
   ·refine .inl ?_
    unfold Oper.wp at *
    generalize (execOp a.eval o).run P w = r at *
    cases r with
    | ok n w' =>
     cases n <;> simp only [Oper.upon] at h ⊢ <;>
      first
       | exact go _ _ h
       | exact Calls.mono h (fun e w'' he => by cases e <;> first | exact go _ _ he | exact he)
       | exact Rows.mono h (fun _ _ he => go _ _ he)
    | halt x w' => cases x <;> simp only [Oper.upon] at h ⊢ <;> exact h
   ·exact .inr ⟨h1, a2, w2, h2⟩
  ·rename_i hw
   rw [if_neg hw] at h
   exact go _ _ h
theorem rdy_up {j : Nat} (hx : lexE full = true) (hj : j < full.length) : j ∈ Region.ready .any full.toArray (up full.length j) :=
 mem_rdy.2 ⟨hj, by rw [up_at hj]; simp, fun i2 he => by have := (lex_lt hx he).1; rw [up_at (by omega)]; simpa using this⟩
theorem free_up {i j : Nat} {oi oj : Oper} {listed : Array Bool} (hi : full[i]? = some oi) (h : Region.free .any full.toArray listed i = true) (hj : full[j]? = some oj) (hne : j ≠ i) (hun : listed.getD j true = false) (hno : edgeB full j i = false) : oi.apart full.toArray oj = true := by
 refine Region.free_spec (by rw [List.getElem?_toArray]; exact hi) h j oj (by rw [List.getElem?_toArray]; exact hj) hne hun (fun e he hb heq => ?_)
 have : edgeB full j i = true := edge_iff.2 ⟨oj, hj, e, he, hb, heq⟩
 rw [hno] at this
 cases this
theorem mix_rest (hx : lexE full = true) (hs : Region.noSelect full.toArray = true) (hQ : ∀ c a d v w, Q (.panic c) (Act.put a d v) w → Q (.panic c) a w) : ∀ (t : List Oper) (j : Nat) (a : Act) (w : World), full.drop j = t → (∀ i, j ≤ i → i < full.length → stepOkB full i = true) → wpListC P full.toArray Q C m j t a w → wpAnyU P full Q C m t.length (up full.length j) a w
 | [], j, a, w, ht, _, h => by
  have hk : full.length ≤ j := List.drop_eq_nil_iff.1 ht
  refine ⟨List.eq_nil_iff_forall_not_mem.2 fun i hi => ?_, h⟩
  obtain ⟨h1, h2, -⟩ := mem_rdy.1 hi
  rw [up_at h1] at h2
  simp at h2
  omega
 | o :: t, j, a, w, ht, hst, h => by
  have hj : j < full.length := by
   rcases Nat.lt_or_ge j full.length with q | q
   ·exact q
   ·rw [List.drop_eq_nil_of_le q] at ht; cases ht
  have ho : full[j]? = some o := by
   have : (full.drop j)[0]? = some o := by rw [ht]; rfl
   rw [List.getElem?_drop] at this
   simpa using this
  have ho' : full.toArray[j]? = some o := by rw [List.getElem?_toArray]; exact ho
  have hr := rdy_up hx hj
  have ht' : full.drop (j + 1) = t := by rw [← List.drop_drop, ht]; rfl
  have go : ∀ a' w', wpListC P full.toArray Q C m (j + 1) t a' w' → wpAnyU P full Q C m t.length (up full.length (j + 1)) a' w' := fun a' w' hh => mix_rest hx hs hQ t (j + 1) a' w' ht' (fun i a b => hst i (by omega) b) hh
  have hq := hst j (Nat.le_refl _) hj
  unfold stepOkB at hq
  rw [Bool.or_eq_true] at hq
  unfold wpListC at h
  unfold wpList at h
  rcases hq with hq | hq
  ·have hall : ∀ i, i ∈ Region.ready .any full.toArray (up full.length j) → i = j := fun i hi => by
    obtain ⟨h1, h2, h3⟩ := mem_rdy.1 hi
    rw [up_at h1] at h2
    simp at h2
    rcases Nat.lt_or_eq_of_le h2 with q | q
    ·exfalso
     unfold barB at hq
     rw [List.all_eq_true] at hq
     have c := hq i (List.mem_range.2 h1)
     rw [Bool.or_eq_true, decide_eq_true_eq, List.any_eq_true] at c
     rcases c with c | ⟨i2, m1, c⟩
     ·omega
     ·rw [Bool.and_eq_true, decide_eq_true_eq] at c
      rw [List.mem_range] at m1
      have c2 := h3 i2 c.2
      rw [up_at (by omega)] at c2
      simp at c2
      omega
    ·exact q.symm
   refine ⟨fun h0 => (by rw [h0] at hr; cases hr), fun i hi => ?_⟩
   have e := hall i hi
   subst e
   unfold wpOp
   simp only [ho']
   rw [up_next hj]
   split
   ·rename_i hw
    rw [if_pos hw] at h
    exact h.imp (wp_monoQ fun a' w' hh => ⟨hh.1, go _ _ hh.2⟩) id
   ·rename_i hw
    rw [if_neg hw] at h
    exact ⟨h.1, go _ _ h.2⟩
  ·rw [Bool.and_eq_true, ho] at hq
   obtain ⟨q1, q2⟩ := hq
   simp only [Option.map_some, Option.getD_some] at q1
   unfold isExt at q1
   rw [Bool.and_eq_true] at q1
   obtain ⟨g1, q1⟩ := q1
   have hg : o.guard = none := by simpa using g1
   have hw : ∀ t, Region.wanted o t = true := fun t => by simp [Region.wanted, hg]
   rw [if_pos (hw _)] at h
   split at q1
   ·rename_i tt ix heq
    obtain ⟨hrun, htr⟩ := ext_run (P := P) heq a
    have h := h.resolve_right (fun hh => by have h1 := hh.1.1; rw [htr w] at h1; simp at h1)
    rcases hrun with ⟨v, hv⟩ | ⟨s, hv⟩
    ·unfold Oper.wp at h
     rw [hv w] at h
     simp only [Oper.upon] at h
     refine U_first (T := fun _ => True) ho hs (fun c a w => hQ c a o.dst v w) (fun _ _ _ _ _ _ _ _ => trivial) t.length (up full.length j) a w (fun j' oj hj' hne hun hno => free_up ho q2 hj' hne hun hno) hr (by rw [up_size]; exact hj) (.inl ⟨hw _, fun w _ => hv w⟩) trivial ?_
     rw [up_next hj]
     exact go _ _ h.2
    ·unfold Oper.wp at h
     rw [hv w] at h
     simp only [Oper.upon] at h
   ·cases q1
theorem mix_reads {k : Nat} (hk : k < full.length) (hx : lexE full = true) (hs : Region.noSelect full.toArray = true) (hQ : ∀ c a d v w, Q (.panic c) (Act.put a d v) w → Q (.panic c) a w) (hrd : ∀ i, i < k → readB full i = true) (hlt : ∀ i j, i < k → m ≤ j → j < full.length → edgeB full j i = true) (hst : ∀ i, k ≤ i → i < full.length → stepOkB full i = true) : ∀ (l : List Oper) (i : Nat) (a : Act) (w : World), (full.take k).drop i = l → i ≤ k → C w → wpQuiet P full.toArray C (fun a' => wpListC P full.toArray Q C m k (full.drop k) a' w) l a → wpAnyU P full Q C m (full.length - i) (up full.length i) a w
 | [], i, a, w, hl, hi, hC, h => by
  have hkl : (full.take k).length = k := by rw [List.length_take]; omega
  have : k ≤ i := by have := List.drop_eq_nil_iff.1 hl; omega
  have e : i = k := by omega
  subst e
  have q := mix_rest (P := P) (C := C) (m := m) hx hs hQ (full.drop i) i a w rfl hst h
  rw [List.length_drop] at q
  exact q
 | o :: l, i, a, w, hl, hi, hC, h => by
  have hkl : (full.take k).length = k := by rw [List.length_take]; omega
  have hik : i < k := by
   rcases Nat.lt_or_ge i k with q | q
   ·exact q
   ·rw [List.drop_eq_nil_of_le (by omega)] at hl; cases hl
  have ho : full[i]? = some o := by
   have q : ((full.take k).drop i)[0]? = some o := by rw [hl]; rfl
   rw [List.getElem?_drop, Nat.add_zero, take_at hik] at q
   exact q
  have hl' : (full.take k).drop (i + 1) = l := by rw [← List.drop_drop, hl]; rfl
  have hr := rdy_up hx (show i < full.length by omega)
  have q := hrd i hik
  unfold readB at q
  rw [Bool.and_eq_true, ho] at q
  simp only [Option.map_some, Option.getD_some] at q
  have main : ∀ v, YieldsIf P full.toArray C o v a → wpQuiet P full.toArray C (fun a' => wpListC P full.toArray Q C m k (full.drop k) a' w) l (a.put o.dst v) → wpAnyU P full Q C m (full.length - i) (up full.length i) a w := fun v hy hn => by
   have r := mix_reads hk hx hs hQ hrd hlt hst l (i + 1) (a.put o.dst v) w hl' (by omega) hC hn
   rw [show full.length - i = (full.length - (i + 1)) + 1 by omega]
   refine U_first (T := C) ho hs (fun c a w => hQ c a o.dst v w) (fun j hj hne hno w w' hh hw => ?_) _ (up full.length i) a w (fun j' oj hj' hne hun hno => free_up ho q.2 hj' hne hun hno) hr (by rw [up_size]; omega) hy hC ?_
   ·refine hh ?_ hw
    rcases Nat.lt_or_ge j m with c | c
    ·exact c
    ·rw [hlt i j hik c hj] at hno; cases hno
   ·rw [up_next (by omega)]
    exact r
  unfold wpQuiet at h
  split at h
  ·rename_i hw
   obtain ⟨v, hv, hn⟩ := h
   exact main v (.inl ⟨hw, fun w hCw => val_quiet q.1 (hv w hCw)⟩) hn
  ·rename_i hw
   exact main undef (.inr ⟨by simpa using hw, rfl⟩) h
theorem regionMix {id : Nat} {a : Act} (W : World) (C : World → Prop) (k m : Nat) (hm : P.follows .mixedOrders = true) (hO : mixOk full k m = true) (hQ : ∀ c a d v w, Q (.panic c) (Act.put a d v) w → Q (.panic c) a w) (hC : C W.drew)
  (h : wpQuiet P full.toArray C (fun a' => wpListC P full.toArray Q C m k (full.drop k) a' W.drew) (full.take k) a) : (Code.region id full.toArray true).wp P Q a W := by
 unfold mixOk at hO
 simp only [Bool.and_eq_true, decide_eq_true_eq, List.all_eq_true, List.mem_range, Bool.or_eq_true] at hO
 obtain ⟨o1, o2, o3, o4, o5, o6⟩ := hO
 refine wp_region_any hm (any_of_U (C := C) (m := m) _ _ _ _ ?_)
 have q := mix_reads (P := P) (Q := Q) (C := C) (m := m) o1 o2 o3 hQ o4 (fun i j h1 h2 h3 => by rcases o5 j h3 with c | c; omega; exact c i h1) (fun i h1 h2 => by rcases o6 i h2 with c | c; omega; exact c) (full.take k) 0 a { W with drawn := W.drawn + 1 } rfl (by omega) hC h
 rw [← up_zero] at q
 simpa using q
/- a world that has all that W has, but for what may be in block g, and perhaps more -/
structure ExtN (W : World) (g : Option Nat) where
 w : World
 os : w.os = W.os
 tape : w.tape = W.tape
 out : w.output = W.output
 size : W.heap.size ≤ w.heap.size
 blk : ∀ b, b < W.heap.size → g ≠ some b → w.heap[b]? = W.heap[b]?
def CN (W : World) (g : Option Nat) (w' : World) : Prop := ∃ x : ExtN W g, w' = x.w
theorem CN.drew (W : World) (g : Option Nat) : CN W g W.drew := ⟨⟨W.drew, rfl, rfl, rfl, Nat.le_refl _, fun _ _ _ => rfl⟩, rfl⟩
theorem extN_ne (W : World) (g : Option Nat) : Nonempty (ExtN W g) := ⟨⟨W, rfl, rfl, rfl, Nat.le_refl _, fun _ _ _ => rfl⟩⟩
theorem ExtN.fit {W : World} {g : Option Nat} {b o : Nat} {v : Value} (h : W.cell? ⟨b, o, none⟩ = some v) (hb : b < W.heap.size) (hg : g ≠ some b) : ∀ x : ExtN W g, x.w.cell? ⟨b, o, none⟩ = some v := fun x => (World.cell?_of_block (w := W) (x.blk b hb hg)).trans h
theorem CN.on {W : World} {g : Option Nat} {w w' : World} (h : CN W g w) (h1 : w'.os = w.os) (h2 : w'.tape = w.tape) (h3 : w'.output = w.output) (h4 : w.heap.size ≤ w'.heap.size) (h5 : ∀ b, b < w.heap.size → g ≠ some b → w'.heap[b]? = w.heap[b]?) : CN W g w' := by
 obtain ⟨x, rfl⟩ := h
 exact ⟨⟨w', h1.trans x.os, h2.trans x.tape, h3.trans x.out, Nat.le_trans x.size h4, fun b hb hg => (h5 b (Nat.lt_of_lt_of_le hb x.size) hg).trans (x.blk b hb hg)⟩, rfl⟩
theorem CN.below {W : World} {g : Option Nat} {w w' : World} (h : CN W g w) (hb : Below w.heap.size w w') : CN W g w' := h.on hb.os hb.tape hb.output hb.size (fun b h1 _ => hb.block b h1)
theorem CN.grown {W : World} {g : Option Nat} {w w' : World} (h : CN W g w) (hb : w.grownBy w' g) : CN W g w' := h.on hb.os hb.tape hb.output hb.size (fun b h1 h2 => hb.block b h1 (fun e => h2 e.symm))
/- the same, several blocks left out -/
structure ExtP (W : World) (E : Nat → Prop) where
 w : World
 os : w.os = W.os
 tape : w.tape = W.tape
 out : w.output = W.output
 size : W.heap.size ≤ w.heap.size
 blk : ∀ b, b < W.heap.size → ¬ E b → w.heap[b]? = W.heap[b]?
def CP (W : World) (E : Nat → Prop) (w' : World) : Prop := ∃ x : ExtP W E, w' = x.w
theorem CP.drew (W : World) (E : Nat → Prop) : CP W E W.drew := ⟨⟨W.drew, rfl, rfl, rfl, Nat.le_refl _, fun _ _ _ => rfl⟩, rfl⟩
theorem extP_ne (W : World) (E : Nat → Prop) : Nonempty (ExtP W E) := ⟨⟨W, rfl, rfl, rfl, Nat.le_refl _, fun _ _ _ => rfl⟩⟩
theorem ExtP.fit {W : World} {E : Nat → Prop} {b o : Nat} {v : Value} (h : W.cell? ⟨b, o, none⟩ = some v) (hb : b < W.heap.size) (hg : ¬ E b) : ∀ x : ExtP W E, x.w.cell? ⟨b, o, none⟩ = some v := fun x => (World.cell?_of_block (w := W) (x.blk b hb hg)).trans h
theorem CP.on {W : World} {E : Nat → Prop} {w w' : World} (h : CP W E w) (h1 : w'.os = w.os) (h2 : w'.tape = w.tape) (h3 : w'.output = w.output) (h4 : w.heap.size ≤ w'.heap.size) (h5 : ∀ b, b < w.heap.size → ¬ E b → w'.heap[b]? = w.heap[b]?) : CP W E w' := by
 obtain ⟨x, rfl⟩ := h
 exact ⟨⟨w', h1.trans x.os, h2.trans x.tape, h3.trans x.out, Nat.le_trans x.size h4, fun b hb hg => (h5 b (Nat.lt_of_lt_of_le hb x.size) hg).trans (x.blk b hb hg)⟩, rfl⟩
theorem CP.below {W : World} {E : Nat → Prop} {w w' : World} (h : CP W E w) (hb : Below w.heap.size w w') : CP W E w' := h.on hb.os hb.tape hb.output hb.size (fun b h1 _ => hb.block b h1)
end
end
section
set_option linter.unusedSimpArgs false
set_option linter.unusedVariables false
set_option maxRecDepth 100000
open Go.RowKit
/- the same operation, made to do nothing -/
def idle (o : Oper) : Oper := { o with op := .assign (.const (.bool false)) }
def lastOk (l : List Oper) (o : Oper) : Bool :=
 (List.range l.length).all (fun i => o.after.any fun e => Region.binds .any e && e.on == i) && ((List.range (l.length + 1)).all fun i => ((l ++ [o])[i]?.map fun x => x.after.all fun e => !Region.binds .any e || decide (e.on < i)).getD true)
theorem idle_at (l : List Oper) (o : Oper) (i : Nat) : (i < l.length ∧ (l ++ [idle o])[i]? = l[i]? ∧ (l ++ [o])[i]? = l[i]?) ∨ (i = l.length ∧ (l ++ [idle o])[i]? = some (idle o) ∧ (l ++ [o])[i]? = some o) ∨ (l.length < i ∧ (l ++ [idle o])[i]? = none ∧ (l ++ [o])[i]? = none) := by
 rcases Nat.lt_trichotomy i l.length with h | h | h
 ·exact .inl ⟨h, List.getElem?_append_left h, List.getElem?_append_left h⟩
 ·subst h
  exact .inr (.inl ⟨rfl, by simp, by simp⟩)
 ·exact .inr (.inr ⟨h, by simp; omega, by simp; omega⟩)
theorem ready_idle (l : List Oper) (o : Oper) (listed : Array Bool) : Region.ready .any (l ++ [idle o]).toArray listed = Region.ready .any (l ++ [o]).toArray listed := by
 unfold Region.ready
 have hs : (l ++ [idle o]).toArray.size = (l ++ [o]).toArray.size := by simp
 rw [hs]
 refine List.filter_congr fun i _ => ?_
 rw [List.getElem?_toArray, List.getElem?_toArray]
 rcases idle_at l o i with ⟨-, h1, h2⟩ | ⟨-, h1, h2⟩ | ⟨-, h1, h2⟩ <;> rw [h1, h2] <;> rfl
theorem yielded_idle (l : List Oper) (o : Oper) (t : Array Value) : yielded (l ++ [idle o]).toArray t = yielded (l ++ [o]).toArray t := by
 funext j
 unfold yielded
 rw [List.getElem?_toArray, List.getElem?_toArray]
 rcases idle_at l o j with ⟨-, h1, h2⟩ | ⟨-, h1, h2⟩ | ⟨-, h1, h2⟩ <;> rw [h1, h2] <;> rfl
theorem mem_ready {ops : Array Oper} {listed : Array Bool} {i : Nat} : i ∈ Region.ready .any ops listed ↔ i < ops.size ∧ listed.getD i true = false ∧ ((ops[i]?).map (·.after.all fun e => !Region.binds .any e || listed.getD e.on false)).getD false = true := by
 unfold Region.ready
 rw [List.mem_filter, List.mem_range, Bool.and_eq_true, Bool.not_eq_true']
theorem ready_some {l : List Oper} {o : Oper} (hL : lastOk l o = true) {listed : Array Bool} (hs : listed.size = l.length + 1) : ∀ (k : Nat), k ≤ l.length → listed.getD k true = false → Region.ready .any (l ++ [o]).toArray listed ≠ [] := by
 intro k
 induction k using Nat.strongRecOn with
 | ind k ih =>
  intro hk hf
  by_cases h : ∃ j, j < k ∧ listed.getD j true = false
  ·obtain ⟨j, h1, h2⟩ := h
   exact ih j h1 (by omega) h2
  ·intro hn
   have : k ∈ Region.ready .any (l ++ [o]).toArray listed := by
    rw [mem_ready]
    refine ⟨by simp; omega, hf, ?_⟩
    unfold lastOk at hL
    rw [Bool.and_eq_true, List.all_eq_true, List.all_eq_true] at hL
    have q := hL.2 k (List.mem_range.2 (by omega))
    rw [List.getElem?_toArray]
    obtain ⟨x, hx⟩ : ∃ x, (l ++ [o])[k]? = some x := ⟨_, List.getElem?_eq_getElem (by simp; omega)⟩
    rw [hx] at q ⊢
    simp only [Option.map_some, Option.getD_some] at q ⊢
    rw [Array.all_eq_true'] at q ⊢
    intro e he
    have q' := q e he
    rw [Bool.or_eq_true] at q' ⊢
    rcases q' with q' | q'
    ·exact .inl q'
    ·refine .inr ?_
     rw [decide_eq_true_eq] at q'
     have hj : ¬ listed.getD e.on true = false := fun hh => h ⟨e.on, q', hh⟩
     have hlt : e.on < listed.size := by omega
     simp only [Array.getD, hlt, dif_pos] at hj ⊢
     simpa using hj
   rw [hn] at this
   cases this
theorem ready_last {l : List Oper} {o : Oper} (hL : lastOk l o = true) {listed : Array Bool} (hs : listed.size = l.length + 1) (h : l.length ∈ Region.ready .any (l ++ [o]).toArray listed) : Region.ready .any (l ++ [o]).toArray (listed.setIfInBounds l.length true) = [] := by
 rw [mem_ready] at h
 obtain ⟨-, -, h⟩ := h
 have e : (l ++ [o]).toArray[l.length]? = some o := by rw [List.getElem?_toArray]; simp
 rw [e] at h
 simp only [Option.map_some, Option.getD_some] at h
 rw [Array.all_eq_true'] at h
 unfold lastOk at hL
 rw [Bool.and_eq_true, List.all_eq_true] at hL
 refine List.eq_nil_iff_forall_not_mem.2 fun i hi => ?_
 rw [mem_ready] at hi
 obtain ⟨h1, h2, -⟩ := hi
 simp at h1
 by_cases hil : i = l.length
 ·subst hil
  have : l.length < listed.size := by omega
  simp [Array.getD, this] at h2
 ·have q := hL.1 i (List.mem_range.2 (by omega))
  rw [Array.any_eq_true'] at q
  obtain ⟨x, hx, q⟩ := q
  rw [Bool.and_eq_true, beq_iff_eq] at q
  have := h x hx
  rw [q.1, q.2] at this
  have hlt : i < listed.size := by omega
  simp [Array.getD, hlt] at this
  simp [Array.getD, hlt, Array.getElem_setIfInBounds, Ne.symm hil, this] at h2
theorem any_done {P : Program} {ops : Array Oper} {Q : Exit → Act → World → Prop} {listed : Array Bool} (hr : Region.ready .any ops listed = []) {a : Act} {w : World} (h : Q .normal a w) : ∀ fuel, wpAny P .any ops Q fuel listed a w
 | 0 => ⟨hr, h⟩
 | _ + 1 => ⟨fun _ => h, by rw [hr]; simp⟩
theorem last_conv {P : Program} {Q : Exit → Act → World → Prop} {C : World → Prop} {Qa : Act → Prop} {l : List Oper} {o : Oper} (hL : lastOk l o = true) (hg : o.guard = none) (hd : o.dst = none) {A : Array Oper} (hQ : ∀ a w, C w → Qa a → wpList P A Q [o] a w) :
  ∀ (fuel : Nat) (listed : Array Bool) (a : Act) (w : World), listed.size = l.length + 1 → listed.getD l.length true = false → C w → wpAnyQ P .any (l ++ [idle o]).toArray C Qa fuel listed a → wpAny P .any (l ++ [o]).toArray Q fuel listed a w
 | 0, listed, a, w, hs, hf, hC, h => absurd ((ready_idle l o listed) ▸ h.1) (ready_some hL hs l.length (Nat.le_refl _) hf)
 | fuel + 1, listed, a, w, hs, hf, hC, h => by
  refine ⟨fun h0 => absurd h0 (ready_some hL hs l.length (Nat.le_refl _) hf), fun i hi => ?_⟩
  have hq := h.2 i ((ready_idle l o listed).symm ▸ hi)
  have hlt := (mem_ready.1 hi).1
  simp at hlt
  by_cases hil : i = l.length
  ·subst hil
   have hr := ready_last hL hs hi
   have e' : (l ++ [idle o]).toArray[l.length]? = some (idle o) := by rw [List.getElem?_toArray]; simp
   have e : (l ++ [o]).toArray[l.length]? = some o := by rw [List.getElem?_toArray]; simp
   unfold qOp at hq
   simp only [e'] at hq
   have hw : ∀ t, Region.wanted (idle o) t = true := fun t => by simp [Region.wanted, idle, hg]
   have hw' : ∀ t, Region.wanted o t = true := fun t => by simp [Region.wanted, hg]
   rw [if_pos (hw _)] at hq
   obtain ⟨v, -, hq⟩ := hq
   have ep : a.put (idle o).dst v = a := by show a.put o.dst v = a; rw [hd]; rfl
   rw [ep] at hq
   have ha : Qa a := by
    cases fuel with
    | zero => exact hq.2
    | succ n => exact hq.1 (by rw [ready_idle]; exact hr)
   unfold wpOp
   simp only [e]
   rw [if_pos (hw' _)]
   have hh := hQ a w hC ha
   unfold wpList at hh
   rw [if_pos (hw' _)] at hh
   exact hh.imp (Oper.wp_mono (fun a' w' hh => any_done hr hh fuel)) id
  ·have hi2 : i < l.length := by omega
   have ee : (l ++ [idle o]).toArray[i]? = (l ++ [o]).toArray[i]? := by rw [List.getElem?_toArray, List.getElem?_toArray, List.getElem?_append_left hi2, List.getElem?_append_left hi2]
   have hq' : qOp P (l ++ [o]).toArray C i (wpAnyQ P .any (l ++ [idle o]).toArray C Qa fuel (listed.setIfInBounds i true)) a := by
    unfold qOp at hq ⊢
    rw [ee, yielded_idle] at hq
    exact hq
   refine wpOp_of_qOp hC (fun a' w' hC' hk => last_conv hL hg hd hQ fuel _ a' w' (by simpa using hs) ?_ hC' hk) hq'
   have h9 : l.length < listed.size := by omega
   simp only [Array.getD, h9, dif_pos] at hf
   simp [Array.getD, h9, Array.getElem_setIfInBounds, hil]
   simpa using hf
theorem quiet_snoc {P : Program} {ops : Array Oper} {C : World → Prop} {Qa : Act → Prop} {o : Oper} (hg : o.guard = none) (hd : o.dst = none) : ∀ (l : List Oper) (a : Act), wpQuiet P ops C Qa l a → wpQuiet P ops C Qa (l ++ [idle o]) a
 | [], a, h => by
  have hw : Region.wanted (idle o) (yielded ops a.tmps) = true := by simp [Region.wanted, idle, hg]
  refine BigFrame.wpQuiet_want hw fun K hK => ?_
  refine BigFrame.quiet_assign (.const (.bool false)) rfl ?_
  refine hK _ ?_
  show Qa (a.put o.dst _)
  rw [hd]
  exact h
 | x :: r, a, h => by
  unfold wpQuiet at h
  show wpQuiet P ops C Qa (x :: (r ++ [idle o])) a
  unfold wpQuiet
  split
  ·rename_i hw
   rw [if_pos hw] at h
   exact Oper.quiet_mono (fun a' => quiet_snoc hg hd r a') h
  ·rename_i hw
   rw [if_neg hw] at h
   exact quiet_snoc hg hd r _ h
theorem regionLast {P : Program} {id : Nat} {Q : Exit → Act → World → Prop} {a : Act} (W : World) {full : List Oper} (o : Oper) (hf : full.getLast? = some o) (hm : P.follows .mixedOrders = true) (hB : Region.lexB .any (full.dropLast ++ [idle o]).toArray = true) (hL : lastOk full.dropLast o = true) (hg : o.guard = none) (hd : o.dst = none)
  (h : wpQuiet P (full.dropLast ++ [idle o]).toArray (fun w' => ∃ x : Ext W, w' = x.w) (fun a' => ∀ w', (∃ x : Ext W, w' = x.w) → wpList P full.toArray Q [o] a' w') full.dropLast a) : (Code.region id full.toArray true).wp P Q a W := by
 have hfull : full = full.dropLast ++ [o] := by
  have hne : full ≠ [] := fun e => by rw [e] at hf; cases hf
  rw [List.getLast?_eq_some_getLast hne] at hf
  injection hf with hf
  rw [← hf]
  exact (List.dropLast_concat_getLast hne).symm
 have hq := quiet_snoc hg hd _ _ h
 simp only [Region.lexB, Bool.and_eq_true] at hB
 have h2 := wpAnyQ_lex (md := .any) hB.1 (full.dropLast ++ [idle o]) 0 (Array.replicate (full.dropLast ++ [idle o]).toArray.size false) a (by simp) (by simpa using hB.2) hq
 have hgoal : (Code.region id (full.dropLast ++ [o]).toArray true).wp P Q a W → (Code.region id full.toArray true).wp P Q a W := fun hh => by rw [← hfull] at hh; exact hh
 refine hgoal ?_
 refine wp_region_any hm ?_
 have hn : (full.dropLast ++ [o]).toArray.size = full.dropLast.length + 1 := by simp
 rw [hn]
 refine last_conv (C := fun w' => ∃ x : Ext W, w' = x.w) (Qa := fun a' => ∀ w', (∃ x : Ext W, w' = x.w) → wpList P full.toArray Q [o] a' w') hL hg hd (fun a' w' hC hh => hh w' hC) _ _ _ _ (by simp) ?_ ⟨⟨{ W with drawn := W.drawn + 1 }, ⟨rfl, rfl, rfl, Nat.le_refl _, fun _ _ => rfl⟩⟩, rfl⟩ ?_
 ·simp [Array.getD]
 ·have e2 : (full.dropLast ++ [idle o]).toArray.size = full.dropLast.length + 1 := by simp
  rw [e2] at h2
  simpa using h2
end
section
set_option linter.unusedSimpArgs false
set_option linter.unusedVariables false
set_option maxRecDepth 100000
open Go.RowKit
theorem viewB_iff {m : List (List WD)} {l : List Int} : viewB m l = true ↔ l.length = m.length ∧ ∀ i, i < l.length → 0 ≤ l.getD i 0 ∧ l.getD i 0 < ((m.getD i []).length : Int) := by unfold viewB; rw [decide_eq_true_eq]
theorem viewB_grow {m m' : List (List WD)} {l : List Int} (h : viewB m l = true) (hn : m'.length = m.length) (hg : ∀ i, (m.getD i []).length ≤ (m'.getD i []).length) : viewB m' l = true := by
 rw [viewB_iff] at h ⊢
 refine ⟨by omega, fun i hi => ?_⟩
 have := h.2 i hi
 have := hg i
 omega
theorem getD_setI {l : List Int} {k i : Nat} {v : Int} (hk : k < l.length) : (l.set k v).getD i 0 = if i = k then v else l.getD i 0 := by
 rw [List.getD_eq_getElem?_getD, List.getElem?_set]
 by_cases e : k = i
 ·subst e
  simp [hk]
 ·rw [if_neg e, if_neg (fun q => e q.symm), List.getD_eq_getElem?_getD]
theorem getD_setM {m : List (List WD)} {k i : Nat} {v : List WD} (hk : k < m.length) : (m.set k v).getD i [] = if i = k then v else m.getD i [] := by
 rw [List.getD_eq_getElem?_getD, List.getElem?_set]
 by_cases e : k = i
 ·subst e
  simp [hk]
 ·rw [if_neg e, if_neg (fun q => e q.symm), List.getD_eq_getElem?_getD]
theorem memB_at {m : List (List WD)} (h : memB m = true) {i : Nat} (hi : i < 24) : m.length = 24 ∧ ∃ r, m[i]? = some r ∧ m.getD i [] = r ∧ 1 ≤ r.length ∧ r.length ≤ 4000 ∧ ∀ x ∈ r, viewB m x.vw = true := by
 unfold memB at h
 rw [Bool.and_eq_true, decide_eq_true_eq, List.all_eq_true] at h
 obtain ⟨r, hr⟩ : ∃ r, m[i]? = some r := ⟨_, List.getElem?_eq_getElem (by omega)⟩
 have q := h.2 r (List.mem_of_getElem? hr)
 unfold rowB at q
 rw [Bool.and_eq_true, decide_eq_true_eq, List.all_eq_true] at q
 exact ⟨h.1, r, hr, by rw [List.getD_eq_getElem?_getD, hr]; rfl, q.1.1, q.1.2, q.2⟩
theorem memB_of {m : List (List WD)} (h24 : m.length = 24) (h : ∀ i, i < 24 → 1 ≤ (m.getD i []).length ∧ (m.getD i []).length ≤ 4000 ∧ ∀ x ∈ m.getD i [], viewB m x.vw = true) : memB m = true := by
 unfold memB
 rw [Bool.and_eq_true, decide_eq_true_eq, List.all_eq_true]
 refine ⟨h24, fun r hr => ?_⟩
 obtain ⟨i, hi, e⟩ := List.mem_iff_getElem.1 hr
 have q := h i (by omega)
 rw [show m.getD i [] = r by rw [List.getD_eq_getElem?_getD, List.getElem?_eq_getElem hi, e]; rfl] at q
 unfold rowB
 rw [Bool.and_eq_true, decide_eq_true_eq, List.all_eq_true]
 exact ⟨⟨q.1, q.2.1⟩, q.2.2⟩
theorem ldJ_lt {m : List (List WD)} {l : List Int} {c : Nat} (late : Int) (hm : memB m = true) (hv : viewB m l = true) (hc : c < 24) : ldJ m l c late < (m.getD c []).length ∧ mx (l.getD c 0) (((m.getD c []).length : Int) - 1 - mx late 0) = (ldJ m l c late : Int) := by
 obtain ⟨h24, r, -, er, n1, -, -⟩ := memB_at hm hc
 rw [viewB_iff] at hv
 have q := hv.2 c (by omega)
 unfold ldJ
 rw [er] at q ⊢
 unfold mx
 split <;> split <;> omega
theorem ldX_at {m : List (List WD)} {l : List Int} {c : Nat} (late : Int) (hm : memB m = true) (hv : viewB m l = true) (hc : c < 24) : ∃ r, m[c]? = some r ∧ r[ldJ m l c late]? = some (ldX m l c late) ∧ viewB m (ldX m l c late).vw = true := by
 obtain ⟨h24, r, hr, er, n1, -, hx⟩ := memB_at hm hc
 have hj := (ldJ_lt late hm hv hc).1
 rw [er] at hj
 have e : r[ldJ m l c late]? = some (ldX m l c late) := by
  unfold ldX
  rw [er, List.getD_eq_getElem?_getD, List.getElem?_eq_getElem hj]
  rfl
 exact ⟨r, hr, e, hx _ (List.mem_of_getElem? e)⟩
theorem ldW_ok {m : List (List WD)} {l : List Int} {c : Nat} (late : Int) (hold : Bool) (hm : memB m = true) (hv : viewB m l = true) (hc : c < 24) : viewB m (ldW m l c late hold) = true := by
 obtain ⟨h24, -⟩ := memB_at hm hc
 have hj := (ldJ_lt late hm hv hc).1
 obtain ⟨r, hr, e, hx⟩ := ldX_at late hm hv hc
 have hs : viewB m (l.set c (ldJ m l c late)) = true := by
  rw [viewB_iff] at hv ⊢
  refine ⟨by rw [List.length_set]; exact hv.1, fun i hi => ?_⟩
  rw [List.length_set] at hi
  rw [getD_setI (by omega)]
  split
  ·rename_i q; subst q; omega
  ·exact hv.2 i hi
 unfold ldW
 split
 ·rw [viewB_iff] at hs hx ⊢
  have hl : (joinL (l.set c (ldJ m l c late)) (ldX m l c late).vw).length = m.length := by unfold joinL; rw [List.length_zipWith]; omega
  refine ⟨hl, fun i hi => ?_⟩
  have a := hs.2 i (by omega)
  have b := hx.2 i (by omega)
  have ej : (joinL (l.set c (ldJ m l c late)) (ldX m l c late).vw).getD i 0 = mx ((l.set c (ldJ m l c late)).getD i 0) ((ldX m l c late).vw.getD i 0) := by
   have h1 : i < (l.set c (ldJ m l c late)).length := by omega
   have h2 : i < (ldX m l c late).vw.length := by omega
   unfold joinL
   simp only [List.getD_eq_getElem?_getD, List.getElem?_zipWith, List.getElem?_eq_getElem h1, List.getElem?_eq_getElem h2, Option.getD_some]
  rw [ej]
  generalize (l.set c (ldJ m l c late)).getD i 0 = p at a
  generalize (ldX m l c late).vw.getD i 0 = q at b
  unfold mx
  split <;> omega
 ·exact hs
theorem stM_ok {m : List (List WD)} {l : List Int} {c : Nat} (z : Int) (b : Bool) (hm : memB m = true) (hv : viewB m l = true) (hc : c < 24) (hf : ¬ (m.getD c []).length = 4000) : memB (stM m l c z b) = true ∧ viewB (stM m l c z b) (stW m l c) = true ∧ ∀ v, viewB m v = true → viewB (stM m l c z b) v = true := by
 obtain ⟨h24, r, hr, er, n1, n4, hx⟩ := memB_at hm hc
 have hcm : c < m.length := by omega
 have hn : (stM m l c z b).length = m.length := by unfold stM; rw [List.length_set]
 have hg : ∀ i, ((stM m l c z b).getD i []) = if i = c then r ++ [⟨z, toldL l c r.length b⟩] else m.getD i [] := fun i => by unfold stM; rw [getD_setM hcm, er]
 have grow : ∀ v, viewB m v = true → viewB (stM m l c z b) v = true := fun v h => viewB_grow h hn (fun i => by
  rw [hg]
  split
  ·rename_i q; subst q; rw [er]; simp
  ·exact Nat.le_refl _)
 have pos : ∀ i, i < 24 → 0 < ((stM m l c z b).getD i []).length := fun i hi => by
  rw [hg]
  split
  ·simp
  ·obtain ⟨-, r', -, e', n', -⟩ := memB_at hm hi; rw [e']; omega
 have hvw := hv
 rw [viewB_iff] at hvw
 have hst : viewB (stM m l c z b) (l.set c (r.length : Int)) = true := by
  have hgv := grow l hv
  rw [viewB_iff] at hgv ⊢
  refine ⟨by rw [List.length_set]; exact hgv.1, fun i hi => ?_⟩
  rw [List.length_set] at hi
  rw [getD_setI (by omega)]
  split
  ·rename_i q
   subst q
   rw [hg, if_pos rfl]
   simp
   omega
  ·exact hgv.2 i hi
 have htold : viewB (stM m l c z b) (toldL l c r.length b) = true := by
  unfold toldL
  split
  ·exact hst
  ·rw [viewB_iff]
   refine ⟨by rw [List.length_set, List.length_replicate, hn, h24], fun i hi => ?_⟩
   rw [List.length_set, List.length_replicate] at hi
   rw [getD_setI (by rw [List.length_replicate]; exact hc)]
   split
   ·rename_i q
    subst q
    rw [hg, if_pos rfl]
    simp
    omega
   ·have := pos i hi
    rw [show (List.replicate 24 (0 : Int)).getD i 0 = 0 by rw [List.getD_eq_getElem?_getD, List.getElem?_replicate]; split <;> rfl]
    omega
 refine ⟨memB_of (by omega) (fun i hi => ?_), by unfold stW; rw [er]; exact hst, grow⟩
 rw [hg]
 split
 ·rename_i q
  subst q
  rw [er] at hf
  refine ⟨by simp, by simp; omega, fun x hx' => ?_⟩
  rw [List.mem_append, List.mem_singleton] at hx'
  rcases hx' with h | h
  ·exact grow _ (hx x h)
  ·subst h; exact htold
 ·obtain ⟨-, r', -, e', n', n'', hx'⟩ := memB_at hm hi
  rw [e']
  exact ⟨n', n'', fun x h => grow _ (hx' x h)⟩
/- a machine, one of its cores turned -/
theorem coresB_iff {m : List (List WD)} {cs : List KD} {l : List (List I5)} : coresB m cs l = true ↔ cs.length = l.length ∧ ∀ (i : Nat) (k : KD) (c : List I5), cs[i]? = some k → l[i]? = some c → coreB m k c.length = true := by
 unfold coresB
 rw [Bool.and_eq_true, decide_eq_true_eq, List.all_eq_true]
 constructor
 ·rintro ⟨h, q⟩
  refine ⟨h, fun i k c hk hc => q (k, c) (List.mem_of_getElem? (i := i) ?_)⟩
  rw [List.getElem?_zip_eq_some]
  exact ⟨hk, hc⟩
 ·rintro ⟨h, q⟩
  refine ⟨h, fun x hx => ?_⟩
  obtain ⟨i, hi, e⟩ := List.mem_iff_getElem.1 hx
  have e' : (cs.zip l)[i]? = some x := by rw [List.getElem?_eq_getElem hi, e]
  rw [List.getElem?_zip_eq_some] at e'
  exact q i x.1 x.2 e'.1 e'.2
theorem coreB_iff {m : List (List WD)} {k : KD} {n : Nat} : coreB m k n = true ↔ k.regs.length = 8 ∧ (0 ≤ k.st ∧ k.st ≤ 2) ∧ (0 ≤ k.pc ∧ k.pc < (n : Int)) ∧ viewB m k.vw = true := by
 unfold coreB Plain.inB Plain.oneB
 rw [Bool.and_eq_true, Bool.and_eq_true, Bool.and_eq_true, decide_eq_true_eq, decide_eq_true_eq, decide_eq_true_eq]
theorem machB_iff {d : MD} : machB d = true ↔ codesB d.codes = true ∧ coresB d.mem d.cores d.codes = true ∧ trB d.tr d.cores.length = true ∧ memB d.mem = true := by
 unfold machB
 rw [Bool.and_eq_true, Bool.and_eq_true, Bool.and_eq_true]
theorem keep_core {d : MD} {who : Nat} {k k' : KD} {code : List I5} {s : I5} (h : machB d = true) (ha : At8 d who k code s) (m' : List (List WD)) (tr' : List ND) (hm : memB m' = true) (hg : ∀ v, viewB d.mem v = true → viewB m' v = true) (ht : trB tr' d.cores.length = true) (hk : coreB m' k' code.length = true) : machB (putK { d with mem := m', tr := tr' } who k') = true := by
 rw [machB_iff] at h ⊢
 obtain ⟨h1, h2, -, -⟩ := h
 rw [coresB_iff] at h2
 refine ⟨h1, ?_, by show trB tr' (d.cores.set who k').length = true; rw [List.length_set]; exact ht, hm⟩
 show coresB m' (d.cores.set who k') d.codes = true
 rw [coresB_iff]
 refine ⟨by rw [List.length_set]; exact h2.1, fun i x c hx hc => ?_⟩
 rw [List.getElem?_set] at hx
 by_cases e : who = i
 ·subst e
  rw [if_pos rfl] at hx
  split at hx
  ·injection hx with hx
   subst hx
   rw [ha.hc] at hc
   injection hc with hc
   subst hc
   exact hk
  ·cases hx
 ·rw [if_neg e] at hx
  have q := h2.2 i x c hx hc
  rw [coreB_iff] at q ⊢
  exact ⟨q.1, q.2.1, q.2.2.1, hg _ q.2.2.2⟩
theorem keep_go {d : MD} {who : Nat} {k k' : KD} {code : List I5} {s : I5} (h : machB d = true) (ha : At8 d who k code s) (m' : List (List WD)) (tr' : List ND) (p : Int) (hm : memB m' = true) (hg : ∀ v, viewB d.mem v = true → viewB m' v = true) (ht : trB tr' d.cores.length = true) (hr : k'.regs.length = 8) (hs : k'.st = k.st) (hpc : k'.pc = k.pc) (hv : viewB m' k'.vw = true) (hp : 0 ≤ p) : machB (goM { d with mem := m', tr := tr' } who k' code.length p) = true := by
 have q0 := ha.pc0
 have q1 := ha.pcl
 have q2 := ha.st0
 have q3 := ha.st2
 unfold goM
 split
 ·rename_i hlt
  refine keep_core h ha m' tr' hm hg ht ?_
  rw [coreB_iff]
  exact ⟨hr, by show 0 ≤ k'.st ∧ k'.st ≤ 2; omega, ⟨hp, hlt⟩, hv⟩
 ·refine keep_core h ha m' tr' hm hg ht ?_
  rw [coreB_iff]
  exact ⟨hr, ⟨by show (0 : Int) ≤ 2; omega, by show (2 : Int) ≤ 2; omega⟩, by show 0 ≤ k'.pc ∧ k'.pc < _; omega, hv⟩
set_option maxHeartbeats 2000000 in
theorem stepAt_ok {d : MD} {who : Nat} {k : KD} {code : List I5} {s : I5} (late : Int) (h : machB d = true) (ha : At8 d who k code s) : machB (stepAt d who late k code.length s).1 = true := by
 have hm := ha.mem
 have ht : trB d.tr d.cores.length = true := (machB_iff.1 h).2.2.1
 have q0 := ha.pc0
 have id : ∀ v, viewB d.mem v = true → viewB d.mem v = true := fun _ q => q
 have hst : ∀ st', 0 ≤ st' → st' ≤ 2 → machB (putK d who { k with st := st' }) = true := fun st' a b => keep_core h ha d.mem d.tr hm id ht (by rw [coreB_iff]; exact ⟨ha.regs, ⟨a, b⟩, ⟨ha.pc0, ha.pcl⟩, ha.vw⟩)
 have hreg : ∀ (r v : Int), machB (goM d who (setR k r v) code.length (k.pc + 1)) = true := fun r v => keep_go h ha d.mem d.tr (k.pc + 1) hm id ht (by unfold setR; rw [List.length_set]; exact ha.regs) rfl rfl ha.vw (by omega)
 have hw : who < d.cores.length := by
  have := ha.hk
  rw [List.getElem?_eq_some_iff] at this
  exact this.1
 have hok := ha.ok
 unfold stX Plain.stepB at hok
 rw [decide_eq_true_eq] at hok
 unfold stepAt
 by_cases e1 : s.o = 1
 ·rw [if_pos e1]; exact hreg _ _
 rw [if_neg e1]
 by_cases e2 : s.o = 2
 ·rw [if_pos e2]; exact hreg _ _
 rw [if_neg e2]
 by_cases e3 : s.o = 3
 ·rw [if_pos e3]; exact hreg _ _
 rw [if_neg e3]
 by_cases e4 : s.o = 4
 ·rw [if_pos e4]; exact hreg _ _
 rw [if_neg e4]
 by_cases e9 : s.o = 9
 ·rw [if_pos e9]
  by_cases hf : d.tr.length = 4000
  ·rw [if_pos hf]; exact h
  ·rw [if_neg hf]
   have htr := ha.tr
   refine keep_go h ha d.mem (d.tr ++ [⟨who, regA k s.a⟩]) (k.pc + 1) hm id ?_ ha.regs rfl rfl ha.vw (by omega)
   unfold trB at ht ⊢
   rw [Bool.and_eq_true, decide_eq_true_eq] at ht ⊢
   refine ⟨by rw [List.length_append]; simp; omega, ?_⟩
   rw [List.all_append, ht.2]
   simp [Plain.oneB]
   omega
 rw [if_neg e9]
 by_cases e10 : s.o = 10
 ·rw [if_pos e10]
  exact keep_go h ha d.mem d.tr s.n hm id ht ha.regs rfl rfl ha.vw (by omega)
 rw [if_neg e10]
 by_cases e11 : s.o = 11
 ·rw [if_pos e11]
  exact keep_go h ha d.mem d.tr _ hm id ht ha.regs rfl rfl ha.vw (by split <;> omega)
 rw [if_neg e11]
 by_cases e12 : s.o = 12
 ·rw [if_pos e12]; exact hst 1 (by omega) (by omega)
 rw [if_neg e12]
 by_cases e13 : s.o = 13
 ·rw [if_pos e13]; exact hst 2 (by omega) (by omega)
 rw [if_neg e13]
 by_cases hc : 0 ≤ cellM k s ∧ cellM k s ≤ 23
 ·rw [if_pos hc]
  generalize hcc : (cellM k s).toNat = c
  have hc24 : c < 24 := by omega
  split
  ·exact h
  ·rename_i hfull
   unfold memS
   by_cases e5 : s.o = 5
   ·rw [if_pos e5]
    exact keep_go h ha d.mem d.tr (k.pc + 1) hm id ht (by show (k.regs.set _ _).length = 8; rw [List.length_set]; exact ha.regs) rfl rfl (ldW_ok late false hm ha.vw hc24) (by omega)
   ·rw [if_neg e5]
    have hf : ¬ (d.mem.getD c []).length = 4000 := fun q => hfull ⟨e5, q⟩
    by_cases e8 : s.o = 8
    ·rw [if_pos e8]
     obtain ⟨a1, a2, a3⟩ := stM_ok (regA k s.b) true hm (ldW_ok 0 true hm ha.vw hc24) hc24 hf
     exact keep_go h ha _ d.tr (k.pc + 1) a1 a3 ht (by show (k.regs.set _ _).length = 8; rw [List.length_set]; exact ha.regs) rfl rfl a2 (by omega)
    ·rw [if_neg e8]
     obtain ⟨a1, a2, a3⟩ := stM_ok (regA k s.b) (decide (s.o = 7)) hm ha.vw hc24 hf
     exact keep_go h ha _ d.tr (k.pc + 1) a1 a3 ht ha.regs rfl rfl a2 (by omega)
 ·rw [if_neg hc]; exact hst 2 (by omega) (by omega)
theorem stepM_ok {d : MD} (who late : Int) (h : machB d = true) : machB (stepM d who late).1 = true := by
 by_cases hw : 0 ≤ who ∧ who < (d.cores.length : Int)
 ·obtain ⟨n, rfl⟩ : ∃ n : Nat, who = (n : Int) := ⟨who.toNat, by omega⟩
  obtain ⟨k, code, s, ha⟩ := mach_at h (who := n) (by omega)
  by_cases hr : k.st = 0
  ·rw [stepM_at ha late hr]; exact stepAt_ok late h ha
  ·rw [stepM_over ha late hr]; exact h
 ·rw [stepM_none late hw]; exact h
end
section
set_option linter.unusedSimpArgs false
set_option linter.unusedVariables false
set_option maxRecDepth 100000
open Go.RowKit
theorem two4x {w W : World} {a b c d a' b' c' d' : Value} {T T' : TypeId} (hW : (w.alloc (.cells #[a, b, c, d] T)).alloc (.cells #[a', b', c', d'] T') = W) : Below w.heap.size w W ∧ X4 W w.heap.size a b c d ∧ X4 W (w.heap.size + 1) a' b' c' d' ∧ W.heap.size = w.heap.size + 2 := by
 subst hW
 refine ⟨((Below.refl _ _).alloc (Nat.le_refl _) _).alloc (by simp) _, ⟨⟨?_, ?_, ?_, ?_, ?_⟩, ?_⟩, ⟨⟨?_, ?_, ?_, ?_, ?_⟩, ?_⟩, ?_⟩ <;> first | (simp [go_sem]; done) | (simp [go_sem]; omega) | (intro j; simp [go_sem])
set_option maxHeartbeats 1000000 in
theorem sameCore_any (k : KD) (s1 s2 : Option Addr) (c1 c2 lo hi : Nat) (w : World) (h1 : IntsR w lo hi s1 k.regs) (h2 : IntsR w lo hi s2 k.vw) (hB : hi ≤ w.heap.size) (hl1 : k.regs.length ≤ 1048576) (hl2 : k.vw.length ≤ 1048576) :
  Calls Try.prog 50 #[.agg #[.int .i64 k.pc, .slice s1 k.regs.length c1, .slice s2 k.vw.length c2, .int .i64 k.st]] w fun e w' => ∃ a1 b1 a2 b2, e = .returned (.agg #[.int .i64 k.pc, .slice a1 k.regs.length b1, .slice a2 k.vw.length b2, .int .i64 k.st]) ∧ OwnN w' w.heap.size (.slice a1 k.regs.length b1) k.regs ∧ OwnN w' w.heap.size (.slice a2 k.vw.length b2) k.vw ∧ (∀ q, (Value.slice a1 k.regs.length b1).ownBlock = some q → (Value.slice a2 k.vw.length b2).ownBlock ≠ some q) ∧ Below w.heap.size w w' ∧ w.heap.size < w'.heap.size := by
 have H1 : Hid (IntsR w lo hi s1 k.regs) := h1
 have H2 : Hid (IntsR w lo hi s2 k.vw) := h2
 clear h1 h2
 go_enter Try.func50, Try.ntmps50
 obtain ⟨W, hW⟩ : ∃ W, (w.alloc (.cells #[.int .i64 k.pc, .slice s1 k.regs.length c1, .slice s2 k.vw.length c2, .int .i64 k.st] 46)).alloc (.cells #[.int .i64 0, .slice none 0 0, .slice none 0 0, .int .i64 0] 46) = W := ⟨_, rfl⟩
 obtain ⟨kw, xa, xb, zw⟩ := two4x hW
 have HW : Hid ((w.alloc (.cells #[.int .i64 k.pc, .slice s1 k.regs.length c1, .slice s2 k.vw.length c2, .int .i64 k.st] 46)).alloc (.cells #[.int .i64 0, .slice none 0 0, .slice none 0 0, .int .i64 0] 46) = W) := hW
 have XA : Hid (X4 W w.heap.size (.int .i64 k.pc) (.slice s1 k.regs.length c1) (.slice s2 k.vw.length c2) (.int .i64 k.st)) := xa
 have XB : Hid (X4 W (w.heap.size + 1) (.int .i64 0) (.slice none 0 0) (.slice none 0 0) (.int .i64 0)) := xb
 have KW : Hid (Below w.heap.size w W) := kw
 have zW : w.heap.size + 2 ≤ W.heap.size := by omega
 have HR1 : Hid (IntsR W lo hi s1 k.regs) := H1.out.keep (Keep.of_below kw hB)
 have zW' := zw
 clear hW kw xa xb zw
 go_wp2_with ((at_builtin; rw [HW.out]; refine app_copyI rfl _ _ rfl rfl W W.heap.size none 0 (by first | rfl | (rw [zW']; rfl)) (World.ownsRow_nil _ _ _ _) s1 c1 k.regs (by rfl) (HR1.out) (by omega) (Nat.le_refl _) ?_; intro a1 b1 w1 ho1 hc1; have O1 := (show Hid (OwnN w1 W.heap.size (.slice a1 k.regs.length b1) k.regs) from ho1); have kl := (show Below W.heap.size W w1 from hc1.low); have K1 := (show Hid (Below W.heap.size W w1) from kl); have YA := (show Hid (X4 w1 w.heap.size (.int .i64 k.pc) (.slice s1 k.regs.length c1) (.slice s2 k.vw.length c2) (.int .i64 k.st)) from XA.out.keep kl (by omega)); have YB := (show Hid (X4 w1 (w.heap.size + 1) (.int .i64 0) (.slice none 0 0) (.slice none 0 0) (.int .i64 0)) from XB.out.keep kl (by omega)); have ya := YA.out.x.c1; have ya2 := YA.out.x.c2; have yf := YA.out.fz 1; have za := YA.out.x.z; clear ho1 hc1 kl))
 obtain ⟨V, hV⟩ : ∃ V, w1.setCell ⟨w.heap.size, 1, none⟩ (.slice a1 k.regs.length b1) = V := ⟨_, rfl⟩
 have VA : Hid (X4 V w.heap.size (.int .i64 k.pc) (.slice a1 k.regs.length b1) (.slice s2 k.vw.length c2) (.int .i64 k.st)) := by rw [← hV]; exact YA.out.set1
 have VB : Hid (X4 V (w.heap.size + 1) (.int .i64 0) (.slice none 0 0) (.slice none 0 0) (.int .i64 0)) := by rw [← hV]; exact YB.out.off (by omega)
 have vs : V.heap.size = w1.heap.size := by rw [← hV]; simp
 have k1s := K1.out.size
 have KV : Hid (Below w.heap.size w V) := by rw [← hV]; exact (KW.out.trans (K1.out.mono (by omega))).setCell (p := ⟨w.heap.size, 1, none⟩) (Nat.le_refl _) _
 have OV : Hid (OwnN V W.heap.size (.slice a1 k.regs.length b1) k.regs) := by
  rw [← hV]
  exact ownKeep' O1.out (fun b hb => Below.heap_setCell _ _ _ b (by have := (World.ownsRow.lt O1.out _ hb).1; simp; omega))
 have HR2 : Hid (IntsR V lo hi s2 k.vw) := H2.out.keep (Keep.of_below KV.out hB)
 have zV : w.heap.size + 2 ≤ V.heap.size := by omega
 rw [hV]
 obtain ⟨va0, va1, va2, va3, va4⟩ := VA.out.x
 have vf := VA.out.fz
 clear hV ya ya2 yf za YA YB O1 K1 vs
 refine (copied_any s2 c2 lo hi k.vw V HR2.out (by omega) (by omega)).mono ?_
 rintro e w2 ⟨rfl, ho2, hb2⟩
 obtain ⟨G, hG, g1, g2⟩ : ∃ G, V.heap.size = G ∧ V.heap.size ≤ G ∧ G ≤ V.heap.size := ⟨_, rfl, Nat.le_refl _, Nat.le_refl _⟩
 obtain ⟨a2, ha2⟩ : ∃ a, some (⟨G, 0, none⟩ : Addr) = a := ⟨_, rfl⟩
 obtain ⟨b2, hb2'⟩ : ∃ b, k.vw.length = b := ⟨_, rfl⟩
 have P2 : Hid (OwnN w2 V.heap.size (.slice a2 k.vw.length b2) k.vw) := by rw [← ha2, ← hb2', ← hG]; exact ho2
 have K2 : Hid (Below V.heap.size V w2) := hb2
 have er : (Value.slice (some ⟨V.heap.size, 0, none⟩) k.vw.length k.vw.length) = .slice a2 k.vw.length b2 := by rw [hG, ha2, ← hb2']
 rw [er]
 clear ho2 hb2 hG er ha2 hb2'
 have KK : Hid (Below w.heap.size w w2) := KV.out.trans (K2.out.mono (by omega))
 have ZA : Hid (X4 w2 w.heap.size (.int .i64 k.pc) (.slice a1 k.regs.length b1) (.slice s2 k.vw.length c2) (.int .i64 k.st)) := VA.out.keep K2.out (by omega)
 have ZB : Hid (X4 w2 (w.heap.size + 1) (.int .i64 0) (.slice none 0 0) (.slice none 0 0) (.int .i64 0)) := VB.out.keep K2.out (by omega)
 have P1 : Hid (OwnN w2 W.heap.size (.slice a1 k.regs.length b1) k.regs) := ownKeep' OV.out (fun b hb => K2.out.block b (World.ownsRow.lt OV.out _ hb).2)
 have SP : Hid (∀ q, (Value.slice a1 k.regs.length b1).ownBlock = some q → (Value.slice a2 k.vw.length b2).ownBlock ≠ some q) := fun q h1 h2 => by
  have := (World.ownsRow.lt OV.out _ h1).2
  have := (World.ownsRow.lt P2.out _ h2).1
  omega
 clear va1 va2 va3 va4 vf
 obtain ⟨za0, za1, za2, za3, za4⟩ := ZA.out.x
 have zf := ZA.out.fz
 obtain ⟨yb0, yb1, yb2, yb3, yb4⟩ := ZB.out.x
 have yf2 := ZB.out.fz
 have zz2 := K2.out.size
 go_wp2
 obtain ⟨Z, hZ, xz, kz, sz, fz⟩ : ∃ Z, ((((w2.setCell ⟨w.heap.size, 2, none⟩ (.slice a2 k.vw.length b2)).setCell ⟨w.heap.size + 1, 0, none⟩ (.int .i64 k.pc)).setCell ⟨w.heap.size + 1, 1, none⟩ (.slice a1 k.regs.length b1)).setCell ⟨w.heap.size + 1, 2, none⟩ (.slice a2 k.vw.length b2)).setCell ⟨w.heap.size + 1, 3, none⟩ (.int .i64 k.st) = Z ∧ X4 Z (w.heap.size + 1) (.int .i64 k.pc) (.slice a1 k.regs.length b1) (.slice a2 k.vw.length b2) (.int .i64 k.st) ∧ Below w.heap.size w Z ∧ Z.heap.size = w2.heap.size ∧ ∀ b, w.heap.size + 2 ≤ b → Z.heap[b]? = w2.heap[b]? := by
  refine ⟨_, rfl, (ZB.out.off (by omega)).set0.set1.set2.set3, ?_, by simp, fun b hb => ?_⟩
  ·refine Below.setCell (Below.setCell (Below.setCell (Below.setCell (Below.setCell KK.out ?_ _) ?_ _) ?_ _) ?_ _) ?_ _ <;> simp
  ·rw [Below.heap_setCell _ _ _ b (by simp; omega), Below.heap_setCell _ _ _ b (by simp; omega), Below.heap_setCell _ _ _ b (by simp; omega), Below.heap_setCell _ _ _ b (by simp; omega), Below.heap_setCell _ _ _ b (by simp; omega)]
 have o1 : OwnN Z w.heap.size (.slice a1 k.regs.length b1) k.regs := by
  have o : OwnN w2 w.heap.size (.slice a1 k.regs.length b1) k.regs := ownLow' P1.out (by omega)
  exact ownKeep' o (fun b hb => fz b (by have := (World.ownsRow.lt P1.out _ hb).1; omega))
 have o2 : OwnN Z w.heap.size (.slice a2 k.vw.length b2) k.vw := by
  have o : OwnN w2 w.heap.size (.slice a2 k.vw.length b2) k.vw := ownLow' P2.out (by omega)
  exact ownKeep' o (fun b hb => fz b (by have := (World.ownsRow.lt P2.out _ hb).1; omega))
 refine bodyPost_ret (v := .agg #[.int .i64 k.pc, .slice a1 k.regs.length b1, .slice a2 k.vw.length b2, .int .i64 k.st]) ?_ rfl ?_
 ·rw [hZ]
  simp [results, Try.results50, go_sem, xz.x.c0, xz.x.c1, xz.x.c2, xz.x.c3]
 ·rw [hZ]
  exact ⟨a1, b1, a2, b2, rfl, o1, o2, SP.out, kz, by omega⟩
end
end Go.Proofs.Ytepfpbcjklaenaa
