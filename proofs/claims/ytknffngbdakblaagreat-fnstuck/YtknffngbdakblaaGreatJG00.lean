/- A region that draws its order, whose operations only read and whose callees only make new memory: one walk, in the order of the text. No condition. A region that draws its order, whose first operations only read and whose others come one behind the other: one walk of the first ones, in the order of the text, and then the others. No condition. Rows of numbers that a call has made: how they lie, what keeps them, and append of one number, and of three noughts. Conditions: fewer than 2^40 numbers. Lists of integers as they lie in memory, and what the laws' small functions make of them. Conditions: the lists are of at most a thousand million numbers. Lists of integers as they lie in memory between two blocks, and how the laws copy and count them. Conditions: at most 1048576 integers where they are copied. Sources as they lie in memory: rows of threads, of channels and of notes, read and owned. Rows of sources that are made and written: what stores make of them, and how the laws copy a list of integers. Conditions: each list of at most 1048576. The plain side of chapter 1: when a place is right, which registers it takes and sets: functions of integers alone. No condition. -/
import Derived.Test.YtknffngbdakblaaGreatChecked
import Derived.WalkKit
import Derived.KernelRfl
import Derived.Below
import Derived.Deep.QuietTactic
import Derived.BigQuiet
import Derived.WalkSpells
import Derived.WalkLawsBesides
import Derived.Laws.OwnMore
import Derived.Deep.AppendLies
import Derived.Laws.MakeOwn
namespace Go.Proofs.YtknffngbdakblaaGreat
section
set_option linter.unusedSimpArgs false
set_option linter.unusedVariables false
set_option maxRecDepth 100000
open Go.RowKit
/- a world that has all that W has, and perhaps more -/
structure Ext (W : World) where
 w : World
 b : Below W.heap.size W w
theorem ext_ne (W : World) : Nonempty (Ext W) := ⟨⟨W, Below.refl _ _⟩⟩
theorem regionExt {P : Program} {id : Nat} {Q : Exit → Act → World → Prop} {a : Act} (W : World) {l : List Oper} (hm : P.follows .mixedOrders = true) (hB : Region.lexB .any l.toArray = true)
  (h : wpQuiet P l.toArray (fun w' => ∃ x : Ext W, w' = x.w) (fun a' => ∀ w', (∃ x : Ext W, w' = x.w) → Q .normal a' w') l a) : (Code.region id l.toArray true).wp P Q a W :=
 wp_region_quiet (C := fun w' => ∃ x : Ext W, w' = x.w) hm hB ⟨⟨{ W with drawn := W.drawn + 1 }, ⟨rfl, rfl, rfl, Nat.le_refl _, fun _ _ => rfl⟩⟩, rfl⟩ (by simpa using h)
theorem Ext.fit {W : World} {b o : Nat} {v : Value} (h : W.cell? ⟨b, o, none⟩ = some v) (hb : b < W.heap.size) : ∀ x : Ext W, x.w.cell? ⟨b, o, none⟩ = some v := fun x => (x.b.cell (p := ⟨b, o, none⟩) hb).trans h
theorem Ext.on {W : World} (X : Ext W) {w3 : World} (h : Below X.w.heap.size X.w w3) : ∃ y : Ext W, w3 = y.w := ⟨⟨w3, X.b.trans (h.mono X.b.size)⟩, rfl⟩
end
section
set_option linter.unusedSimpArgs false
set_option linter.unusedVariables false
set_option maxRecDepth 100000
open Go.RowKit
def edgeB (full : List Oper) (i' i : Nat) : Bool := (full[i']?.map fun x => x.after.any fun e => Region.binds .any e && e.on == i).getD false
def lexE (full : List Oper) : Bool := (List.range full.length).all fun i => (full[i]?.map fun x => x.after.all fun e => !Region.binds .any e || decide (e.on < i)).getD true
/- whatever is ahead of number j is listed when j may come up -/
def covB (full : List Oper) (j : Nat) : Bool := (List.range j).all fun i => (List.range (j + 1)).any fun i' => decide (i < i') && edgeB full i' i
def sufOk (full : List Oper) (k : Nat) : Bool := lexE full && ((List.range full.length).all fun j => decide (j < k) || covB full j)
theorem edge_iff {full : List Oper} {i' i : Nat} : edgeB full i' i = true ↔ ∃ x, full[i']? = some x ∧ ∃ e ∈ x.after, Region.binds .any e = true ∧ e.on = i := by
 unfold edgeB
 cases h : full[i']? with
 | none => simp
 | some x =>
  simp only [Option.map_some, Option.getD_some, Array.any_eq_true', Bool.and_eq_true, beq_iff_eq]
  constructor
  ·rintro ⟨e, h1, h2, h3⟩; exact ⟨x, rfl, e, h1, h2, h3⟩
  ·rintro ⟨y, hy, e, h1, h2, h3⟩; injection hy with hy; subst hy; exact ⟨e, h1, h2, h3⟩
theorem mem_rdy {full : List Oper} {listed : Array Bool} {i : Nat} : i ∈ Region.ready .any full.toArray listed ↔ i < full.length ∧ listed.getD i true = false ∧ ∀ i2, edgeB full i i2 = true → listed.getD i2 false = true := by
 unfold Region.ready
 rw [List.mem_filter, List.mem_range, Bool.and_eq_true, Bool.not_eq_true', List.size_toArray, List.getElem?_toArray]
 refine and_congr_right fun hi => and_congr_right fun _ => ?_
 rw [List.getElem?_eq_getElem hi]
 simp only [Option.map_some, Option.getD_some, Array.all_eq_true', Bool.or_eq_true, Bool.not_eq_true']
 constructor
 ·intro h i2 h2
  rw [edge_iff] at h2
  obtain ⟨x, hx, e, he, hb, rfl⟩ := h2
  rw [List.getElem?_eq_getElem hi] at hx
  injection hx with hx
  subst hx
  rcases h e he with h | h
  ·rw [hb] at h; cases h
  ·exact h
 ·intro h e he
  cases hb : Region.binds .any e with
  | false => exact .inl rfl
  | true => exact .inr (h e.on (edge_iff.2 ⟨_, List.getElem?_eq_getElem hi, e, he, hb, rfl⟩))
/- what is listed was waited for -/
def Down (full : List Oper) (listed : Array Bool) : Prop := ∀ i i2, i < full.length → listed.getD i true = true → edgeB full i i2 = true → listed.getD i2 false = true
theorem lex_lt {full : List Oper} (h : lexE full = true) {i i2 : Nat} (he : edgeB full i i2 = true) : i2 < i ∧ i < full.length := by
 rw [edge_iff] at he
 obtain ⟨x, hx, e, hm, hb, rfl⟩ := he
 have hi := (List.getElem?_eq_some_iff.1 hx).1
 unfold lexE at h
 rw [List.all_eq_true] at h
 have q := h i (List.mem_range.2 hi)
 rw [hx] at q
 simp only [Option.map_some, Option.getD_some, Array.all_eq_true', Bool.or_eq_true, Bool.not_eq_true'] at q
 rcases q e hm with q | q
 ·rw [hb] at q; cases q
 ·exact ⟨by simpa using q, hi⟩
theorem getD_in {listed : Array Bool} {i : Nat} (h : i < listed.size) (b c : Bool) : listed.getD i b = listed.getD i c := by simp [Array.getD, h]
theorem down_set {full : List Oper} {listed : Array Bool} (hs : listed.size = full.length) (hd : Down full listed) (hx : lexE full = true) {k : Nat} (hk : k ∈ Region.ready .any full.toArray listed) : Down full (listed.setIfInBounds k true) := fun i i2 hi hl he => by
 have h2 := lex_lt hx he
 have q : listed.getD i2 false = true := by
  by_cases e : i = k
  ·subst e
   exact (mem_rdy.1 hk).2.2 i2 he
  ·refine hd i i2 hi ?_ he
   have : i < listed.size := by omega
   simpa [Array.getD, this, Array.getElem_setIfInBounds, Ne.symm e] using hl
 have : i2 < listed.size := by omega
 by_cases e : k = i2
 ·subst e; simp [Array.getD, this]
 ·simp only [Array.getD, this, dif_pos] at q
  simp [Array.getD, this, Array.getElem_setIfInBounds, e]
  exact q
theorem cov_all {full : List Oper} {listed : Array Bool} (hs : listed.size = full.length) (hd : Down full listed) {j : Nat} (hj : j < full.length) (hc : covB full j = true) (hr : ∀ i2, edgeB full j i2 = true → listed.getD i2 false = true) : ∀ n i, j - i ≤ n → i < j → listed.getD i false = true := by
 intro n
 induction n with
 | zero => intro i h1 h2; omega
 | succ n ih =>
  intro i h1 h2
  unfold covB at hc
  rw [List.all_eq_true] at hc
  have q := hc i (List.mem_range.2 h2)
  rw [List.any_eq_true] at q
  obtain ⟨i', hm, q⟩ := q
  rw [List.mem_range] at hm
  rw [Bool.and_eq_true, decide_eq_true_eq] at q
  by_cases e : i' = j
  ·subst e; exact hr i q.2
  ·have := ih i' (by omega) (by omega)
   exact hd i' i (by omega) (by rw [getD_in (by omega) true false]; exact this) q.2
theorem rdy_some {full : List Oper} (hx : lexE full = true) {listed : Array Bool} (hs : listed.size = full.length) : ∀ (k : Nat), k < full.length → listed.getD k true = false → ∃ i, i ≤ k ∧ i ∈ Region.ready .any full.toArray listed := by
 intro k
 induction k using Nat.strongRecOn with
 | ind k ih =>
  intro hk hf
  by_cases h : ∃ j, j < k ∧ listed.getD j true = false
  ·obtain ⟨j, h1, h2⟩ := h
   obtain ⟨i, h3, h4⟩ := ih j h1 (by omega) h2
   exact ⟨i, by omega, h4⟩
  ·refine ⟨k, Nat.le_refl _, mem_rdy.2 ⟨hk, hf, fun i2 he => ?_⟩⟩
   have h2 := lex_lt hx he
   have hn : ¬ listed.getD i2 true = false := fun hh => h ⟨i2, h2.1, hh⟩
   rw [getD_in (by omega) false true]
   simpa using hn
/- all below k are listed, none from k on -/
def Upto (n : Nat) (listed : Array Bool) (k : Nat) : Prop := listed.size = n ∧ (∀ i, i < k → i < n → listed.getD i true = true) ∧ ∀ i, k ≤ i → i < n → listed.getD i true = false
theorem Upto.next {n k : Nat} {listed : Array Bool} (h : Upto n listed k) (hk : k < n) : Upto n (listed.setIfInBounds k true) (k + 1) := by
 obtain ⟨h1, h2, h3⟩ := h
 refine ⟨by simpa using h1, fun i a b => ?_, fun i a b => ?_⟩
 ·have hi : i < listed.size := by omega
  by_cases e : k = i
  ·subst e; simp [Array.getD, hi]
  ·have q := h2 i (by omega) b
   simp only [Array.getD, hi, dif_pos] at q
   simp [Array.getD, hi, Array.getElem_setIfInBounds, e]
   exact q
 ·have hi : i < listed.size := by omega
  have q := h3 i (by omega) b
  simp only [Array.getD, hi, dif_pos] at q
  simp [Array.getD, hi, Array.getElem_setIfInBounds, show ¬ k = i by omega]
  exact q
theorem forced {P : Program} {Q : Exit → Act → World → Prop} {full : List Oper} (hx : lexE full = true) : ∀ (t : List Oper) (k : Nat) (listed : Array Bool) (a : Act) (w : World), full.drop k = t → (∀ j, k ≤ j → j < full.length → covB full j = true) → Down full listed → Upto full.length listed k → wpList P full.toArray Q t a w → wpAny P .any full.toArray Q t.length listed a w
 | [], k, listed, a, w, ht, hc, hd, hu, h => by
  have hk : full.length ≤ k := List.drop_eq_nil_iff.1 ht
  refine ⟨List.eq_nil_iff_forall_not_mem.2 fun i hi => ?_, h⟩
  obtain ⟨h1, h2, -⟩ := mem_rdy.1 hi
  rw [hu.2.1 i (by omega) h1] at h2
  cases h2
 | o :: t, k, listed, a, w, ht, hc, hd, hu, h => by
  have hk : k < full.length := by
   rcases Nat.lt_or_ge k full.length with q | q
   ·exact q
   ·rw [List.drop_eq_nil_of_le q] at ht; cases ht
  have ho : full[k]? = some o := by
   have : (full.drop k)[0]? = some o := by rw [ht]; rfl
   rw [List.getElem?_drop] at this
   simpa using this
  have hall : ∀ i, i ∈ Region.ready .any full.toArray listed → i = k := fun i hi => by
   obtain ⟨h1, h2, h3⟩ := mem_rdy.1 hi
   rcases Nat.lt_trichotomy i k with q | q | q
   ·rw [hu.2.1 i q h1] at h2; cases h2
   ·exact q
   ·have c := cov_all hu.1 hd h1 (hc i (by omega) h1) h3 i k (by omega) q
    have c2 := hu.2.2 k (Nat.le_refl _) hk
    rw [getD_in (by have := hu.1; omega) true false, c] at c2
    cases c2
  refine ⟨fun h0 => ?_, fun i hi => ?_⟩
  ·obtain ⟨i, -, hi⟩ := rdy_some hx hu.1 k hk (hu.2.2 k (Nat.le_refl _) hk)
   rw [h0] at hi
   cases hi
  ·have e := hall i hi
   subst e
   unfold wpList at h
   unfold wpOp
   have ho2 : full.toArray[i]? = some o := by rw [List.getElem?_toArray]; exact ho
   have hd2 := down_set hu.1 hd hx hi
   have go : ∀ a' w', wpList P full.toArray Q t a' w' → wpAny P .any full.toArray Q t.length (listed.setIfInBounds i true) a' w' := fun a' w' hh => forced hx t (i + 1) _ a' w' (by rw [← List.drop_drop, ht]; rfl) (fun j a b => hc j (by omega) b) hd2 (hu.next hk) hh
   simp only [ho2]
   split
   ·rename_i hw
    rw [if_pos hw] at h
    exact h.imp (Oper.wp_mono go) id
   ·rename_i hw
    rw [if_neg hw] at h
    exact go _ _ h
theorem take_at {full : List Oper} {k i : Nat} (h : i < k) : (full.take k)[i]? = full[i]? := by rw [List.getElem?_take]; simp [h]
theorem edge_take {full : List Oper} {k i i2 : Nat} (h : i < k) : edgeB (full.take k) i i2 = edgeB full i i2 := by unfold edgeB; rw [take_at h]
/- the first k in whatever order, then the others -/
theorem suf_conv {P : Program} {Q : Exit → Act → World → Prop} {C : World → Prop} {Qa : Act → Prop} {full : List Oper} {k : Nat} (hk : k < full.length) (hx : lexE full = true) (hc : ∀ j, k ≤ j → j < full.length → covB full j = true) (hy : ∀ i x, i < k → full[i]? = some x → ∀ t : Array Value, Region.wanted x (yielded (full.take k).toArray t) = Region.wanted x (yielded full.toArray t))
  (hQ : ∀ a w, C w → Qa a → wpList P full.toArray Q (full.drop k) a w) :
  ∀ (fuel : Nat) (l1 listed : Array Bool) (a : Act) (w : World), listed.size = full.length → l1.size = k → (∀ i, i < k → l1.getD i true = listed.getD i true) → (∀ i, k ≤ i → i < full.length → listed.getD i true = false) → Down full listed → C w → wpAnyQ P .any (full.take k).toArray C Qa fuel l1 a → wpAny P .any full.toArray Q (fuel + (full.length - k)) listed a w := by
 have hl : (full.take k).length = k := by rw [List.length_take]; omega
 have hx1 : lexE (full.take k) = true := by
  unfold lexE at hx ⊢
  rw [List.all_eq_true] at hx ⊢
  intro i hi
  rw [List.mem_range, hl] at hi
  rw [take_at hi]
  exact hx i (List.mem_range.2 (by omega))
 have fin : ∀ (fuel : Nat) (l1 listed : Array Bool) (a : Act) (w : World), listed.size = full.length → l1.size = k → (∀ i, i < k → l1.getD i true = listed.getD i true) → (∀ i, k ≤ i → i < full.length → listed.getD i true = false) → Down full listed → Region.ready .any (full.take k).toArray l1 = [] → wpList P full.toArray Q (full.drop k) a w → wpAny P .any full.toArray Q (fuel + (full.length - k)) listed a w := by
  intro fuel l1 listed a w hs h1 hsame hun hd h0 hw
  have hup : Upto full.length listed k := by
   refine ⟨hs, fun i a1 a2 => ?_, hun⟩
   rw [← hsame i a1]
   cases hb : l1.getD i true with
   | true => rfl
   | false =>
    obtain ⟨i', -, hi'⟩ := rdy_some hx1 (by omega) i (by omega) hb
    rw [h0] at hi'
    cases hi'
  have q := forced (P := P) (Q := Q) hx (full.drop k) k listed a w rfl hc hd hup hw
  have mono : ∀ (n : Nat) (f : Nat) (l : Array Bool) (a : Act) (w : World), wpAny P .any full.toArray Q f l a w → wpAny P .any full.toArray Q (n + f) l a w := by
   intro n f
   induction f with
   | zero =>
    intro l a w h
    cases n with
    | zero => exact h
    | succ n => exact ⟨fun _ => h.2, by rw [h.1]; simp⟩
   | succ f ih => intro l a w h; exact ⟨h.1, fun i hi => wpOp_mono (fun a' w' hh => ih _ a' w' hh) (h.2 i hi)⟩
  have e : (full.drop k).length = full.length - k := List.length_drop
  rw [e] at q
  exact mono fuel _ _ _ _ q
 intro fuel
 induction fuel with
 | zero =>
  intro l1 listed a w hs h1 hsame hun hd hC h
  exact fin 0 l1 listed a w hs h1 hsame hun hd h.1 (hQ a w hC h.2)
 | succ fuel ih =>
  intro l1 listed a w hs h1 hsame hun hd hC h
  by_cases h0 : Region.ready .any (full.take k).toArray l1 = []
  ·exact fin (fuel + 1) l1 listed a w hs h1 hsame hun hd h0 (hQ a w hC (h.1 h0))
  ·rw [show fuel + 1 + (full.length - k) = (fuel + (full.length - k)) + 1 by omega]
   have hlt : ∀ i, i ∈ Region.ready .any full.toArray listed → i < k := fun i hi => by
    rcases Nat.lt_or_ge i k with q | q
    ·exact q
    ·exfalso
     obtain ⟨a1, a2, a3⟩ := mem_rdy.1 hi
     apply h0
     refine List.eq_nil_iff_forall_not_mem.2 fun j hj => ?_
     obtain ⟨b1, b2, -⟩ := mem_rdy.1 hj
     rw [hl] at b1
     have c := cov_all hs hd a1 (hc i q a1) a3 i j (by omega) (by omega)
     rw [hsame j b1, getD_in (by omega) true false, c] at b2
     cases b2
   refine ⟨fun hn => ?_, fun i hi => ?_⟩
   ·obtain ⟨i, -, hi⟩ := rdy_some hx hs k hk (hun k (Nat.le_refl _) hk)
    rw [hn] at hi
    cases hi
   ·have hik := hlt i hi
    obtain ⟨a1, a2, a3⟩ := mem_rdy.1 hi
    have hi1 : i ∈ Region.ready .any (full.take k).toArray l1 := by
     refine mem_rdy.2 ⟨by omega, by rw [hsame i hik]; exact a2, fun i2 he => ?_⟩
     rw [edge_take hik] at he
     have := (lex_lt hx he).1
     rw [getD_in (by omega) false true, hsame i2 (by omega), getD_in (by omega) true false]
     exact a3 i2 he
    have hq := h.2 i hi1
    obtain ⟨o, ho⟩ : ∃ o, full[i]? = some o := ⟨_, List.getElem?_eq_getElem a1⟩
    have hq' : qOp P full.toArray C i (wpAnyQ P .any (full.take k).toArray C Qa fuel (l1.setIfInBounds i true)) a := by
     unfold qOp at hq ⊢
     rw [List.getElem?_toArray] at hq ⊢
     rw [take_at hik, ho] at hq
     rw [ho]
     simp only at hq ⊢
     rw [hy i o hik ho] at hq
     exact hq
    refine wpOp_of_qOp hC (fun a' w' hC' hk' => ih _ _ a' w' (by simpa using hs) (by simpa using h1) (fun j hj => ?_) (fun j b1 b2 => ?_) (down_set hs hd hx hi) hC' hk') hq'
    ·have j1 : j < l1.size := by omega
     have j2 : j < listed.size := by omega
     have q := hsame j hj
     simp only [Array.getD, j1, j2, dif_pos] at q
     by_cases e : i = j
     ·subst e; simp [Array.getD, j1, j2]
     ·simp [Array.getD, j1, j2, Array.getElem_setIfInBounds, e]
      exact q
    ·have j2 : j < listed.size := by omega
     have q := hun j b1 b2
     simp only [Array.getD, j2, dif_pos] at q
     simp [Array.getD, j2, Array.getElem_setIfInBounds, show ¬ i = j by omega]
     exact q
/- no guard among the first k looks beyond them -/
def grdB (full : List Oper) (k : Nat) : Bool := (full.take k).all fun x => match x.guard with | some (g, _) => decide (g < k) | none => true
theorem regionSuf {P : Program} {id : Nat} {Q : Exit → Act → World → Prop} {a : Act} (W : World) {full : List Oper} (k : Nat) (hk : decide (k < full.length) = true) (hm : P.follows .mixedOrders = true) (hB : Region.lexB .any (full.take k).toArray = true) (hS : sufOk full k = true) (hG : grdB full k = true)
  (h : wpQuiet P (full.take k).toArray (fun w' => ∃ x : Ext W, w' = x.w) (fun a' => ∀ w', (∃ x : Ext W, w' = x.w) → wpList P full.toArray Q (full.drop k) a' w') (full.take k) a) : (Code.region id full.toArray true).wp P Q a W := by
 rw [decide_eq_true_eq] at hk
 unfold sufOk at hS
 rw [Bool.and_eq_true, List.all_eq_true] at hS
 obtain ⟨hx, hc⟩ := hS
 have hc' : ∀ j, k ≤ j → j < full.length → covB full j = true := fun j a1 a2 => by
  have q := hc j (List.mem_range.2 a2)
  rw [Bool.or_eq_true, decide_eq_true_eq] at q
  rcases q with q | q
  ·omega
  ·exact q
 have hl : (full.take k).length = k := by rw [List.length_take]; omega
 simp only [Region.lexB, Bool.and_eq_true] at hB
 have h2 := wpAnyQ_lex (md := .any) hB.1 (full.take k) 0 (Array.replicate (full.take k).toArray.size false) a (by simp) (by simpa using hB.2) h
 refine wp_region_any hm ?_
 have hy : ∀ i x, i < k → full[i]? = some x → ∀ t : Array Value, Region.wanted x (yielded (full.take k).toArray t) = Region.wanted x (yielded full.toArray t) := fun i x hi hx' t => by
  unfold grdB at hG
  rw [List.all_eq_true] at hG
  have q := hG x (List.mem_of_getElem? (by rw [take_at hi]; exact hx'))
  unfold Region.wanted
  cases hg : x.guard with
  | none => rfl
  | some y =>
   rw [hg] at q
   simp only [decide_eq_true_eq] at q
   have e : yielded (full.take k).toArray t y.1 = yielded full.toArray t y.1 := by
    unfold yielded
    rw [List.getElem?_toArray, List.getElem?_toArray, take_at q]
   simp only [e]
 have q := suf_conv (P := P) (Q := Q) (C := fun w' => ∃ x : Ext W, w' = x.w) (Qa := fun a' => ∀ w', (∃ x : Ext W, w' = x.w) → wpList P full.toArray Q (full.drop k) a' w') hk hx hc' hy (fun a' w' hC hh => hh w' hC) k (Array.replicate k false) (Array.replicate full.length false) a { W with drawn := W.drawn + 1 } (by simp) (by simp) (fun i hi => by simp [Array.getD, hi, show i < full.length by omega]) (fun i _ hi => by simp [Array.getD, hi]) (fun i i2 hi hl => by simp [Array.getD, hi] at hl) ⟨⟨{ W with drawn := W.drawn + 1 }, ⟨rfl, rfl, rfl, Nat.le_refl _, fun _ _ => rfl⟩⟩, rfl⟩ (by simp only [List.size_toArray, hl] at h2; exact h2)
 have e : k + (full.length - k) = full.toArray.size := by simp; omega
 rw [e] at q
 simpa using q
end
section
set_option linter.unusedSimpArgs false
set_option linter.unusedVariables false
set_option maxRecDepth 100000
open Go.RowKit
def OwnN (w : World) (base : Nat) (v : Value) (ls : List Int) : Prop := w.ownsRow base 3 1 v ls.length (ls.map (Value.int .i64))
theorem infoInt : ∃ i, Tryz.prog.info? 3 = some i ∧ i.zero = some (.int .i64 0) ∧ i.size = 1 ∧ i.bytes = 8 := ⟨_, rfl, rfl, rfl, rfl⟩
theorem ownN_empty {w : World} {base : Nat} (hb : base ≤ w.heap.size) : OwnN (w.alloc (.cells #[] 3)) base (.slice (some ⟨w.heap.size, 0, none⟩) 0 0) [] :=
 World.ownsRow_lit w #[] 0 hb (by unfold maxLen; omega) rfl
theorem OwnN.keep {w w' : World} {base : Nat} {v : Value} {ls : List Int} (h : OwnN w base v ls) (hb : ∀ k, base ≤ k → k < w.heap.size → w'.heap[k]? = w.heap[k]?) : OwnN w' base v ls := by
 obtain ⟨h1, h2⟩ := h
 refine ⟨h1, ?_⟩
 rcases h2 with h2 | ⟨g, cap, cur, a, b, c, d⟩
 ·exact .inl h2
 ·have hlt : g < w.heap.size := (Array.getElem?_eq_some_iff.1 c).1
  exact .inr ⟨g, cap, cur, a, b, (hb g b hlt).trans c, d⟩
theorem OwnN.below {w w' : World} {base : Nat} {v : Value} {ls : List Int} (h : OwnN w base v ls) (hb : Below w.heap.size w w') : OwnN w' base v ls := h.keep fun k _ hk => hb.block k hk
theorem OwnN.alloc {w : World} {base : Nat} {v : Value} {ls : List Int} (h : OwnN w base v ls) (o : Obj) : OwnN (w.alloc o) base v ls := h.keep fun k _ hk => Below.heap_alloc _ _ _ hk
theorem OwnN.cell {w : World} {base g cap : Nat} {ls : List Int} (h : OwnN w base (.slice (some ⟨g, 0, none⟩) ls.length cap) ls) {i : Nat} (hi : i < ls.length) : w.cell? ⟨g, i, none⟩ = some (.int .i64 (ls.getD i 0)) := by
 rw [World.ownsRow.cellAt h i (by omega)]
 simp [List.getD_eq_getElem?_getD, List.getElem?_eq_getElem hi]
theorem OwnN.sl {w : World} {base : Nat} {v : Value} {ls : List Int} (h : OwnN w base v ls) : ∃ s cap, v = .slice s ls.length cap := by
 rcases h.2 with ⟨h1, h2⟩ | ⟨g, cap, cur, a, -⟩
 ·exact ⟨none, 0, by rw [h1, h2]⟩
 ·exact ⟨_, _, a⟩
theorem newN1 (w : World) (u : Value) : ∀ j v, [u][j]? = some v → (w.alloc (.cells #[u] 3)).cell? (Addr.add ⟨w.heap.size, 0, none⟩ j) = some v := by
 intro j v h
 match j, h with
 | 0, h => simpa [Addr.add, go_sem] using h
 | j + 1, h => simp at h
end
section
set_option linter.unusedSimpArgs false
set_option linter.unusedVariables false
set_option maxRecDepth 100000
open Go.RowKit
def Ints (w : World) (s : Option Addr) (l : List Int) : Prop :=
 l = [] ∨ ∃ g o, s = some ⟨g, o, none⟩ ∧ g < w.heap.size ∧ ∀ i, i < l.length → w.cell? ⟨g, o + i, none⟩ = some (.int .i64 (l.getD i 0))
theorem ret_bool' {x y : Bool} (h : x = y) : Ending.returned (.bool x) = Ending.returned (.bool y) := by rw [h]
theorem getD_eq_all (l l' : List Int) (h : l.length = l'.length) (hj : ∀ j, j < l.length → l.getD j 0 = l'.getD j 0) : l = l' := by
 apply List.ext_getElem h
 intro i h1 h2
 have := hj i h1
 simpa [List.getD_eq_getElem?_getD, h1, h2] using this
end
section
set_option linter.unusedSimpArgs false
set_option linter.unusedVariables false
set_option maxRecDepth 100000
open Go.RowKit
theorem setC_at {w : World} {g i : Nat} {v : Value} (h : (w.cell? ⟨g, i, none⟩).isSome = true) : (w.setCell ⟨g, i, none⟩ v).cell? ⟨g, i, none⟩ = some v := World.cell?_setCell_same' w _ v h
theorem setC_off {w : World} {g i j : Nat} {v : Value} (h : i ≠ j) : (w.setCell ⟨g, i, none⟩ v).cell? ⟨g, j, none⟩ = w.cell? ⟨g, j, none⟩ := by
 apply World.cell?_setCell_other
 intro e
 injection e with e1 e2
 exact h e2
def Keep (lo hi : Nat) (w w' : World) : Prop := ∀ k, lo ≤ k → k < hi → w'.heap[k]? = w.heap[k]?
theorem Keep.of_below {lo hi B : Nat} {w w' : World} (hb : Below B w w') (h : hi ≤ B) : Keep lo hi w w' := fun k _ hk => hb.block k (by omega)
theorem Keep.cell {lo hi : Nat} {w w' : World} (h : Keep lo hi w w') {p : Addr} (h1 : lo ≤ p.block) (h2 : p.block < hi) : w'.cell? p = w.cell? p := World.cell?_of_block (w := w) (h p.block h1 h2)
def IntsR (w : World) (lo hi : Nat) (s : Option Addr) (l : List Int) : Prop :=
 l = [] ∨ ∃ g off, s = some ⟨g, off, none⟩ ∧ lo ≤ g ∧ g < hi ∧ ∀ i, i < l.length → w.cell? ⟨g, off + i, none⟩ = some (.int .i64 (l.getD i 0))
theorem IntsR.keep {w w' : World} {lo hi : Nat} {s : Option Addr} {l : List Int} (h : IntsR w lo hi s l) (hb : Keep lo hi w w') : IntsR w' lo hi s l := by
 rcases h with h | ⟨g, o, hs, h1, h2, hc⟩
 ·exact .inl h
 ·exact .inr ⟨g, o, hs, h1, h2, fun i hi => (hb.cell h1 h2).trans (hc i hi)⟩
theorem IntsR.mono {w : World} {lo hi lo' hi' : Nat} {s : Option Addr} {l : List Int} (h : IntsR w lo hi s l) (h1 : lo' ≤ lo) (h2 : hi ≤ hi') : IntsR w lo' hi' s l := by
 rcases h with h | ⟨g, o, hs, a, b, hc⟩
 ·exact .inl h
 ·exact .inr ⟨g, o, hs, by omega, by omega, hc⟩
theorem mkInt (n : Nat) (hn : n ≤ 1048576) (w : World) : (Instr.makeSlice 24 (.int .i64 (n : Int)) (.int .i64 (n : Int))).run Tryz.prog w = .ok (.slice (some ⟨w.heap.size, 0, none⟩) n n) (w.alloc (.cells (madeCells #[.int .i64 0] (n * 1)) 3)) := by
 have h := run_make (P := Tryz.prog) w 24 3 _ (.int .i64 0) Tryz.underlying24 rfl rfl .i64 .i64 n n (by omega) (Int.le_refl _) (by show (8 : Int) * _ ≤ _; omega) (by omega)
 have e : (Value.int .i64 0).cells = #[.int .i64 0] := rfl
 have e' : ∀ t, Tryz.prog.info? 3 = some t → t.size = 1 := by intro t h; cases h; rfl
 rw [e, e' _ rfl] at h
 simpa using h
theorem setC_blk {w : World} {g g' i j : Nat} {v : Value} (h : g ≠ g') : (w.setCell ⟨g, i, none⟩ v).cell? ⟨g', j, none⟩ = w.cell? ⟨g', j, none⟩ := by
 apply World.cell?_setCell_other
 intro e
 injection e with e1 e2
 exact h e1
end
section
set_option linter.unusedSimpArgs false
set_option linter.unusedVariables false
set_option maxRecDepth 100000
open Go.RowKit
structure TD where
 pc : Int
 regs : List Int
 st : Int
structure CD where
 cap : Int
 list : List Int
 cl : Bool
structure ND where
 who : Int
 v : Int
structure SD where
 ths : List TD
 chs : List CD
 tr : List ND
/- a thread or a channel as three cells -/
structure Rec where
 a : Value
 l : List Int
 z : Value
def TD.rec3 (t : TD) : Rec := ⟨.int .i64 t.pc, t.regs, .int .i64 t.st⟩
def CD.rec3 (t : CD) : Rec := ⟨.int .i64 t.cap, t.list, .bool t.cl⟩
def RecR (w : World) (lo hi g off : Nat) (r : Rec) : Prop :=
 ∃ s c, w.cell? ⟨g, off, none⟩ = some r.a ∧ w.cell? ⟨g, off + 1, none⟩ = some (.slice s r.l.length c) ∧ w.cell? ⟨g, off + 2, none⟩ = some r.z ∧ IntsR w lo hi s r.l
def RecsR (w : World) (lo hi : Nat) (s : Option Addr) (l : List Rec) : Prop :=
 l = [] ∨ ∃ g off, s = some ⟨g, off, none⟩ ∧ lo ≤ g ∧ g < hi ∧ ∀ (i : Nat) (r : Rec), l[i]? = some r → RecR w lo hi g (off + i * 3) r
def NtR (w : World) (g off : Nat) (n : ND) : Prop := w.cell? ⟨g, off, none⟩ = some (.int .i64 n.who) ∧ w.cell? ⟨g, off + 1, none⟩ = some (.int .i64 n.v)
def NtsR (w : World) (lo hi : Nat) (s : Option Addr) (l : List ND) : Prop :=
 l = [] ∨ ∃ g off, s = some ⟨g, off, none⟩ ∧ lo ≤ g ∧ g < hi ∧ ∀ (i : Nat) (n : ND), l[i]? = some n → NtR w g (off + i * 2) n
def SrcR (w : World) (lo hi : Nat) (s1 s2 s3 : Option Addr) (d : SD) : Prop := RecsR w lo hi s1 (d.ths.map TD.rec3) ∧ RecsR w lo hi s2 (d.chs.map CD.rec3) ∧ NtsR w lo hi s3 d.tr
theorem RecR.keep {w w' : World} {lo hi g off : Nat} {r : Rec} (h : RecR w lo hi g off r) (hb : Keep lo hi w w') (hc : ∀ j, w'.cell? ⟨g, j, none⟩ = w.cell? ⟨g, j, none⟩) : RecR w' lo hi g off r := by
 obtain ⟨s, c, h1, h2, h3, h4⟩ := h
 exact ⟨s, c, (hc _).trans h1, (hc _).trans h2, (hc _).trans h3, h4.keep hb⟩
theorem RecR.mono {w : World} {lo hi lo' hi' g off : Nat} {r : Rec} (h : RecR w lo hi g off r) (h1 : lo' ≤ lo) (h2 : hi ≤ hi') : RecR w lo' hi' g off r := by
 obtain ⟨s, c, a, b, d, e⟩ := h
 exact ⟨s, c, a, b, d, e.mono h1 h2⟩
theorem RecsR.keep {w w' : World} {lo hi : Nat} {s : Option Addr} {l : List Rec} (h : RecsR w lo hi s l) (hb : Keep lo hi w w') : RecsR w' lo hi s l := by
 rcases h with h | ⟨g, o, hs, h1, h2, hc⟩
 ·exact .inl h
 ·exact .inr ⟨g, o, hs, h1, h2, fun i r hi => (hc i r hi).keep hb (fun j => hb.cell h1 h2)⟩
theorem RecsR.mono {w : World} {lo hi lo' hi' : Nat} {s : Option Addr} {l : List Rec} (h : RecsR w lo hi s l) (h1 : lo' ≤ lo) (h2 : hi ≤ hi') : RecsR w lo' hi' s l := by
 rcases h with h | ⟨g, o, hs, a, b, hc⟩
 ·exact .inl h
 ·exact .inr ⟨g, o, hs, by omega, by omega, fun i r hi => (hc i r hi).mono h1 h2⟩
theorem NtsR.keep {w w' : World} {lo hi : Nat} {s : Option Addr} {l : List ND} (h : NtsR w lo hi s l) (hb : Keep lo hi w w') : NtsR w' lo hi s l := by
 rcases h with h | ⟨g, o, hs, h1, h2, hc⟩
 ·exact .inl h
 ·exact .inr ⟨g, o, hs, h1, h2, fun i r hi => ⟨(hb.cell h1 h2).trans (hc i r hi).1, (hb.cell h1 h2).trans (hc i r hi).2⟩⟩
theorem NtsR.mono {w : World} {lo hi lo' hi' : Nat} {s : Option Addr} {l : List ND} (h : NtsR w lo hi s l) (h1 : lo' ≤ lo) (h2 : hi ≤ hi') : NtsR w lo' hi' s l := by
 rcases h with h | ⟨g, o, hs, a, b, hc⟩
 ·exact .inl h
 ·exact .inr ⟨g, o, hs, by omega, by omega, hc⟩
theorem SrcR.keep {w w' : World} {lo hi : Nat} {s1 s2 s3 : Option Addr} {d : SD} (h : SrcR w lo hi s1 s2 s3 d) (hb : Keep lo hi w w') : SrcR w' lo hi s1 s2 s3 d := ⟨h.1.keep hb, h.2.1.keep hb, h.2.2.keep hb⟩
theorem SrcR.mono {w : World} {lo hi lo' hi' : Nat} {s1 s2 s3 : Option Addr} {d : SD} (h : SrcR w lo hi s1 s2 s3 d) (h1 : lo' ≤ lo) (h2 : hi ≤ hi') : SrcR w lo' hi' s1 s2 s3 d := ⟨h.1.mono h1 h2, h.2.1.mono h1 h2, h.2.2.mono h1 h2⟩
/- owned rows -/
def flatR : List (Rec × Value) → List Value
 | [] => []
 | x :: t => [x.1.a, x.2, x.1.z] ++ flatR t
theorem flatR_len : ∀ L : List (Rec × Value), (flatR L).length = L.length * 3
 | [] => rfl
 | x :: t => by simp [flatR, flatR_len t]; omega
theorem flatR_app : ∀ (a b : List (Rec × Value)), flatR (a ++ b) = flatR a ++ flatR b
 | [], b => rfl
 | x :: r, b => by simp [flatR, flatR_app r b]
theorem flatR_at : ∀ (L : List (Rec × Value)) (i : Nat) (x : Rec × Value), L[i]? = some x → (flatR L)[i * 3]? = some x.1.a ∧ (flatR L)[i * 3 + 1]? = some x.2 ∧ (flatR L)[i * 3 + 2]? = some x.1.z
 | [], i, x, h => by simp at h
 | y :: r, 0, x, h => by
  simp at h
  subst h
  exact ⟨rfl, rfl, rfl⟩
 | y :: r, i + 1, x, h => by
  have h' : r[i]? = some x := by simpa using h
  have e := flatR_at r i x h'
  have e0 : (i + 1) * 3 = i * 3 + 3 := by omega
  rw [e0]
  exact e
def flatN : List ND → List Value
 | [] => []
 | x :: t => [.int .i64 x.who, .int .i64 x.v] ++ flatN t
theorem flatN_len : ∀ L : List ND, (flatN L).length = L.length * 2
 | [] => rfl
 | x :: t => by simp [flatN, flatN_len t]; omega
theorem flatN_app : ∀ (a b : List ND), flatN (a ++ b) = flatN a ++ flatN b
 | [], b => rfl
 | x :: r, b => by simp [flatN, flatN_app r b]
theorem flatN_at : ∀ (L : List ND) (i : Nat) (x : ND), L[i]? = some x → (flatN L)[i * 2]? = some (.int .i64 x.who) ∧ (flatN L)[i * 2 + 1]? = some (.int .i64 x.v)
 | [], i, x, h => by simp at h
 | y :: r, 0, x, h => by
  simp at h
  subst h
  exact ⟨rfl, rfl⟩
 | y :: r, i + 1, x, h => by
  have h' : r[i]? = some x := by simpa using h
  have e := flatN_at r i x h'
  have e0 : (i + 1) * 2 = i * 2 + 2 := by omega
  rw [e0]
  exact e
structure OwnQ (w : World) (base : Nat) (e : TypeId) (v : Value) (L : List (Rec × Value)) : Prop where
 row : w.ownsRow base e 3 v L.length (flatR L)
 inn : ∀ (i : Nat) (x : Rec × Value), L[i]? = some x → OwnN w base x.2 x.1.l
 sep : ∀ (i j : Nat) (x y : Rec × Value) (k : Nat), L[i]? = some x → L[j]? = some y → i ≠ j → x.2.ownBlock = some k → y.2.ownBlock ≠ some k
def OwnD (w : World) (base : Nat) (v : Value) (l : List ND) : Prop := w.ownsRow base 67 2 v l.length (flatN l)
theorem ownKeep' {w w' : World} {base : Nat} {e : TypeId} {size n : Nat} {v : Value} {xs : List Value} (h : w.ownsRow base e size v n xs) (hb : ∀ k, v.ownBlock = some k → w'.heap[k]? = w.heap[k]?) : w'.ownsRow base e size v n xs := by
 obtain ⟨h1, h2⟩ := h
 refine ⟨h1, ?_⟩
 rcases h2 with h2 | ⟨g, cap, cur, rfl, b0, c, d⟩
 ·exact .inl h2
 ·exact .inr ⟨g, cap, cur, rfl, b0, (hb g rfl).trans c, d⟩
theorem ownLow' {w : World} {b b' : Nat} {e : TypeId} {size n : Nat} {v : Value} {xs : List Value} (h : w.ownsRow b e size v n xs) (hb : b' ≤ b) : w.ownsRow b' e size v n xs := by
 obtain ⟨h1, h2⟩ := h
 refine ⟨h1, ?_⟩
 rcases h2 with h2 | ⟨g, cap, cur, a, b0, c, d⟩
 ·exact .inl h2
 ·exact .inr ⟨g, cap, cur, a, Nat.le_trans hb b0, c, d⟩
theorem ownType' {w : World} {base base' : Nat} {e e' : TypeId} {size size' n n' : Nat} {v v' : Value} {xs xs' : List Value} (h : w.ownsRow base e size v n xs) (h' : w.ownsRow base' e' size' v' n' xs') (hne : e ≠ e') {k : Nat} (hk : v.ownBlock = some k) : v'.ownBlock ≠ some k := by
 intro hk'
 rcases h.2 with ⟨rfl, -⟩ | ⟨g, cap, cur, rfl, -, c, -⟩
 ·cases hk
 rcases h'.2 with ⟨rfl, -⟩ | ⟨g', cap', cur', rfl, -, c', -⟩
 ·cases hk'
 ·simp only [Value.ownBlock, Option.some.injEq] at hk hk'
  subst hk
  subst hk'
  rw [c] at c'
  injection c' with c'
  injection c' with c1 c2
  exact hne c2
theorem OwnQ.keep {w w' : World} {base : Nat} {e : TypeId} {v : Value} {L : List (Rec × Value)} (h : OwnQ w base e v L) (hb : ∀ k, base ≤ k → k < w.heap.size → w'.heap[k]? = w.heap[k]?) : OwnQ w' base e v L :=
 ⟨ownKeep' h.row (fun k hk => hb k (World.ownsRow.lt h.row _ hk).1 (World.ownsRow.lt h.row _ hk).2), fun i x hx => ownKeep' (h.inn i x hx) (fun k hk => hb k (World.ownsRow.lt (h.inn i x hx) _ hk).1 (World.ownsRow.lt (h.inn i x hx) _ hk).2), h.sep⟩
theorem OwnQ.nil (w : World) (base : Nat) (e : TypeId) : OwnQ w base e (.slice none 0 0) [] := ⟨World.ownsRow_nil _ _ _ _, fun i x hx => by simp at hx, fun i j x y k hx => by simp at hx⟩
theorem OwnQ.low {w : World} {b b' : Nat} {e : TypeId} {v : Value} {L : List (Rec × Value)} (h : OwnQ w b e v L) (hb : b' ≤ b) : OwnQ w b' e v L := ⟨ownLow' h.row hb, fun i x hx => ownLow' (h.inn i x hx) hb, h.sep⟩
theorem ownSl {w : World} {base : Nat} {e : TypeId} {size n : Nat} {v : Value} {xs : List Value} (h : w.ownsRow base e size v n xs) : ∃ s c, v = .slice s n c := by
 rcases h.2 with ⟨h1, h2⟩ | ⟨g, cap, cur, a, -⟩
 ·exact ⟨none, 0, by rw [h1, h2]⟩
 ·exact ⟨_, _, a⟩
theorem ownN_ints {w : World} {base : Nat} {v : Value} {l : List Int} (h : OwnN w base v l) : ∃ s c, v = .slice s l.length c ∧ IntsR w base w.heap.size s l := by
 rcases Nat.eq_zero_or_pos l.length with h0 | hpos
 ·obtain ⟨s, c, e⟩ := ownSl h
  exact ⟨s, c, e, .inl (List.length_eq_zero_iff.1 h0)⟩
 ·obtain ⟨g, cap, rfl, -⟩ := World.ownsRow.form h hpos
  have hlt := World.ownsRow.lt h g rfl
  refine ⟨_, _, rfl, .inr ⟨g, 0, rfl, hlt.1, hlt.2, fun i hi => ?_⟩⟩
  rw [Nat.zero_add, World.ownsRow.cellAt h i (by omega), List.getElem?_map, List.getD_eq_getElem?_getD, List.getElem?_eq_getElem hi]
  rfl
theorem OwnQ.recs {w : World} {base : Nat} {e : TypeId} {v : Value} {L : List (Rec × Value)} (h : OwnQ w base e v L) : ∃ s c, v = .slice s L.length c ∧ RecsR w base w.heap.size s (L.map Prod.fst) := by
 rcases Nat.eq_zero_or_pos L.length with h0 | hpos
 ·obtain ⟨s, c, e⟩ := ownSl h.row
  exact ⟨s, c, e, .inl (by rw [List.length_eq_zero_iff.1 h0]; rfl)⟩
 ·obtain ⟨g, cap, rfl, -⟩ := World.ownsRow.form h.row hpos
  have hlt := World.ownsRow.lt h.row g rfl
  refine ⟨_, _, rfl, .inr ⟨g, 0, rfl, hlt.1, hlt.2, fun i r hr => ?_⟩⟩
  rw [List.getElem?_map] at hr
  obtain ⟨x, hx, rfl⟩ := Option.map_eq_some_iff.1 hr
  have hi : i < L.length := (List.getElem?_eq_some_iff.1 hx).1
  obtain ⟨e0, e1, e2⟩ := flatR_at L i x hx
  obtain ⟨s, c, hv, hI⟩ := ownN_ints (h.inn i x hx)
  refine ⟨s, c, ?_, ?_, ?_, hI⟩
  ·rw [Nat.zero_add, World.ownsRow.cellAt h.row _ (by omega)]; exact e0
  ·rw [Nat.zero_add, World.ownsRow.cellAt h.row _ (by omega), e1, hv]
  ·rw [Nat.zero_add, World.ownsRow.cellAt h.row _ (by omega)]; exact e2
theorem OwnD.nts {w : World} {base : Nat} {v : Value} {l : List ND} (h : OwnD w base v l) : ∃ s c, v = .slice s l.length c ∧ NtsR w base w.heap.size s l := by
 rcases Nat.eq_zero_or_pos l.length with h0 | hpos
 ·obtain ⟨s, c, e⟩ := ownSl h
  exact ⟨s, c, e, .inl (List.length_eq_zero_iff.1 h0)⟩
 ·obtain ⟨g, cap, rfl, -⟩ := World.ownsRow.form h hpos
  have hlt := World.ownsRow.lt h g rfl
  refine ⟨_, _, rfl, .inr ⟨g, 0, rfl, hlt.1, hlt.2, fun i r hr => ?_⟩⟩
  have hi : i < l.length := (List.getElem?_eq_some_iff.1 hr).1
  obtain ⟨e0, e1⟩ := flatN_at l i r hr
  refine ⟨?_, ?_⟩
  ·rw [Nat.zero_add, World.ownsRow.cellAt h _ (by omega)]; exact e0
  ·rw [Nat.zero_add, World.ownsRow.cellAt h _ (by omega)]; exact e1
structure OwnS (w : World) (base : Nat) (v1 v2 v3 : Value) (L1 L2 : List (Rec × Value)) (d : SD) : Prop where
 e1 : L1.map Prod.fst = d.ths.map TD.rec3
 e2 : L2.map Prod.fst = d.chs.map CD.rec3
 t : OwnQ w base 49 v1 L1
 c : OwnQ w base 65 v2 L2
 n : OwnD w base v3 d.tr
 sep : ∀ (i j : Nat) (x y : Rec × Value) (k : Nat), L1[i]? = some x → L2[j]? = some y → x.2.ownBlock = some k → y.2.ownBlock ≠ some k
theorem OwnS.src {w : World} {base : Nat} {v1 v2 v3 : Value} {L1 L2 : List (Rec × Value)} {d : SD} (h : OwnS w base v1 v2 v3 L1 L2 d) : ∃ s1 c1 s2 c2 s3 c3, v1 = .slice s1 d.ths.length c1 ∧ v2 = .slice s2 d.chs.length c2 ∧ v3 = .slice s3 d.tr.length c3 ∧ SrcR w base w.heap.size s1 s2 s3 d := by
 have l1 : L1.length = d.ths.length := by have := congrArg List.length h.e1; simpa using this
 have l2 : L2.length = d.chs.length := by have := congrArg List.length h.e2; simpa using this
 obtain ⟨s1, c1, q1, r1⟩ := h.t.recs
 obtain ⟨s2, c2, q2, r2⟩ := h.c.recs
 obtain ⟨s3, c3, q3, r3⟩ := h.n.nts
 rw [l1] at q1
 rw [l2] at q2
 rw [h.e1] at r1
 rw [h.e2] at r2
 exact ⟨s1, c1, s2, c2, s3, c3, q1, q2, q3, r1, r2, r3⟩
theorem OwnS.keep {w w' : World} {base : Nat} {v1 v2 v3 : Value} {L1 L2 : List (Rec × Value)} {d : SD} (h : OwnS w base v1 v2 v3 L1 L2 d) (hb : ∀ k, base ≤ k → k < w.heap.size → w'.heap[k]? = w.heap[k]?) : OwnS w' base v1 v2 v3 L1 L2 d :=
 ⟨h.e1, h.e2, h.t.keep hb, h.c.keep hb, ownKeep' h.n (fun k hk => hb k (World.ownsRow.lt h.n _ hk).1 (World.ownsRow.lt h.n _ hk).2), h.sep⟩
def SFits (d : SD) : Prop := (d.ths.length ≤ 1048576 ∧ ∀ (i : Nat) (t : TD), d.ths[i]? = some t → t.regs.length ≤ 1048576) ∧ (d.chs.length ≤ 1048576 ∧ ∀ (i : Nat) (t : CD), d.chs[i]? = some t → t.list.length ≤ 1048576) ∧ d.tr.length ≤ 1048576
end
section
set_option linter.unusedSimpArgs false
set_option linter.unusedVariables false
set_option maxRecDepth 100000
open Go.RowKit
/- a store of three cells -/
def set3 (w : World) (g o : Nat) (a b c : Value) : World := ((w.setCell ⟨g, o, none⟩ a).setCell ⟨g, o + 1, none⟩ b).setCell ⟨g, o + 2, none⟩ c
theorem set3_size {g o : Nat} {w : World} {a b c : Value} : (set3 w g o a b c).heap.size = w.heap.size := by simp [set3]
theorem set3_block {g o k : Nat} {w : World} {a b c : Value} (h : k ≠ g) : (set3 w g o a b c).heap[k]? = w.heap[k]? := by
 unfold set3
 rw [Below.heap_setCell _ _ _ k h, Below.heap_setCell _ _ _ k h, Below.heap_setCell _ _ _ k h]
theorem flatN_rep (n : Nat) : flatN (List.replicate n ⟨0, 0⟩) = (madeCells #[.int .i64 0, .int .i64 0] (n * 2)).toList := by
 apply List.ext_getElem?
 intro j
 by_cases hj : j < n * 2
 ·have h1 : (List.replicate n (⟨0, 0⟩ : ND))[j / 2]? = some ⟨0, 0⟩ := by rw [List.getElem?_replicate, if_pos (by omega)]
  obtain ⟨e0, e1⟩ := flatN_at _ _ _ h1
  have hm : (madeCells #[.int .i64 0, .int .i64 0] (n * 2)).toList[j]? = some (.int .i64 0) := by
   simp [madeCells, hj]
   rcases (show j % 2 = 0 ∨ j % 2 = 1 by omega) with h | h <;> rw [h] <;> rfl
  rw [hm]
  rcases (show j % 2 = 0 ∨ j % 2 = 1 by omega) with h | h
  ·rw [show j = j / 2 * 2 by omega, e0]
  ·rw [show j = j / 2 * 2 + 1 by omega, e1]
 ·rw [List.getElem?_eq_none (by rw [flatN_len]; simp; omega), List.getElem?_eq_none (by rw [Array.length_toList, size_madeCells]; omega)]
end
section
set_option linter.unusedSimpArgs false
set_option linter.unusedVariables false
set_option maxRecDepth 100000
namespace Plain
def insB (op r a b n pl ch : Int) : Bool :=
 decide (0 ≤ r ∧ r ≤ 3 ∧ 0 ≤ a ∧ a ≤ 3 ∧ 0 ≤ b ∧ b ≤ 3 ∧ 0 ≤ ch ∧ ch ≤ 3 ∧
  ((op = 1 ∧ -1000000000 ≤ n ∧ n ≤ 1000000000 ∧ a = 0 ∧ b = 0)
   ∨ ((op = 2 ∨ op = 3 ∨ op = 4) ∧ n = 0)
   ∨ (op = 5 ∧ 0 ≤ n ∧ n < ch ∧ r = 0 ∧ b = 0)
   ∨ ((op = 6 ∨ op = 8) ∧ 0 ≤ n ∧ n < ch ∧ a = 0 ∧ r ≠ b)
   ∨ (op = 7 ∧ 0 ≤ n ∧ n < ch ∧ b = 0)
   ∨ (op = 9 ∧ 0 ≤ n ∧ n < ch ∧ r = 0 ∧ a = 0 ∧ b = 0)
   ∨ (op = 10 ∧ r = 0 ∧ b = 0 ∧ n = 0)
   ∨ (op = 11 ∧ 0 ≤ n ∧ n < pl ∧ r = 0 ∧ a = 0 ∧ b = 0)
   ∨ (op = 12 ∧ 0 ≤ n ∧ n < pl ∧ r = 0 ∧ b = 0)
   ∨ (op = 13 ∧ r = 0 ∧ a = 0 ∧ b = 0 ∧ n = 0)))
def regB (r : Int) : Bool := decide (0 ≤ r ∧ r ≤ 3)
def numB (n : Int) : Bool := decide (-1000000000 ≤ n ∧ n ≤ 1000000000)
def oneB (n c : Int) : Bool := decide (0 ≤ n ∧ n < c)
def chansB (c : Int) : Bool := decide (0 ≤ c ∧ c ≤ 3)
def inB (x lo hi : Int) : Bool := decide (lo ≤ x ∧ x ≤ hi)
def areB (r a b : Int) : Bool := regB r && regB a && regB b
def takesB (r b : Int) : Bool := regB r && regB b && (r != b)
end Plain
end
end Go.Proofs.YtknffngbdakblaaGreat
