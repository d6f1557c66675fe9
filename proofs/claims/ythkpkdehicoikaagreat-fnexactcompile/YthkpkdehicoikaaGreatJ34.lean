/- StepOk of the specification (package spec), at every step and every count of places, in every world: it returns what the plain law says; it makes memory, and turns none. No condition. When code is right. Rows of rows of places that a call has made, with what they hold: each inner row has a block of its own. Conditions: fewer than 2^30 rows, fewer than 2^30 places in each. -/
import Derived.Test.YthkpkdehicoikaaGreatJ32
import Derived.Test.YthkpkdehicoikaaGreatJ33
import Derived.Test.YthkpkdehicoikaaGreatJ28
import Derived.Deep.RegionHeld3
import Derived.Test.YthkpkdehicoikaaGreatProgCopy
import Derived.Test.YthkpkdehicoikaaGreatJ11
namespace Go.Proofs.YthkpkdehicoikaaGreat
section
set_option linter.unusedSimpArgs false
set_option linter.unusedVariables false
set_option maxRecDepth 100000
open Go.RowKit

theorem specStepOk_any (op r a b n pl : Int) (w : World) : Calls Tryz.prog 47 #[.agg #[.int .i64 op, .int .i64 r, .int .i64 a, .int .i64 b, .int .i64 n], .int .i64 pl] w fun e w' => e = .returned (.bool (Plain.stepB op r a b n pl)) ∧ Below w.heap.size w w' := by
  have no : ∀ {e : Ending} {w' : World}, Plain.stepB op r a b n pl = false → e = .returned (.bool false) ∧ Below w.heap.size w w' → e = .returned (.bool (Plain.stepB op r a b n pl)) ∧ Below w.heap.size w w' := fun h h' => by rw [h]; exact h'
  by_cases e5 : op = 5
  · subst e5
    cases h1 : Plain.inB r 0 7
    · exact (specBadR_5 r a b n pl w h1).mono fun e w' h => no (by simp [Plain.inB] at h1; simp [Plain.stepB]; omega) h
    cases h2 : Plain.inB b 0 7
    · exact (specBadB_5 r a b n pl w h1 h2).mono fun e w' h => no (by simp [Plain.inB] at h2; simp [Plain.stepB]; omega) h
    cases h3 : Plain.inB a 0 7
    · by_cases h4 : a = -1
      · subst h4
        exact stepGood_5m r b n pl w h1 h2
      · exact (specBadA_5 r a b n pl w h1 h2 h3 (by simpa using h4)).mono fun e w' h => no (by simp [Plain.inB] at h3; simp [Plain.stepB]; omega) h
    · exact stepGood_5 r a b n pl w h1 h2 h3
  by_cases e6 : op = 6
  · subst e6
    cases h1 : Plain.inB r 0 7
    · exact (specBadR_6 r a b n pl w h1).mono fun e w' h => no (by simp [Plain.inB] at h1; simp [Plain.stepB]; omega) h
    cases h2 : Plain.inB b 0 7
    · exact (specBadB_6 r a b n pl w h1 h2).mono fun e w' h => no (by simp [Plain.inB] at h2; simp [Plain.stepB]; omega) h
    cases h3 : Plain.inB a 0 7
    · by_cases h4 : a = -1
      · subst h4
        exact stepGood_6m r b n pl w h1 h2
      · exact (specBadA_6 r a b n pl w h1 h2 h3 (by simpa using h4)).mono fun e w' h => no (by simp [Plain.inB] at h3; simp [Plain.stepB]; omega) h
    · exact stepGood_6 r a b n pl w h1 h2 h3
  by_cases e7 : op = 7
  · subst e7
    cases h1 : Plain.inB r 0 7
    · exact (specBadR_7 r a b n pl w h1).mono fun e w' h => no (by simp [Plain.inB] at h1; simp [Plain.stepB]; omega) h
    cases h2 : Plain.inB b 0 7
    · exact (specBadB_7 r a b n pl w h1 h2).mono fun e w' h => no (by simp [Plain.inB] at h2; simp [Plain.stepB]; omega) h
    cases h3 : Plain.inB a 0 7
    · by_cases h4 : a = -1
      · subst h4
        exact stepGood_7m r b n pl w h1 h2
      · exact (specBadA_7 r a b n pl w h1 h2 h3 (by simpa using h4)).mono fun e w' h => no (by simp [Plain.inB] at h3; simp [Plain.stepB]; omega) h
    · exact stepGood_7 r a b n pl w h1 h2 h3
  have o5 : (op == 5) = false := by simpa using e5
  have o6 : (op == 6) = false := by simpa using e6
  have o7 : (op == 7) = false := by simpa using e7
  cases h1 : Plain.inB r 0 7
  · exact (specBadR_x op r a b n pl w o5 o6 o7 h1).mono fun e w' h => no (by simp [Plain.inB] at h1; simp [Plain.stepB]; omega) h
  cases h2 : Plain.inB b 0 7
  · exact (specBadB_x op r a b n pl w o5 o6 o7 h1 h2).mono fun e w' h => no (by simp [Plain.inB] at h2; simp [Plain.stepB]; omega) h
  cases h3 : Plain.inB a 0 7
  · exact (specBadA_x op r a b n pl w o5 o6 o7 h1 h2 h3).mono fun e w' h => no (by simp [Plain.inB] at h3; simp [Plain.stepB]; omega) h
  by_cases e1 : op = 1
  · subst e1; exact stepGood_1 r a b n pl w h1 h2 h3
  by_cases e2 : op = 2
  · subst e2; exact stepGood_2 r a b n pl w h1 h2 h3
  by_cases e3 : op = 3
  · subst e3; exact stepGood_3 r a b n pl w h1 h2 h3
  by_cases e4 : op = 4
  · subst e4; exact stepGood_4 r a b n pl w h1 h2 h3
  by_cases e8 : op = 8
  · subst e8; exact stepGood_8 r a b n pl w h1 h2 h3
  by_cases e9 : op = 9
  · subst e9; exact stepGood_9 r a b n pl w h1 h2 h3
  by_cases e10 : op = 10
  · subst e10; exact stepGood_10 r a b n pl w h1 h2 h3
  by_cases e11 : op = 11
  · subst e11; exact stepGood_11 r a b n pl w h1 h2 h3
  by_cases e12 : op = 12
  · subst e12; exact stepGood_12 r a b n pl w h1 h2 h3
  by_cases e13 : op = 13
  · subst e13; exact stepGood_13 r a b n pl w h1 h2 h3
  exact stepGood_0 op r a b n pl w (by simpa using e1) (by simpa using e2) (by simpa using e3) (by simpa using e4) (by simpa using e5) (by simpa using e6) (by simpa using e7) (by simpa using e8) (by simpa using e9) (by simpa using e10) (by simpa using e11) (by simpa using e12) (by simpa using e13) h1 h2 h3

theorem specStepOk_is (op r a b n pl : Int) (v : Bool) (w : World) (h : Plain.stepB op r a b n pl = v) : Calls Tryz.prog 47 #[.agg #[.int .i64 op, .int .i64 r, .int .i64 a, .int .i64 b, .int .i64 n], .int .i64 pl] w fun e w' => e = .returned (.bool v) ∧ Below w.heap.size w w' := by
  subst h
  exact specStepOk_any op r a b n pl w
end

section
set_option linter.unusedSimpArgs false
set_option linter.unusedVariables false
set_option maxRecDepth 100000
open Go.RowKit


def stX (x : I5) (pl : Int) : Bool := Plain.stepB x.o x.r x.a x.b x.n pl
def lastC (l : List I5) : Bool := Plain.endB (l.getD (l.length - 1) z5).o
def codeB (l : List I5) : Bool := decide (∀ i, i < l.length → stX (l.getD i z5) l.length = true) && (decide (1 ≤ l.length ∧ l.length ≤ 800) && lastC l)

theorem code_no {l : List I5} {k : Nat} (hk : k < l.length) (h : stX (l.getD k z5) l.length = false) : codeB l = false := by
  have : decide (∀ i, i < l.length → stX (l.getD i z5) l.length = true) = false := by
    rw [decide_eq_false_iff_not]
    intro H
    rw [H k hk] at h
    cases h
  unfold codeB
  rw [this]
  rfl
theorem code_all {l : List I5} (h : ∀ i, i < l.length → stX (l.getD i z5) l.length = true) : codeB l = (decide (1 ≤ l.length ∧ l.length ≤ 800) && lastC l) := by
  unfold codeB
  rw [decide_eq_true h]
  simp
theorem code_short {l : List I5} (h : Plain.inB (l.length : Int) 1 800 = false) : codeB l = false := by
  have : decide (1 ≤ l.length ∧ l.length ≤ 800) = false := by
    rw [decide_eq_false_iff_not]
    simp [Plain.inB] at h
    omega
  unfold codeB
  rw [this]
  simp
end

section
set_option linter.unusedSimpArgs false
set_option linter.unusedVariables false
set_option maxRecDepth 100000
open Go.RowKit

def cellsP (x : I5) : List Value := [.int .i64 x.o, .int .i64 x.r, .int .i64 x.a, .int .i64 x.b, .int .i64 x.n]
def flatP : List I5 → List Value
  | [] => []
  | x :: r => cellsP x ++ flatP r
theorem flatP_len : ∀ l : List I5, (flatP l).length = l.length * 5
  | [] => rfl
  | x :: r => by simp [flatP, cellsP, flatP_len r]; omega
theorem flatP_snoc : ∀ (l : List I5) (x : I5), flatP (l ++ [x]) = flatP l ++ cellsP x
  | [], x => by simp [flatP]
  | y :: r, x => by simp [flatP, flatP_snoc r x]
theorem flatP_at : ∀ (l : List I5) (i j : Nat) (hi : i < l.length) (hj : j < 5), (flatP l)[i * 5 + j]? = (cellsP (l.getD i z5))[j]?
  | [], i, j, hi, hj => absurd hi (Nat.not_lt_zero _)
  | x :: r, 0, j, hi, hj => by
    simp only [flatP, Nat.zero_mul, Nat.zero_add]
    rw [List.getElem?_append_left (by simp [cellsP]; omega)]
    simp
  | x :: r, i + 1, j, hi, hj => by
    have h5 : (cellsP x).length = 5 := rfl
    simp only [flatP]
    rw [List.getElem?_append_right (by rw [h5]; omega), h5, show (i + 1) * 5 + j - 5 = i * 5 + j by omega, flatP_at r i j (by simp at hi; omega) hj]
    simp

def OwnP (w : World) (base : Nat) (v : Value) (b : List I5) : Prop := w.ownsRow base 48 5 v b.length (flatP b)
def OwnB (w : World) (base : Nat) (v : Value) (bs : List (List I5)) : Prop :=
  ∃ xs : List Value, w.ownsRow base 45 1 v bs.length xs ∧ (∀ i, i < bs.length → OwnP w base (xs.getD i undef) (bs.getD i [])) ∧ ∀ i j k, i < bs.length → j < bs.length → i ≠ j → (xs.getD i undef).ownBlock = some k → (xs.getD j undef).ownBlock ≠ some k

theorem infoP : ∃ i, Tryz.prog.info? 48 = some i ∧ i.zero = some (.agg #[.int .i64 0, .int .i64 0, .int .i64 0, .int .i64 0, .int .i64 0]) ∧ i.size = 5 ∧ i.bytes = 40 := ⟨_, rfl, rfl, rfl, rfl⟩
theorem infoB : ∃ i, Tryz.prog.info? 45 = some i ∧ i.zero = some (.slice none 0 0) ∧ i.size = 1 ∧ i.bytes = 24 := ⟨_, rfl, rfl, rfl, rfl⟩

theorem ownKeep {w w' : World} {base : Nat} {e : TypeId} {size n : Nat} {v : Value} {xs : List Value} (h : w.ownsRow base e size v n xs) (hb : ∀ k, v.ownBlock = some k → w'.heap[k]? = w.heap[k]?) : w'.ownsRow base e size v n xs := by
  obtain ⟨h1, h2⟩ := h
  refine ⟨h1, ?_⟩
  rcases h2 with h2 | ⟨g, cap, cur, rfl, b0, c, d⟩
  · exact .inl h2
  · exact .inr ⟨g, cap, cur, rfl, b0, (hb g rfl).trans c, d⟩
theorem ownLow {w : World} {b b' : Nat} {e : TypeId} {size n : Nat} {v : Value} {xs : List Value} (h : w.ownsRow b e size v n xs) (hb : b' ≤ b) : w.ownsRow b' e size v n xs := by
  obtain ⟨h1, h2⟩ := h
  refine ⟨h1, ?_⟩
  rcases h2 with h2 | ⟨g, cap, cur, a, b0, c, d⟩
  · exact .inl h2
  · exact .inr ⟨g, cap, cur, a, Nat.le_trans hb b0, c, d⟩
theorem ownType {w : World} {base base' : Nat} {e e' : TypeId} {size size' n n' : Nat} {v v' : Value} {xs xs' : List Value} (h : w.ownsRow base e size v n xs) (h' : w.ownsRow base' e' size' v' n' xs') (hne : e ≠ e') {k : Nat} (hk : v.ownBlock = some k) : v'.ownBlock ≠ some k := by
  intro hk'
  rcases h.2 with ⟨rfl, -⟩ | ⟨g, cap, cur, rfl, -, c, -⟩
  · cases hk
  rcases h'.2 with ⟨rfl, -⟩ | ⟨g', cap', cur', rfl, -, c', -⟩
  · cases hk'
  · simp only [Value.ownBlock, Option.some.injEq] at hk hk'
    subst hk
    subst hk'
    rw [c] at c'
    injection c' with c'
    injection c' with c1 c2
    exact hne c2
theorem OwnB.keep {w w' : World} {base : Nat} {v : Value} {bs : List (List I5)} (h : OwnB w base v bs) (hb : ∀ k, base ≤ k → k < w.heap.size → w'.heap[k]? = w.heap[k]?) : OwnB w' base v bs := by
  obtain ⟨xs, h1, h2, h3⟩ := h
  exact ⟨xs, ownKeep h1 (fun k hk => hb k (World.ownsRow.lt h1 _ hk).1 (World.ownsRow.lt h1 _ hk).2), fun i hi => ownKeep (h2 i hi) (fun k hk => hb k (World.ownsRow.lt (h2 i hi) _ hk).1 (World.ownsRow.lt (h2 i hi) _ hk).2), h3⟩
theorem OwnB.below {w w' : World} {base : Nat} {v : Value} {bs : List (List I5)} (h : OwnB w base v bs) (hb : Below w.heap.size w w') : OwnB w' base v bs := h.keep fun k _ hk => hb.block k hk
theorem OwnB.nil (w : World) (base : Nat) : OwnB w base (.slice none 0 0) [] := ⟨[], World.ownsRow_nil _ _ _ _, fun i hi => absurd hi (Nat.not_lt_zero _), fun i j k hi => absurd hi (Nat.not_lt_zero _)⟩
theorem OwnB.sl {w : World} {base : Nat} {v : Value} {bs : List (List I5)} (h : OwnB w base v bs) : ∃ s c, v = .slice s bs.length c := by
  obtain ⟨xs, h, -⟩ := h
  rcases h.2 with ⟨h1, h2⟩ | ⟨g, cap, cur, a, -⟩
  · exact ⟨none, 0, by rw [h1, h2]⟩
  · exact ⟨_, _, a⟩
theorem OwnB.low {w : World} {b b' : Nat} {v : Value} {bs : List (List I5)} (h : OwnB w b v bs) (hb : b' ≤ b) : OwnB w b' v bs := by
  obtain ⟨xs, h1, h2, h3⟩ := h
  exact ⟨xs, ownLow h1 hb, fun i hi => ownLow (h2 i hi) hb, h3⟩

theorem getD_snoc {α : Type} (xs : List α) (y d : α) (i : Nat) : (xs ++ [y]).getD i d = if i < xs.length then xs.getD i d else if i = xs.length then y else d := by
  by_cases h : i < xs.length
  · rw [if_pos h]; simp [List.getD_eq_getElem?_getD, List.getElem?_append_left h]
  · rw [if_neg h]
    by_cases h2 : i = xs.length
    · subst h2; simp [List.getD_eq_getElem?_getD]
    · rw [if_neg h2, List.getD_eq_getElem?_getD, List.getElem?_eq_none (by simp; omega)]; rfl

/- append of an empty row: what it makes of the rows -/
theorem OwnB.grow {w w' : World} {base g cap : Nat} {v u : Value} {bs : List (List I5)} {xs : List Value} (h1 : w.ownsRow base 45 1 v bs.length xs) (h2 : ∀ i, i < bs.length → OwnP w base (xs.getD i undef) (bs.getD i []))
    (h3 : ∀ i j k, i < bs.length → j < bs.length → i ≠ j → (xs.getD i undef).ownBlock = some k → (xs.getD j undef).ownBlock ≠ some k) (hu : u.ownBlock = none ∨ ∃ k, u.ownBlock = some k ∧ w.heap.size ≤ k)
    (q1 : w'.ownsRow base 45 1 (.slice (some ⟨g, 0, none⟩) (bs.length + 1) cap) (bs.length + 1) (xs ++ [u])) (hk : ∀ k, base ≤ k → k < w.heap.size → v.ownBlock ≠ some k → w'.heap[k]? = w.heap[k]?) (hP : OwnP w' base u []) :
    OwnB w' base (.slice (some ⟨g, 0, none⟩) (bs.length + 1) cap) (bs ++ [[]]) := by
  have hxl : xs.length = bs.length := by have := h1.1; omega
  refine ⟨xs ++ [u], by rw [List.length_append]; exact q1, ?_, ?_⟩
  · intro i hi
    rw [getD_snoc, getD_snoc, hxl]
    by_cases e : i < bs.length
    · rw [if_pos e, if_pos e]
      exact ownKeep (h2 i e) (fun k hk' => hk k (World.ownsRow.lt (h2 i e) _ hk').1 (World.ownsRow.lt (h2 i e) _ hk').2 (ownType (h2 i e) h1 (by decide) hk'))
    · have : i = bs.length := by simp at hi; omega
      rw [if_neg e, if_pos this, if_neg e, if_pos this]
      exact hP
  · intro i j k hi hj hne
    simp only [List.length_append, List.length_cons, List.length_nil] at hi hj
    rw [getD_snoc, getD_snoc, hxl]
    by_cases e : i < bs.length <;> by_cases e' : j < bs.length
    · rw [if_pos e, if_pos e']; exact h3 i j k e e' hne
    · rw [if_pos e, if_neg e', if_pos (by omega)]
      intro hk' hk''
      have := (World.ownsRow.lt (h2 i e) _ hk').2
      rcases hu with hu | ⟨k', hu, hk2⟩
      · rw [hu] at hk''; cases hk''
      · rw [hu] at hk''; injection hk'' with hk''; omega
    · rw [if_neg e, if_pos (by omega), if_pos e']
      intro hk' hk''
      have := (World.ownsRow.lt (h2 j e') _ hk'').2
      rcases hu with hu | ⟨k', hu, hk2⟩
      · rw [hu] at hk'; cases hk'
      · rw [hu] at hk'; injection hk' with hk'; omega
    · omega

theorem getD_set' {α : Type} (xs : List α) (y d : α) (i j : Nat) (hi : i < xs.length) : (xs.set i y).getD j d = if j = i then y else xs.getD j d := by
  by_cases h : j = i
  · subst h; rw [if_pos rfl]; simp [List.getD_eq_getElem?_getD, hi]
  · rw [if_neg h]; simp [List.getD_eq_getElem?_getD, List.getElem?_set, Ne.symm h]

/- a store of a longer row into the last place -/
theorem OwnB.push {w w' : World} {base G cap g cp : Nat} {bs : List (List I5)} {xs : List Value} {x : I5} (hlen : 0 < bs.length) (h1 : w.ownsRow base 45 1 (.slice (some ⟨G, 0, none⟩) bs.length cap) bs.length xs) (h2 : ∀ i, i < bs.length → OwnP w base (xs.getD i undef) (bs.getD i []))
    (h3 : ∀ i j k, i < bs.length → j < bs.length → i ≠ j → (xs.getD i undef).ownBlock = some k → (xs.getD j undef).ownBlock ≠ some k)
    (hk : ∀ k, base ≤ k → k < w.heap.size → (xs.getD (bs.length - 1) undef).ownBlock ≠ some k → w'.heap[k]? = w.heap[k]?)
    (hg : (xs.getD (bs.length - 1) undef).ownBlock = some g ∨ w.heap.size ≤ g)
    (q1 : OwnP w' base (.slice (some ⟨g, 0, none⟩) ((bs.getD (bs.length - 1) []).length + 1) cp) (bs.getD (bs.length - 1) [] ++ [x])) :
    OwnB (w'.setCell ⟨G, bs.length - 1, none⟩ (.slice (some ⟨g, 0, none⟩) ((bs.getD (bs.length - 1) []).length + 1) cp)) base (.slice (some ⟨G, 0, none⟩) bs.length cap) (bs.set (bs.length - 1) (bs.getD (bs.length - 1) [] ++ [x])) := by
  have hxl : xs.length = bs.length := by have := h1.1; omega
  have hlast := h2 (bs.length - 1) (by omega)
  have o1 : w'.ownsRow base 45 1 (.slice (some ⟨G, 0, none⟩) bs.length cap) bs.length xs := ownKeep h1 (fun k hk' => hk k (World.ownsRow.lt h1 _ hk').1 (World.ownsRow.lt h1 _ hk').2 (ownType h1 hlast (by decide) hk'))
  obtain ⟨o2, o3⟩ := World.ownsRow.stored o1 (bs.length - 1) (.slice (some ⟨g, 0, none⟩) ((bs.getD (bs.length - 1) []).length + 1) cp)
  have hset : ∀ {e : TypeId} {size n : Nat} {v : Value} {ys : List Value}, w'.ownsRow base e size v n ys → e ≠ 45 → (w'.setCell ⟨G, bs.length - 1, none⟩ (.slice (some ⟨g, 0, none⟩) ((bs.getD (bs.length - 1) []).length + 1) cp)).ownsRow base e size v n ys := by
    intro e size n v ys hv hne
    exact ownKeep hv (fun k hk' => Below.heap_setCell _ _ _ k (fun e' => ownType hv o1 hne hk' (by rw [e']; rfl)))
  refine ⟨xs.set (bs.length - 1) (.slice (some ⟨g, 0, none⟩) ((bs.getD (bs.length - 1) []).length + 1) cp), by rw [List.length_set]; exact o2, ?_, ?_⟩
  · intro i hi
    rw [List.length_set] at hi
    rw [getD_set' _ _ _ _ _ (by omega), getD_set' _ _ _ _ _ (by omega)]
    by_cases e : i = bs.length - 1
    · rw [if_pos e, if_pos e]
      exact hset q1 (by decide)
    · rw [if_neg e, if_neg e]
      exact hset (ownKeep (h2 i hi) (fun k hk' => hk k (World.ownsRow.lt (h2 i hi) _ hk').1 (World.ownsRow.lt (h2 i hi) _ hk').2 (h3 i (bs.length - 1) k hi (by omega) e hk'))) (by decide)
  · intro i j k hi hj hne
    rw [List.length_set] at hi hj
    rw [getD_set' _ _ _ _ _ (by omega), getD_set' _ _ _ _ _ (by omega)]
    by_cases e : i = bs.length - 1 <;> by_cases e' : j = bs.length - 1
    · omega
    · rw [if_pos e, if_neg e']
      intro hk' hk''
      injection hk' with hk'
      subst hk'
      have := (World.ownsRow.lt (h2 j hj) _ hk'').2
      rcases hg with hg | hg
      · exact h3 (bs.length - 1) j _ (by omega) hj (fun h => e' h.symm) hg hk''
      · simp at this; omega
    · rw [if_neg e, if_pos e']
      intro hk' hk''
      injection hk'' with hk''
      subst hk''
      have := (World.ownsRow.lt (h2 i hi) _ hk').2
      rcases hg with hg | hg
      · exact h3 i (bs.length - 1) _ hi (by omega) e hk' hg
      · simp at this; omega
    · rw [if_neg e, if_neg e']; exact h3 i j k hi hj hne
end

end Go.Proofs.YthkpkdehicoikaaGreat
