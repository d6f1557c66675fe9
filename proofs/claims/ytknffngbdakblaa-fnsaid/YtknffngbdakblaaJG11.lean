/- A step keeps a source small. Rows of rows of places that a call has made, with what they hold: each inner row has a block of its own. Conditions: fewer than 2^30 rows, fewer than 2^30 places in each. Rows of places that are written over with running numbers. Conditions: at most 2^20 + 1 places. Running numbers read back from a row of places. Conditions: at most 2^20 + 1 places. Rows of rows of places, written over with running numbers. Conditions: the numbers stay below 10^15. Running numbers read back from rows of rows of places. Conditions: the numbers stay below 10^15. Rows of integers that a call has made, written over with running numbers and looked at again. Conditions: at most 2^20 + 1 integers. A program's lists, written over with running numbers and looked at again. Conditions: the numbers stay below 10^15. Rows of a call's own, read as a program's lists. -/
import Derived.Test.YtknffngbdakblaaJG00
import Derived.Test.YtknffngbdakblaaJG09
import Derived.Test.YtknffngbdakblaaJG08
import Derived.Test.YtknffngbdakblaaJG01
import Derived.Test.YtknffngbdakblaaJG02
import Derived.Test.YtknffngbdakblaaJChTake
import Derived.Test.YtknffngbdakblaaJG04
import Derived.Test.YtknffngbdakblaaJStepSpE
import Derived.Deep.RegionWith
import Derived.Test.YtknffngbdakblaaJG03
namespace Go.Proofs.Ytknffngbdakblaa
section
set_option linter.unusedSimpArgs false
set_option linter.unusedVariables false
set_option maxRecDepth 100000
open Go.RowKit
theorem moveT_regs (t : TD) (b : Nat) (rg : List Int) (nx : Int) : (moveT t b rg nx).regs = rg := by unfold moveT; split <;> rfl
theorem putN_len (l : List Int) (r v : Int) : (putN l r v).length = l.length := by unfold putN; simp
theorem sendL_len (cap : Int) (l : List Int) (cl : Bool) (v : Int) : (sendL cap l cl v).length ≤ l.length + 1 := by
 unfold sendL
 split <;> simp
theorem takeL_len (cap : Int) (l : List Int) : (takeL cap l).length ≤ l.length := by
 unfold takeL
 split <;> simp
theorem getD_small {chs : List CD} {M : Nat} (hc : ∀ (i : Nat) (c : CD), chs[i]? = some c → c.list.length ≤ M) (n : Nat) : (chs.getD n zc).list.length ≤ M := by
 rw [List.getD_eq_getElem?_getD]
 cases h : chs[n]? with
 | none => exact Nat.zero_le _
 | some c => exact hc n c h
theorem set_small {chs : List CD} {M : Nat} (hc : ∀ (i : Nat) (c : CD), chs[i]? = some c → c.list.length ≤ M) (n : Nat) (y : CD) (hy : y.list.length ≤ M + 1) : ∀ (i : Nat) (c : CD), (chs.set n y)[i]? = some c → c.list.length ≤ M + 1 := by
 intro i c h
 rw [List.getElem?_set] at h
 split at h
 ·split at h
  ·injection h with h
   subst h
   exact hy
  ·cases h
 ·exact Nat.le_succ_of_le (hc i c h)
structure Sm (t : TD) (chs : List CD) (tr : List ND) (M : Nat) (o : Out) : Prop where
 a : o.t.regs.length = t.regs.length
 b : o.tr.length ≤ tr.length + 1
 c : o.chs.length = chs.length
 d : ∀ (i : Nat) (c : CD), o.chs[i]? = some c → c.list.length ≤ M + 1
theorem sm_ite {t : TD} {chs : List CD} {tr : List ND} {M : Nat} {c : Prop} [Decidable c] {x y : Out} (h1 : Sm t chs tr M x) (h2 : Sm t chs tr M y) : Sm t chs tr M (if c then x else y) := by
 by_cases h : c
 ·rw [if_pos h]; exact h1
 ·rw [if_neg h]; exact h2
theorem stepO_small (b : Nat) (t : TD) (x : I5) (chs : List CD) (tr : List ND) (k M : Nat) (hc : ∀ (i : Nat) (c : CD), chs[i]? = some c → c.list.length ≤ M) : Sm t chs tr M (stepO b t x chs tr k) := by
 have g := getD_small hc x.n.toNat
 have hc' : ∀ (i : Nat) (c : CD), chs[i]? = some c → c.list.length ≤ M + 1 := fun i c h => Nat.le_succ_of_le (hc i c h)
 have s1 : ∀ v, (sendL (chs.getD x.n.toNat zc).cap (chs.getD x.n.toNat zc).list (chs.getD x.n.toNat zc).cl v).length ≤ M + 1 := fun v => Nat.le_trans (sendL_len _ _ _ _) (Nat.succ_le_succ g)
 have s2 : (takeL (chs.getD x.n.toNat zc).cap (chs.getD x.n.toNat zc).list).length ≤ M + 1 := Nat.le_trans (takeL_len _ _) (Nat.le_succ_of_le g)
 have s3 : (chs.getD x.n.toNat zc).list.length ≤ M + 1 := Nat.le_succ_of_le g
 unfold stepO
 dsimp only
 repeat' (refine sm_ite ?_ ?_)
 all_goals
  refine ⟨?_, ?_, ?_, ?_⟩
  ·first | rfl | simp only [moveT_regs, putN_len]
  ·first | exact Nat.le_succ _ | simp
  ·first | rfl | exact List.length_set
  ·first | exact hc' | exact set_small hc _ _ (s1 _) | exact set_small hc _ _ s2 | exact set_small hc _ _ s3
theorem stepS_fits {p : PD} {d : SD} (hf : SFits d) (hR : Right p d) (who : Int) : SFits (stepS p d who) := by
 unfold stepS
 split
 ·rename_i h
  obtain ⟨q1, q2, q3, q4⟩ := stepO_small (bodyOf p who.toNat).length (thOf d who.toNat) (insOf p d who.toNat) d.chs d.tr who.toNat 4 (fun i c hc => (hR.ch i c hc).2)
  have e : (thOf d who.toNat).regs.length ≤ 4 := by
   unfold thOf
   rw [List.getD_eq_getElem?_getD]
   cases ht : d.ths[who.toNat]? with
   | none => exact Nat.zero_le _
   | some t => exact Nat.le_of_eq (hR.th _ _ ht).1
  refine ⟨⟨by show (d.ths.set _ _).length ≤ _; rw [List.length_set]; exact hf.1.1, fun i t ht => ?_⟩, ⟨?_, fun i c hc => ?_⟩, ?_⟩
  ·have ht' : (d.ths.set who.toNat (outOf p d who.toNat).t)[i]? = some t := ht
   rw [List.getElem?_set] at ht'
   split at ht'
   ·split at ht'
    ·injection ht' with ht'
     subst ht'
     show (stepO _ _ _ _ _ _).t.regs.length ≤ _
     rw [q1]
     omega
    ·cases ht'
   ·exact hf.1.2 i t ht'
  ·show (stepO _ _ _ _ _ _).chs.length ≤ _
   rw [q3]
   exact hf.2.1.1
  ·exact Nat.le_trans (q4 i c hc) (by omega)
  ·show (stepO _ _ _ _ _ _).tr.length ≤ _
   have := hR.nl
   omega
 ·exact hf
theorem stepSb_fits {p : PD} {d : SD} (hf : SFits d) (who : Int) : SFits (stepSb p d who) := by
 unfold stepSb
 split
 ·rename_i h
  exact stepS_fits hf (right_of h) who
 ·exact ⟨⟨Nat.zero_le _, fun i t h => by simp at h⟩, ⟨Nat.zero_le _, fun i t h => by simp at h⟩, Nat.zero_le _⟩
end
section
set_option linter.unusedSimpArgs false
set_option linter.unusedVariables false
set_option maxRecDepth 100000
open Go.RowKit
def cellsP (x : I5) : List Value := [.int .i64 x.o, .int .i64 x.r, .int .i64 x.a, .int .i64 x.b, .int .i64 x.n]
def flatP : List I5 → List Value
 | [] => []
 | x :: r => cellsP x ++ flatP r
theorem flatP_len : ∀ l : List I5, (flatP l).length = l.length * 5
 | [] => rfl
 | x :: r => by simp [flatP, cellsP, flatP_len r]; omega
theorem flatP_snoc : ∀ (l : List I5) (x : I5), flatP (l ++ [x]) = flatP l ++ cellsP x
 | [], x => by simp [flatP]
 | y :: r, x => by simp [flatP, flatP_snoc r x]
theorem flatP_at : ∀ (l : List I5) (i j : Nat) (hi : i < l.length) (hj : j < 5), (flatP l)[i * 5 + j]? = (cellsP (l.getD i z5))[j]?
 | [], i, j, hi, hj => absurd hi (Nat.not_lt_zero _)
 | x :: r, 0, j, hi, hj => by
  simp only [flatP, Nat.zero_mul, Nat.zero_add]
  rw [List.getElem?_append_left (by simp [cellsP]; omega)]
  simp
 | x :: r, i + 1, j, hi, hj => by
  have h5 : (cellsP x).length = 5 := rfl
  simp only [flatP]
  rw [List.getElem?_append_right (by rw [h5]; omega), h5, show (i + 1) * 5 + j - 5 = i * 5 + j by omega, flatP_at r i j (by simp at hi; omega) hj]
  simp
def OwnP (w : World) (base : Nat) (v : Value) (b : List I5) : Prop := w.ownsRow base 57 5 v b.length (flatP b)
def OwnB (w : World) (base : Nat) (v : Value) (bs : List (List I5)) : Prop :=
 ∃ xs : List Value, w.ownsRow base 59 1 v bs.length xs ∧ (∀ i, i < bs.length → OwnP w base (xs.getD i undef) (bs.getD i [])) ∧ ∀ i j k, i < bs.length → j < bs.length → i ≠ j → (xs.getD i undef).ownBlock = some k → (xs.getD j undef).ownBlock ≠ some k
theorem infoP : ∃ i, Try.prog.info? 57 = some i ∧ i.zero = some (.agg #[.int .i64 0, .int .i64 0, .int .i64 0, .int .i64 0, .int .i64 0]) ∧ i.size = 5 ∧ i.bytes = 40 := ⟨_, rfl, rfl, rfl, rfl⟩
theorem ownKeep {w w' : World} {base : Nat} {e : TypeId} {size n : Nat} {v : Value} {xs : List Value} (h : w.ownsRow base e size v n xs) (hb : ∀ k, v.ownBlock = some k → w'.heap[k]? = w.heap[k]?) : w'.ownsRow base e size v n xs := by
 obtain ⟨h1, h2⟩ := h
 refine ⟨h1, ?_⟩
 rcases h2 with h2 | ⟨g, cap, cur, rfl, b0, c, d⟩
 ·exact .inl h2
 ·exact .inr ⟨g, cap, cur, rfl, b0, (hb g rfl).trans c, d⟩
theorem ownLow {w : World} {b b' : Nat} {e : TypeId} {size n : Nat} {v : Value} {xs : List Value} (h : w.ownsRow b e size v n xs) (hb : b' ≤ b) : w.ownsRow b' e size v n xs := by
 obtain ⟨h1, h2⟩ := h
 refine ⟨h1, ?_⟩
 rcases h2 with h2 | ⟨g, cap, cur, a, b0, c, d⟩
 ·exact .inl h2
 ·exact .inr ⟨g, cap, cur, a, Nat.le_trans hb b0, c, d⟩
theorem ownType {w : World} {base base' : Nat} {e e' : TypeId} {size size' n n' : Nat} {v v' : Value} {xs xs' : List Value} (h : w.ownsRow base e size v n xs) (h' : w.ownsRow base' e' size' v' n' xs') (hne : e ≠ e') {k : Nat} (hk : v.ownBlock = some k) : v'.ownBlock ≠ some k := by
 intro hk'
 rcases h.2 with ⟨rfl, -⟩ | ⟨g, cap, cur, rfl, -, c, -⟩
 ·cases hk
 rcases h'.2 with ⟨rfl, -⟩ | ⟨g', cap', cur', rfl, -, c', -⟩
 ·cases hk'
 ·simp only [Value.ownBlock, Option.some.injEq] at hk hk'
  subst hk
  subst hk'
  rw [c] at c'
  injection c' with c'
  injection c' with c1 c2
  exact hne c2
theorem OwnB.keep {w w' : World} {base : Nat} {v : Value} {bs : List (List I5)} (h : OwnB w base v bs) (hb : ∀ k, base ≤ k → k < w.heap.size → w'.heap[k]? = w.heap[k]?) : OwnB w' base v bs := by
 obtain ⟨xs, h1, h2, h3⟩ := h
 exact ⟨xs, ownKeep h1 (fun k hk => hb k (World.ownsRow.lt h1 _ hk).1 (World.ownsRow.lt h1 _ hk).2), fun i hi => ownKeep (h2 i hi) (fun k hk => hb k (World.ownsRow.lt (h2 i hi) _ hk).1 (World.ownsRow.lt (h2 i hi) _ hk).2), h3⟩
theorem OwnB.nil (w : World) (base : Nat) : OwnB w base (.slice none 0 0) [] := ⟨[], World.ownsRow_nil _ _ _ _, fun i hi => absurd hi (Nat.not_lt_zero _), fun i j k hi => absurd hi (Nat.not_lt_zero _)⟩
theorem OwnB.sl {w : World} {base : Nat} {v : Value} {bs : List (List I5)} (h : OwnB w base v bs) : ∃ s c, v = .slice s bs.length c := by
 obtain ⟨xs, h, -⟩ := h
 rcases h.2 with ⟨h1, h2⟩ | ⟨g, cap, cur, a, -⟩
 ·exact ⟨none, 0, by rw [h1, h2]⟩
 ·exact ⟨_, _, a⟩
theorem OwnB.low {w : World} {b b' : Nat} {v : Value} {bs : List (List I5)} (h : OwnB w b v bs) (hb : b' ≤ b) : OwnB w b' v bs := by
 obtain ⟨xs, h1, h2, h3⟩ := h
 exact ⟨xs, ownLow h1 hb, fun i hi => ownLow (h2 i hi) hb, h3⟩
theorem getD_snoc {α : Type} (xs : List α) (y d : α) (i : Nat) : (xs ++ [y]).getD i d = if i < xs.length then xs.getD i d else if i = xs.length then y else d := by
 by_cases h : i < xs.length
 ·rw [if_pos h]; simp [List.getD_eq_getElem?_getD, List.getElem?_append_left h]
 ·rw [if_neg h]
  by_cases h2 : i = xs.length
  ·subst h2; simp [List.getD_eq_getElem?_getD]
  ·rw [if_neg h2, List.getD_eq_getElem?_getD, List.getElem?_eq_none (by simp; omega)]; rfl
end
section
set_option linter.unusedSimpArgs false
set_option linter.unusedVariables false
set_option maxRecDepth 100000
open Go.RowKit
theorem OwnN.ints {w : World} {base : Nat} {v : Value} {l : List Int} (h : OwnN w base v l) : ∃ s c, v = .slice s l.length c ∧ IntsR w base w.heap.size s l := by
 rcases Nat.eq_zero_or_pos l.length with h0 | hpos
 ·rcases h.2 with ⟨h1, h2⟩ | ⟨g, cap, cur, a, -⟩
  ·exact ⟨none, 0, by rw [h1, h2], .inl (List.length_eq_zero_iff.1 h0)⟩
  ·exact ⟨_, _, a, .inl (List.length_eq_zero_iff.1 h0)⟩
 ·obtain ⟨g, cap, rfl, -⟩ := World.ownsRow.form h hpos
  have hlt := World.ownsRow.lt h g rfl
  refine ⟨_, _, rfl, .inr ⟨g, 0, rfl, hlt.1, hlt.2, fun i hi => ?_⟩⟩
  rw [Nat.zero_add, World.ownsRow.cellAt h i (by omega), List.getElem?_map, List.getD_eq_getElem?_getD, List.getElem?_eq_getElem hi]
  rfl
theorem OwnP.ins {w : World} {base : Nat} {v : Value} {l : List I5} (h : OwnP w base v l) : ∃ s c, v = .slice s l.length c ∧ InsR w base w.heap.size s l := by
 rcases Nat.eq_zero_or_pos l.length with h0 | hpos
 ·rcases h.2 with ⟨h1, h2⟩ | ⟨g, cap, cur, a, -⟩
  ·exact ⟨none, 0, by rw [h1, h2], .inl (List.length_eq_zero_iff.1 h0)⟩
  ·exact ⟨_, _, a, .inl (List.length_eq_zero_iff.1 h0)⟩
 ·obtain ⟨g, cap, rfl, -⟩ := World.ownsRow.form h hpos
  have hlt := World.ownsRow.lt h g rfl
  refine ⟨_, _, rfl, .inr ⟨g, 0, rfl, hlt.1, hlt.2, fun i hi => ?_⟩⟩
  have hc : ∀ j, j < 5 → w.cell? ⟨g, i * 5 + j, none⟩ = (cellsP (l.getD i z5))[j]? := fun j hj => by
   rw [World.ownsRow.cellAt h (i * 5 + j) (by omega)]
   exact flatP_at l i j hi hj
  rw [Nat.zero_add]
  exact ⟨hc 0 (by omega), hc 1 (by omega), hc 2 (by omega), hc 3 (by omega), hc 4 (by omega)⟩
theorem OwnB.bods {w : World} {base : Nat} {v : Value} {l : List (List I5)} (h : OwnB w base v l) : ∃ s c, v = .slice s l.length c ∧ BodsR w base w.heap.size s l := by
 obtain ⟨xs, h1, h2, -⟩ := h
 rcases Nat.eq_zero_or_pos l.length with h0 | hpos
 ·rcases h1.2 with ⟨h1, h2⟩ | ⟨g, cap, cur, a, -⟩
  ·exact ⟨none, 0, by rw [h1, h2], .inl (List.length_eq_zero_iff.1 h0)⟩
  ·exact ⟨_, _, a, .inl (List.length_eq_zero_iff.1 h0)⟩
 ·obtain ⟨g, cap, rfl, -⟩ := World.ownsRow.form h1 hpos
  have hlt := World.ownsRow.lt h1 g rfl
  have hxl : xs.length = l.length := by have := h1.1; omega
  refine ⟨_, _, rfl, .inr ⟨g, 0, rfl, hlt.1, hlt.2, fun i hi => ?_⟩⟩
  obtain ⟨s, c, e, hi'⟩ := OwnP.ins (h2 i hi)
  refine ⟨s, c, ?_, hi'⟩
  rw [Nat.zero_add, World.ownsRow.cellAt h1 i (by omega), ← e, List.getD_eq_getElem?_getD, List.getElem?_eq_getElem (by omega)]
  rfl
theorem OwnB.prog {w : World} {base : Nat} {v v' : Value} {p : PD} (h : OwnN w base v p.caps) (h' : OwnB w base v' p.bods) : ∃ s c s' c', v = .slice s p.caps.length c ∧ v' = .slice s' p.bods.length c' ∧ ProgR w base w.heap.size s s' p := by
 obtain ⟨s, c, e, a⟩ := h.ints
 obtain ⟨s', c', e', a'⟩ := h'.bods
 exact ⟨s, c, s', c', e, e', a, a'⟩
end
end Go.Proofs.Ytknffngbdakblaa
