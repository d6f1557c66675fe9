/- The plain reading of a line, by the program's way and by the specification's: they are one. No program in this text. -/
import Derived.Test.YtajblippcnidiaaGreatDoorSRead2
import Derived.Test.YtajblippcnidiaaGreatDoorSRead3
namespace Go.Proofs.YtajblippcnidiaaGreatDoor
set_option linter.unusedSimpArgs false
set_option linter.unusedVariables false
set_option maxRecDepth 100000
open Go.RowKit

def textR (x : R5) : List UInt8 := textL x.o x.r x.a x.b x.n
def specW (l : List UInt8) (ws : List (List UInt8)) : Option R5 :=
  match (ws.tail.take 4).mapM numS with
  | none => none
  | some vs => if l = [] ∨ textR (putX (opL (ws.headD [])) (vs.getD 0 0) (vs.getD 1 0) (vs.getD 2 0)) ≠ l then none else some (putX (opL (ws.headD [])) (vs.getD 0 0) (vs.getD 1 0) (vs.getD 2 0))

def tailW (r : List (List UInt8)) : List UInt8 := r.flatMap fun x => 32 :: x
def joinW : List (List UInt8) → List UInt8
  | [] => []
  | x :: r => x ++ tailW r
theorem tail_join {h : List UInt8} {t : List (List UInt8)} : tailW (h :: t) = 32 :: joinW (h :: t) := by simp [tailW, joinW]
theorem join_split : ∀ (l acc : List UInt8), joinW (splitA 32 acc l) = acc ++ l
  | [], acc => by simp [splitA, joinW, tailW]
  | c :: r, acc => by
    by_cases h : c = 32
    · subst h
      rw [splitA, if_pos rfl]
      have ih := join_split r []
      cases hs : splitA 32 [] r with
      | nil => have := (splitA_len 32 r []).1; rw [hs] at this; simp at this
      | cons a t =>
        rw [hs] at ih
        show acc ++ tailW (a :: t) = _
        rw [tail_join, ih]
        simp
    · rw [splitA, if_neg h, join_split r (acc ++ [c])]
      simp
theorem split_join : ∀ (r : List (List UInt8)) (acc : List UInt8), (∀ y ∈ r, ∀ x ∈ y, x ≠ 32) → splitA 32 acc (tailW r) = acc :: r
  | [], acc, _ => rfl
  | y :: r, acc, h => by
    have e : tailW (y :: r) = 32 :: (y ++ tailW r) := by simp [tailW]
    rw [e, splitA, if_pos rfl, splitA_skip 32 y (tailW r) [] (h y (by simp)), List.nil_append, split_join r y (fun z hz => h z (by simp [hz]))]
theorem dec_all (u : Nat) : ∀ x ∈ Lib.decDigits u, isDig x = true := by
  induction u using Nat.strongRecOn with
  | _ u ih =>
    intro x hx
    by_cases h : u < 10
    · rw [Lib.decDigits_one h] at hx
      have : x = UInt8.ofNat (48 + u) := by simpa using hx
      subst this
      have e : (UInt8.ofNat (48 + u)).toNat = 48 + u := by simp; omega
      unfold isDig; rw [e]; simp; omega
    · rw [Lib.decDigits, dif_neg h] at hx
      rcases List.mem_append.1 hx with hx | hx
      · exact ih (u / 10) (by omega) x hx
      · have : x = UInt8.ofNat (48 + u % 10) := by simpa using hx
        subst this
        have e : (UInt8.ofNat (48 + u % 10)).toNat = 48 + u % 10 := by simp; omega
        unfold isDig; rw [e]; simp; omega
theorem itoa_no32 (v : Int) : ∀ x ∈ Lib.itoa v, x ≠ 32 := by
  intro x hx
  unfold Lib.itoa at hx
  split at hx
  · rcases List.mem_cons.1 hx with hx | hx
    · subst hx; decide
    · have := dec_all _ x hx; rintro rfl; revert this; decide
  · have := dec_all _ x hx; rintro rfl; revert this; decide
theorem word_no32 (q : Nat) : ∀ x ∈ wordL q, x ≠ 32 := by
  by_cases h : q < 14
  · have : ∀ i : Fin 14, ∀ x ∈ wordL i.val, x ≠ 32 := by decide
    exact this ⟨q, h⟩
  · unfold wordL
    rw [List.getD_eq_getElem?_getD, List.getElem?_eq_none (by simp [words14]; omega)]
    simp
theorem numText_tail (vs : List Int) : numText vs = tailW (vs.map Lib.itoa) := by
  induction vs with
  | nil => rfl
  | cons v vs ih => simp [numText, tailW] at ih ⊢; exact ih
theorem split_text (q : Nat) (vs : List Int) : splitA 32 [] (wordL q ++ numText vs) = wordL q :: vs.map Lib.itoa := by
  rw [splitA_skip 32 _ _ _ (word_no32 q), List.nil_append, numText_tail]
  exact split_join _ _ (fun y hy => by obtain ⟨v, -, rfl⟩ := List.mem_map.1 hy; exact itoa_no32 v)

theorem dec_len {u : Nat} (h : u < 10 ^ 10) : 1 ≤ (Lib.decDigits u).length ∧ (Lib.decDigits u).length ≤ 10 := by
  obtain ⟨c, r, hc, -⟩ := dec_head u
  constructor
  · rw [hc]; simp
  · by_cases h0 : u = 0
    · subst h0; rw [Lib.decDigits_one (by omega)]; simp
    · have := magD_lt 10 u h
      unfold magD at this
      rw [if_neg h0] at this
      exact this
theorem numS_itoa {v : Int} (h0 : -1000000000 ≤ v) (h1 : v ≤ 1000000000) : numS (Lib.itoa v) = some v := by
  by_cases hv : v < 0
  · obtain ⟨u, rfl⟩ : ∃ u : Nat, v = -(u : Int) := ⟨v.natAbs, by omega⟩
    have e : Lib.itoa (-(u : Int)) = 45 :: Lib.decDigits u := by unfold Lib.itoa; rw [if_pos hv]; congr 2; omega
    obtain ⟨d1, d2⟩ := dec_len (u := u) (by omega)
    have ha : atS (45 :: Lib.decDigits u) = 1 := by unfold atS; rw [if_pos ⟨by simp; omega, rfl⟩]
    unfold numS
    rw [e, ha, if_neg (by simp only [List.length_cons]; omega)]
    show numKS _ 1 (dvA 0 (Lib.decDigits u)) = _
    rw [dvA_dec]
    show (if Lib.itoa (if 1 = 1 then -(u : Int) else (u : Int)) = _ then _ else _) = _
    rw [if_pos rfl, if_pos e]
  · obtain ⟨u, rfl⟩ : ∃ u : Nat, v = (u : Int) := ⟨v.toNat, by omega⟩
    have e : Lib.itoa (u : Int) = Lib.decDigits u := by unfold Lib.itoa; rw [if_neg hv]; simp
    obtain ⟨d1, d2⟩ := dec_len (u := u) (by omega)
    obtain ⟨c, r, hc, hd⟩ := dec_head u
    have ha : atS (Lib.decDigits u) = 0 := by
      unfold atS
      rw [if_neg]
      rintro ⟨-, h⟩
      rw [hc] at h
      have : c = 45 := h
      subst this
      revert hd; decide
    unfold numS
    rw [e, ha, if_neg (by omega), List.drop_zero, dvA_dec]
    show (if Lib.itoa (if 0 = 1 then -(u : Int) else (u : Int)) = _ then _ else _) = _
    have hz : ¬ (0 : Nat) = 1 := by omega
    rw [if_neg hz, if_pos e]

theorem nums_itoa {ws : List (List UInt8)} {vs : List Int} (h : numsO ws = some vs) : ws = vs.map Lib.itoa := by
  induction ws generalizing vs with
  | nil => simp [numsO] at h; subst h; rfl
  | cons x ws ih =>
    unfold numsO at h
    rw [List.mapM_cons] at h
    cases hx : numI x with
    | none => simp [hx] at h
    | some v =>
      cases hr : ws.mapM numI with
      | none => simp [hx, hr] at h
      | some us =>
        simp [hx, hr] at h
        subst h
        rw [List.map_cons, ← ih hr, (numI_some hx).1]
theorem nums_back {vs : List Int} (h : ∀ v ∈ vs, -1000000000 ≤ v ∧ v ≤ 1000000000) : numsO (vs.map Lib.itoa) = some vs ∧ (vs.map Lib.itoa).mapM numS = some vs := by
  induction vs with
  | nil => exact ⟨rfl, rfl⟩
  | cons v vs ih =>
    obtain ⟨a, b⟩ := ih fun u hu => h u (by simp [hu])
    have h0 := h v (by simp)
    have e1 := numI_itoa (v := v) (by omega) (by omega)
    have e2 := numS_itoa h0.1 h0.2
    unfold numsO at a ⊢
    constructor
    · rw [List.map_cons, List.mapM_cons, e1]; simp [a]
    · rw [List.map_cons, List.mapM_cons, e2]; simp [b]
theorem lets_case {Pr : Nat → Prop} (h : ∀ i : Fin 14, Pr i.val) {q : Nat} (hq : q < 14) : Pr q := h ⟨q, hq⟩
theorem put_nums {q : Nat} (hq : q < 14) {vs : List Int} (h : vs.length = (letL q).length) : numsL q (putF q vs).r (putF q vs).a (putF q vs).b (putF q vs).n = vs ∧ putX q (vs.getD 0 0) (vs.getD 1 0) (vs.getD 2 0) = putF q vs := by
  have hq' : q = 0 ∨ q = 1 ∨ q = 2 ∨ q = 3 ∨ q = 4 ∨ q = 5 ∨ q = 6 ∨ q = 7 ∨ q = 8 ∨ q = 9 ∨ q = 10 ∨ q = 11 ∨ q = 12 ∨ q = 13 := by omega
  rcases hq' with rfl | rfl | rfl | rfl | rfl | rfl | rfl | rfl | rfl | rfl | rfl | rfl | rfl | rfl
  · match vs, h with
    | [], _ => exact ⟨rfl, rfl⟩
  · match vs, h with
    | [_, _], _ => exact ⟨rfl, rfl⟩
  · match vs, h with
    | [_, _, _], _ => exact ⟨rfl, rfl⟩
  · match vs, h with
    | [_, _, _], _ => exact ⟨rfl, rfl⟩
  · match vs, h with
    | [_, _, _], _ => exact ⟨rfl, rfl⟩
  · match vs, h with
    | [_, _], _ => exact ⟨rfl, rfl⟩
  · match vs, h with
    | [_, _, _], _ => exact ⟨rfl, rfl⟩
  · match vs, h with
    | [_, _, _], _ => exact ⟨rfl, rfl⟩
  · match vs, h with
    | [_, _, _], _ => exact ⟨rfl, rfl⟩
  · match vs, h with
    | [_], _ => exact ⟨rfl, rfl⟩
  · match vs, h with
    | [_], _ => exact ⟨rfl, rfl⟩
  · match vs, h with
    | [_], _ => exact ⟨rfl, rfl⟩
  · match vs, h with
    | [_, _], _ => exact ⟨rfl, rfl⟩
  · match vs, h with
    | [], _ => exact ⟨rfl, rfl⟩
theorem put_back {q : Nat} {r a b n : Int} (h : Plain.insB q r a b n 24 3 = true) : putF q (numsL q r a b n) = ⟨q, r, a, b, n⟩ := by
  have ho := op_in h
  obtain ⟨a1, a2, a3, a4, a5, a6, a7, a8, d⟩ := of_decide_eq_true h
  have hq' : q = 1 ∨ q = 2 ∨ q = 3 ∨ q = 4 ∨ q = 5 ∨ q = 6 ∨ q = 7 ∨ q = 8 ∨ q = 9 ∨ q = 10 ∨ q = 11 ∨ q = 12 ∨ q = 13 := by omega
  rcases hq' with rfl | rfl | rfl | rfl | rfl | rfl | rfl | rfl | rfl | rfl | rfl | rfl | rfl
  · have : a = 0 ∧ b = 0 := by omega
    obtain ⟨rfl, rfl⟩ := this; rfl
  · have : n = 0 := by omega
    subst this; rfl
  · have : n = 0 := by omega
    subst this; rfl
  · have : n = 0 := by omega
    subst this; rfl
  · have : r = 0 ∧ b = 0 := by omega
    obtain ⟨rfl, rfl⟩ := this; rfl
  · have : a = 0 := by omega
    subst this; rfl
  · have : b = 0 := by omega
    subst this; rfl
  · have : a = 0 := by omega
    subst this; rfl
  · have : r = 0 ∧ a = 0 ∧ b = 0 := by omega
    obtain ⟨rfl, rfl, rfl⟩ := this; rfl
  · have : r = 0 ∧ b = 0 ∧ n = 0 := by omega
    obtain ⟨rfl, rfl, rfl⟩ := this; rfl
  · have : r = 0 ∧ a = 0 ∧ b = 0 := by omega
    obtain ⟨rfl, rfl, rfl⟩ := this; rfl
  · have : r = 0 ∧ b = 0 := by omega
    obtain ⟨rfl, rfl⟩ := this; rfl
  · have : r = 0 ∧ a = 0 ∧ b = 0 ∧ n = 0 := by omega
    obtain ⟨rfl, rfl, rfl, rfl⟩ := this; rfl
theorem word_some {q : Nat} (h0 : 1 ≤ q) (h1 : q < 14) : wordL q ≠ [] := by
  have : ∀ i : Fin 14, 1 ≤ i.val → wordL i.val ≠ [] := by decide
  exact this ⟨q, h1⟩ h0

theorem read_of_text {q : Nat} {r a b n : Int} (h : Plain.insB q r a b n 24 3 = true) : readL (wordL q ++ numText (numsL q r a b n)) = some ⟨q, r, a, b, n⟩ := by
  have ho := op_in h
  have hb := put_back h
  obtain ⟨n1, -⟩ := nums_back (nums_in h)
  unfold readL
  rw [split_text]
  unfold readW
  have eo : opL ((wordL q :: (numsL q r a b n).map Lib.itoa).headD []) = q := op_hit (by omega) (by omega) rfl
  have el : (numsL q r a b n).length = (letL q).length := by unfold numsL; simp
  rw [eo, if_neg (by omega), if_neg (by simp; omega), readT_some (ws := wordL q :: (numsL q r a b n).map Lib.itoa) n1, hb]
  exact if_pos h
theorem spec_some {l : List UInt8} {x : R5} (h : specW l (splitA 32 [] l) = some x) : readL l = some x := by
  unfold specW at h
  split at h
  · cases h
  · rename_i vs hvs
    by_cases hc : l = [] ∨ textR (putX (opL ((splitA 32 [] l).headD [])) (vs.getD 0 0) (vs.getD 1 0) (vs.getD 2 0)) ≠ l
    · rw [if_pos hc] at h; cases h
    · rw [if_neg hc] at h
      injection h with h
      have hl : l ≠ [] := fun e => hc (.inl e)
      have ht : textR x = l := by rw [← h]; exact Classical.byContradiction fun e => hc (.inr e)
      have hxo : x.o = (opL ((splitA 32 [] l).headD []) : Int) := by rw [← h]; rfl
      generalize opL ((splitA 32 [] l).headD []) = q at hxo
      obtain ⟨o, r, a, b, n⟩ := x
      simp at hxo
      subst hxo
      cases hv : Plain.insB q r a b n 24 3
      · have : textR ⟨q, r, a, b, n⟩ = [] := by show textL _ _ _ _ _ = []; unfold textL; rw [hv]; rfl
        rw [this] at ht
        exact absurd ht.symm hl
      · have e : l = wordL q ++ numText (numsL q r a b n) := by
          rw [← ht]
          show textL _ _ _ _ _ = _
          unfold textL
          rw [if_pos hv]
          simp
        rw [e]
        exact read_of_text hv
theorem spec_of_read {l : List UInt8} {x : R5} (h : readL l = some x) : specW l (splitA 32 [] l) = some x := by
  have hj := join_split l []
  unfold readL readW at h
  generalize splitA 32 [] l = ws at h hj
  by_cases h0 : opL (ws.headD []) = 0
  · rw [if_pos h0] at h; cases h
  rw [if_neg h0] at h
  by_cases h1 : ws.length ≠ 1 + (letL (opL (ws.headD []))).length
  · rw [if_pos h1] at h; cases h
  rw [if_neg h1] at h
  have hw := op_word h0
  have hq := op_lt (ws.headD [])
  cases hn : numsO ws.tail with
  | none => rw [readT_none hn] at h; cases h
  | some vs =>
    rw [readT_some hn] at h
    by_cases hk : (putF (opL (ws.headD [])) vs).ok = true
    · rw [if_pos hk] at h
      injection h with h
      have hlen := nums_len hn
      have e3 := nums_itoa hn
      unfold specW
      generalize opL (ws.headD []) = q at h0 h1 hw hq hk h
      have hvl : vs.length = (letL q).length := by rw [hlen]; simp; omega
      obtain ⟨p1, p2⟩ := put_nums hq hvl
      have hk' : Plain.insB q (putF q vs).r (putF q vs).a (putF q vs).b (putF q vs).n 24 3 = true := hk
      have hb := nums_in hk'
      rw [p1] at hb
      have hle := lets_le q
      have e4 : ws.tail.take 4 = ws.tail := List.take_of_length_le (by omega)
      rw [e4, e3, (nums_back hb).2]
      have hl : l = wordL q ++ numText vs := by
        have : joinW ws = l := by simpa using hj
        rw [← this]
        cases ws with
        | nil => simp at h1; omega
        | cons a t =>
          show a ++ tailW t = _
          have ea : wordL q = a := hw
          have et : t = vs.map Lib.itoa := e3
          rw [ea, numText_tail, ← et]
      have ht : textR (putF q vs) = l := by
        show textL q _ _ _ _ = l
        unfold textL
        rw [if_pos hk', p1, hl]
        simp
      have hne : l ≠ [] := by rw [hl]; simp; intro h; exact absurd h (word_some (by omega) hq)
      show (if l = [] ∨ textR (putX q (vs.getD 0 0) (vs.getD 1 0) (vs.getD 2 0)) ≠ l then _ else _) = _
      rw [p2, if_neg (by simp [hne, ht]), h]
    · rw [if_neg hk] at h; cases h
theorem spec_eq (l : List UInt8) : specW l (splitA 32 [] l) = readL l := by
  cases h : readL l with
  | some x => exact spec_of_read h
  | none =>
    cases h2 : specW l (splitA 32 [] l) with
    | none => rfl
    | some x => rw [spec_some h2] at h; cases h

end Go.Proofs.YtajblippcnidiaaGreatDoor
