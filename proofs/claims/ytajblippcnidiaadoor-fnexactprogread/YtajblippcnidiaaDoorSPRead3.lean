/- l2Line of the specification whole, and the plain side of the loop of its ProgRead. Conditions: a line of at most 2^20 bytes; rows as the sizes say. -/
import Derived.Test.YtajblippcnidiaaDoorSPRead2
namespace Go.Proofs.YtajblippcnidiaaDoor
set_option linter.unusedSimpArgs false
set_option linter.unusedVariables false
set_option maxRecDepth 100000
open Go.RowKit

theorem l2Line_any (base : Nat) (v v' : Value) (p : PD) (line : List UInt8) (w : World) (hb : base ≤ w.heap.size) (ho : OwnN w base v p.caps) (hd : OwnB w base v' p.bods) (hc : p.caps.length ≤ 1073741824) (hn : p.bods.length ≤ 1048577) (hi : ∀ b ∈ p.bods, b.length ≤ 1048577) (hl : line.length ≤ 1048576) :
    Calls Tryd.prog 9 #[.agg #[v, v'], .string ⟨line.toArray⟩] w fun e w' => linePost base (specLine p line) w e w' := by
  unfold specLine
  by_cases h1 : (splitA 32 [] line).headD [] = capsW
  · rw [if_pos h1]
    exact l2Line_caps base v v' p line w hb ho hd hc hl h1
  · rw [if_neg h1]
    by_cases h2 : line = bodyW
    · rw [if_pos h2, h2]
      exact l2Line_body base v v' p w hb ho hd hn
    · rw [if_neg h2]
      exact l2Line_ins base v v' p line w hb ho hd hn hi hl h1 h2

theorem specF_snoc : ∀ (ls : List (List UInt8)) (p : PD) (x : List UInt8), specF p (ls ++ [x]) = (specF p ls).bind fun q => specLine q x
  | [], p, x => by
    simp only [List.nil_append, specF, Option.bind_some]
    cases specLine p x <;> rfl
  | y :: r, p, x => by
    simp only [List.cons_append, specF]
    cases specLine p y with
    | none => rfl
    | some q => exact specF_snoc r q x
theorem specF_fail : ∀ (ls : List (List UInt8)) (p q : PD) (x : List UInt8) (r : List (List UInt8)), specF p ls = some q → specLine q x = none → specF p (ls ++ x :: r) = none
  | [], p, q, x, r, h, hx => by
    have h' : p = q := by simpa [specF] using h
    subst h'
    simp [specF, hx]
  | y :: s, p, q, x, r, h, hx => by
    simp only [List.cons_append, specF] at h ⊢
    cases hy : specLine p y with
    | none => simp [hy] at h
    | some t => rw [hy] at h; exact specF_fail s t q x r h hx

/- how great a program becomes by lines -/
def Sized (n c : Nat) (p : PD) : Prop := p.caps.length ≤ c ∧ p.bods.length ≤ n ∧ ∀ b ∈ p.bods, b.length ≤ n
theorem mapS_len : ∀ (ws : List (List UInt8)) (vs : List Int), ws.mapM numS = some vs → vs.length = ws.length
  | [], vs, h => by simp at h; subst h; rfl
  | x :: r, vs, h => by
    rw [List.mapM_cons] at h
    cases hx : numS x with
    | none => rw [hx] at h; cases h
    | some v =>
      cases hr : r.mapM numS with
      | none => rw [hx, hr] at h; cases h
      | some us =>
        rw [hx, hr] at h
        injection h with h
        have h' : v :: us = vs := h
        rw [← h', List.length_cons, mapS_len r us hr, List.length_cons]
theorem Sized.line {n c : Nat} {p q : PD} {x : List UInt8} (h : Sized n c p) (hx : specLine p x = some q) : Sized (n + 1) (c + x.length) q := by
  obtain ⟨h1, h2, h3⟩ := h
  unfold specLine at hx
  split at hx
  · cases hm : ((splitA 32 [] x).tail.take 8).mapM numS with
    | none => rw [hm] at hx; cases hx
    | some vs =>
      rw [hm] at hx
      injection hx with hx
      have hv := mapS_len _ _ hm
      have hv8 : vs.length ≤ x.length := by
        have h1 := (splitA_len 32 x []).2
        have h2 := List.length_take_le' 8 (splitA 32 [] x).tail
        rw [List.length_tail] at h2
        omega
      have e : (⟨p.caps ++ vs, p.bods⟩ : PD) = q := hx
      subst e
      exact ⟨by show (p.caps ++ vs).length ≤ _; rw [List.length_append]; omega, by show p.bods.length ≤ _; omega, fun b hb => Nat.le_succ_of_le (h3 b hb)⟩
  · split at hx
    · split at hx
      · injection hx with hx
        subst hx
        exact ⟨by show p.caps.length ≤ _; omega, by show (p.bods ++ [[]]).length ≤ _; simp; omega, fun b hb => by
          rcases List.mem_append.1 hb with h | h
          · exact Nat.le_succ_of_le (h3 b h)
          · simp at h; subst h; simp⟩
      · cases hx
    · split at hx
      · cases hx
      · rename_i hne
        cases hr : readL x with
        | none => rw [hr] at hx; cases hx
        | some y =>
          rw [hr] at hx
          injection hx with hx
          have e : (⟨p.caps, pushI p.bods (toI y)⟩ : PD) = q := hx
          subst e
          have hpos : 0 < p.bods.length := List.length_pos_iff.2 hne
          refine ⟨by show p.caps.length ≤ _; omega, by show (pushI p.bods (toI y)).length ≤ _; rw [push_set _ hne, List.length_set]; omega, fun b hb => ?_⟩
          have hb' : b ∈ p.bods.set (p.bods.length - 1) (p.bods.getD (p.bods.length - 1) [] ++ [toI y]) := by rw [← push_set _ hne]; exact hb
          rcases List.mem_or_eq_of_mem_set hb' with h | h
          · exact Nat.le_succ_of_le (h3 b h)
          · have := h3 (p.bods.getD (p.bods.length - 1) []) (by rw [List.getD_eq_getElem?_getD, List.getElem?_eq_getElem (by omega)]; exact List.getElem_mem _)
            rw [h, List.length_append, List.length_singleton]
            omega

end Go.Proofs.YtajblippcnidiaaDoor
