/- Texts of places, the plain part; the specification's words and numbers of a place. No condition. -/
import Derived.Test.YtajblippcnidiaaGreatDoorDigits
import Derived.Test.YtajblippcnidiaaGreatDoorPlain
namespace Go.Proofs.YtajblippcnidiaaGreatDoor
set_option linter.unusedSimpArgs false
set_option linter.unusedVariables false
set_option maxRecDepth 100000
open Go.RowKit

def words14 : List (List UInt8) := [[], [115, 101, 116], [97, 100, 100], [115, 117, 98], [108, 101, 115, 115], [115, 101, 110, 100], [116, 97, 107, 101], [116, 114, 121, 115, 101, 110, 100], [116, 114, 121, 116, 97, 107, 101], [99, 108, 111, 115, 101], [112, 114, 105, 110, 116], [106, 117, 109, 112], [122, 101, 114, 111], [101, 110, 100]]
def lets14 : List (List UInt8) := [[], [82, 78], [82, 65, 66], [82, 65, 66], [82, 65, 66], [78, 65], [82, 66, 78], [82, 78, 65], [82, 66, 78], [78], [65], [78], [65, 78], []]
def wordL (o : Nat) : List UInt8 := words14.getD o []
def letL (o : Nat) : List UInt8 := lets14.getD o []
def fldL (r a b n : Int) (c : UInt8) : Int := if c = 82 then r else if c = 65 then a else if c = 66 then b else n
def numsL (o r a b n : Int) : List Int := (letL o.toNat).map (fldL r a b n)
def numText (l : List Int) : List UInt8 := l.flatMap fun v => 32 :: Lib.itoa v
def textL (o r a b n : Int) : List UInt8 := if Plain.insB o r a b n 24 3 = true then wordL o.toNat ++ numText (numsL o r a b n) else []

theorem op_in {o r a b n pl ch : Int} (h : Plain.insB o r a b n pl ch = true) : 1 ≤ o ∧ o ≤ 13 := by
  obtain ⟨a1, a2, a3, a4, a5, a6, a7, a8, d⟩ := of_decide_eq_true h
  omega
theorem lets_le (o : Nat) : (letL o).length ≤ 3 := by
  by_cases h : o < 14
  · have : ∀ i : Fin 14, (letL i.val).length ≤ 3 := by decide
    exact this ⟨o, h⟩
  · unfold letL
    rw [List.getD_eq_getElem?_getD, List.getElem?_eq_none (by simp [lets14]; omega)]
    simp
theorem nums_le (o r a b n : Int) : (numsL o r a b n).length ≤ 3 := by unfold numsL; rw [List.length_map]; exact lets_le _
theorem words_le (o : Nat) : (wordL o).length ≤ 7 := by
  by_cases h : o < 14
  · have : ∀ i : Fin 14, (wordL i.val).length ≤ 7 := by decide
    exact this ⟨o, h⟩
  · unfold wordL
    rw [List.getD_eq_getElem?_getD, List.getElem?_eq_none (by simp [words14]; omega)]
    simp
theorem nums_far {o r a b n : Int} (h : ¬ (1 ≤ o ∧ o ≤ 13)) : numsL o r a b n = [] := by
  unfold numsL
  have : letL o.toNat = [] := by
    by_cases h0 : o.toNat < 14
    · have : o.toNat = 0 := by omega
      rw [this]; rfl
    · unfold letL
      rw [List.getD_eq_getElem?_getD, List.getElem?_eq_none (by simp [lets14]; omega)]
      rfl
  rw [this]; rfl
theorem fld_in {o r a b n : Int} (h : Plain.insB o r a b n 24 3 = true) (c : UInt8) : -1000000000 ≤ fldL r a b n c ∧ fldL r a b n c ≤ 1000000000 := by
  obtain ⟨a1, a2, a3, a4, a5, a6, a7, a8, d⟩ := of_decide_eq_true h
  unfold fldL
  split
  · omega
  · split
    · omega
    · split
      · omega
      · omega
theorem nums_in {o r a b n : Int} (h : Plain.insB o r a b n 24 3 = true) (v : Int) (hv : v ∈ numsL o r a b n) : -1000000000 ≤ v ∧ v ≤ 1000000000 := by
  unfold numsL at hv
  obtain ⟨c, -, rfl⟩ := List.mem_map.1 hv
  exact fld_in h c
theorem itoa_le {v : Int} (h0 : -1000000000 ≤ v) (h1 : v ≤ 1000000000) : (Lib.itoa v).length ≤ 12 := by
  rcases Int.lt_trichotomy v 0 with h | h | h
  · rw [itoa_below h]
    have := magD_lt 10 v.natAbs (by omega)
    simp; omega
  · subst h; rw [Lib.itoa]; simp [Lib.decDigits]
  · rw [itoa_pos h]
    have := magD_lt 10 v.natAbs (by omega)
    omega
theorem numText_le {l : List Int} (h : ∀ v ∈ l, -1000000000 ≤ v ∧ v ≤ 1000000000) : (numText l).length ≤ 13 * l.length := by
  induction l with
  | nil => simp [numText]
  | cons v l ih =>
    have h1 := itoa_le (h v (by simp)).1 (h v (by simp)).2
    have h2 := ih fun u hu => h u (by simp [hu])
    simp [numText] at h2 ⊢
    omega
theorem textL_le (o r a b n : Int) : (textL o r a b n).length ≤ 46 := by
  unfold textL
  split
  · rename_i h
    have h1 := words_le o.toNat
    have h2 := numText_le (nums_in h)
    have h3 := nums_le o r a b n
    simp; omega
  · simp

set_option maxRecDepth 100000 in
theorem l2Names_any (w : World) : Calls Tryz.prog 42 #[] w fun e w' => e = .returned (.slice (some ⟨w.heap.size, 0, none⟩) 14 14) ∧ Below w.heap.size w w' ∧ w.heap.size < w'.heap.size ∧ ∀ i, i < 14 → w'.cell? ⟨w.heap.size, i, none⟩ = some (.string ⟨(wordL i).toArray⟩) := by
  go_enter Tryz.func42, Tryz.ntmps42
  go_wp2
  go_ret
  refine ⟨rfl, (Below.refl _ _).alloc (Nat.le_refl _) _, by simp, ?_⟩
  intro i hi
  rw [World.cell?_alloc_mark]
  have : ∀ j : Fin 14, (#[Value.string ⟨#[]⟩, .string ⟨#[115, 101, 116]⟩, .string ⟨#[97, 100, 100]⟩, .string ⟨#[115, 117, 98]⟩, .string ⟨#[108, 101, 115, 115]⟩, .string ⟨#[115, 101, 110, 100]⟩, .string ⟨#[116, 97, 107, 101]⟩, .string ⟨#[116, 114, 121, 115, 101, 110, 100]⟩, .string ⟨#[116, 114, 121, 116, 97, 107, 101]⟩, .string ⟨#[99, 108, 111, 115, 101]⟩, .string ⟨#[112, 114, 105, 110, 116]⟩, .string ⟨#[106, 117, 109, 112]⟩, .string ⟨#[122, 101, 114, 111]⟩, .string ⟨#[101, 110, 100]⟩] : Array Value)[j.val]? = some (.string ⟨(wordL j.val).toArray⟩) := by
    intro j
    match j with
    | ⟨0, _⟩ => rfl
    | ⟨1, _⟩ => rfl
    | ⟨2, _⟩ => rfl
    | ⟨3, _⟩ => rfl
    | ⟨4, _⟩ => rfl
    | ⟨5, _⟩ => rfl
    | ⟨6, _⟩ => rfl
    | ⟨7, _⟩ => rfl
    | ⟨8, _⟩ => rfl
    | ⟨9, _⟩ => rfl
    | ⟨10, _⟩ => rfl
    | ⟨11, _⟩ => rfl
    | ⟨12, _⟩ => rfl
    | ⟨13, _⟩ => rfl
  exact this ⟨i, hi⟩

theorem newInts {w : World} {k : Nat} (hk : w.heap.size = k) (l : List Int) (T : TypeId) : ∀ i, i < l.length → (w.alloc (.cells (l.map (Value.int .i64)).toArray T)).cell? ⟨k, i, none⟩ = some (.int .i64 (l.getD i 0)) := by
  subst hk
  intro i hi
  rw [World.cell?_alloc_mark]
  simp [List.getD_eq_getElem?_getD, List.getElem?_eq_getElem hi]
set_option maxRecDepth 100000 in
set_option maxHeartbeats 1000000 in
theorem l2Nums_any (o r a b n : Int) (w : World) : Calls Tryz.prog 43 #[.agg #[.int .i64 o, .int .i64 r, .int .i64 a, .int .i64 b, .int .i64 n]] w fun e w' => ∃ g : Nat, e = .returned (.slice (some ⟨g, 0, none⟩) (numsL o r a b n).length (numsL o r a b n).length) ∧ Below w.heap.size w w' ∧ g < w'.heap.size ∧ ∀ i, i < (numsL o r a b n).length → w'.cell? ⟨g, i, none⟩ = some (.int .i64 ((numsL o r a b n).getD i 0)) := by
  by_cases e1 : o = 1
  · subst e1
    have e : numsL 1 r a b n = [r, n] := rfl
    rw [e]
    clear e
    go_enter Tryz.func43, Tryz.ntmps43
    go_wp2
    go_ret
    exact ⟨w.heap.size + 1, rfl, ((Below.refl _ _).alloc (Nat.le_refl _) _).alloc (by simp) _, by simp, newInts (by simp) [r, n] _⟩
  by_cases e2 : o = 2
  · subst e2
    have e : numsL 2 r a b n = [r, a, b] := rfl
    rw [e]
    clear e
    go_enter Tryz.func43, Tryz.ntmps43
    go_wp2
    go_ret
    exact ⟨w.heap.size + 1, rfl, ((Below.refl _ _).alloc (Nat.le_refl _) _).alloc (by simp) _, by simp, newInts (by simp) [r, a, b] _⟩
  by_cases e3 : o = 3
  · subst e3
    have e : numsL 3 r a b n = [r, a, b] := rfl
    rw [e]
    clear e
    go_enter Tryz.func43, Tryz.ntmps43
    go_wp2
    go_ret
    exact ⟨w.heap.size + 1, rfl, ((Below.refl _ _).alloc (Nat.le_refl _) _).alloc (by simp) _, by simp, newInts (by simp) [r, a, b] _⟩
  by_cases e4 : o = 4
  · subst e4
    have e : numsL 4 r a b n = [r, a, b] := rfl
    rw [e]
    clear e
    go_enter Tryz.func43, Tryz.ntmps43
    go_wp2
    go_ret
    exact ⟨w.heap.size + 1, rfl, ((Below.refl _ _).alloc (Nat.le_refl _) _).alloc (by simp) _, by simp, newInts (by simp) [r, a, b] _⟩
  by_cases e5 : o = 5
  · subst e5
    have e : numsL 5 r a b n = [n, a] := rfl
    rw [e]
    clear e
    go_enter Tryz.func43, Tryz.ntmps43
    go_wp2
    go_ret
    exact ⟨w.heap.size + 1, rfl, ((Below.refl _ _).alloc (Nat.le_refl _) _).alloc (by simp) _, by simp, newInts (by simp) [n, a] _⟩
  by_cases e6 : o = 6
  · subst e6
    have e : numsL 6 r a b n = [r, b, n] := rfl
    rw [e]
    clear e
    go_enter Tryz.func43, Tryz.ntmps43
    go_wp2
    go_ret
    exact ⟨w.heap.size + 1, rfl, ((Below.refl _ _).alloc (Nat.le_refl _) _).alloc (by simp) _, by simp, newInts (by simp) [r, b, n] _⟩
  by_cases e7 : o = 7
  · subst e7
    have e : numsL 7 r a b n = [r, n, a] := rfl
    rw [e]
    clear e
    go_enter Tryz.func43, Tryz.ntmps43
    go_wp2
    go_ret
    exact ⟨w.heap.size + 1, rfl, ((Below.refl _ _).alloc (Nat.le_refl _) _).alloc (by simp) _, by simp, newInts (by simp) [r, n, a] _⟩
  by_cases e8 : o = 8
  · subst e8
    have e : numsL 8 r a b n = [r, b, n] := rfl
    rw [e]
    clear e
    go_enter Tryz.func43, Tryz.ntmps43
    go_wp2
    go_ret
    exact ⟨w.heap.size + 1, rfl, ((Below.refl _ _).alloc (Nat.le_refl _) _).alloc (by simp) _, by simp, newInts (by simp) [r, b, n] _⟩
  by_cases e9 : o = 9
  · subst e9
    have e : numsL 9 r a b n = [n] := rfl
    rw [e]
    clear e
    go_enter Tryz.func43, Tryz.ntmps43
    go_wp2
    go_ret
    exact ⟨w.heap.size + 1, rfl, ((Below.refl _ _).alloc (Nat.le_refl _) _).alloc (by simp) _, by simp, newInts (by simp) [n] _⟩
  by_cases e10 : o = 10
  · subst e10
    have e : numsL 10 r a b n = [a] := rfl
    rw [e]
    clear e
    go_enter Tryz.func43, Tryz.ntmps43
    go_wp2
    go_ret
    exact ⟨w.heap.size + 1, rfl, ((Below.refl _ _).alloc (Nat.le_refl _) _).alloc (by simp) _, by simp, newInts (by simp) [a] _⟩
  by_cases e11 : o = 11
  · subst e11
    have e : numsL 11 r a b n = [n] := rfl
    rw [e]
    clear e
    go_enter Tryz.func43, Tryz.ntmps43
    go_wp2
    go_ret
    exact ⟨w.heap.size + 1, rfl, ((Below.refl _ _).alloc (Nat.le_refl _) _).alloc (by simp) _, by simp, newInts (by simp) [n] _⟩
  by_cases e12 : o = 12
  · subst e12
    have e : numsL 12 r a b n = [a, n] := rfl
    rw [e]
    clear e
    go_enter Tryz.func43, Tryz.ntmps43
    go_wp2
    go_ret
    exact ⟨w.heap.size + 1, rfl, ((Below.refl _ _).alloc (Nat.le_refl _) _).alloc (by simp) _, by simp, newInts (by simp) [a, n] _⟩
  by_cases e13 : o = 13
  · subst e13
    have e : numsL 13 r a b n = [] := rfl
    rw [e]
    clear e
    go_enter Tryz.func43, Tryz.ntmps43
    go_wp2
    go_ret
    exact ⟨w.heap.size + 1, rfl, ((Below.refl _ _).alloc (Nat.le_refl _) _).alloc (by simp) _, by simp, newInts (by simp) [] _⟩
  · rw [nums_far (by omega)]
    go_enter Tryz.func43, Tryz.ntmps43
    go_wp2
    go_ret
    exact ⟨w.heap.size + 1, rfl, ((Below.refl _ _).alloc (Nat.le_refl _) _).alloc (by simp) _, by simp, newInts (by simp) [] _⟩

end Go.Proofs.YtajblippcnidiaaGreatDoor
