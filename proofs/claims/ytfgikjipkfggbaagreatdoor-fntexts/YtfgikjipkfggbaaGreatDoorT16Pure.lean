/- Texts of traces, channels, steps and code, the plain part. No condition. -/
import Derived.Test.YtfgikjipkfggbaaGreatDoorQuietC
import Derived.Test.YtfgikjipkfggbaaGreatDoorDigits
import Derived.Lib.Join
namespace Go.Proofs.YtfgikjipkfggbaaGreatDoor
set_option linter.unusedSimpArgs false
set_option linter.unusedVariables false
set_option maxRecDepth 100000
open Go.RowKit

theorem join_snoc (xs : List (List UInt8)) (x sep : List UInt8) (h : xs ≠ []) : Lib.join (xs ++ [x]) sep = Lib.join xs sep ++ sep ++ x := by
  obtain ⟨a, r, rfl⟩ := List.exists_cons_of_ne_nil h
  rw [List.cons_append, Lib.join_cons, Lib.join_cons]
  simp [Lib.joinTail]
theorem join_empty (xs : List (List UInt8)) : Lib.join xs [] = xs.flatten := by
  cases xs with
  | nil => rfl
  | cons x r => rw [Lib.join_cons]; simp [Lib.joinTail]
theorem lens_le (k : Nat) (xs : List (List UInt8)) (h : ∀ x ∈ xs, x.length ≤ k) : Lib.lens xs ≤ k * xs.length := by
  induction xs with
  | nil => simp [Lib.lens]
  | cons x r ih =>
    have h1 := h x (by simp)
    have h2 := ih fun u hu => h u (by simp [hu])
    simp [Lib.lens] at h2 ⊢
    rw [Nat.mul_add]
    omega
theorem join_le (k : Nat) (xs : List (List UInt8)) (sep : List UInt8) (h : ∀ x ∈ xs, x.length ≤ k) (hs : sep.length ≤ 1) : (Lib.join xs sep).length ≤ (k + 1) * xs.length := by
  cases xs with
  | nil => simp [Lib.join_nil]
  | cons x r =>
    rw [Lib.join_length]
    have h1 := lens_le k (x :: r) h
    have h2 : sep.length * r.length ≤ 1 * r.length := Nat.mul_le_mul_right _ hs
    have h3 : (k + 1) * (x :: r).length = k * (x :: r).length + (x :: r).length := by rw [Nat.add_mul, Nat.one_mul]
    rw [h3]
    simp only [List.length_cons] at h1 ⊢
    omega
theorem map_takeS {α : Type} (f : α → List UInt8) {l : List α} {k : Nat} (x : α) (h : l[k]? = some x) : (l.take (k + 1)).map f = (l.take k).map f ++ [f x] := by
  rw [List.take_add_one, h]
  simp

theorem itoa_len {n : Int} (h0 : -9223372036854775808 ≤ n) (h1 : n ≤ 9223372036854775807) : (Lib.itoa n).length ≤ 20 := by
  rcases Int.lt_trichotomy n 0 with h | h | h
  · rw [itoa_below h]
    have := magD_len h0 h1
    simp; omega
  · subst h; rw [Lib.itoa]; simp [Lib.decDigits]
  · rw [itoa_pos h]
    have := magD_len h0 h1
    omega
theorem decD_ne (u : Nat) : Lib.decDigits u ≠ [] := by
  rw [Lib.decDigits]
  split <;> simp
theorem itoa_ne (n : Int) : Lib.itoa n ≠ [] := by
  unfold Lib.itoa
  split
  · simp
  · exact decD_ne _

def noteT (a b : Int) : List UInt8 := Lib.itoa a ++ [58] ++ Lib.itoa b
def notesT (l : List (Int × Int)) : List (List UInt8) := l.map fun x => noteT x.1 x.2
def traceT (l : List (Int × Int)) : List UInt8 := if l = [] then [45] else Lib.join (notesT l) [32]
def numsT (l : List Int) : List UInt8 := Lib.join (l.map Lib.itoa) [32]
def chanT (cap : Int) (l : List Int) (cl : Bool) : List UInt8 := [91] ++ numsT l ++ [93] ++ Lib.itoa (cap - l.length) ++ if cl then [33] else []
theorem noteT_ne (a b : Int) : noteT a b ≠ [] := by simp [noteT]

end Go.Proofs.YtfgikjipkfggbaaGreatDoor
