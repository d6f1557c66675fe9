/- How the laws copy memories into new memory. Conditions: they are counted. Rows of notes as they lie in memory, and how the laws count, copy and compare them. Conditions: each list of at most 1048576. The plain side of chapter 7: when a step of a core is right, and its word: functions of integers alone. No condition. -/
import Derived.Test.YtepfpbcjklaenaaKG00
import Derived.Deep.RegionWith
import Derived.WalkKit
namespace Go.Proofs.Ytepfpbcjklaenaa
section
set_option linter.unusedSimpArgs false
set_option linter.unusedVariables false
set_option maxRecDepth 100000
open Go.RowKit
theorem mkW (n : Nat) (hn : n ≤ 1048576) (w : World) : (Instr.makeSlice 44 (.int .i64 (n : Int)) (.int .i64 (n : Int))).run Try.prog w = .ok (.slice (some ⟨w.heap.size, 0, none⟩) n n) (w.alloc (.cells (madeCells #[.int .i64 0, .slice none 0 0] (n * 2)) 48)) := by
 have h := run_make (P := Try.prog) w 44 48 _ (.agg #[.int .i64 0, .slice none 0 0]) Try.underlying44 rfl rfl .i64 .i64 n n (by omega) (Int.le_refl _) (by show (32 : Int) * _ ≤ _; omega) (by omega)
 have e : (Value.agg #[.int .i64 0, .slice none 0 0]).cells = #[.int .i64 0, .slice none 0 0] := rfl
 have e' : ∀ t, Try.prog.info? 48 = some t → t.size = 2 := by intro t h; cases h; rfl
 rw [e, e' _ rfl] at h
 simpa using h
theorem mkWW (n : Nat) (hn : n ≤ 1048576) (w : World) : (Instr.makeSlice 29 (.int .i64 (n : Int)) (.int .i64 (n : Int))).run Try.prog w = .ok (.slice (some ⟨w.heap.size, 0, none⟩) n n) (w.alloc (.cells (madeCells #[.slice none 0 0] (n * 1)) 44)) := by
 have h := run_make (P := Try.prog) w 29 44 _ (.slice none 0 0) Try.underlying29 rfl rfl .i64 .i64 n n (by omega) (Int.le_refl _) (by show (24 : Int) * _ ≤ _; omega) (by omega)
 have e : (Value.slice none 0 0).cells = #[.slice none 0 0] := rfl
 have e' : ∀ t, Try.prog.info? 44 = some t → t.size = 1 := by intro t h; cases h; rfl
 rw [e, e' _ rfl] at h
 simpa using h
end
section
set_option linter.unusedSimpArgs false
set_option linter.unusedVariables false
set_option maxRecDepth 100000
open Go.RowKit
structure ND where
 who : Int
 v : Int
def NtR (w : World) (g off : Nat) (n : ND) : Prop := w.cell? ⟨g, off, none⟩ = some (.int .i64 n.who) ∧ w.cell? ⟨g, off + 1, none⟩ = some (.int .i64 n.v)
def NtsR (w : World) (lo hi : Nat) (s : Option Addr) (l : List ND) : Prop :=
 l = [] ∨ ∃ g off, s = some ⟨g, off, none⟩ ∧ lo ≤ g ∧ g < hi ∧ ∀ (i : Nat) (n : ND), l[i]? = some n → NtR w g (off + i * 2) n
theorem NtsR.keep {w w' : World} {lo hi : Nat} {s : Option Addr} {l : List ND} (h : NtsR w lo hi s l) (hb : Keep lo hi w w') : NtsR w' lo hi s l := by
 rcases h with h | ⟨g, o, hs, h1, h2, hc⟩
 ·exact .inl h
 ·exact .inr ⟨g, o, hs, h1, h2, fun i r hi => ⟨(hb.cell h1 h2).trans (hc i r hi).1, (hb.cell h1 h2).trans (hc i r hi).2⟩⟩
def flatN : List ND → List Value
 | [] => []
 | x :: t => [.int .i64 x.who, .int .i64 x.v] ++ flatN t
theorem flatN_len : ∀ L : List ND, (flatN L).length = L.length * 2
 | [] => rfl
 | x :: t => by simp [flatN, flatN_len t]; omega
theorem flatN_app : ∀ (a b : List ND), flatN (a ++ b) = flatN a ++ flatN b
 | [], b => rfl
 | x :: r, b => by simp [flatN, flatN_app r b]
theorem flatN_at : ∀ (L : List ND) (i : Nat) (x : ND), L[i]? = some x → (flatN L)[i * 2]? = some (.int .i64 x.who) ∧ (flatN L)[i * 2 + 1]? = some (.int .i64 x.v)
 | [], i, x, h => by simp at h
 | y :: r, 0, x, h => by
  simp at h
  subst h
  exact ⟨rfl, rfl⟩
 | y :: r, i + 1, x, h => by
  have h' : r[i]? = some x := by simpa using h
  have e := flatN_at r i x h'
  have e0 : (i + 1) * 2 = i * 2 + 2 := by omega
  rw [e0]
  exact e
def OwnD (w : World) (base : Nat) (v : Value) (l : List ND) : Prop := w.ownsRow base 78 2 v l.length (flatN l)
end
section
set_option linter.unusedSimpArgs false
set_option linter.unusedVariables false
set_option maxRecDepth 100000
namespace Plain
def stepB (op r a b n pl : Int) : Bool :=
 decide (0 ≤ r ∧ r ≤ 7 ∧ 0 ≤ b ∧ b ≤ 7 ∧ a ≤ 7 ∧ (0 ≤ a ∨ (a = -1 ∧ (op = 5 ∨ op = 6 ∨ op = 7))) ∧
  ((op = 1 ∧ -1000000000 ≤ n ∧ n ≤ 1000000000 ∧ a = 0 ∧ b = 0)
   ∨ ((op = 2 ∨ op = 3 ∨ op = 4) ∧ n = 0)
   ∨ (op = 5 ∧ 0 ≤ n ∧ n ≤ 23 ∧ b = 0)
   ∨ ((op = 6 ∨ op = 7) ∧ 0 ≤ n ∧ n ≤ 23 ∧ r = 0)
   ∨ (op = 8 ∧ 0 ≤ n ∧ n ≤ 23 ∧ a = 0)
   ∨ (op = 9 ∧ r = 0 ∧ b = 0 ∧ n = 0)
   ∨ (op = 10 ∧ 0 ≤ n ∧ n < pl ∧ r = 0 ∧ a = 0 ∧ b = 0)
   ∨ (op = 11 ∧ 0 ≤ n ∧ n < pl ∧ r = 0 ∧ b = 0)
   ∨ ((op = 12 ∨ op = 13) ∧ r = 0 ∧ a = 0 ∧ b = 0 ∧ n = 0)))
def numB (n : Int) : Bool := decide (-1000000000 ≤ n ∧ n ≤ 1000000000)
def oneB (n c : Int) : Bool := decide (0 ≤ n ∧ n < c)
def inB (x lo hi : Int) : Bool := decide (lo ≤ x ∧ x ≤ hi)
def memB (op : Int) : Bool := decide (op = 5 ∨ op = 6 ∨ op = 7)
def regsB (op r a b : Int) : Bool := decide ((oneB a 8 = true ∨ (a = -1 ∧ memB op = true)) ∧ oneB r 8 = true ∧ oneB b 8 = true)
def nB (op n pl : Int) : Bool := if op = 1 then numB n else if op = 5 ∨ op = 6 ∨ op = 7 ∨ op = 8 then oneB n 24 else if op = 10 ∨ op = 11 then oneB n pl else true
def endB (op : Int) : Bool := decide (op = 10 ∨ op = 12 ∨ op = 13)
end Plain
end
end Go.Proofs.Ytepfpbcjklaenaa
