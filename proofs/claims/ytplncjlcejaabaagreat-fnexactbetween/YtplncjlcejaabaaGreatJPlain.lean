/- The plain side of chapter 1: when a place is right, which registers it takes and sets: functions of integers alone. No condition. -/
import Derived.WalkKit
namespace Go.Proofs.YtplncjlcejaabaaGreat
set_option linter.unusedSimpArgs false
set_option linter.unusedVariables false
set_option maxRecDepth 100000
namespace Plain
def insB (op r a b n pl ch : Int) : Bool :=
 decide (0 ≤ r ∧ r ≤ 3 ∧ 0 ≤ a ∧ a ≤ 3 ∧ 0 ≤ b ∧ b ≤ 3 ∧ 0 ≤ ch ∧ ch ≤ 3 ∧
  ((op = 1 ∧ -1000000000 ≤ n ∧ n ≤ 1000000000 ∧ a = 0 ∧ b = 0)
   ∨ ((op = 2 ∨ op = 3 ∨ op = 4) ∧ n = 0)
   ∨ (op = 5 ∧ 0 ≤ n ∧ n < ch ∧ r = 0 ∧ b = 0)
   ∨ ((op = 6 ∨ op = 8) ∧ 0 ≤ n ∧ n < ch ∧ a = 0 ∧ r ≠ b)
   ∨ (op = 7 ∧ 0 ≤ n ∧ n < ch ∧ b = 0)
   ∨ (op = 9 ∧ 0 ≤ n ∧ n < ch ∧ r = 0 ∧ a = 0 ∧ b = 0)
   ∨ (op = 10 ∧ r = 0 ∧ b = 0 ∧ n = 0)
   ∨ (op = 11 ∧ 0 ≤ n ∧ n < pl ∧ r = 0 ∧ a = 0 ∧ b = 0)
   ∨ (op = 12 ∧ 0 ≤ n ∧ n < pl ∧ r = 0 ∧ b = 0)
   ∨ (op = 13 ∧ r = 0 ∧ a = 0 ∧ b = 0 ∧ n = 0)))
def regB (r : Int) : Bool := decide (0 ≤ r ∧ r ≤ 3)
def numB (n : Int) : Bool := decide (-1000000000 ≤ n ∧ n ≤ 1000000000)
def oneB (n c : Int) : Bool := decide (0 ≤ n ∧ n < c)
def chansB (c : Int) : Bool := decide (0 ≤ c ∧ c ≤ 3)
def inB (x lo hi : Int) : Bool := decide (lo ≤ x ∧ x ≤ hi)
def areB (r a b : Int) : Bool := regB r && regB a && regB b
def takesB (r b : Int) : Bool := regB r && regB b && (r != b)
end Plain
end Go.Proofs.YtplncjlcejaabaaGreat
