/- The plain side of chapter 7: when a step of a core is right, and its word: functions of integers alone. No condition. -/
import Derived.Test.YtfgikjipkfggbaaGreatDoorQuietC
import Derived.WalkKit
namespace Go.Proofs.YtfgikjipkfggbaaGreatDoor
set_option linter.unusedSimpArgs false
set_option linter.unusedVariables false
set_option maxRecDepth 100000
namespace Plain

def stepB (op r a b n pl : Int) : Bool :=
  decide (0 ≤ r ∧ r ≤ 7 ∧ 0 ≤ b ∧ b ≤ 7 ∧ a ≤ 7 ∧ (0 ≤ a ∨ (a = -1 ∧ (op = 5 ∨ op = 6 ∨ op = 7))) ∧
    ((op = 1 ∧ -1000000000 ≤ n ∧ n ≤ 1000000000 ∧ a = 0 ∧ b = 0)
      ∨ ((op = 2 ∨ op = 3 ∨ op = 4) ∧ n = 0)
      ∨ (op = 5 ∧ 0 ≤ n ∧ n ≤ 23 ∧ b = 0)
      ∨ ((op = 6 ∨ op = 7) ∧ 0 ≤ n ∧ n ≤ 23 ∧ r = 0)
      ∨ (op = 8 ∧ 0 ≤ n ∧ n ≤ 23 ∧ a = 0)
      ∨ (op = 9 ∧ r = 0 ∧ b = 0 ∧ n = 0)
      ∨ (op = 10 ∧ 0 ≤ n ∧ n < pl ∧ r = 0 ∧ a = 0 ∧ b = 0)
      ∨ (op = 11 ∧ 0 ≤ n ∧ n < pl ∧ r = 0 ∧ b = 0)
      ∨ ((op = 12 ∨ op = 13) ∧ r = 0 ∧ a = 0 ∧ b = 0 ∧ n = 0)))

def numB (n : Int) : Bool := decide (-1000000000 ≤ n ∧ n ≤ 1000000000)
def oneB (n c : Int) : Bool := decide (0 ≤ n ∧ n < c)
def inB (x lo hi : Int) : Bool := decide (lo ≤ x ∧ x ≤ hi)
def memB (op : Int) : Bool := decide (op = 5 ∨ op = 6 ∨ op = 7)
def regsB (op r a b : Int) : Bool := decide ((oneB a 8 = true ∨ (a = -1 ∧ memB op = true)) ∧ oneB r 8 = true ∧ oneB b 8 = true)
def nB (op n pl : Int) : Bool := if op = 1 then numB n else if op = 5 ∨ op = 6 ∨ op = 7 ∨ op = 8 then oneB n 24 else if op = 10 ∨ op = 11 then oneB n pl else true
def endB (op : Int) : Bool := decide (op = 10 ∨ op = 12 ∨ op = 13)
def wordI (op r a b n : Int) : Int := op + 16 * r + 256 * (a + 1) + 4096 * b + 65536 * (n + 1000000000)

end Plain

end Go.Proofs.YtfgikjipkfggbaaGreatDoor
