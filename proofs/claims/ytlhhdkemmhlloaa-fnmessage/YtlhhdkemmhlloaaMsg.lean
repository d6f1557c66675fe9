/- The memory of FnMessage: what is written, let go, got hold of and read there. No condition. -/
import Derived.Test.YtlhhdkemmhlloaaFn6
namespace Go.Proofs.Ytlhhdkemmhlloaa
set_option linter.unusedSimpArgs false
set_option linter.unusedVariables false
set_option maxRecDepth 100000
open Go.RowKit

def z24 : List Int := List.replicate 24 0
def mA (v : Int) : List (List WD) := stoM (newM 24) z24 1 v false
def lA : List Int := stoW (newM 24) z24 1
def mB (v : Int) : List (List WD) := stoM (mA v) lA 2 1 true
def lB (v : Int) : List Int := stoW (mA v) lA 2
def heldL (v : Int) : List Int := loadW (mB v) z24 2 0 true
def looseL (v : Int) : List Int := loadW (mB v) z24 2 0 false
theorem mfit0 : MFits (newM 24) := by
  have e : (newM 24).length + szR (newM 24) = 624 := by kernel_rfl
  unfold MFits
  omega
theorem mfitA (v : Int) : MFits (mA v) := by
  have e : (mA v).length + szR (mA v) = 649 := by kernel_rfl
  unfold MFits
  omega
theorem mfitB (v : Int) : MFits (mB v) := by
  have e : (mB v).length + szR (mB v) = 674 := by kernel_rfl
  unfold MFits
  omega
theorem lenA : lA.length = 24 := by kernel_rfl
theorem lenB (v : Int) : (lB v).length = 24 := by kernel_rfl
theorem lenH (v : Int) : (heldL v).length = 24 := by kernel_rfl
theorem lenL (v : Int) : (looseL v).length = 24 := by kernel_rfl
theorem flagV (v : Int) : loadV (mB v) z24 2 0 = 1 := by kernel_rfl
theorem rowB1 (v : Int) : rowAt (mB v) 1 = [⟨0, z24⟩, ⟨v, toldL z24 1 1 false⟩] := by kernel_rfl
theorem rightH (v : Int) : rightB (mB v) (heldL v) 1 = true := by kernel_rfl
theorem rightL (v : Int) : rightB (mB v) (looseL v) 1 = true := by kernel_rfl
theorem atH (v : Int) : (heldL v).getD (1 : Int).toNat 0 = 1 := by kernel_rfl
theorem atLo (v : Int) : (looseL v).getD (1 : Int).toNat 0 = 0 := by kernel_rfl
theorem mx_one (t : Int) : mx 1 ((([⟨0, z24⟩, ⟨0, z24⟩] : List WD).length : Int) - 1 - mx t 0) = 1 := by
  have e : ((([⟨0, z24⟩, ⟨0, z24⟩] : List WD).length : Nat) : Int) = 2 := rfl
  rw [e]
  unfold mx
  split <;> split at * <;> omega
theorem xV (v t : Int) : loadV (mB v) (heldL v) 1 t = v := by
  have e : atL (mB v) (heldL v) 1 t = 1 := by
    unfold atL
    rw [atH, rowB1]
    exact mx_one t
  unfold loadV
  rw [if_pos (rightH v), e]
  unfold wrAt
  rw [rowB1]
  rfl
theorem yV (v t : Int) (ht : 0 ≤ t) : loadV (mB v) (looseL v) 1 (1 + t) = 0 := by
  have e : atL (mB v) (looseL v) 1 (1 + t) = 0 := by
    unfold atL
    rw [atLo, rowB1]
    have e : ((([⟨0, z24⟩, ⟨v, toldL z24 1 1 false⟩] : List WD).length : Nat) : Int) = 2 := rfl
    rw [e]
    unfold mx
    split <;> split at * <;> omega
  unfold loadV
  rw [if_pos (rightL v), e]
  unfold wrAt
  rw [rowB1]
  rfl
theorem zV (v : Int) : loadV (mB v) (looseL v) 1 0 = v := by
  have e : atL (mB v) (looseL v) 1 0 = 1 := by
    unfold atL
    rw [atLo, rowB1]
    rfl
  unfold loadV
  rw [if_pos (rightL v), e]
  unfold wrAt
  rw [rowB1]
  rfl
theorem knowsHL (v : Int) : knowsB (heldL v) (looseL v) = true := by kernel_rfl
theorem knowsBH (v : Int) : knowsB (lB v) (heldL v) = true := by kernel_rfl

end Go.Proofs.Ytlhhdkemmhlloaa
