/- How rows of integers read as arguments of a law. No condition. -/
import Derived.Test.YtfokbjkgdiploaaGreatJG00
import Derived.Test.YtfokbjkgdiploaaGreatJG01
import Derived.Test.YtfokbjkgdiploaaGreatJG02
import Derived.Test.YtfokbjkgdiploaaGreatRows
import Derived.ProofKit
import Derived.OpenShut
import Derived.ShutString
import Derived.ChangeOld
import Derived.Below
import Derived.Deep.Slices
namespace Go.Proofs.YtfokbjkgdiploaaGreat
set_option linter.unusedSimpArgs false
set_option linter.unusedVariables false
set_option maxRecDepth 100000
open Go.ChangeShapes Go.WideShapes Go.ChangeAt Go.RowKit Go.Deep
theorem open_intS {H : Type} {enc : TypeId × Value → H} {w : World} {base b0 : Nat} {held : Bool} {k : Reach} {v : Value} {d : DataW H} {q : List MemPlace}
  (hv : Value.okWide Tryz.prog w k b0 22 v) (h : DataW.Trod enc Tryz.prog w base (fun _ => true) held 22 v d q) :
  ∃ (s : Option Addr) (c : Nat) (l : List Int), v = .slice s l.length c ∧ l.length ≤ maxLen ∧ IntsR w 0 w.heap.size s l := by
 obtain ⟨fuel, hf⟩ := h
 obtain ⟨s, n, c, rfl⟩ : ∃ s n c, v = .slice s n c := okWide_slice Tryz.underlying22 hv
 exact ints_read (by simpa [Value.cells] using hf)
end Go.Proofs.YtfokbjkgdiploaaGreat
