/-
  No cell of these rows narrows 'for every input' (looked for: loops, veiled, ifaces, maps, wideKeys, modest, calm, conditions, laid).
  DERIVED. THE GIVEN ROWS OF THIS SEAT. 5 by the template 'for every input the law returns true; each argument reads behind the call as it read before'; 0 by the template 'total and deterministic' (their statements: YtjffdcnninhicaiTotals.lean).
  GIVEN WITH THE SEED: the statements are not yours to turn. If you find one false, say at which input.
  Laid BY PROGRAM, IN A SANDBOX (cutbox-rows.mjs): the forced cells as the released guide's own fill.sh prints them over the translation 7d5430746a99c5e2… (all of the seat's roots in one cut). By AI agents, Wed Nov 11 2026. No macro, syntax, notation, axiom, sorry.
-/
import Derived.Test.YtjffdcnninhicaiChecked
import GoSem.Claim
import GoSem.ClaimJoined
import GoSem.ClaimMapViews
import Derived.JoinedTies
import Derived.KernelRfl
namespace Go.Proofs.Ytjffdcnninhicai
/- THE CELL 'sum', in the pinned program and in every row, IS THE sha256 OF THE DUMP (.gsa) THAT YtjffdcnninhicaiProg.lean LOADS. Nothing in Lean hashes anything: it is a label: what it is worth is what the hold of that sum in a sandbox is worth. -/
noncomputable def Try.pinned : Pinned := { name := "ytjffdcnninhicai", sum := "7d5430746a99c5e2447edd3d45ec29e706201082aa634c7a07c502df92563033", checked := Try.checked }
namespace Rows
def none {H : Type} : Left H := { results := [], args := [] }

/-- 'laws.FnExactChanOk': WHATEVER THE INPUT: true; the input reads as it did. -/
def fnExactChanOkSpec : ChangeSpec := { name := "fnExactChanOk", fn := fun _ => fun
  | [d] => { results := [.lit (.bool true)], args := [d] }
  | _ => none }
def fnExactChanOkRow : OpenClaim := { program := "ytjffdcnninhicai", sum := "7d5430746a99c5e2447edd3d45ec29e706201082aa634c7a07c502df92563033", func := "loop.example/g00238/laws.FnExactChanOk", spec := "fnExactChanOk", apart := false }
def FnExactChanOkSaid : Prop := fnExactChanOkRow.holds Try.pinned (OpenSpec.ofChange fnExactChanOkSpec)

/-- ITS FALSE NEIGHBOUR: 'it returns false'. Refute it at one input. -/
def fnExactChanOkWrong : ChangeSpec := { name := "fnExactChanOk", fn := fun _ => fun
  | [d] => { results := [.lit (.bool false)], args := [d] }
  | _ => none }
def FnExactChanOkWrongFalsely : Prop := fnExactChanOkRow.holds Try.pinned (OpenSpec.ofChange fnExactChanOkWrong)

/-- 'laws.FnExactChanSend': WHATEVER THE INPUT: true; the input reads as it did. -/
def fnExactChanSendSpec : ChangeSpec := { name := "fnExactChanSend", fn := fun _ => fun
  | [d1, d2] => { results := [.lit (.bool true)], args := [d1, d2] }
  | _ => none }
def fnExactChanSendRow : OpenClaim := { program := "ytjffdcnninhicai", sum := "7d5430746a99c5e2447edd3d45ec29e706201082aa634c7a07c502df92563033", func := "loop.example/g00238/laws.FnExactChanSend", spec := "fnExactChanSend", apart := false }
def FnExactChanSendSaid : Prop := fnExactChanSendRow.holds Try.pinned (OpenSpec.ofChange fnExactChanSendSpec)

/-- ITS FALSE NEIGHBOUR: 'it returns false'. Refute it at one input. -/
def fnExactChanSendWrong : ChangeSpec := { name := "fnExactChanSend", fn := fun _ => fun
  | [d1, d2] => { results := [.lit (.bool false)], args := [d1, d2] }
  | _ => none }
def FnExactChanSendWrongFalsely : Prop := fnExactChanSendRow.holds Try.pinned (OpenSpec.ofChange fnExactChanSendWrong)

/-- 'laws.FnExactChanTake': WHATEVER THE INPUT: true; the input reads as it did. -/
def fnExactChanTakeSpec : ChangeSpec := { name := "fnExactChanTake", fn := fun _ => fun
  | [d] => { results := [.lit (.bool true)], args := [d] }
  | _ => none }
def fnExactChanTakeRow : OpenClaim := { program := "ytjffdcnninhicai", sum := "7d5430746a99c5e2447edd3d45ec29e706201082aa634c7a07c502df92563033", func := "loop.example/g00238/laws.FnExactChanTake", spec := "fnExactChanTake", apart := false }
def FnExactChanTakeSaid : Prop := fnExactChanTakeRow.holds Try.pinned (OpenSpec.ofChange fnExactChanTakeSpec)

/-- ITS FALSE NEIGHBOUR: 'it returns false'. Refute it at one input. -/
def fnExactChanTakeWrong : ChangeSpec := { name := "fnExactChanTake", fn := fun _ => fun
  | [d] => { results := [.lit (.bool false)], args := [d] }
  | _ => none }
def FnExactChanTakeWrongFalsely : Prop := fnExactChanTakeRow.holds Try.pinned (OpenSpec.ofChange fnExactChanTakeWrong)

/-- 'laws.FnExactChanClose': WHATEVER THE INPUT: true; the input reads as it did. -/
def fnExactChanCloseSpec : ChangeSpec := { name := "fnExactChanClose", fn := fun _ => fun
  | [d] => { results := [.lit (.bool true)], args := [d] }
  | _ => none }
def fnExactChanCloseRow : OpenClaim := { program := "ytjffdcnninhicai", sum := "7d5430746a99c5e2447edd3d45ec29e706201082aa634c7a07c502df92563033", func := "loop.example/g00238/laws.FnExactChanClose", spec := "fnExactChanClose", apart := false }
def FnExactChanCloseSaid : Prop := fnExactChanCloseRow.holds Try.pinned (OpenSpec.ofChange fnExactChanCloseSpec)

/-- ITS FALSE NEIGHBOUR: 'it returns false'. Refute it at one input. -/
def fnExactChanCloseWrong : ChangeSpec := { name := "fnExactChanClose", fn := fun _ => fun
  | [d] => { results := [.lit (.bool false)], args := [d] }
  | _ => none }
def FnExactChanCloseWrongFalsely : Prop := fnExactChanCloseRow.holds Try.pinned (OpenSpec.ofChange fnExactChanCloseWrong)

/-- 'laws.FnExactSourceOk': WHATEVER THE INPUT: true; the input reads as it did. -/
def fnExactSourceOkSpec : ChangeSpec := { name := "fnExactSourceOk", fn := fun _ => fun
  | [d1, d2] => { results := [.lit (.bool true)], args := [d1, d2] }
  | _ => none }
def fnExactSourceOkRow : OpenClaim := { program := "ytjffdcnninhicai", sum := "7d5430746a99c5e2447edd3d45ec29e706201082aa634c7a07c502df92563033", func := "loop.example/g00238/laws.FnExactSourceOk", spec := "fnExactSourceOk", apart := false }
def FnExactSourceOkSaid : Prop := fnExactSourceOkRow.holds Try.pinned (OpenSpec.ofChange fnExactSourceOkSpec)

/-- ITS FALSE NEIGHBOUR: 'it returns false'. Refute it at one input. -/
def fnExactSourceOkWrong : ChangeSpec := { name := "fnExactSourceOk", fn := fun _ => fun
  | [d1, d2] => { results := [.lit (.bool false)], args := [d1, d2] }
  | _ => none }
def FnExactSourceOkWrongFalsely : Prop := fnExactSourceOkRow.holds Try.pinned (OpenSpec.ofChange fnExactSourceOkWrong)

/- THE SECOND FORM. 'bulk': how many values and letters a reading holds, each counted each time it is reached (what is shared counts as often as it is met; a slice's spare places count too). A statement '..UptoSaid' is the law's where the arguments, and the package variables that the reading takes, are together of bulk at most 1048576: NARROWER than '..Said'. Prove '..Said' where nothing that the law and all that it calls make is longer than what came in: it says more and counts as full. Else prove '..UptoSaid'. A law counts once. -/
mutual
def uptoBulk {H : Type} : DataW H → Nat
  | .lit (.string bytes) => bytes.length + 1
  | .lit _ => 1
  | .nil => 1
  | .ptr d => uptoBulk d + 1
  | .slice elems spare => uptoBulkAll elems + uptoBulkAll spare + 1
  | .agg parts => uptoBulkAll parts + 1
  | .iface _ d => uptoBulk d + 1
  | .map entries => uptoBulkEntries entries + 1
  | .held _ => 1
def uptoBulkAll {H : Type} : List (DataW H) → Nat
  | [] => 0
  | d :: r => uptoBulk d + uptoBulkAll r
def uptoBulkEntries {H : Type} : List (Lit × DataW H) → Nat
  | [] => 0
  | x :: r => uptoBulkEntry x + uptoBulkEntries r
def uptoBulkEntry {H : Type} : Lit × DataW H → Nat
  | (.string bytes, d) => bytes.length + uptoBulk d + 1
  | (_, d) => uptoBulk d + 1
 end
def uptoSmall : (H : Type) → List (DataW H) → Bool := fun _ ds => decide (uptoBulkAll ds ≤ 1048576)
def OpenSpec.upto (s : _root_.Go.ChangeSpec) : _root_.Go.OpenSpec := { _root_.Go.OpenSpec.ofChange s with cond := some uptoSmall }

/-- 'laws.FnExactChanOk', WHERE WHAT IT READS IS OF BULK AT MOST 1048576: true; the input reads as it did. -/
def fnExactChanOkUptoRow : OpenClaim := { program := "ytjffdcnninhicai", sum := "7d5430746a99c5e2447edd3d45ec29e706201082aa634c7a07c502df92563033", func := "loop.example/g00238/laws.FnExactChanOk", spec := "fnExactChanOk", apart := false, narrowed := true }
def FnExactChanOkUptoSaid : Prop := fnExactChanOkUptoRow.holds Try.pinned (OpenSpec.upto fnExactChanOkSpec)

/-- 'laws.FnExactChanSend', WHERE WHAT IT READS IS OF BULK AT MOST 1048576: true; the input reads as it did. -/
def fnExactChanSendUptoRow : OpenClaim := { program := "ytjffdcnninhicai", sum := "7d5430746a99c5e2447edd3d45ec29e706201082aa634c7a07c502df92563033", func := "loop.example/g00238/laws.FnExactChanSend", spec := "fnExactChanSend", apart := false, narrowed := true }
def FnExactChanSendUptoSaid : Prop := fnExactChanSendUptoRow.holds Try.pinned (OpenSpec.upto fnExactChanSendSpec)

/-- 'laws.FnExactChanTake', WHERE WHAT IT READS IS OF BULK AT MOST 1048576: true; the input reads as it did. -/
def fnExactChanTakeUptoRow : OpenClaim := { program := "ytjffdcnninhicai", sum := "7d5430746a99c5e2447edd3d45ec29e706201082aa634c7a07c502df92563033", func := "loop.example/g00238/laws.FnExactChanTake", spec := "fnExactChanTake", apart := false, narrowed := true }
def FnExactChanTakeUptoSaid : Prop := fnExactChanTakeUptoRow.holds Try.pinned (OpenSpec.upto fnExactChanTakeSpec)

/-- 'laws.FnExactChanClose', WHERE WHAT IT READS IS OF BULK AT MOST 1048576: true; the input reads as it did. -/
def fnExactChanCloseUptoRow : OpenClaim := { program := "ytjffdcnninhicai", sum := "7d5430746a99c5e2447edd3d45ec29e706201082aa634c7a07c502df92563033", func := "loop.example/g00238/laws.FnExactChanClose", spec := "fnExactChanClose", apart := false, narrowed := true }
def FnExactChanCloseUptoSaid : Prop := fnExactChanCloseUptoRow.holds Try.pinned (OpenSpec.upto fnExactChanCloseSpec)

/-- 'laws.FnExactSourceOk', WHERE WHAT IT READS IS OF BULK AT MOST 1048576: true; the input reads as it did. -/
def fnExactSourceOkUptoRow : OpenClaim := { program := "ytjffdcnninhicai", sum := "7d5430746a99c5e2447edd3d45ec29e706201082aa634c7a07c502df92563033", func := "loop.example/g00238/laws.FnExactSourceOk", spec := "fnExactSourceOk", apart := false, narrowed := true }
def FnExactSourceOkUptoSaid : Prop := fnExactSourceOkUptoRow.holds Try.pinned (OpenSpec.upto fnExactSourceOkSpec)

end Rows
end Go.Proofs.Ytjffdcnninhicai
