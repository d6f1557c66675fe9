/- The leaves of chapter 1: what each small function of the program answers, for every argument, in every world; which place is made of an Ins, and which Ins is made of a place. No condition. -/
import Derived.Test.YtplncjlcejaabaaJLists
import Derived.Test.YtplncjlcejaabaaChecked
import Derived.WalkKit
import Derived.KernelRfl
import Derived.WalkSpells
import Derived.WalkLawsBesides
import Derived.Test.YtplncjlcejaabaaJPlain
namespace Go.Proofs.Ytplncjlcejaabaa
set_option linter.unusedSimpArgs false
set_option linter.unusedVariables false
set_option maxRecDepth 100000
open Go.RowKit
theorem isOneOf_any (n c : Int) (w : World) : Calls Try.prog 35 #[.int .i64 n, .int .i64 c] w fun e w' => e = .returned (.bool (Plain.oneB n c)) ∧ w' = w := by
 by_cases h0 : 0 ≤ n <;> by_cases h1 : n < c
 all_goals
  go_enter Try.func35, Try.ntmps35
  go_wp2
  go_ret
  exact ⟨by simp [Plain.oneB]; omega, rfl⟩
end Go.Proofs.Ytplncjlcejaabaa
