/- Lists of integers as they lie in memory, and what the laws' small functions make of them. Conditions: the lists are of at most a thousand million numbers. -/
import Derived.Test.YtknffngbdakblaaJG00
import Derived.Test.YtknffngbdakblaaChecked
import Derived.WalkKit
import Derived.KernelRfl
import Derived.WalkSpells
import Derived.WalkLawsBesides
import Derived.Deep.QuietTactic
import Derived.BigQuiet
namespace Go.Proofs.Ytknffngbdakblaa
set_option linter.unusedSimpArgs false
set_option linter.unusedVariables false
set_option maxRecDepth 100000
open Go.RowKit
set_option maxHeartbeats 400000 in
theorem sameInts_any (s s' : Option Addr) (l l' : List Int) (c c' : Nat) (w : World) (h : Ints w s l) (h' : Ints w s' l') (hb : l.length ≤ 1000000000) :
  Calls Try.prog 7 #[.slice s l.length c, .slice s' l'.length c'] w fun e w' => e = .returned (.bool (decide (l = l'))) ∧ ∃ n, w' = w.drewN n := by
 by_cases hn : l.length = l'.length
 ·have hne : ((l.length : Int) != (l'.length : Int)) = false := by simp; omega
  have HN : Hid (l.length = l'.length) := hn
  rcases h with rfl | ⟨g, o, rfl, hg, hc⟩
  ·have : l' = [] := by cases l' with | nil => rfl | cons a t => simp at hn
   subst this
   clear hn
   go_enter Try.func7, Try.ntmps7
   go_wp2
   go_loop [5] (fun i => i = .int .i64 0) (fun _ => 0)
   case atStart => rfl
   case round =>
    subst hrel
    go_wp2
    go_ret
    exact ⟨by simp, 0, rfl⟩
  ·rcases h' with rfl | ⟨g', o', rfl, hg', hc'⟩
   ·have : l = [] := by cases l with | nil => rfl | cons a t => simp at hn
    subst this
    clear hn
    go_enter Try.func7, Try.ntmps7
    go_wp2
    go_loop [5] (fun i => i = .int .i64 0) (fun _ => 0)
    case atStart => rfl
    case round =>
     subst hrel
     go_wp2
     go_ret
     exact ⟨by simp, 0, rfl⟩
   ·have HC : Hid (∀ i, i < l.length → w.cell? ⟨g, o + i, none⟩ = some (.int .i64 (l.getD i 0))) := hc
    have HC' : Hid (∀ i, i < l'.length → w.cell? ⟨g', o' + i, none⟩ = some (.int .i64 (l'.getD i 0))) := hc'
    clear hn hc hc'
    go_enter Try.func7, Try.ntmps7
    go_wp2
    go_loopw [5] (fun i wr => ∃ k m : Nat, k ≤ l.length ∧ i = .int .i64 k ∧ (∀ j, j < k → l.getD j 0 = l'.getD j 0) ∧ wr = w.drewN m) (fun i _ => l.length - (intOf i).toNat)
    case atStart => exact ⟨0, 0, Nat.zero_le _, rfl, fun j hj => absurd hj (Nat.not_lt_zero _), rfl⟩
    case round =>
     obtain ⟨k, m, hk, rfl, hj, rfl⟩ := hrel
     have HJ : Hid (∀ j, j < k → l.getD j 0 = l'.getD j 0) := hj
     clear hj
     by_cases hlt : k < l.length
     ·have hlt' : k < l'.length := by have := HN.out; omega
      have e1 := HC.out k hlt
      have e2 := HC'.out k hlt'
      generalize hx : l.getD k 0 = x at e1
      generalize hy : l'.getD k 0 = y at e2
      have HX : Hid (l.getD k 0 = x) := hx
      have HY : Hid (l'.getD k 0 = y) := hy
      clear hx hy
      have b0 : (0 : Int) ≤ (k : Int) := by omega
      have b1 : (k : Int) < (l.length : Int) := by omega
      have b2 : (k : Int) < (l'.length : Int) := by omega
      by_cases hxy : x = y
      ·have hd : (x != y) = false := by simp [hxy]
       have HXY : Hid (x = y) := hxy
       clear hxy
       go_wp2_with fail
       go_quiet (fail)
       go_wp2
       go_roundw
       case rel =>
        refine ⟨k + 1, _, by omega, by go_num, ?_, rfl⟩
        intro j hj
        by_cases e : j < k
        ·exact HJ.out j e
        ·have : j = k := by omega
         subst this
         rw [HX.out, HY.out, HXY.out]
       case measure => simp [intOf]; omega
      ·have hd : (x != y) = true := by simp [hxy]
       have HXY : Hid (¬ x = y) := hxy
       clear hxy
       go_wp2_with fail
       go_quiet (fail)
       go_wp2
       go_ret
       refine ⟨ret_bool' ?_, m + nq, World.drewN_drewN _ _ _⟩
       symm
       rw [decide_eq_false_iff_not]
       rintro rfl
       exact HXY.out (HX.out.symm.trans HY.out)
     ·go_wp2
      go_ret
      refine ⟨ret_bool' ?_, _, rfl⟩
      symm
      rw [decide_eq_true_iff]
      exact getD_eq_all l l' HN.out (fun j hj => HJ.out j (by omega))
 ·have hne : ((l.length : Int) != (l'.length : Int)) = true := by simp; omega
  have HN : Hid (¬ l.length = l'.length) := hn
  clear hn
  go_enter Try.func7, Try.ntmps7
  go_wp2
  go_ret
  refine ⟨ret_bool' ?_, 0, rfl⟩
  symm
  rw [decide_eq_false_iff_not]
  rintro rfl
  exact HN.out rfl
end Go.Proofs.Ytknffngbdakblaa
