/- A turn, whoever takes it. Conditions: program and source are right. -/
import Derived.Test.YtpmopmgpheefeaaGreatJStepIm10
namespace Go.Proofs.YtpmopmgpheefeaaGreat
set_option linter.unusedSimpArgs false
set_option linter.unusedVariables false
set_option maxRecDepth 100000
open Go.RowKit
theorem turnIn_any (p1 p2 : Option Addr) (a1 a2 lo hi base S : Nat) (p : PD) (v1 v2 v3 : Value) (L1 L2 : List (Rec × Value)) (d : SD) (who : Int) (w : World) (hP : ProgR w lo hi p1 p2 p) (hB : hi ≤ base) (hO : OwnS w base v1 v2 v3 L1 L2 d) (hS : BoF S w v1 v2 v3) (hbs : BxS w S) (hb : base ≤ w.heap.size) (hR : Right p d) (hSb : base ≤ S) :
  Calls Tryz.prog 31 #[.agg #[.slice p1 p.caps.length a1, .slice p2 p.bods.length a2], .pointer (some ⟨S, 0, none⟩), .int .i64 who] w fun e w' => TurnP w S base v1 v2 v3 L1 L2 (stepK p d who) (stepS p d who) e w' := by
 by_cases hw : 0 ≤ who ∧ who < (d.ths.length : Int)
 ·obtain ⟨k, rfl⟩ : ∃ k : Nat, who = (k : Int) := ⟨who.toNat, by omega⟩
  obtain ⟨t, ht⟩ : ∃ t, d.ths[k]? = some t := ⟨_, List.getElem?_eq_getElem (by omega)⟩
  have et : thOf d k = t := by unfold thOf; rw [List.getD_eq_getElem?_getD, ht]; rfl
  by_cases hst : t.st = 0
  ·have e3 : stepK p d k = (outOf p d k).code := by unfold stepK; rw [if_pos hw, Int.toNat_natCast, et, if_pos hst]
   have e4 : stepS p d k = if (outOf p d k).code = 0 then doneS d k (outOf p d k) else d := by unfold stepS; rw [e3, Int.toNat_natCast]
   rw [e3, e4]
   by_cases hfu : (insOf p d k).o = 10 ∧ d.tr.length = 4000
   ·have e5 : (outOf p d k).code = 3 := by unfold outOf stepO; simp [hfu.1, hfu.2]
    rw [e5, if_neg (show ¬ (3 : Int) = 0 by decide)]
    exact turn_full p1 p2 a1 a2 lo hi base S p v1 v2 v3 L1 L2 d k t w hP hB hO hS hbs hb hR hSb ht hst hfu
   ·exact turn_run p1 p2 a1 a2 lo hi base S p v1 v2 v3 L1 L2 d k t w hP hB hO hS hbs hb hR hSb ht hst hfu
  ·have e3 : stepK p d k = 3 := by unfold stepK; rw [if_pos hw, Int.toNat_natCast, et, if_neg hst]
   have e4 : stepS p d k = d := by unfold stepS; rw [e3]; rfl
   rw [e3, e4]
   exact turn_over p1 p2 a1 a2 lo hi base S p v1 v2 v3 L1 L2 d k t w hP hB hO hS hbs hb hR hSb ht hst
 ·have e3 : stepK p d who = 2 := by unfold stepK; rw [if_neg hw]
  have e4 : stepS p d who = d := by unfold stepS; rw [e3]; rfl
  rw [e3, e4]
  exact turn_none p1 p2 a1 a2 lo hi base S p v1 v2 v3 L1 L2 d who w hP hB hO hS hbs hb hR hSb hw
end Go.Proofs.YtpmopmgpheefeaaGreat
