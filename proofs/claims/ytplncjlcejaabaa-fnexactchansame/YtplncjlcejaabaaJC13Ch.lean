/- ChanSame of both sides. Conditions: rows that are counted. -/
import Derived.Test.YtplncjlcejaabaaJC13Al
import Derived.Test.YtplncjlcejaabaaJN9Chan
import Derived.Test.YtplncjlcejaabaaJN9ChanS
import Derived.Test.YtplncjlcejaabaaJN9Lock
import Derived.Test.YtplncjlcejaabaaJSrcDefs
import Derived.Test.YtplncjlcejaabaaJLeaves
import Derived.Test.YtplncjlcejaabaaJQuietC
namespace Go.Proofs.Ytplncjlcejaabaa
set_option linter.unusedSimpArgs false
set_option linter.unusedVariables false
set_option maxRecDepth 100000
open Go.RowKit
theorem hidC {p : Prop} (h : p) : Hid p := h
theorem isOneOf_is (n c : Int) (v : Bool) (w : World) (h : Plain.oneB n c = v) : Calls Try.prog 35 #[.int .i64 n, .int .i64 c] w fun e w' => e = .returned (.bool v) ∧ w' = w := by
 subst h
 exact isOneOf_any n c w
theorem chan_len (m : List (List WD)) (caps : List Int) (n : Int) : (chanM m caps n).ls.length ≤ 4 := by
 unfold chanM
 split
 ·rename_i hh
  simp only [listV_len]
  simp only [Bool.and_eq_true, fitB, decide_eq_true_eq] at hh
  have h2 := hh.2.1.2.2
  rcases baseV_cases caps n with e | ⟨b, r, k, hn, -, -, hr, -, h4, -⟩
  ·have := hh.1.1; omega
  ·subst hn
   rw [Int.toNat_natCast, hr] at h2
   omega
 ·simp [zeroCH]
theorem chan_none {m : List (List WD)} {caps : List Int} {n : Int} (h : baseV caps n < 0) : (chanM m caps n).ok = false ∧ lockB m caps n = false := by
 have e : decide (0 ≤ baseV caps n) = false := by rw [decide_eq_false_iff_not]; omega
 unfold chanM lockB
 rw [e]
 exact ⟨rfl, rfl⟩
def sameV (a b : Int) (x y : Bool) (l l' : List Int) : Bool := decide (a = b) && (decide (x = y) && decide (l = l'))
def chsV (m : List (List WD)) (caps : List Int) (chs : List CD) (n : Int) : Bool :=
 if 0 ≤ n ∧ n < (chs.length : Int) then
  (match chs[n.toNat]? with
   | some t => lockB m caps n || ((chanM m caps n).ok && sameV (chanM m caps n).cap t.cap (chanM m caps n).cl t.cl (chanM m caps n).ls t.list)
   | none => false)
 else false
set_option maxHeartbeats 1000000 in
theorem chans_any (s s' : Option Addr) (c c' lo hi lo' hi' : Nat) (a b : Int) (x y : Bool) (l l' : List Int) (w : World) (h : IntsR w lo hi s l) (h' : IntsR w lo' hi' s' l') (hB : hi ≤ w.heap.size) (hB' : hi' ≤ w.heap.size) (hb : l.length ≤ 1000000000) :
  Calls Try.prog 38 #[.agg #[.int .i64 a, .slice s l.length c, .bool x], .agg #[.int .i64 b, .slice s' l'.length c', .bool y]] w fun e w' => e = .returned (.bool (sameV a b x y l l')) ∧ Below w.heap.size w w' := by
 unfold sameV
 by_cases hab : a = b
 ·subst hab
  by_cases hxy : x = y
  ·subst hxy
   obtain ⟨W, hW⟩ : ∃ W, (w.alloc (.cells #[.int .i64 a, .slice s l.length c, .bool x] 74)).alloc (.cells #[.int .i64 a, .slice s' l'.length c', .bool x] 74) = W := ⟨_, rfl⟩
   have kW : Below w.heap.size w W := by subst hW; exact ((Below.refl _ _).alloc (Nat.le_refl _) _).alloc (by simp) _
   have sW := kW.size
   have AL := hidC (alike_any s s' l l' c c' lo hi lo' hi' W (h.keep (Keep.of_below kW hB)) (h'.keep (Keep.of_below kW hB')) (by omega) (by omega) hb)
   have HW := hidC hW
   have KW := hidC kW
   clear hW kW h h'
   have e1 : (a == a) = true := by simp
   have e2 : (x == x) = true := by simp
   go_enter Try.func38, Try.ntmps38
   go_wp2_with fail
   rw [HW.out]
   refine Calls.mono AL.out ?_
   rintro e w1 ⟨rfl, hb1⟩
   have HB1 := hidC hb1
   clear hb1
   go_wp2
   go_ret
   exact ⟨by simp, KW.out.trans (HB1.out.mono sW)⟩
  ·have e1 : (a == a) = true := by simp
   have e2 : (x == y) = false := by simp [hxy]
   clear h h'
   go_enter Try.func38, Try.ntmps38
   go_wp2
   go_ret
   exact ⟨by simp [hxy], ((Below.refl _ _).alloc (Nat.le_refl _) _).alloc (by simp) _⟩
 ·have e1 : (a == b) = false := by simp [hab]
  clear h h'
  go_enter Try.func38, Try.ntmps38
  go_wp2
  go_ret
  exact ⟨by simp [hab], ((Below.refl _ _).alloc (Nat.le_refl _) _).alloc (by simp) _⟩
end Go.Proofs.Ytplncjlcejaabaa
