/- The last number of a cell, and the places of a channel's cells. Conditions: the memory is right. -/
import Derived.Test.YtplncjlcejaabaaJLists
import Derived.Test.YtplncjlcejaabaaJMemOk
import Derived.Test.YtplncjlcejaabaaJA2
import Derived.Test.YtplncjlcejaabaaJN9Base
import Derived.Test.YtplncjlcejaabaaJQuietC
namespace Go.Proofs.Ytplncjlcejaabaa
set_option linter.unusedSimpArgs false
set_option linter.unusedVariables false
set_option maxRecDepth 100000
open Go.RowKit
def lastV (m : List (List WD)) (k : Nat) : Int := ((m.getD k []).getLast?.map WD.v).getD 0
theorem memB_row {m : List (List WD)} (h : memB m = true) {k : Nat} (hk : k < 24) : ∃ r x, m[k]? = some r ∧ 0 < r.length ∧ r.length ≤ 4000 ∧ r[r.length - 1]? = some x ∧ lastV m k = x.v := by
 unfold memB at h
 rw [Bool.and_eq_true, decide_eq_true_eq, List.all_eq_true] at h
 obtain ⟨r, hr⟩ : ∃ r, m[k]? = some r := ⟨_, List.getElem?_eq_getElem (by omega)⟩
 have q := h.2 r (List.mem_of_getElem? hr)
 unfold rowB at q
 rw [Bool.and_eq_true, decide_eq_true_eq] at q
 obtain ⟨x, hx⟩ : ∃ x, r[r.length - 1]? = some x := ⟨_, List.getElem?_eq_getElem (by omega)⟩
 refine ⟨r, x, hr, by omega, q.1.2, hx, ?_⟩
 unfold lastV
 rw [List.getD_eq_getElem?_getD, hr, Option.getD_some, List.getLast?_eq_getElem?, hx]
 rfl
theorem memB_len {m : List (List WD)} (h : memB m = true) : m.length = 24 := by
 unfold memB at h
 rw [Bool.and_eq_true, decide_eq_true_eq] at h
 exact h.1
theorem lastOf_is (s : Option Addr) (c lo hi : Nat) (m : List (List WD)) (k : Nat) (z : Int) (w : World) (h : MemR w lo hi s m) (hB : hi ≤ w.heap.size) (hm : memB m = true) (hk : k < 24) (hz : z = (k : Int)) :
  Calls Try.prog 69 #[.agg #[.slice s m.length c], .int .i64 z] w fun e w' => e = .returned (.int .i64 (lastV m k)) ∧ w' = w.alloc (.cells #[.slice s m.length c] 50) := by
 subst hz
 obtain ⟨r, x, hr, h0, h4, hx, hv⟩ := memB_row hm hk
 obtain ⟨g, o, s1, c1, e2, q1, q2, q3, q4⟩ := h.row hr
 obtain ⟨g', o', s2, c2, e3, t1, t2, t3, -⟩ := q4.at hx
 have hl := memB_len hm
 subst e2 e3
 rw [hv]
 generalize x.v = v at t3
 have n0 : ((r.length - 1 : Nat) : Int) = (r.length : Int) - 1 := by omega
 have n1 : ((r.length : Int) - 1).toNat = r.length - 1 := by omega
 have g1 : g < w.heap.size := by omega
 have g2 : g' < w.heap.size := by omega
 rw [hl]
 clear hr h hx hv hm hl
 generalize r.length = rn at h0 h4 q3 n0 n1 t3
 go_enter Try.func69, Try.ntmps69
 go_wp2
 go_ret
 exact ⟨rfl, rfl⟩
theorem l9Last_is (s : Option Addr) (c lo hi : Nat) (m : List (List WD)) (k : Nat) (z : Int) (w : World) (h : MemR w lo hi s m) (hB : hi ≤ w.heap.size) (hm : memB m = true) (hk : k < 24) (hz : z = (k : Int)) :
  Calls Try.prog 57 #[.agg #[.slice s m.length c], .int .i64 z] w fun e w' => e = .returned (.int .i64 (lastV m k)) ∧ w' = w.alloc (.cells #[.slice s m.length c] 50) := by
 subst hz
 obtain ⟨r, x, hr, h0, h4, hx, hv⟩ := memB_row hm hk
 obtain ⟨g, o, s1, c1, e2, q1, q2, q3, q4⟩ := h.row hr
 obtain ⟨g', o', s2, c2, e3, t1, t2, t3, -⟩ := q4.at hx
 have hl := memB_len hm
 subst e2 e3
 rw [hv]
 generalize x.v = v at t3
 have n0 : ((r.length - 1 : Nat) : Int) = (r.length : Int) - 1 := by omega
 have n1 : ((r.length : Int) - 1).toNat = r.length - 1 := by omega
 have g1 : g < w.heap.size := by omega
 have g2 : g' < w.heap.size := by omega
 rw [hl]
 clear hr h hx hv hm hl
 generalize r.length = rn at h0 h4 q3 n0 n1 t3
 go_enter Try.func57, Try.ntmps57
 go_wp2
 go_ret
 exact ⟨rfl, rfl⟩
theorem cell_is (b : Nat) (base part : Int) (w : World) (h : w.cell? ⟨b, 0, none⟩ = some (.int .i64 base)) (h0 : 0 ≤ base) (h1 : base ≤ 24) (p0 : 0 ≤ part) (p1 : part ≤ 8) :
  Calls Try.prog 89 #[.int .i64 part, .pointer (some ⟨b, 0, none⟩)] w fun e w' => e = .returned (.int .i64 (base + part)) ∧ w' = w := by
 go_enter Try.func89, Try.ntmps89
 go_wp2
 go_ret
 exact ⟨rfl, rfl⟩
theorem cellsFrom_is (base : Int) (w : World) :
  Calls Try.prog 67 #[.int .i64 base] w fun e w' => e = .returned (.func (.func 89) #[] #[.pointer (some ⟨w.heap.size, 0, none⟩)]) ∧ w' = w.alloc (.cells #[.int .i64 base] 3) := by
 go_enter Try.func67, Try.ntmps67
 go_wp2
 go_ret
 exact ⟨rfl, rfl⟩
theorem isFlag_is (v : Int) (w : World) : Calls Try.prog 71 #[.int .i64 v] w fun e w' => e = .returned (.bool (decide (0 ≤ v ∧ v ≤ 1))) ∧ w' = w := by
 by_cases h0 : v = 0
 ·subst h0
  go_enter Try.func71, Try.ntmps71
  go_wp2
  go_ret
  exact ⟨rfl, rfl⟩
 ·have e0 : (v == 0) = false := by simpa using h0
  by_cases h1 : v = 1
  ·subst h1
   go_enter Try.func71, Try.ntmps71
   go_wp2
   go_ret
   exact ⟨rfl, rfl⟩
  ·have e1 : (v == 1) = false := by simpa using h1
   rw [decide_eq_false (by omega)]
   go_enter Try.func71, Try.ntmps71
   go_wp2
   go_ret
   exact ⟨by simp [Array.getD, e1], rfl⟩
end Go.Proofs.Ytplncjlcejaabaa
