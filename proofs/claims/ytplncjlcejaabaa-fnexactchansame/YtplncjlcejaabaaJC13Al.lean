/- Rows of integers held against each other, by both sides. Conditions: rows of at most a thousand million numbers. -/
import Derived.Test.YtplncjlcejaabaaJLists
import Derived.Test.YtplncjlcejaabaaJIntRows
import Derived.Test.YtplncjlcejaabaaJIntOwn
import Derived.Test.YtplncjlcejaabaaJBelDraw
import Derived.Deep.QuietTactic
namespace Go.Proofs.Ytplncjlcejaabaa
set_option linter.unusedSimpArgs false
set_option linter.unusedVariables false
set_option maxRecDepth 100000
open Go.RowKit
theorem getD_all {l l' : List Int} (hn : l.length = l'.length) (h : ∀ j, j < l.length → l.getD j 0 = l'.getD j 0) : l = l' := by
 refine List.ext_getElem hn fun i h1 h2 => ?_
 have q := h i h1
 simpa [List.getD_eq_getElem?_getD, List.getElem?_eq_getElem h1, List.getElem?_eq_getElem h2] using q
theorem IntsR.at {w wr : World} {lo hi : Nat} {s : Option Addr} {l : List Int} (h : IntsR w lo hi s l) (hB : hi ≤ w.heap.size) (hb : Below w.heap.size w wr) {k : Nat} (hk : k < l.length) : ∃ g o, s = some ⟨g, o, none⟩ ∧ wr.cell? ⟨g, o + k, none⟩ = some (.int .i64 (l.getD k 0)) := by
 rcases h with rfl | ⟨g, o, hs, -, h2, hc⟩
 ·simp at hk
 ·exact ⟨g, o, hs, (hb.cell (p := ⟨g, o + k, none⟩) (by show g < _; omega)).trans (hc k hk)⟩
theorem retB {a b : Bool} (h : a = b) : Ending.returned (Value.bool a) = .returned (.bool b) := by rw [h]
set_option maxHeartbeats 2000000 in
theorem heads_any (s s' : Option Addr) (l l' : List Int) (c c' lo hi lo' hi' : Nat) (w : World) (h : IntsR w lo hi s l) (h' : IntsR w lo' hi' s' l') (hB : hi ≤ w.heap.size) (hB' : hi' ≤ w.heap.size) (hn : l.length = l'.length) (hb : l.length ≤ 1000000000) :
  Calls Try.prog 90 #[.slice s l.length c, .slice s' l'.length c', .int .i64 l.length] w fun e w' => e = .returned (.bool (decide (l = l'))) ∧ Below w.heap.size w w' := by
 have HN : Hid (l.length = l'.length) := hn
 have H : Hid (IntsR w lo hi s l) := h
 have H' : Hid (IntsR w lo' hi' s' l') := h'
 have n1 : ¬ (l.length : Int) < (l.length : Int) := by omega
 have n2 : ¬ (l'.length : Int) < (l.length : Int) := by omega
 clear h h' hn
 go_enter Try.func90, Try.ntmps90
 go_wp2_with fail
 clear n1 n2
 go_loopw [19] (fun i wr => ∃ k : Nat, k ≤ l.length ∧ i = .int .i64 k ∧ Hid (∀ j, j < k → l.getD j 0 = l'.getD j 0) ∧ Hid (Below w.heap.size w wr)) (fun i _ => l.length - (intOf i).toNat)
 case atStart => exact ⟨0, Nat.zero_le _, rfl, fun j hj => absurd hj (Nat.not_lt_zero _), Below.refl _ _⟩
 case round =>
  obtain ⟨k, hk, rfl, HJ, HB⟩ := hrel
  by_cases hlt : k < l.length
  ·have hlt' : k < l'.length := by have := HN.out; omega
   obtain ⟨g, o, hs, e1⟩ := H.out.at hB HB.out hlt
   obtain ⟨g', o', hs', e2⟩ := H'.out.at hB' HB.out hlt'
   subst hs hs'
   generalize hx : l.getD k 0 = x at e1
   generalize hy : l'.getD k 0 = y at e2
   have HX : Hid (l.getD k 0 = x) := hx
   have HY : Hid (l'.getD k 0 = y) := hy
   clear hx hy
   have b0 : (0 : Int) ≤ (k : Int) := by omega
   have b1 : (k : Int) < (l.length : Int) := by omega
   have b2 : (k : Int) < (l'.length : Int) := by omega
   by_cases hxy : x = y
   ·have hd : (x != y) = false := by simp [hxy]
    have HXY : Hid (x = y) := hxy
    clear hxy
    go_wp2_with fail
    go_quiet (fail)
    go_wp2
    go_roundw
    case rel =>
     refine ⟨k + 1, by omega, by go_num, fun j hj => ?_, below_draw HB.out _⟩
     by_cases e : j < k
     ·exact HJ.out j e
     ·have : j = k := by omega
      subst this
      rw [HX.out, HY.out, HXY.out]
    case measure => simp [intOf]; omega
   ·have hd : (x != y) = true := by simp [hxy]
    have HXY : Hid (¬ x = y) := hxy
    clear hxy
    go_wp2_with fail
    go_quiet (fail)
    go_wp2
    go_ret
    refine ⟨retB ?_, below_draw HB.out _⟩
    symm
    rw [decide_eq_false_iff_not]
    rintro rfl
    exact HXY.out (HX.out.symm.trans HY.out)
  ·go_wp2
   go_ret
   refine ⟨retB ?_, HB.out⟩
   symm
   rw [decide_eq_true_iff]
   exact getD_all HN.out (fun j hj => HJ.out j (by omega))
set_option maxHeartbeats 2000000 in
theorem ints13_any (s s' : Option Addr) (l l' : List Int) (c c' lo hi lo' hi' : Nat) (w : World) (h : IntsR w lo hi s l) (h' : IntsR w lo' hi' s' l') (hB : hi ≤ w.heap.size) (hB' : hi' ≤ w.heap.size) (hb : l.length ≤ 1000000000) (hb' : l'.length ≤ 1000000000) :
  Calls Try.prog 26 #[.slice s l.length c, .slice s' l'.length c'] w fun e w' => e = .returned (.bool (decide (l = l'))) ∧ Below w.heap.size w w' := by
 have H : Hid (IntsR w lo hi s l) := h
 have H' : Hid (IntsR w lo' hi' s' l') := h'
 clear h h'
 go_enter Try.func26, Try.ntmps26
 go_wp2_with fail
 go_loopw [5] (fun i wr => ∃ k : Nat, k ≤ l.length ∧ k ≤ l'.length ∧ i = .int .i64 k ∧ Hid (∀ j, j < k → l.getD j 0 = l'.getD j 0) ∧ Hid (Below w.heap.size w wr)) (fun i _ => l.length - (intOf i).toNat)
 case atStart => exact ⟨0, Nat.zero_le _, Nat.zero_le _, rfl, fun j hj => absurd hj (Nat.not_lt_zero _), Below.refl _ _⟩
 case round =>
  obtain ⟨k, hk, hk', rfl, HJ, HB⟩ := hrel
  by_cases hlt : k < l.length ∧ k < l'.length
  ·obtain ⟨hlt, hlt'⟩ := hlt
   obtain ⟨g, o, hs, e1⟩ := H.out.at hB HB.out hlt
   obtain ⟨g', o', hs', e2⟩ := H'.out.at hB' HB.out hlt'
   subst hs hs'
   generalize hx : l.getD k 0 = x at e1
   generalize hy : l'.getD k 0 = y at e2
   have HX : Hid (l.getD k 0 = x) := hx
   have HY : Hid (l'.getD k 0 = y) := hy
   clear hx hy
   have b0 : (0 : Int) ≤ (k : Int) := by omega
   have b1 : (k : Int) < (l.length : Int) := by omega
   have b2 : (k : Int) < (l'.length : Int) := by omega
   by_cases hxy : x = y
   ·have hd : (x != y) = false := by simp [hxy]
    have HXY : Hid (x = y) := hxy
    clear hxy
    go_wp2_with fail
    go_quiet (fail)
    go_wp2
    go_roundw
    case rel =>
     refine ⟨k + 1, by omega, by omega, by go_num, fun j hj => ?_, below_draw HB.out _⟩
     by_cases e : j < k
     ·exact HJ.out j e
     ·have : j = k := by omega
      subst this
      rw [HX.out, HY.out, HXY.out]
    case measure => simp [intOf]; omega
   ·have hd : (x != y) = true := by simp [hxy]
    have HXY : Hid (¬ x = y) := hxy
    clear hxy
    go_wp2_with fail
    go_quiet (fail)
    go_wp2
    go_ret
    refine ⟨retB ?_, below_draw HB.out _⟩
    symm
    rw [decide_eq_false_iff_not]
    rintro rfl
    exact HXY.out (HX.out.symm.trans HY.out)
  ·by_cases hl : l.length = l'.length
   ·have hn : ¬ (k : Int) < (l.length : Int) := by omega
    have hee : ((l.length : Int) == (l'.length : Int)) = true := by simp; omega
    have HL : Hid (l.length = l'.length) := hl
    have HK : Hid (¬ (k < l.length ∧ k < l'.length)) := hlt
    clear hl hlt
    go_wp2
    go_ret
    refine ⟨retB ?_, HB.out⟩
    symm
    rw [decide_eq_true_iff]
    exact getD_all HL.out (fun j hj => HJ.out j (by have := HK.out; have := HL.out; omega))
   ·have hee : ((l.length : Int) == (l'.length : Int)) = false := by simp; omega
    have HL : Hid (¬ l.length = l'.length) := hl
    have fin : decide (l = l') = false := by
     rw [decide_eq_false_iff_not]
     rintro rfl
     exact HL.out rfl
    by_cases h1 : k < l.length
    ·have a1 : (k : Int) < (l.length : Int) := by omega
     have a2 : ¬ (k : Int) < (l'.length : Int) := by omega
     clear hl hlt
     go_wp2
     go_ret
     exact ⟨by first | exact retB fin.symm | rfl, HB.out⟩
    ·have a1 : ¬ (k : Int) < (l.length : Int) := by omega
     clear hl hlt
     go_wp2
     go_ret
     exact ⟨by first | exact retB fin.symm | rfl, HB.out⟩
theorem alike_any (s s' : Option Addr) (l l' : List Int) (c c' lo hi lo' hi' : Nat) (w : World) (h : IntsR w lo hi s l) (h' : IntsR w lo' hi' s' l') (hB : hi ≤ w.heap.size) (hB' : hi' ≤ w.heap.size) (hb : l.length ≤ 1000000000) :
  Calls Try.prog 73 #[.slice s l.length c, .slice s' l'.length c'] w fun e w' => e = .returned (.bool (decide (l = l'))) ∧ Below w.heap.size w w' := by
 by_cases hn : l.length = l'.length
 ·have he : ((l.length : Int) == (l'.length : Int)) = true := by simp; omega
  have HA : Hid _ := heads_any s s' l l' c c' lo hi lo' hi' w h h' hB hB' hn hb
  clear hn
  go_enter Try.func73, Try.ntmps73
  go_wp2_with fail
  refine Calls.mono HA.out ?_
  rintro e w1 ⟨rfl, hb1⟩
  have HB1 : Hid (Below w.heap.size w w1) := hb1
  clear hb1
  go_wp2
  go_ret
  exact ⟨rfl, HB1.out⟩
 ·have he : ((l.length : Int) == (l'.length : Int)) = false := by simp; omega
  have HN : Hid (¬ l.length = l'.length) := hn
  clear hn
  go_enter Try.func73, Try.ntmps73
  go_wp2
  go_ret
  refine ⟨retB ?_, Below.refl _ _⟩
  symm
  rw [decide_eq_false_iff_not]
  rintro rfl
  exact HN.out rfl
end Go.Proofs.Ytplncjlcejaabaa
