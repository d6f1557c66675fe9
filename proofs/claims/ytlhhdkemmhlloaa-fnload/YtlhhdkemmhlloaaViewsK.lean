/- Views: Knows and Join of the program, Knows of the specification. Conditions: at most 2^20 + 1 integers a row. -/
import Derived.Test.YtlhhdkemmhlloaaViews
namespace Go.Proofs.Ytlhhdkemmhlloaa
set_option linter.unusedSimpArgs false
set_option linter.unusedVariables false
set_option maxRecDepth 100000
open Go.RowKit

set_option maxHeartbeats 1000000 in
theorem implKnowsV_any (s s' : Option Addr) (c c' lo hi lo' hi' : Nat) (l l' : List Int) (w : World) (h : IntsR w lo hi s l) (h' : IntsR w lo' hi' s' l') (hl : l.length ≤ 1048577) (hB : hi ≤ w.heap.size) (hB' : hi' ≤ w.heap.size) :
    Calls Try.prog 33 #[.slice s l.length c, .slice s' l'.length c'] w fun e w' => e = .returned (.bool (knowsB l l')) ∧ w' = w := by
  by_cases hn : l.length = l'.length
  · have hne : ((l.length : Int) != (l'.length : Int)) = false := by simp; omega
    have HN : Hid (l.length = l'.length) := hn
    have H : Hid (IntsR w lo hi s l) := h
    have H' : Hid (IntsR w lo' hi' s' l') := h'
    clear h h' hn
    go_enter Try.func33, Try.ntmps33
    go_wp2
    go_loopw [5, 6, 14] (fun _ _ i wr => ∃ k : Nat, k ≤ l'.length ∧ i = .int .i64 k ∧ (∀ j, j < k → l'.getD j 0 ≤ l.getD j 0) ∧ wr = w) (fun _ _ i _ => l'.length - (intOf i).toNat)
    case atStart => exact ⟨0, Nat.zero_le _, rfl, fun j hj => absurd hj (Nat.not_lt_zero _), rfl⟩
    case round =>
      obtain ⟨k, hk, rfl, hj, rfl⟩ := hrel
      have HJ : Hid (∀ j, j < k → l'.getD j 0 ≤ l.getD j 0) := hj
      clear hj
      by_cases hlt : k < l'.length
      · have hlt' : k < l.length := by have := HN.out; omega
        obtain ⟨g, o, e1, a1, a2, a3⟩ := H.out.pos (by omega)
        obtain ⟨g', o', e1', a1', a2', a3'⟩ := H'.out.pos (by omega)
        subst e1 e1'
        have e1 := a3 k hlt'
        have e2 := a3' k hlt
        clear a3 a3'
        generalize hx : l.getD k 0 = x at e1
        generalize hy : l'.getD k 0 = y at e2
        have HX : Hid (l.getD k 0 = x) := hx
        have HY : Hid (l'.getD k 0 = y) := hy
        clear hx hy
        have b0 : (0 : Int) ≤ (k : Int) := by omega
        have b1 : (k : Int) < (l.length : Int) := by omega
        have b2 : (k : Int) < (l'.length : Int) := by omega
        by_cases hxy : x < y
        · go_wp2
          go_ret
          refine ⟨ret_bool' ?_, rfl⟩
          symm
          refine decide_eq_false (fun h => ?_)
          have := h.2 k hlt'
          rw [HX.out, HY.out] at this
          omega
        · go_wp2
          go_roundw
          case rel =>
            refine ⟨k + 1, by omega, by go_num, fun j hj => ?_, by first | rfl | trivial⟩
            by_cases e : j < k
            · exact HJ.out j e
            · have : j = k := by omega
              subst this
              rw [HX.out, HY.out]
              omega
          case measure => simp [intOf]; omega
      · go_wp2
        go_ret
        refine ⟨ret_bool' ?_, rfl⟩
        symm
        exact decide_eq_true ⟨HN.out, fun j hj => HJ.out j (by have := HN.out; omega)⟩
  · have hne : ((l.length : Int) != (l'.length : Int)) = true := by simp; omega
    have HN : Hid (¬ l.length = l'.length) := hn
    clear hn
    go_enter Try.func33, Try.ntmps33
    go_wp2
    go_ret
    refine ⟨ret_bool' ?_, rfl⟩
    symm
    exact decide_eq_false (fun h => HN.out h.1)

theorem implKnows_any (s s' : Option Addr) (c c' lo hi lo' hi' : Nat) (l l' : List Int) (w : World) (h : IntsR w lo hi s l) (h' : IntsR w lo' hi' s' l') (hl : l.length ≤ 1048577) (hB : hi ≤ w.heap.size) (hB' : hi' ≤ w.heap.size) :
    Calls Try.prog 13 #[.slice s l.length c, .slice s' l'.length c'] w fun e w' => e = .returned (.bool (knowsB l l')) ∧ w' = w := by
  have H := implKnowsV_any s s' c c' lo hi lo' hi' l l' w h h' hl hB hB'
  clear h h'
  go_enter Try.func13, Try.ntmps13
  go_wp2_with (go_at_call 33; refine H.mono ?_; rintro e w' ⟨rfl, rfl⟩)
  go_ret
  exact ⟨rfl, rfl⟩

end Go.Proofs.Ytlhhdkemmhlloaa
