/- Views: Knows and Join of the program, Knows of the specification. Conditions: at most 2^20 + 1 integers a row. -/
import Derived.Test.YtniidllclehlaaaViews
namespace Go.Proofs.Ytniidllclehlaaa
set_option linter.unusedSimpArgs false
set_option linter.unusedVariables false
set_option maxRecDepth 100000
open Go.RowKit

set_option maxHeartbeats 1000000 in
theorem implKnowsV_any (s s' : Option Addr) (c c' lo hi lo' hi' : Nat) (l l' : List Int) (w : World) (h : IntsR w lo hi s l) (h' : IntsR w lo' hi' s' l') (hl : l.length ≤ 1048577) (hB : hi ≤ w.heap.size) (hB' : hi' ≤ w.heap.size) :
    Calls Try.prog 16 #[.slice s l.length c, .slice s' l'.length c'] w fun e w' => e = .returned (.bool (knowsB l l')) ∧ w' = w := by
  by_cases hn : l.length = l'.length
  · have hne : ((l.length : Int) != (l'.length : Int)) = false := by simp; omega
    have HN : Hid (l.length = l'.length) := hn
    have H : Hid (IntsR w lo hi s l) := h
    have H' : Hid (IntsR w lo' hi' s' l') := h'
    clear h h' hn
    go_enter Try.func16, Try.ntmps16
    go_wp2
    go_loopw [5, 6, 14] (fun _ _ i wr => ∃ k : Nat, k ≤ l'.length ∧ i = .int .i64 k ∧ (∀ j, j < k → l'.getD j 0 ≤ l.getD j 0) ∧ wr = w) (fun _ _ i _ => l'.length - (intOf i).toNat)
    case atStart => exact ⟨0, Nat.zero_le _, rfl, fun j hj => absurd hj (Nat.not_lt_zero _), rfl⟩
    case round =>
      obtain ⟨k, hk, rfl, hj, rfl⟩ := hrel
      have HJ : Hid (∀ j, j < k → l'.getD j 0 ≤ l.getD j 0) := hj
      clear hj
      by_cases hlt : k < l'.length
      · have hlt' : k < l.length := by have := HN.out; omega
        obtain ⟨g, o, e1, a1, a2, a3⟩ := H.out.pos (by omega)
        obtain ⟨g', o', e1', a1', a2', a3'⟩ := H'.out.pos (by omega)
        subst e1 e1'
        have e1 := a3 k hlt'
        have e2 := a3' k hlt
        clear a3 a3'
        generalize hx : l.getD k 0 = x at e1
        generalize hy : l'.getD k 0 = y at e2
        have HX : Hid (l.getD k 0 = x) := hx
        have HY : Hid (l'.getD k 0 = y) := hy
        clear hx hy
        have b0 : (0 : Int) ≤ (k : Int) := by omega
        have b1 : (k : Int) < (l.length : Int) := by omega
        have b2 : (k : Int) < (l'.length : Int) := by omega
        by_cases hxy : x < y
        · go_wp2
          go_ret
          refine ⟨ret_bool' ?_, rfl⟩
          symm
          refine decide_eq_false (fun h => ?_)
          have := h.2 k hlt'
          rw [HX.out, HY.out] at this
          omega
        · go_wp2
          go_roundw
          case rel =>
            refine ⟨k + 1, by omega, by go_num, fun j hj => ?_, by first | rfl | trivial⟩
            by_cases e : j < k
            · exact HJ.out j e
            · have : j = k := by omega
              subst this
              rw [HX.out, HY.out]
              omega
          case measure => simp [intOf]; omega
      · go_wp2
        go_ret
        refine ⟨ret_bool' ?_, rfl⟩
        symm
        exact decide_eq_true ⟨HN.out, fun j hj => HJ.out j (by have := HN.out; omega)⟩
  · have hne : ((l.length : Int) != (l'.length : Int)) = true := by simp; omega
    have HN : Hid (¬ l.length = l'.length) := hn
    clear hn
    go_enter Try.func16, Try.ntmps16
    go_wp2
    go_ret
    refine ⟨ret_bool' ?_, rfl⟩
    symm
    exact decide_eq_false (fun h => HN.out h.1)

theorem implKnows_any (s s' : Option Addr) (c c' lo hi lo' hi' : Nat) (l l' : List Int) (w : World) (h : IntsR w lo hi s l) (h' : IntsR w lo' hi' s' l') (hl : l.length ≤ 1048577) (hB : hi ≤ w.heap.size) (hB' : hi' ≤ w.heap.size) :
    Calls Try.prog 9 #[.slice s l.length c, .slice s' l'.length c'] w fun e w' => e = .returned (.bool (knowsB l l')) ∧ w' = w := by
  have H := implKnowsV_any s s' c c' lo hi lo' hi' l l' w h h' hl hB hB'
  clear h h'
  go_enter Try.func9, Try.ntmps9
  go_wp2_with (go_at_call 16; refine H.mono ?_; rintro e w' ⟨rfl, rfl⟩)
  go_ret
  exact ⟨rfl, rfl⟩

set_option maxHeartbeats 2000000 in
theorem specKnows_any (s s' : Option Addr) (c c' lo hi lo' hi' : Nat) (l l' : List Int) (w : World) (h : IntsR w lo hi s l) (h' : IntsR w lo' hi' s' l') (hl : l.length ≤ 1048577) (hl' : l'.length ≤ 1048577) (hB : hi ≤ w.heap.size) (hB' : hi' ≤ w.heap.size) :
    Calls Try.prog 10 #[.slice s l.length c, .slice s' l'.length c'] w fun e w' => e = .returned (.bool (knowsB l l')) ∧ ∃ n, w' = w.drewN n := by
  have H : Hid (IntsR w lo hi s l) := h
  have H' : Hid (IntsR w lo' hi' s' l') := h'
  clear h h'
  go_enter Try.func10, Try.ntmps10
  go_wp2
  go_loopw [5] (fun i wr => ∃ k m : Nat, k ≤ l.length ∧ k ≤ l'.length ∧ i = .int .i64 k ∧ (∀ j, j < k → l'.getD j 0 ≤ l.getD j 0) ∧ wr = w.drewN m) (fun i _ => l'.length - (intOf i).toNat)
  case atStart => exact ⟨0, 0, Nat.zero_le _, Nat.zero_le _, rfl, fun j hj => absurd hj (Nat.not_lt_zero _), rfl⟩
  case round =>
    obtain ⟨k, m, hk, hk', rfl, hj, rfl⟩ := hrel
    have HJ : Hid (∀ j, j < k → l'.getD j 0 ≤ l.getD j 0) := hj
    clear hj
    by_cases hlt : k < l.length
    · by_cases hlt' : k < l'.length
      · obtain ⟨g, o, e1, a1, a2, a3⟩ := H.out.pos (by omega)
        obtain ⟨g', o', e1', a1', a2', a3'⟩ := H'.out.pos (by omega)
        subst e1 e1'
        have e1 := a3 k hlt
        have e2 := a3' k hlt'
        clear a3 a3'
        generalize hx : l.getD k 0 = x at e1
        generalize hy : l'.getD k 0 = y at e2
        have HX : Hid (l.getD k 0 = x) := hx
        have HY : Hid (l'.getD k 0 = y) := hy
        clear hx hy
        have b0 : (0 : Int) ≤ (k : Int) := by omega
        have b1 : (k : Int) < (l.length : Int) := by omega
        have b2 : (k : Int) < (l'.length : Int) := by omega
        by_cases hxy : x < y
        · go_wp2_with fail
          go_quiet (fail)
          go_wp2
          go_ret
          refine ⟨ret_bool' ?_, m + nq, World.drewN_drewN _ _ _⟩
          symm
          refine decide_eq_false (fun h => ?_)
          have := h.2 k hlt
          rw [HX.out, HY.out] at this
          omega
        · go_wp2_with fail
          go_quiet (fail)
          go_wp2
          go_roundw
          case rel =>
            refine ⟨k + 1, _, by omega, by omega, by go_num, fun j hj => ?_, rfl⟩
            by_cases e : j < k
            · exact HJ.out j e
            · have : j = k := by omega
              subst this
              rw [HX.out, HY.out]
              omega
          case measure => simp [intOf]; omega
      · have hn : ((l.length : Int) == (l'.length : Int)) = false := by simp; omega
        have HN : Hid (¬ l.length = l'.length) := show ¬ l.length = l'.length by omega
        go_wp2
        go_ret
        refine ⟨ret_bool' ?_, m, rfl⟩
        symm
        exact decide_eq_false (fun h => HN.out h.1)
    · by_cases hq : l.length = l'.length
      · have hn : ((l.length : Int) == (l'.length : Int)) = true := by simp; omega
        have HN : Hid (l.length = l'.length) := hq
        have HK : Hid (k = l.length) := show k = l.length by omega
        clear hq
        go_wp2
        go_ret
        refine ⟨ret_bool' ?_, m, rfl⟩
        symm
        exact decide_eq_true ⟨HN.out, fun j hj => HJ.out j (by have := HK.out; omega)⟩
      · have hn : ((l.length : Int) == (l'.length : Int)) = false := by simp; omega
        have HN : Hid (¬ l.length = l'.length) := hq
        clear hq
        go_wp2
        go_ret
        refine ⟨ret_bool' ?_, m, rfl⟩
        symm
        exact decide_eq_false (fun h => HN.out h.1)

set_option maxHeartbeats 2000000 in
theorem implJoin_any (s s' : Option Addr) (c c' lo hi lo' hi' : Nat) (l l' : List Int) (w : World) (h : IntsR w lo hi s l) (h' : IntsR w lo' hi' s' l') (hl : l.length ≤ 1048577) (hl' : l'.length ≤ 1048577) (hB : hi ≤ w.heap.size) (hB' : hi' ≤ w.heap.size) (hc : l.length ≤ c) :
    Calls Try.prog 6 #[.slice s l.length c, .slice s' l'.length c'] w fun e w' => ∃ v, e = .returned v ∧ OwnN w' w.heap.size v (joinL l l') ∧ Below w.heap.size w w' := by
  have H : Hid (IntsR w lo hi s l) := h
  have H' : Hid (IntsR w lo' hi' s' l') := h'
  clear h h'
  by_cases hm : l'.length < l.length
  · have cu := cut_any s l.length c l'.length w (by omega)
    have tl : (l.take l'.length).length = l'.length := by simp; omega
    have cp := fun c2 => copied_any s c2 lo hi (l.take l'.length) w (H.out.take _) hB (by simp; omega)
    have le := fun (W : World) (h2 : OwnN W w.heap.size (.slice (some ⟨w.heap.size, 0, none⟩) (l.take l'.length).length (l.take l'.length).length) (l.take l'.length)) (hb2 : Below w.heap.size w W) => learn_any w.heap.size w.heap.size (l.take l'.length).length (l.take l'.length) s' c' lo' hi' l' W h2 (H'.out.keep (Keep.of_below hb2 hB')) hB' (by simp; omega) hl'
    rw [tl] at cp le
    have HT : Hid (learnL (l.take l'.length) l' = joinL l l') := by
      have := join_cut l l' (by omega)
      show _ = _
      rw [← this]
      exact learn_join _ _ (by rw [tl]; exact Nat.le_refl _)
    have TL : Hid ((joinL l l').length = l'.length) := by show (joinL l l').length = l'.length; rw [join_len]; omega
    clear tl
    go_enter Try.func6, Try.ntmps6
    go_wp2_with (first | (go_at_call 12; refine cu.mono ?_; rintro e w9 ⟨rfl, hw9⟩; subst w9) | (go_at_call 13; refine (cp _).mono ?_; rintro e w2 ⟨rfl, ho2, hb2⟩; have HO2 := (show Hid _ from ho2); have HB2 := (show Hid _ from hb2); clear ho2 hb2) | (go_at_call 14; refine (le _ HO2.out HB2.out).mono ?_; rintro e w3 ⟨rfl, ho3, hx3, hz3⟩; have HO3 := (show Hid _ from ho3); have HX3 := (show Hid _ from hx3); clear ho3 hx3 hz3))
    go_ret
    refine ⟨_, rfl, ?_, HB2.out.trans (HX3.out.below (Nat.le_refl _) HB2.out.size)⟩
    have := HO3.out
    rw [HT.out] at this
    exact this
  · have cu := cut_any s l.length c l.length w (by omega)
    have cp := fun c2 => copied_any s c2 lo hi l w H.out hB hl
    have HT : Hid (learnL l l' = joinL l l') := learn_join l l' (by omega)
    have TL : Hid ((joinL l l').length = l.length) := by show (joinL l l').length = l.length; rw [join_len]; omega
    have le := fun (W : World) (h2 : OwnN W w.heap.size (.slice (some ⟨w.heap.size, 0, none⟩) l.length l.length) l) (hb2 : Below w.heap.size w W) => learn_any w.heap.size w.heap.size l.length l s' c' lo' hi' l' W h2 (H'.out.keep (Keep.of_below hb2 hB')) hB' hl hl'
    go_enter Try.func6, Try.ntmps6
    go_wp2_with (first | (go_at_call 12; refine cu.mono ?_; rintro e w9 ⟨rfl, hw9⟩; subst w9) | (go_at_call 13; refine (cp _).mono ?_; rintro e w2 ⟨rfl, ho2, hb2⟩; have HO2 := (show Hid _ from ho2); have HB2 := (show Hid _ from hb2); clear ho2 hb2) | (go_at_call 14; refine (le _ HO2.out HB2.out).mono ?_; rintro e w3 ⟨rfl, ho3, hx3, hz3⟩; have HO3 := (show Hid _ from ho3); have HX3 := (show Hid _ from hx3); clear ho3 hx3 hz3))
    go_ret
    refine ⟨_, rfl, ?_, HB2.out.trans (HX3.out.below (Nat.le_refl _) HB2.out.size)⟩
    have := HO3.out
    rw [HT.out] at this
    exact this

end Go.Proofs.Ytniidllclehlaaa
