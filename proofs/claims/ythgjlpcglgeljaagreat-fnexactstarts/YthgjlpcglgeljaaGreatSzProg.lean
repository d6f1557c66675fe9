/- How great a program is counted, and that the count is no more than it was. No condition but the lists' own bounds. -/
import Derived.Test.YthgjlpcglgeljaaGreatProgCopy
namespace Go.Proofs.YthgjlpcglgeljaaGreat
set_option linter.unusedSimpArgs false
set_option linter.unusedVariables false
set_option maxRecDepth 100000
open Go.RowKit

set_option maxHeartbeats 400000 in
theorem szInsSS_le (s : Option Addr) (c lo hi : Nat) (l : List (List I5)) (q : Int) (w : World) (h : BodsR w lo hi s l) (hn : l.length ≤ maxLen) (hls : ∀ i, i < l.length → (l.getD i []).length ≤ maxLen) (hq : 0 ≤ q) (hq' : q ≤ 1048576) :
    Calls Tryz.prog 14 #[.slice s l.length c, .int .i64 q] w fun e w' => (∃ v : Int, e = .returned (.int .i64 v) ∧ (v < 0 ∨ (0 ≤ v ∧ v ≤ 1048576 ∧ l.length ≤ 1048576 ∧ ∀ i, i < l.length → (l.getD i []).length ≤ 1048576))) ∧ w' = w := by
  unfold maxLen at hn
  have HLS : Hid (∀ i, i < l.length → (l.getD i []).length ≤ maxLen) := hls
  clear hls
  by_cases hb : q < (l.length : Int)
  · have h1 : q - (l.length : Int) < 0 := by omega
    go_enter Tryz.func14, Tryz.ntmps14
    go_wp2
    go_ret
    exact ⟨⟨-1, rfl, .inl (by omega)⟩, rfl⟩
  · have h1 : ¬ q - (l.length : Int) < 0 := by omega
    rcases h with rfl | ⟨g, off, rfl, -, -, hc⟩
    · have h2 : ¬ q < 0 := by omega
      simp at h1
      go_enter Tryz.func14, Tryz.ntmps14
      go_wp2
      go_loop [1, 5] (fun a i => i = .int .i64 0 ∧ a = .int .i64 q) (fun _ _ => 0)
      case atStart => exact ⟨rfl, by simp⟩
      case round =>
        obtain ⟨rfl, rfl⟩ := hrel
        go_wp2
        go_ret
        exact ⟨⟨q, rfl, by first | exact .inr ⟨hq, hq'⟩ | exact .inr ⟨hq, hq', by simp, by simp⟩⟩, rfl⟩
    · have HC : Hid (∀ i, i < l.length → BodR w lo hi g (off + i) (l.getD i [])) := hc
      clear hc
      go_enter Tryz.func14, Tryz.ntmps14
      go_wp2
      go_loop [1, 5] (fun a i => ∃ (k : Nat) (v : Int), k ≤ l.length ∧ i = .int .i64 k ∧ a = .int .i64 v ∧ 0 ≤ v ∧ v ≤ 1048576 ∧ (∀ i, i < k → (l.getD i []).length ≤ 1048576)) (fun _ i => l.length - (intOf i).toNat)
      case atStart => exact ⟨0, _, Nat.zero_le _, rfl, rfl, by omega, by omega, fun i hi => absurd hi (Nat.not_lt_zero _)⟩
      case round =>
        obtain ⟨k, v, hk, rfl, rfl, hv, hv', hd⟩ := hrel
        have HD : Hid (∀ i, i < k → (l.getD i []).length ≤ 1048576) := hd
        clear hd
        by_cases hlt : k < l.length
        · obtain ⟨s, cc, f0, -⟩ := HC.out k hlt
          have hm := HLS.out k hlt
          generalize hx : (l.getD k []).length = n at f0 hm
          have HX : Hid ((l.getD k []).length = n) := hx
          clear hx
          have b0 : (0 : Int) ≤ (k : Int) := by omega
          have b1 : (k : Int) < (l.length : Int) := by omega
          by_cases hvn : v < (n : Int)
          · go_wp2_with (go_at_call 24; refine (szInsS_all _ _ _ _ _ hm hv hv').mono ?_; rintro e w' ⟨rfl, hw⟩; have hw' := hw.symm; clear hw; subst hw'; rw [if_pos hvn])
            go_ret
            exact ⟨⟨-1, rfl, .inl (by omega)⟩, rfl⟩
          · have hnn : ¬ v - (n : Int) < 0 := by omega
            go_wp2_with (go_at_call 24; refine (szInsS_all _ _ _ _ _ hm hv hv').mono ?_; rintro e w' ⟨rfl, hw⟩; have hw' := hw.symm; clear hw; subst hw'; rw [if_neg hvn])
            go_round
            case rel =>
              refine ⟨k + 1, _, by omega, by go_num, rfl, by omega, by omega, ?_⟩
              intro i hi
              by_cases e : i = k
              · subst e; rw [HX.out]; omega
              · exact HD.out i (by omega)
            case measure => simp [intOf]; omega
        · go_wp2
          go_ret
          have : k = l.length := by omega
          subst this
          exact ⟨⟨v, rfl, .inr ⟨hv, hv', by omega, HD.out⟩⟩, rfl⟩

set_option maxHeartbeats 400000 in
theorem szProg_le (s s' : Option Addr) (c c' lo hi : Nat) (p : PD) (w : World) (h : ProgR w lo hi s s' p) (hB : hi ≤ w.heap.size) (hn : p.caps.length ≤ maxLen) (hn' : p.bods.length ≤ maxLen) (hls : ∀ i, i < p.bods.length → (p.bods.getD i []).length ≤ maxLen) :
    Calls Tryz.prog 4 #[.agg #[.slice s p.caps.length c, .slice s' p.bods.length c'], .int .i64 1048576] w fun e w' => (∃ v : Int, e = .returned (.int .i64 v) ∧ (v < 0 ∨ (0 ≤ v ∧ v ≤ 1048576 ∧ Fits p))) ∧ Below w.heap.size w w' := by
  obtain ⟨-, h2⟩ := h
  by_cases hb : (1048576 : Int) < p.caps.length
  · go_enter Tryz.func4, Tryz.ntmps4
    go_wp2_with (go_at_call 13; refine (szIntS_any _ _ _ _ _ hn (by omega) (by omega)).mono ?_; rintro e w' ⟨rfl, hw⟩; have hw' := hw.symm; clear hw; subst hw'; rw [if_pos hb])
    go_ret
    exact ⟨⟨-1, rfl, .inl (by omega)⟩, (Below.refl _ _).alloc (Nat.le_refl _) _⟩
  · have hnn : ¬ (1048576 : Int) - (p.caps.length : Int) < 0 := by omega
    have H2 : Hid (BodsR w lo hi s' p.bods) := h2
    clear h2
    go_enter Tryz.func4, Tryz.ntmps4
    go_wp2_with (go_at_call 13; refine (szIntS_any _ _ _ _ _ hn (by omega) (by omega)).mono ?_; rintro e w' ⟨rfl, hw⟩; have hw' := hw.symm; clear hw; subst hw'; rw [if_neg hb])
    refine (szInsSS_le s' c' lo hi p.bods _ _ (H2.out.keep (Keep.of_below ((Below.refl _ _).alloc (Nat.le_refl _) _) hB)) hn' hls (by omega) (by omega)).mono ?_
    rintro e w' ⟨⟨v, rfl, hv⟩, rfl⟩
    rcases hv with hv | ⟨hv, hv2, hf1, hf2⟩
    · go_wp2
      go_ret
      exact ⟨⟨-1, rfl, .inl (by omega)⟩, (Below.refl _ _).alloc (Nat.le_refl _) _⟩
    · have hv1 : ¬ v < 0 := by omega
      have HF : Hid (∀ i, i < p.bods.length → (p.bods.getD i []).length ≤ 1048576) := hf2
      clear hf2
      go_wp2
      go_ret
      exact ⟨⟨v, rfl, .inr ⟨hv, hv2, by omega, hf1, HF.out⟩⟩, (Below.refl _ _).alloc (Nat.le_refl _) _⟩

end Go.Proofs.YthgjlpcglgeljaaGreat
