/- DrawInsOk and DrawBodyOk: what they draw lies in new memory; nothing that was there is turned. Conditions: the bytes lie in memory as the reading says. -/
import Derived.Test.YtfhhlahfldddfafDrawB
namespace Go.Proofs.Ytfhhlahfldddfaf
set_option linter.unusedSimpArgs false
set_option linter.unusedVariables false
open Go.RowKit Go.Deep

theorem Bytes.mono {w : World} {p p' n : Nat} {s : Option Addr} (h : Bytes w p s n) (hp : p ≤ p') : Bytes w p' s n := by
  rcases h with h | ⟨g, o, hs, hg, hc⟩
  · exact .inl h
  · exact .inr ⟨g, o, hs, by omega, hc⟩
theorem OwnI.form {w : World} {base n : Nat} {v : Value} (h : OwnI w base v n) (hn : 0 < n) : ∃ g cap, v = .slice (some ⟨g, 0, none⟩) n cap ∧ base ≤ g ∧ g < w.heap.size := by
  obtain ⟨xs, h1, -⟩ := h
  exact h1.form hn
theorem OwnI.mono {w : World} {base base' n : Nat} {v : Value} (h : OwnI w base v n) (hb : base' ≤ base) : OwnI w base' v n := by
  obtain ⟨xs, ⟨h1, h2⟩, h3⟩ := h
  refine ⟨xs, ⟨h1, ?_⟩, h3⟩
  rcases h2 with h2 | ⟨g, cap, cur, hv, hb', hr⟩
  · exact .inl h2
  · exact .inr ⟨g, cap, cur, hv, by omega, hr⟩
def set5o (w : World) (g k : Nat) (z0 z1 z2 z3 z4 : Int) : World := ((((w.setCell ⟨g, k, none⟩ (.int .i64 z0)).setCell ⟨g, k + 1, none⟩ (.int .i64 z1)).setCell ⟨g, k + 2, none⟩ (.int .i64 z2)).setCell ⟨g, k + 3, none⟩ (.int .i64 z3)).setCell ⟨g, k + 4, none⟩ (.int .i64 z4)
theorem OwnI.set5o {w : World} {base n g k : Nat} {v : Value} (h : OwnI w base v n) (z0 z1 z2 z3 z4 : Int) : OwnI (set5o w g k z0 z1 z2 z3 z4) base v n := ((((h.set z0).set z1).set z2).set z3).set z4
theorem CB.set5o {w : World} {p n c g k : Nat} {s : Option Addr} (h : CB w p s n c) (hg : p < g) (z0 z1 z2 z3 z4 : Int) : CB (set5o w g k z0 z1 z2 z3 z4) p s n c := ((((h.set hg).set hg).set hg).set hg).set hg
theorem but_set5o {w0 w : World} {p g k : Nat} (h : But p w0 w) (hg : w0.heap.size ≤ g) (z0 z1 z2 z3 z4 : Int) : But p w0 (set5o w g k z0 z1 z2 z3 z4) := by
  have b : Below w0.heap.size w (set5o w g k z0 z1 z2 z3 z4) := (((((Below.refl _ _).setCell (p := ⟨g, k, none⟩) hg _).setCell (p := ⟨g, k + 1, none⟩) hg _).setCell (p := ⟨g, k + 2, none⟩) hg _).setCell (p := ⟨g, k + 3, none⟩) hg _).setCell (p := ⟨g, k + 4, none⟩) hg _
  exact ⟨b.os.trans h.os, b.tape.trans h.tape, b.output.trans h.output, Nat.le_trans h.size b.size, fun k hk hp => (b.block k hk).trans (h.block k hk hp)⟩
theorem OwnI.at {w : World} {base n g cap k : Nat} (h : OwnI w base (.slice (some ⟨g, 0, none⟩) n cap) n) (hk : k < n) : ∃ z0 z1 z2 z3 z4 : Int, w.cell? ⟨g, k * 5, none⟩ = some (.int .i64 z0) ∧ w.cell? ⟨g, k * 5 + 1, none⟩ = some (.int .i64 z1) ∧ w.cell? ⟨g, k * 5 + 2, none⟩ = some (.int .i64 z2) ∧ w.cell? ⟨g, k * 5 + 3, none⟩ = some (.int .i64 z3) ∧ w.cell? ⟨g, k * 5 + 4, none⟩ = some (.int .i64 z4) ∧ (∀ j, j < 5 → w.frozen? ⟨g, k * 5 + j, none⟩ = false) := by
  obtain ⟨xs, h1, h2⟩ := h
  have C : ∀ j, j < 5 → ∃ z : Int, w.cell? ⟨g, k * 5 + j, none⟩ = some (.int .i64 z) := fun j hj => by
    obtain ⟨u, h3, h4, -⟩ := own_cell (k := k * 5 + j) h1 (by omega)
    obtain ⟨z, rfl⟩ := h2 u h4
    exact ⟨z, h3⟩
  obtain ⟨z0, c0⟩ := C 0 (by omega)
  obtain ⟨z1, c1⟩ := C 1 (by omega)
  obtain ⟨z2, c2⟩ := C 2 (by omega)
  obtain ⟨z3, c3⟩ := C 3 (by omega)
  obtain ⟨z4, c4⟩ := C 4 (by omega)
  exact ⟨z0, z1, z2, z3, z4, c0, c1, c2, c3, c4, fun j hj => (own_cell (k := k * 5 + j) h1 (by omega)).choose_spec.2.2.1⟩
def lenOf : Value → Nat | .slice _ n _ => n | _ => 0

set_option maxRecDepth 100000 in
set_option maxHeartbeats 4000000 in
theorem drawBodyOk_any (s : Option Addr) (n c : Nat) (w : World) (hb : Bytes w w.heap.size s n) (hn : n ≤ maxLen) :
    Calls Try.prog 7 #[.slice s n c] w fun e w' => ∃ (v : Value) (m : Nat) (z : Int), e = .returned (.tuple #[v, .int .i64 z]) ∧ OwnI w' w.heap.size v m ∧ m ≤ 30 ∧ Below w.heap.size w w' := by
  go_enter Try.func7, Try.ntmps7
  go_wp2_with fail
  refine (new_cb s n c w hb hn).mono ?_
  rintro e w1 ⟨rfl, hc1, hb1, hz1⟩
  have K1 : Hid (Below w.heap.size w w1) := hb1
  clear hb1
  go_wp2_with fail
  refine (drawBody_cb w.heap.size s n c 2 w1 hc1 (by omega) (by omega)).mono ?_
  rintro e w2 ⟨v, m, rfl, ho2, hm1, hm2, hc2, hb2⟩
  obtain ⟨g, cap, rfl, hg, hg'⟩ := ho2.form (by omega)
  have hz2 := hb2.size
  clear hc1
  go_wp2_with fail
  refine (once_cb w.heap.size s n c 4 w2 hc2 (by omega) (by omega)).mono ?_
  rintro e w3 ⟨x, rfl, hc3, hb3⟩
  have HO3 : Hid (OwnI w3 (w.heap.size + 1) (.slice (some ⟨g, 0, none⟩) m cap) m) := (ho2.mono (by omega)).but hb3 (by omega)
  have HC3 : Hid (CB w3 w.heap.size s n c) := hc3
  have HT3 : Hid (But w.heap.size w1 w3) := hb2.trans hb3
  have hz3 := HT3.out.size
  clear ho2 hc2 hb2 hc3 hb3
  cases x
  · go_wp2_with fail
    refine (once_cb w.heap.size s n c 40 _ (HC3.out) (by omega) (by omega)).mono ?_
    rintro e w6 ⟨x, rfl, hc6, hb6⟩
    have HO6 : Hid (OwnI w6 (w.heap.size + 1) (.slice (some ⟨g, 0, none⟩) m cap) m) := (HO3.out).but hb6 (by omega)
    have HC6 : Hid (CB w6 w.heap.size s n c) := hc6
    have HT6 : Hid (But w.heap.size w1 w6) := (HT3.out).trans hb6
    clear hc6 hb6 HO3 HC3 HT3
    cases x
    · have hzw := HT6.out.size
      have kl : Below w6.heap.size w6 (w6.alloc (.cells #[.int .i64 2, .int .i64 2, .int .i64 2, .int .i64 1, .int .i64 3, .int .i64 4] 3)) := (Below.refl _ _).alloc (Nat.le_refl _) _
      have KL : Hid (Below w6.heap.size w6 (w6.alloc (.cells #[.int .i64 2, .int .i64 2, .int .i64 2, .int .i64 1, .int .i64 3, .int .i64 4] 3))) := kl
      clear kl
      go_wp2_with fail
      refine (pick_cb w.heap.size s n c w6.heap.size 6 [2, 2, 2, 1, 3, 4] _ (HC6.out.keep KL.out) rfl (by simp) (by simp) (by simp) (by omega) (fun i hi => by match i, hi with | 0, _ => simp [go_sem] | 1, _ => simp [go_sem] | 2, _ => simp [go_sem] | 3, _ => simp [go_sem] | 4, _ => simp [go_sem] | 5, _ => simp [go_sem])).mono ?_
      rintro e w9 ⟨z, rfl, -, hc9, hb9⟩
      have HO9 : Hid (OwnI w9 (w.heap.size + 1) (.slice (some ⟨g, 0, none⟩) m cap) m) := (HO6.out.keep KL.out).but hb9 (by omega)
      have HT9 : Hid (But w.heap.size w1 w9) := (HT6.out.trans (But.of_below KL.out)).trans hb9
      clear hc9 hb9 KL
      go_wp2
      go_ret2
      exact ⟨_, _, _, rfl, HO9.out.mono (by omega), by omega, K1.out.trans (HT9.out.below (Nat.le_refl _) (by omega))⟩
    · go_wp2_with fail
      go_loopw [5] (fun v wr => ∃ (g' cap' m' : Nat), v = .slice (some ⟨g', 0, none⟩) m' cap' ∧ 1 ≤ m' ∧ m' ≤ 25 ∧ OwnI wr (w.heap.size + 1) (.slice (some ⟨g', 0, none⟩) m' cap') m' ∧ CB wr w.heap.size s n c ∧ But w.heap.size w1 wr) (fun v _ => 25 - lenOf v)
      case atStart => exact ⟨g, cap, m, rfl, hm1, by omega, HO6.out, HC6.out, HT6.out⟩
      case round =>
        obtain ⟨g', cap', m', rfl, l1, l2, ho, hcb, hbt⟩ := hrel
        have HO7 : Hid (OwnI wr (w.heap.size + 1) (.slice (some ⟨g', 0, none⟩) m' cap') m') := ho
        have HC7 : Hid (CB wr w.heap.size s n c) := hcb
        have HT7 : Hid (But w.heap.size w1 wr) := hbt
        clear ho hcb hbt HO6 HC6 HT6
        go_wp2_with fail
        refine (below_cb w.heap.size s n c 2 wr HC7.out (by omega) (by omega)).mono ?_
        rintro e w8 ⟨q, rfl, q0, q1, hc8, hb8⟩
        have HO8 : Hid (OwnI w8 (w.heap.size + 1) (.slice (some ⟨g', 0, none⟩) m' cap') m') := HO7.out.but hb8 (by omega)
        have HC8 : Hid (CB w8 w.heap.size s n c) := hc8
        have HT8 : Hid (But w.heap.size w1 w8) := HT7.out.trans hb8
        have hz8 := HT8.out.size
        clear hc8 hb8 HO7 HC7 HT7
        by_cases hlt : (m' : Int) < 24 + q
        · go_wp2_with (at_builtin; refine app_step rfl _ _ rfl w8 13 0 0 0 0 (w.heap.size + 1) m' _ rfl HO8.out rfl (by omega) (by omega) ?_; intro g9 cap9 w9 ho9 hg9 hr9)
          go_roundw
          case rel => exact ⟨g9, cap9, m' + 1, rfl, by omega, by omega, ho9, (HC8.out.alloc _).grown hg9 (fun k hk => by have := hr9 k hk; omega), (HT8.out.alloc _).grown hg9 (fun k hk => by have := hr9 k hk; omega)⟩
          case measure => simp [lenOf]; omega
        · have hzw := HT8.out.size
          have kl : Below w8.heap.size w8 (w8.alloc (.cells #[.int .i64 2, .int .i64 2, .int .i64 2, .int .i64 1, .int .i64 3, .int .i64 4] 3)) := (Below.refl _ _).alloc (Nat.le_refl _) _
          have KL : Hid (Below w8.heap.size w8 (w8.alloc (.cells #[.int .i64 2, .int .i64 2, .int .i64 2, .int .i64 1, .int .i64 3, .int .i64 4] 3))) := kl
          clear kl
          go_wp2_with fail
          refine (pick_cb w.heap.size s n c w8.heap.size 6 [2, 2, 2, 1, 3, 4] _ (HC8.out.keep KL.out) rfl (by simp) (by simp) (by simp) (by omega) (fun i hi => by match i, hi with | 0, _ => simp [go_sem] | 1, _ => simp [go_sem] | 2, _ => simp [go_sem] | 3, _ => simp [go_sem] | 4, _ => simp [go_sem] | 5, _ => simp [go_sem])).mono ?_
          rintro e w9 ⟨z, rfl, -, hc9, hb9⟩
          have HO9 : Hid (OwnI w9 (w.heap.size + 1) (.slice (some ⟨g', 0, none⟩) m' cap') m') := (HO8.out.keep KL.out).but hb9 (by omega)
          have HT9 : Hid (But w.heap.size w1 w9) := (HT8.out.trans (But.of_below KL.out)).trans hb9
          clear hc9 hb9 KL
          go_wp2
          go_ret2
          exact ⟨_, _, _, rfl, HO9.out.mono (by omega), by omega, K1.out.trans (HT9.out.below (Nat.le_refl _) (by omega))⟩
  · have hml : (m : Int) ≤ 256 := by omega
    go_wp2_with fail
    refine (below_cb w.heap.size s n c (m : Int) w3 HC3.out (by omega) hml).mono ?_
    rintro e w4 ⟨i, rfl, i0, i1, hc4, hb4⟩
    obtain ⟨k, rfl⟩ := Int.eq_ofNat_of_zero_le i0
    have hk : k < m := by omega
    have HO4 : Hid (OwnI w4 (w.heap.size + 1) (.slice (some ⟨g, 0, none⟩) m cap) m) := HO3.out.but hb4 (by omega)
    have HC4 : Hid (CB w4 w.heap.size s n c) := hc4
    have HT4 : Hid (But w.heap.size w1 w4) := HT3.out.trans hb4
    have hz4 := HT4.out.size
    clear hc4 hb4 HO3 HC3 HT3
    obtain ⟨z0, z1, z2, z3, z4, c0, c1, c2, c3, c4, -⟩ := HO4.out.at hk
    go_wp2_with fail
    refine (spoil_cb w.heap.size s n c z0 z1 z2 z3 z4 w4 HC4.out).mono ?_
    rintro e w5 ⟨y0, y1, y2, y3, y4, rfl, hc5, hb5⟩
    have HO5 : Hid (OwnI w5 (w.heap.size + 1) (.slice (some ⟨g, 0, none⟩) m cap) m) := HO4.out.but hb5 (by omega)
    have HC5 : Hid (CB w5 w.heap.size s n c) := hc5
    have HT5 : Hid (But w.heap.size w1 w5) := HT4.out.trans hb5
    have hz5 := HT5.out.size
    clear hc5 hb5 HO4 HC4 HT4 c0 c1 c2 c3 c4
    obtain ⟨z0, z1, z2, z3, z4, c0, c1, c2, c3, c4, hfz⟩ := HO5.out.at hk
    have f0 := hfz 0 (by omega)
    have f1 := hfz 1 (by omega)
    have f2 := hfz 2 (by omega)
    have f3 := hfz 3 (by omega)
    have f4 := hfz 4 (by omega)
    rw [Nat.add_zero] at f0
    clear hfz
    go_wp2_with fail
    refine (once_cb w.heap.size s n c 40 _ (HC5.out.set5o (g := g) (k := k * 5) (by omega) y0 y1 y2 y3 y4) (by omega) (by omega)).mono ?_
    rintro e w6 ⟨x, rfl, hc6, hb6⟩
    have HO6 : Hid (OwnI w6 (w.heap.size + 1) (.slice (some ⟨g, 0, none⟩) m cap) m) := ((HO5.out.set5o (g := g) (k := k * 5) y0 y1 y2 y3 y4)).but hb6 (by omega)
    have HC6 : Hid (CB w6 w.heap.size s n c) := hc6
    have HT6 : Hid (But w.heap.size w1 w6) := ((but_set5o (g := g) (k := k * 5) HT5.out (by omega) y0 y1 y2 y3 y4)).trans hb6
    clear hc6 hb6 HO5 HC5 HT5
    cases x
    · have hzw := HT6.out.size
      have kl : Below w6.heap.size w6 (w6.alloc (.cells #[.int .i64 2, .int .i64 2, .int .i64 2, .int .i64 1, .int .i64 3, .int .i64 4] 3)) := (Below.refl _ _).alloc (Nat.le_refl _) _
      have KL : Hid (Below w6.heap.size w6 (w6.alloc (.cells #[.int .i64 2, .int .i64 2, .int .i64 2, .int .i64 1, .int .i64 3, .int .i64 4] 3))) := kl
      clear kl
      go_wp2_with fail
      refine (pick_cb w.heap.size s n c w6.heap.size 6 [2, 2, 2, 1, 3, 4] _ (HC6.out.keep KL.out) rfl (by simp) (by simp) (by simp) (by omega) (fun i hi => by match i, hi with | 0, _ => simp [go_sem] | 1, _ => simp [go_sem] | 2, _ => simp [go_sem] | 3, _ => simp [go_sem] | 4, _ => simp [go_sem] | 5, _ => simp [go_sem])).mono ?_
      rintro e w9 ⟨z, rfl, -, hc9, hb9⟩
      have HO9 : Hid (OwnI w9 (w.heap.size + 1) (.slice (some ⟨g, 0, none⟩) m cap) m) := (HO6.out.keep KL.out).but hb9 (by omega)
      have HT9 : Hid (But w.heap.size w1 w9) := (HT6.out.trans (But.of_below KL.out)).trans hb9
      clear hc9 hb9 KL
      go_wp2
      go_ret2
      exact ⟨_, _, _, rfl, HO9.out.mono (by omega), by omega, K1.out.trans (HT9.out.below (Nat.le_refl _) (by omega))⟩
    · go_wp2_with fail
      go_loopw [5] (fun v wr => ∃ (g' cap' m' : Nat), v = .slice (some ⟨g', 0, none⟩) m' cap' ∧ 1 ≤ m' ∧ m' ≤ 25 ∧ OwnI wr (w.heap.size + 1) (.slice (some ⟨g', 0, none⟩) m' cap') m' ∧ CB wr w.heap.size s n c ∧ But w.heap.size w1 wr) (fun v _ => 25 - lenOf v)
      case atStart => exact ⟨g, cap, m, rfl, hm1, by omega, HO6.out, HC6.out, HT6.out⟩
      case round =>
        obtain ⟨g', cap', m', rfl, l1, l2, ho, hcb, hbt⟩ := hrel
        have HO7 : Hid (OwnI wr (w.heap.size + 1) (.slice (some ⟨g', 0, none⟩) m' cap') m') := ho
        have HC7 : Hid (CB wr w.heap.size s n c) := hcb
        have HT7 : Hid (But w.heap.size w1 wr) := hbt
        clear ho hcb hbt HO6 HC6 HT6
        go_wp2_with fail
        refine (below_cb w.heap.size s n c 2 wr HC7.out (by omega) (by omega)).mono ?_
        rintro e w8 ⟨q, rfl, q0, q1, hc8, hb8⟩
        have HO8 : Hid (OwnI w8 (w.heap.size + 1) (.slice (some ⟨g', 0, none⟩) m' cap') m') := HO7.out.but hb8 (by omega)
        have HC8 : Hid (CB w8 w.heap.size s n c) := hc8
        have HT8 : Hid (But w.heap.size w1 w8) := HT7.out.trans hb8
        have hz8 := HT8.out.size
        clear hc8 hb8 HO7 HC7 HT7
        by_cases hlt : (m' : Int) < 24 + q
        · go_wp2_with (at_builtin; refine app_step rfl _ _ rfl w8 13 0 0 0 0 (w.heap.size + 1) m' _ rfl HO8.out rfl (by omega) (by omega) ?_; intro g9 cap9 w9 ho9 hg9 hr9)
          go_roundw
          case rel => exact ⟨g9, cap9, m' + 1, rfl, by omega, by omega, ho9, (HC8.out.alloc _).grown hg9 (fun k hk => by have := hr9 k hk; omega), (HT8.out.alloc _).grown hg9 (fun k hk => by have := hr9 k hk; omega)⟩
          case measure => simp [lenOf]; omega
        · have hzw := HT8.out.size
          have kl : Below w8.heap.size w8 (w8.alloc (.cells #[.int .i64 2, .int .i64 2, .int .i64 2, .int .i64 1, .int .i64 3, .int .i64 4] 3)) := (Below.refl _ _).alloc (Nat.le_refl _) _
          have KL : Hid (Below w8.heap.size w8 (w8.alloc (.cells #[.int .i64 2, .int .i64 2, .int .i64 2, .int .i64 1, .int .i64 3, .int .i64 4] 3))) := kl
          clear kl
          go_wp2_with fail
          refine (pick_cb w.heap.size s n c w8.heap.size 6 [2, 2, 2, 1, 3, 4] _ (HC8.out.keep KL.out) rfl (by simp) (by simp) (by simp) (by omega) (fun i hi => by match i, hi with | 0, _ => simp [go_sem] | 1, _ => simp [go_sem] | 2, _ => simp [go_sem] | 3, _ => simp [go_sem] | 4, _ => simp [go_sem] | 5, _ => simp [go_sem])).mono ?_
          rintro e w9 ⟨z, rfl, -, hc9, hb9⟩
          have HO9 : Hid (OwnI w9 (w.heap.size + 1) (.slice (some ⟨g', 0, none⟩) m' cap') m') := (HO8.out.keep KL.out).but hb9 (by omega)
          have HT9 : Hid (But w.heap.size w1 w9) := (HT8.out.trans (But.of_below KL.out)).trans hb9
          clear hc9 hb9 KL
          go_wp2
          go_ret2
          exact ⟨_, _, _, rfl, HO9.out.mono (by omega), by omega, K1.out.trans (HT9.out.below (Nat.le_refl _) (by omega))⟩

end Go.Proofs.Ytfhhlahfldddfaf
