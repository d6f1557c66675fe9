/- Two rows of integers as FnViews draws them: l6DrawViews, DrawJoin. No condition but the code's length. -/
import Derived.Test.YtniidllclehlaaaDraw1c
import Derived.Test.YtniidllclehlaaaAppN1
namespace Go.Proofs.Ytniidllclehlaaa
set_option linter.unusedSimpArgs false
set_option linter.unusedVariables false
set_option maxRecDepth 100000
open Go.RowKit

theorem OwnN.but {w w' : World} {base p : Nat} {v : Value} {l : List Int} (h : OwnN w base v l) (hb : But p w w') (hp : p < base) : OwnN w' base v l := ownKeep' h (fun k e => hb.block k (World.ownsRow.lt h _ e).2 (by have := (World.ownsRow.lt h _ e).1; omega))
theorem CB.keepB {w w' : World} {B p n c : Nat} {s : Option Addr} (h : CB w p s n c) (hb : Below B w w') (hp : p < B) : CB w' p s n c := by
  refine ⟨?_, h.2.1.below hb (by omega), h.2.2⟩
  obtain ⟨i, h', c0, c1, c2, hf, hi, hi', hp'⟩ := h.1
  exact ⟨i, h', (hb.cell (p := ⟨p, 0, none⟩) hp).trans c0, (hb.cell (p := ⟨p, 1, none⟩) hp).trans c1, (hb.cell (p := ⟨p, 2, none⟩) hp).trans c2, fun j => (hb.frozen (p := ⟨p, j, none⟩) hp).trans (hf j), hi, hi', by have := hb.size; omega⟩
structure TwoR (w : World) (B : Nat) (va vb : Value) (la lb : List Int) : Prop where
  a : OwnN w B va la
  b : OwnN w B vb lb
  sep : ∀ k, va.ownBlock = some k → vb.ownBlock ≠ some k
theorem TwoR.but {w w' : World} {B p : Nat} {va vb : Value} {la lb : List Int} (h : TwoR w B va vb la lb) (hb : But p w w') (hp : p < B) : TwoR w' B va vb la lb := ⟨h.a.but hb hp, h.b.but hb hp, h.sep⟩
set_option maxHeartbeats 4000000 in
theorem l6DrawViews_any (s : Option Addr) (n c : Nat) (w : World) (hb : Bytes w w.heap.size s n) (hn : n ≤ maxLen) :
    Calls Try.prog 11 #[.slice s n c] w fun e w' => ∃ va vb la lb, e = .returned (.tuple #[va, vb]) ∧ OwnN w' w.heap.size va la ∧ OwnN w' w.heap.size vb lb ∧ la.length ≤ 7 ∧ lb.length ≤ 7 ∧ Below w.heap.size w w' := by
  have HB : Hid (Bytes w w.heap.size s n) := hb
  have HN : Hid (n ≤ maxLen) := hn
  clear hb hn
  go_enter Try.func11, Try.ntmps11
  go_wp2_with fail
  refine (new_cb s n c w HB.out HN.out).mono ?_
  rintro e w1 ⟨rfl, hc1, hb1, hz1⟩
  have HC1 : Hid (CB w1 w.heap.size s n c) := hc1
  have HB1 : Hid (Below w.heap.size w w1) := hb1
  have z1 : w.heap.size + 1 ≤ w1.heap.size := by omega
  clear hc1 hb1 hz1
  go_wp2_with fail
  obtain ⟨W, hW⟩ : ∃ W, (w1.alloc (.cells #[] 3)).alloc (.cells #[] 3) = W := ⟨_, rfl⟩
  have k0 : Below w1.heap.size w1 W := by subst hW; exact ((Below.refl _ _).alloc (Nat.le_refl _) _).alloc (by simp) _
  have T0 : Hid (TwoR W (w.heap.size + 1) (.slice (some ⟨w1.heap.size, 0, none⟩) 0 0) (.slice (some ⟨w1.heap.size + 1, 0, none⟩) 0 0) [] []) := by
    subst hW
    refine ⟨(ownN_empty z1).alloc _, ?_, fun k e e' => ?_⟩
    · have h9 := ownN_empty (w := w1.alloc (.cells #[] 3)) (base := w.heap.size + 1) (by simp; omega)
      simpa using h9
    · have e1 : some w1.heap.size = some k := e
      have e2 : some (w1.heap.size + 1) = some k := e'
      injection e1 with e1
      injection e2 with e2
      omega
  have HCW : Hid (CB W w.heap.size s n c) := HC1.out.keep k0
  have HBW : Hid (Below w.heap.size w W) := HB1.out.trans (k0.mono (by omega))
  have zW : w.heap.size + 1 ≤ W.heap.size := by have := k0.size; omega
  rw [hW]
  clear hW k0
  refine (below_cb w.heap.size s n c 6 W HCW.out (by omega) (by omega)).mono ?_
  rintro e w2 ⟨x, rfl, x0, x1, hc2, hb2⟩
  have HC2 : Hid (CB w2 w.heap.size s n c) := hc2
  have T2 : Hid (TwoR w2 (w.heap.size + 1) (.slice (some ⟨w1.heap.size, 0, none⟩) 0 0) (.slice (some ⟨w1.heap.size + 1, 0, none⟩) 0 0) [] []) := T0.out.but hb2 (by omega)
  have HB2 : Hid (Below w.heap.size w w2) := HBW.out.trans (hb2.below (Nat.le_refl _) (by omega))
  have z2 := hb2.size
  obtain ⟨xn, rfl⟩ : ∃ xn : Nat, x = xn := ⟨x.toNat, by omega⟩
  clear hc2 hb2
  go_wp2
  go_loopw [5, 6, 8] (fun u5 u6 i wr => ∃ (k : Nat) (la lb : List Int), k ≤ xn ∧ i = .int .i64 k ∧ TwoR wr (w.heap.size + 1) u5 u6 la lb ∧ la.length = k ∧ lb.length = k ∧ CB wr w.heap.size s n c ∧ w.heap.size + 1 ≤ wr.heap.size ∧ Below w.heap.size w wr) (fun _ _ i _ => xn - (intOf i).toNat)
  case atStart => exact ⟨0, [], [], Nat.zero_le _, rfl, T2.out, rfl, rfl, HC2.out, by omega, HB2.out⟩
  case round =>
    obtain ⟨k, la, lb, hk, rfl, ht, hla, hlb, hc, hz, hb⟩ := hrel
    obtain ⟨s5, c5, rfl⟩ := ownSl ht.a
    obtain ⟨s6, c6, rfl⟩ := ownSl ht.b
    have HT : Hid (TwoR wr (w.heap.size + 1) (.slice s5 la.length c5) (.slice s6 lb.length c6) la lb) := ht
    have HC : Hid (CB wr w.heap.size s n c) := hc
    have HB' : Hid (Below w.heap.size w wr) := hb
    have HLA : Hid (la.length = k ∧ lb.length = k) := ⟨hla, hlb⟩
    have k6 : k < 6 ∨ k = xn := by omega
    clear ht hc hb hla hlb
    by_cases hlt : k < xn
    · have b1 : (k : Int) < (xn : Int) := by omega
      go_wp2_with fail
      refine (below_cb w.heap.size s n c 4 wr HC.out (by omega) (by omega)).mono ?_
      rintro e w3 ⟨y, rfl, -, -, hc3, hb3⟩
      have HT3 : Hid (TwoR w3 (w.heap.size + 1) (.slice s5 la.length c5) (.slice s6 lb.length c6) la lb) := HT.out.but hb3 (by omega)
      have HC3 : Hid (CB w3 w.heap.size s n c) := hc3
      have HB3 : Hid (Below w.heap.size w w3) := HB'.out.trans (hb3.below (Nat.le_refl _) (by omega))
      have z3 := hb3.size
      clear hc3 hb3
      go_wp2_with (at_builtin; refine app_one rfl _ _ rfl w3 y (w.heap.size + 1) (.slice s5 la.length c5) la rfl HT3.out.a rfl (by have := HLA.out; omega) (by omega) ?_; intro g4 c4 w4 ho4 hb4 hf4; have HT4 : Hid (TwoR w4 (w.heap.size + 1) (.slice (some ⟨g4, 0, none⟩) (la.length + 1) c4) (.slice s6 lb.length c6) (la ++ [y]) lb) := ⟨ho4, ownKeep' HT3.out.b (fun k e => (hf4 k (World.ownsRow.lt HT3.out.b _ e).2 (fun e' => HT3.out.sep k e' e)).1), fun k e e' => by have e1 : some g4 = some k := e; injection e1 with e1; exact (hf4 k (World.ownsRow.lt HT3.out.b _ e').2 (fun e9 => HT3.out.sep k e9 e')).2 e1.symm⟩; have HC4 : Hid (CB w4 w.heap.size s n c) := HC3.out.keepB hb4 (by omega); have HB4 : Hid (Below w.heap.size w w4) := HB3.out.trans (hb4.mono (by omega)); have z4 := hb4.size; clear ho4 hb4 hf4)
      refine (below_cb w.heap.size s n c 4 w4 HC4.out (by omega) (by omega)).mono ?_
      rintro e w5 ⟨y2, rfl, -, -, hc5, hb5⟩
      have HT5 : Hid (TwoR w5 (w.heap.size + 1) (.slice (some ⟨g4, 0, none⟩) (la.length + 1) c4) (.slice s6 lb.length c6) (la ++ [y]) lb) := HT4.out.but hb5 (by omega)
      have HC5 : Hid (CB w5 w.heap.size s n c) := hc5
      have HB5 : Hid (Below w.heap.size w w5) := HB4.out.trans (hb5.below (Nat.le_refl _) (by omega))
      have z5 := hb5.size
      clear hc5 hb5
      go_wp2_with (at_builtin; refine app_one rfl _ _ rfl w5 y2 (w.heap.size + 1) (.slice s6 lb.length c6) lb rfl HT5.out.b rfl (by have := HLA.out; omega) (by omega) ?_; intro g6 c7 w6 ho6 hb6 hf6; have HT6 : Hid (TwoR w6 (w.heap.size + 1) (.slice (some ⟨g4, 0, none⟩) (la.length + 1) c4) (.slice (some ⟨g6, 0, none⟩) (lb.length + 1) c7) (la ++ [y]) (lb ++ [y2])) := ⟨ownKeep' HT5.out.a (fun k e => (hf6 k (World.ownsRow.lt HT5.out.a _ e).2 (fun e' => HT5.out.sep k e e')).1), ho6, fun k e e' => by have e1 : some g6 = some k := e'; injection e1 with e1; exact (hf6 k (World.ownsRow.lt HT5.out.a _ e).2 (fun e9 => HT5.out.sep k e e9)).2 e1.symm⟩; have HC6 : Hid (CB w6 w.heap.size s n c) := HC5.out.keepB hb6 (by omega); have HB6 : Hid (Below w.heap.size w w6) := HB5.out.trans (hb6.mono (by omega)); have z6 := hb6.size; clear ho6 hb6 hf6)
      go_roundw
      case rel => exact ⟨k + 1, la ++ [y], lb ++ [y2], by omega, by go_num, HT6.out, by simp [HLA.out.1], by simp [HLA.out.2], HC6.out, by omega, HB6.out⟩
      case measure => simp [intOf]; omega
    · obtain ⟨hla, hlb⟩ := HLA.out
      have hl6 : la.length ≤ 6 ∧ lb.length ≤ 6 := by omega
      obtain ⟨hla6, hlb6⟩ := hl6
      clear hla hlb HLA
      go_wp2_with fail
      refine (once_cb w.heap.size s n c 4 wr HC.out (by omega) (by omega)).mono ?_
      rintro e w3 ⟨q4, rfl, hc3, hb3⟩
      have HT3 : Hid (TwoR w3 (w.heap.size + 1) (.slice s5 la.length c5) (.slice s6 lb.length c6) la lb) := HT.out.but hb3 (by omega)
      have HC3 : Hid (CB w3 w.heap.size s n c) := hc3
      have HB3 : Hid (Below w.heap.size w w3) := HB'.out.trans (hb3.below (Nat.le_refl _) (by omega))
      have z3 := hb3.size
      clear hc3 hb3
      cases q4
      · go_wp2_with fail
        refine (once_cb w.heap.size s n c 9 w3 HC3.out (by omega) (by omega)).mono ?_
        rintro e w8 ⟨q9, rfl, hc8, hb8⟩
        have HT8 := (show Hid _ from HT3.out.but hb8 (by omega))
        have HB8 : Hid (Below w.heap.size w w8) := HB3.out.trans (hb8.below (Nat.le_refl _) (by omega))
        have z8 := hb8.size
        clear hc8 hb8
        cases q9
        · go_wp2
          go_ret2
          exact ⟨_, _, _, _, rfl, ownLow' HT8.out.a (by omega), ownLow' HT8.out.b (by omega), by omega, by omega, HB8.out⟩
        · go_wp2_with (at_builtin; refine app_one rfl _ _ rfl w8 1 (w.heap.size + 1) (.slice s5 la.length c5) la rfl HT8.out.a rfl (by omega) (by omega) ?_; intro g9 c9 w9 ho9 hb9 hf9; have HA9 := (show Hid (OwnN w9 (w.heap.size + 1) (.slice (some ⟨g9, 0, none⟩) (la.length + 1) c9) (la ++ [1])) from ho9); have HB9 : Hid (OwnN w9 (w.heap.size + 1) (.slice s6 lb.length c6) lb) := ownKeep' HT8.out.b (fun k e => (hf9 k (World.ownsRow.lt HT8.out.b _ e).2 (fun e' => HT8.out.sep k e' e)).1); have HK9 : Hid (Below w.heap.size w w9) := HB8.out.trans (hb9.mono (by omega)); clear ho9 hb9 hf9)
          go_ret2
          exact ⟨_, _, _, _, rfl, ownLow' HA9.out (by omega), ownLow' HB9.out (by omega), by simp; omega, by omega, HK9.out⟩
      · have LR : Hid (IntsR (w3.alloc (.cells #[] 3)) (w.heap.size + 1) w3.heap.size s5 la) := by
          obtain ⟨s0, c0, e0, i0⟩ := ownN_ints HT3.out.a
          injection e0 with e0
          rw [e0]
          exact i0.keep (Keep.of_below ((Below.refl _ _).alloc (Nat.le_refl _) _) (Nat.le_refl _))
        go_wp2_with (at_builtin; refine app_copyI rfl _ _ rfl rfl _ w3.heap.size (some ⟨w3.heap.size, 0, none⟩) 0 rfl (ownN_empty (Nat.le_refl _)) s5 c5 la rfl LR.out (by omega) (by simp) ?_; intro s7 c7 w7 ho7 hc7; have hb7 : Below w3.heap.size w3 w7 := ((Below.refl _ _).alloc (Nat.le_refl _) _).trans hc7.low; have HT7 : Hid (TwoR w7 (w.heap.size + 1) (.slice s5 la.length c5) (.slice s7 la.length c7) la la) := ⟨HT3.out.a.below hb7, ownLow' ho7 (by omega), fun k e e' => by have e1 := (World.ownsRow.lt HT3.out.a _ e).2; have e2 := (World.ownsRow.lt ho7 _ e').1; omega⟩; have HC7 : Hid (CB w7 w.heap.size s n c) := HC3.out.keep hb7; have HB7 : Hid (Below w.heap.size w w7) := HB3.out.trans (hb7.mono (by omega)); have z7 := hb7.size; clear ho7 hc7 hb7)
        refine (once_cb w.heap.size s n c 9 w7 HC7.out (by omega) (by omega)).mono ?_
        rintro e w8 ⟨q9, rfl, hc8, hb8⟩
        have HT8 := (show Hid _ from HT7.out.but hb8 (by omega))
        have HB8 : Hid (Below w.heap.size w w8) := HB7.out.trans (hb8.below (Nat.le_refl _) (by omega))
        have z8 := hb8.size
        clear hc8 hb8
        cases q9
        · go_wp2
          go_ret2
          exact ⟨_, _, _, _, rfl, ownLow' HT8.out.a (by omega), ownLow' HT8.out.b (by omega), by omega, by omega, HB8.out⟩
        · go_wp2_with (at_builtin; refine app_one rfl _ _ rfl w8 1 (w.heap.size + 1) (.slice s5 la.length c5) la rfl HT8.out.a rfl (by omega) (by omega) ?_; intro g9 c9 w9 ho9 hb9 hf9; have HA9 := (show Hid (OwnN w9 (w.heap.size + 1) (.slice (some ⟨g9, 0, none⟩) (la.length + 1) c9) (la ++ [1])) from ho9); have HB9 : Hid (OwnN w9 (w.heap.size + 1) (.slice s7 la.length c7) la) := ownKeep' HT8.out.b (fun k e => (hf9 k (World.ownsRow.lt HT8.out.b _ e).2 (fun e' => HT8.out.sep k e' e)).1); have HK9 : Hid (Below w.heap.size w w9) := HB8.out.trans (hb9.mono (by omega)); clear ho9 hb9 hf9)
          go_ret2
          exact ⟨_, _, _, _, rfl, ownLow' HA9.out (by omega), ownLow' HB9.out (by omega), by simp; omega, by omega, HK9.out⟩

end Go.Proofs.Ytniidllclehlaaa
