/- DrawStepOk, DrawStepWord, DrawWordStep: what chapter 7 draws of one step and of one word. Conditions: the bytes of the draw lie in memory as the reading says. -/
import Derived.Test.YtfgikjipkfggbaaGreatDoorQuietC
import Derived.Test.YtfgikjipkfggbaaGreatDoorTxKit
import Derived.Test.YtfgikjipkfggbaaGreatDoorDraw7
import Derived.Test.YtfgikjipkfggbaaGreatDoorDraw1c
import Derived.Test.YtfgikjipkfggbaaGreatDoorCursor
import Derived.Test.YtfgikjipkfggbaaGreatDoorSpoil7
namespace Go.Proofs.YtfgikjipkfggbaaGreatDoor
set_option linter.unusedSimpArgs false
set_option linter.unusedVariables false
set_option maxRecDepth 100000
open Go.RowKit

theorem CB.keepB {w w' : World} {B p n c : Nat} {s : Option Addr} (h : CB w p s n c) (hb : Below B w w') (hp : p < B) : CB w' p s n c := by
  obtain ⟨⟨i, k, c0, c1, c2, hf, hi, hi', hl⟩, hy, hn⟩ := h
  exact ⟨⟨i, k, (hb.cell (p := ⟨p, 0, none⟩) hp).trans c0, (hb.cell (p := ⟨p, 1, none⟩) hp).trans c1, (hb.cell (p := ⟨p, 2, none⟩) hp).trans c2, fun j => (hb.frozen (p := ⟨p, j, none⟩) hp).trans (hf j), hi, hi', Nat.lt_of_lt_of_le hl hb.size⟩, hy.below hb (Nat.le_of_lt hp), hn⟩

set_option maxRecDepth 100000 in
set_option maxHeartbeats 4000000 in
theorem drawStepOk_any (s : Option Addr) (n c : Nat) (w : World) (hb : Bytes w w.heap.size s n) (hn : n ≤ maxLen) :
    Calls Tryz.prog 20 #[.slice s n c] w fun e w' => ∃ o r a b m : Int, e = .returned (.tuple #[.agg #[.int .i64 o, .int .i64 r, .int .i64 a, .int .i64 b, .int .i64 m], .int .i64 9]) ∧ Below w.heap.size w w' := by
  have HB : Hid (Bytes w w.heap.size s n) := hb
  have HN : Hid (n ≤ maxLen) := hn
  clear hb hn
  go_enter Tryz.func20, Tryz.ntmps20
  go_wp2_with fail
  obtain ⟨W, hW⟩ : ∃ W, w.alloc (.cells #[.int .i64 0, .int .i64 0, .int .i64 0, .int .i64 0, .int .i64 0] 25) = W := ⟨_, rfl⟩
  have R0 : Res W w.heap.size := by rw [← hW]; exact res_new _ _ _ _ _ _ _
  have K0 : Below w.heap.size w W := by rw [← hW]; exact (Below.refl _ _).alloc (Nat.le_refl _) _
  have hz0 := R0.2.2
  have Y0 : Bytes W W.heap.size s n := by
    rcases HB.out with h | ⟨g, o, hs, hg, hc⟩
    · exact .inl h
    · refine .inr ⟨g, o, hs, by omega, fun k hk => ?_⟩
      obtain ⟨b, h1, h2⟩ := hc k hk
      exact ⟨b, (K0.cell (p := ⟨g, o + k, none⟩) hg).trans h1, h2⟩
  rw [hW]
  clear hW
  refine (new_cb s n c W Y0 HN.out).mono ?_
  rintro e w1 ⟨rfl, hc1, hb1, hs1⟩
  generalize hP : W.heap.size = P at hc1 hb1 hs1 hz0 ⊢
  have hp1 : P < w1.heap.size := by omega
  have H1 : Hid (CB w1 P s n c) := hc1
  have R1 : Hid (Res w1 w.heap.size) := ⟨fun j hj => by rw [hb1.cell (p := ⟨w.heap.size, j, none⟩) hz0]; exact R0.1 j hj, fun j => by rw [hb1.frozen (p := ⟨w.heap.size, j, none⟩) hz0]; exact R0.2.1 j, by omega⟩
  have K1 : Hid (Below w.heap.size w w1) := K0.trans (hb1.mono (by omega))
  clear hc1 hb1 hs1 R0 K0 Y0 hP HB HN
  go_wp2_with fail
  refine (drawStep_cb P s n c 9 w1 H1.out (by omega) (by omega)).mono ?_
  rintro e w2 ⟨o, r, a, b, m, rfl, hc2, hb2⟩
  have H2 : Hid (CB w2 P s n c) := hc2
  have R2 : Hid (Res w2 w.heap.size) := R1.out.but hb2 (by omega)
  have K2 : Hid (Below w.heap.size w w2) := K1.out.trans (hb2.below (by omega) (by omega))
  have hp2 : P < w2.heap.size := H2.out.lt
  clear hc2 hb2 H1 R1 K1
  go_wp2_with fail
  obtain ⟨V, hV⟩ : ∃ W, w2.alloc (.cells #[.int .i64 o, .int .i64 r, .int .i64 a, .int .i64 b, .int .i64 m] 25) = W := ⟨_, rfl⟩
  have BV : Bo V w2.heap.size o r a b m := by rw [← hV]; exact Bo.new
  have CV : CB V P s n c := by rw [← hV]; exact H2.out.alloc _
  have RV : Res V w.heap.size := by rw [← hV]; exact R2.out.but ((But.refl P _).alloc _) (by omega)
  have KV : Below w.heap.size w V := by rw [← hV]; exact K2.out.alloc (by omega) _
  rw [hV]
  clear hV H2 R2 K2
  generalize hX : w2.heap.size = X at BV hp2 ⊢
  have hVX := BV.lt
  refine (once_cb P s n c 2 V CV (by omega) (by omega)).mono ?_
  rintro e w3 ⟨q, rfl, hc3, hb3⟩
  have H3 : Hid (CB w3 P s n c) := hc3
  have B3 : Hid (Bo w3 X o r a b m) := BV.of (hb3.block X hVX (by omega)) hb3.size
  have R3 : Hid (Res w3 w.heap.size) := RV.but hb3 (by omega)
  have K3 : Hid (Below w.heap.size w w3) := KV.trans (hb3.below (by omega) (by omega))
  clear hc3 hb3 BV CV RV KV hVX hX hp1
  have hX3 := B3.out.lt
  cases q
  · obtain ⟨c0, c1, c2, c3, c4, fz, lx⟩ := B3.out
    obtain ⟨u0, u1, u2, u3, u4, g0, g1, g2, g3, g4⟩ := R3.out.at
    have z := R3.out.2.1
    have hRX : w.heap.size < X := by omega
    go_wp2
    refine bodyPost_ret (v := .tuple #[.agg #[.int .i64 o, .int .i64 r, .int .i64 a, .int .i64 b, .int .i64 m], .int .i64 9]) (by simp [results, Tryz.results20, go_sem, g0, g1, g2, g3, g4]) rfl ⟨_, _, _, _, _, rfl, ?_⟩
    exact st5 K3.out (Nat.le_refl _)
  · obtain ⟨c0, c1, c2, c3, c4, fz, lx⟩ := B3.out
    go_wp2_with fail
    refine (spoil_cb P s n c o r a b m w3 H3.out).mono ?_
    rintro e w4 ⟨o', r', a', b', m', rfl, hc4, hb4⟩
    have B4 : Bo w4 X o r a b m := B3.out.of (hb4.block X hX3 (by omega)) hb4.size
    have R4 : Res w4 w.heap.size := R3.out.but hb4 (by omega)
    have K4 : Hid (Below w.heap.size w w4) := K3.out.trans (hb4.below (by omega) (by omega))
    clear hc4 hb4 H3 B3 R3 K3 c0 c1 c2 c3 c4 fz lx hX3
    obtain ⟨c0, c1, c2, c3, c4, fz, lx⟩ := B4
    have f0 := fz 0
    have f1 := fz 1
    have f2 := fz 2
    have f3 := fz 3
    have f4 := fz 4
    obtain ⟨u0, u1, u2, u3, u4, g0, g1, g2, g3, g4⟩ := R4.at
    have z := R4.2.1
    clear R4 fz
    have hRX : w.heap.size < X := by omega
    go_wp2
    refine bodyPost_ret (v := .tuple #[.agg #[.int .i64 o', .int .i64 r', .int .i64 a', .int .i64 b', .int .i64 m'], .int .i64 9]) (by simp [results, Tryz.results20, go_sem, g0, g1, g2, g3, g4]) rfl ⟨_, _, _, _, _, rfl, ?_⟩
    exact st5 (st5 K4.out (by omega)) (Nat.le_refl _)

end Go.Proofs.YtfgikjipkfggbaaGreatDoor
