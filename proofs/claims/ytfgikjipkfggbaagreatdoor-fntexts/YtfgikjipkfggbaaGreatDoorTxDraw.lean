/- The draws of FnTexts: a step, code, a trace, a channel. Conditions: the code's bytes lie in memory. -/
import Derived.Test.YtfgikjipkfggbaaGreatDoorQuietC
import Derived.Test.YtfgikjipkfggbaaGreatDoorT16Tr
import Derived.Test.YtfgikjipkfggbaaGreatDoorT16Env
import Derived.Test.YtfgikjipkfggbaaGreatDoorT16Ch
import Derived.Test.YtfgikjipkfggbaaGreatDoorStepLists
import Derived.Test.YtfgikjipkfggbaaGreatDoorSrcDefs
import Derived.Test.YtfgikjipkfggbaaGreatDoorOwnN
import Derived.Test.YtfgikjipkfggbaaGreatDoorOwn7
import Derived.Test.YtfgikjipkfggbaaGreatDoorDraw7
import Derived.Test.YtfgikjipkfggbaaGreatDoorDraw1c
import Derived.Test.YtfgikjipkfggbaaGreatDoorCursor
import Derived.Test.YtfgikjipkfggbaaGreatDoorChSend
import Derived.Test.YtfgikjipkfggbaaGreatDoorChDefs
import Derived.Test.YtfgikjipkfggbaaGreatDoorTxKit
import Derived.Test.YtfgikjipkfggbaaGreatDoorFnBytes
import Derived.Test.YtfgikjipkfggbaaGreatDoorDrawWord
import Derived.Test.YtfgikjipkfggbaaGreatDoorDrawC7
import Derived.Test.YtfgikjipkfggbaaGreatDoorChDrawB
namespace Go.Proofs.YtfgikjipkfggbaaGreatDoor
set_option linter.unusedSimpArgs false
set_option linter.unusedVariables false
set_option maxRecDepth 100000
open Go.RowKit

theorem ownRowI {w : World} {b cu : Nat} {su : Option Addr} {l : List Int} (h : OwnN w b (.slice su l.length cu) l) : RowI w w.heap.size su l := by
  obtain ⟨s9, c9, e9, r9⟩ := OwnN.row h
  cases e9
  exact r9
set_option maxRecDepth 100000 in
theorem drawStepText_any (s : Option Addr) (n c : Nat) (w : World) (hb : Bytes w w.heap.size s n) (hn : n ≤ maxLen) :
    Calls Tryz.prog 5 #[.slice s n c] w fun e w' => ∃ o r a b m : Int, e = .returned (.agg #[.int .i64 o, .int .i64 r, .int .i64 a, .int .i64 b, .int .i64 m]) ∧ Below w.heap.size w w' := by
  have HB : Hid (Bytes w w.heap.size s n) := hb
  have HN : Hid (n ≤ maxLen) := hn
  clear hb hn
  go_enter Tryz.func5, Tryz.ntmps5
  go_wp2_with fail
  obtain ⟨W, hW⟩ : ∃ W, w.alloc (.cells #[.int .i64 0, .int .i64 0, .int .i64 0, .int .i64 0, .int .i64 0] 25) = W := ⟨_, rfl⟩
  have R0 : Res W w.heap.size := by rw [← hW]; exact res_new _ _ _ _ _ _ _
  have K0 : Below w.heap.size w W := by rw [← hW]; exact (Below.refl _ _).alloc (Nat.le_refl _) _
  have hz0 := R0.2.2
  have Y0 : Bytes W W.heap.size s n := by
    rcases HB.out with h | ⟨g, o, hs, hg, hc⟩
    · exact .inl h
    · refine .inr ⟨g, o, hs, by omega, fun k hk => ?_⟩
      obtain ⟨b, h1, h2⟩ := hc k hk
      exact ⟨b, (K0.cell (p := ⟨g, o + k, none⟩) hg).trans h1, h2⟩
  rw [hW]
  clear hW
  refine (drawStepOk_any s n c W Y0 HN.out).mono ?_
  rintro e w1 ⟨o, r, a, b, m, rfl, hb1⟩
  have R1 : Res w1 w.heap.size := ⟨fun j hj => by rw [hb1.cell (p := ⟨w.heap.size, j, none⟩) hz0]; exact R0.1 j hj, fun j => by rw [hb1.frozen (p := ⟨w.heap.size, j, none⟩) hz0]; exact R0.2.1 j, by have := hb1.size; omega⟩
  have K1 : Hid (Below w.heap.size w w1) := K0.trans (hb1.mono (by omega))
  clear hb1 R0 K0 Y0 HB HN hz0
  obtain ⟨u0, u1, u2, u3, u4, g0, g1, g2, g3, g4⟩ := R1.at
  have z := R1.2.1
  have hz := R1.2.2
  go_wp2
  refine bodyPost_ret (v := .agg #[.int .i64 o, .int .i64 r, .int .i64 a, .int .i64 b, .int .i64 m]) (by simp [results, Tryz.results5, go_sem, g0, g1, g2, g3, g4, hz, Nat.ne_of_lt hz]) rfl ⟨_, _, _, _, _, rfl, ?_⟩
  exact (st5 K1.out (Nat.le_refl _)).alloc (by simp; omega) _

set_option maxHeartbeats 1000000 in
theorem drawCodeText_any (s : Option Addr) (n c : Nat) (w : World) (hb : Bytes w w.heap.size s n) (hn : n ≤ maxLen) :
    Calls Tryz.prog 6 #[.slice s n c] w fun e w' => ∃ (s' : Option Addr) (c' : Nat) (l : List I5), e = .returned (.slice s' l.length c') ∧ InsB w' w'.heap.size s' l ∧ l.length ≤ 15 ∧ Below w.heap.size w w' := by
  go_enter Tryz.func6, Tryz.ntmps6
  go_wp2_with fail
  refine (drawCodeOk_any s n c w hb hn).mono ?_
  rintro e w1 ⟨s', c', l, rfl, h1, h2, h3⟩
  have H1 := hidT h1
  have H3 := hidT h3
  clear h1 h3 hb
  go_wp2
  go_ret
  exact ⟨_, _, _, rfl, H1.out, h2, H3.out⟩
set_option maxHeartbeats 2000000 in
theorem drawChanText_any (s : Option Addr) (n c : Nat) (w : World) (hb : Bytes w w.heap.size s n) (hn : n ≤ maxLen) :
    Calls Tryz.prog 8 #[.slice s n c] w fun e w' => ∃ (cap : Int) (s' : Option Addr) (c' : Nat) (l : List Int) (b : Bool), e = .returned (.agg #[.int .i64 cap, .slice s' l.length c', .bool b]) ∧ RowI w' w'.heap.size s' l ∧ l.length ≤ 8 ∧ IB l ∧ Below w.heap.size w w' := by
  have HB : Hid (Bytes w w.heap.size s n) := hb
  have HN : Hid (n ≤ maxLen) := hn
  clear hb hn
  go_enter Tryz.func8, Tryz.ntmps8
  go_wp2_with fail
  obtain ⟨A, hA, rA, kA, sA⟩ := box1 w (.int .i64 0) (.slice none 0 0) (.bool false) 33
  rw [hA]
  have zA : w.heap.size < A.heap.size := by omega
  clear hA sA
  refine (new_cb s n c A (HB.out.up kA) HN.out).mono ?_
  rintro e w1 ⟨rfl, hc1, hb1, hs1⟩
  have z1 : A.heap.size < w1.heap.size := by omega
  clear hs1
  have r1 := rA.keep (hb1.block _ rA.z) hb1.size
  have HC1 : Hid (CB w1 A.heap.size s n c) := hc1
  clear hc1
  go_wp2_with fail
  refine (draw3_ab A.heap.size s n c w1 HC1.out).mono ?_
  rintro e w2 ⟨cap, u, l, b, rfl, ho2, hl2, hab, hc2, hb2⟩
  have r2 := r1.keep (hb2.block _ r1.z (by omega)) hb2.size
  have K2 : Below w.heap.size w w2 := (kA.trans (hb1.mono (by omega))).trans (hb2.below (by omega) (by omega))
  obtain ⟨su, cu, rfl⟩ := ho2.sl
  have HO2 := (show Hid _ from ho2)
  clear ho2 hc2 hb2 r1 rA hb1 HC1 kA HB HN
  obtain ⟨r0, r1, r2, rf, rz⟩ := r2
  go_wp2
  refine bodyPost_ret (v := .agg #[.int .i64 cap, .slice su l.length cu, .bool b]) (by simp [results, Tryz.results8, go_sem, r0, r1, r2]) rfl ⟨_, _, _, l, b, rfl, ?_, hl2, hab.ib, ?_⟩
  · refine ownRowI (b := w.heap.size) (cu := cu) ?_
    exact OwnN.low (((OwnN.set HO2.out (a := ⟨w.heap.size, 0, none⟩) (by simp; omega) _).set (a := ⟨w.heap.size, 1, none⟩) (by simp; omega) _).set (a := ⟨w.heap.size, 2, none⟩) (by simp; omega) _) (by omega)
  · exact ((K2.setCell (p := ⟨w.heap.size, 0, none⟩) (Nat.le_refl _) _).setCell (p := ⟨w.heap.size, 1, none⟩) (Nat.le_refl _) _).setCell (p := ⟨w.heap.size, 2, none⟩) (Nat.le_refl _) _
structure Dt (w0 w : World) (p : Nat) (s : Option Addr) (n c : Nat) (v : Value) (l : List ND) : Prop where
  cb : CB w p s n c
  but : But p w0 w
  own : OwnD w (p + 1) v l
  pw : p + 1 ≤ w.heap.size
set_option maxHeartbeats 2000000 in
theorem drawTraceText_any (s : Option Addr) (n c : Nat) (w : World) (hb : Bytes w w.heap.size s n) (hn : n ≤ maxLen) :
    Calls Tryz.prog 7 #[.slice s n c] w fun e w' => ∃ (s' : Option Addr) (c' : Nat) (l : List ND), e = .returned (.slice s' l.length c') ∧ NtsR w' 0 w'.heap.size s' l ∧ l.length ≤ 8 ∧ NtB l ∧ Below w.heap.size w w' := by
  have HB := hidT hb
  have HN := hidT hn
  clear hb hn
  go_enter Tryz.func7, Tryz.ntmps7
  go_wp2_with fail
  refine (new_cb s n c w HB.out HN.out).mono ?_
  rintro e w1 ⟨rfl, hc1, hb1, hs1⟩
  have C1 := hidT hc1
  have K1 := hidT hb1
  have S1 := hidT hs1
  have z1 : w.heap.size < w1.heap.size := by omega
  clear hc1 hb1 hs1 HB HN
  have D0 : Hid (Dt w (w1.alloc (.cells #[] 49)) w.heap.size s n c (.slice (some ⟨w1.heap.size, 0, none⟩) 0 0) []) := ⟨C1.out.alloc _, (But.of_below K1.out).alloc _, World.ownsRow_lit w1 #[] 0 (by have := S1.out; omega) (by unfold maxLen; omega) rfl, by simp; omega⟩
  clear C1 K1 S1
  go_wp2_with fail
  go_loopw [4, 5] (fun v i wr => ∃ (k : Nat) (l : List ND), k ≤ 7 ∧ i = .int .i64 k ∧ l.length = k ∧ NtB l ∧ Dt w wr w.heap.size s n c v l) (fun _ i _ => 8 - (intOf i).toNat)
  case atStart => exact ⟨0, [], by omega, rfl, rfl, fun i t h => by simp at h, D0.out⟩
  case round =>
    obtain ⟨k, l, hk, rfl, hl, hnb, hd⟩ := hrel
    obtain ⟨su, cu, rfl⟩ := ownSl hd.own
    have HD := hidT hd
    have HL := hidT hl
    have HNB := hidT hnb
    clear hd hl hnb D0
    go_wp2_with fail
    refine (below_cb w.heap.size s n c 7 wr HD.out.cb (by omega) (by omega)).mono ?_
    rintro e w3 ⟨y, rfl, y0, y1, hc3, hb3⟩
    have s3 := hb3.size
    have O3 := hidT (ownKeep' HD.out.own (fun q hq => hb3.block q (World.ownsRow.lt HD.out.own _ hq).2 (by have := (World.ownsRow.lt HD.out.own _ hq).1; omega)))
    have B3 := hidT (HD.out.but.trans hb3)
    have C3 := hidT hc3
    have p3 : w.heap.size + 1 ≤ w3.heap.size := Nat.le_trans HD.out.pw s3
    clear hc3 hb3 HD
    by_cases hlt : (k : Int) < y
    · go_wp2_with fail
      refine (below_cb w.heap.size s n c 4 w3 C3.out (by omega) (by omega)).mono ?_
      rintro e w4 ⟨x, rfl, x0, x1, hc4, hb4⟩
      have s4 := hb4.size
      have O4 := hidT (ownKeep' O3.out (fun q hq => hb4.block q (World.ownsRow.lt O3.out _ hq).2 (by have := (World.ownsRow.lt O3.out _ hq).1; omega)))
      have B4 := hidT (B3.out.trans hb4)
      have C4 : Hid (CB (w4.alloc (.cells #[.int .i64 0, .int .i64 5, .int .i64 (-7), .int .i64 9223372036854775807, .int .i64 (-9223372036854775808)] 3)) w.heap.size s n c) := hc4.alloc _
      clear hc4 hb4 O3 B3 C3
      go_wp2_with fail
      refine (pick_cb w.heap.size s n c w4.heap.size 5 [0, 5, -7, 9223372036854775807, -9223372036854775808] _ C4.out rfl (by simp) (by simp) (by simp) (by omega) (fun i hi => by match i, hi with | 0, _ => simp [go_sem] | 1, _ => simp [go_sem] | 2, _ => simp [go_sem] | 3, _ => simp [go_sem] | 4, _ => simp [go_sem] | i + 5, hi => simp at hi; omega)).mono ?_
      rintro e w5 ⟨z, rfl, hz, hc5, hb5⟩
      have hz' : I64 z := by simp at hz; unfold I64; omega
      have s5 : w4.heap.size + 1 ≤ w5.heap.size := by have := hb5.size; simp at this; omega
      have O5 : Hid (OwnD (w5.alloc (.cells #[.int .i64 x, .int .i64 z] 49)) (w.heap.size + 1) (.slice su l.length cu) l) := ownKeep' O4.out (fun q hq => by
        have hq1 := (World.ownsRow.lt O4.out _ hq)
        exact (Below.heap_alloc _ _ _ (by omega)).trans ((hb5.block q (by simp; omega) (by omega)).trans (Below.heap_alloc _ _ _ hq1.2)))
      have B5 : Hid (But w.heap.size w (w5.alloc (.cells #[.int .i64 x, .int .i64 z] 49))) := ((B4.out.alloc _).trans hb5).alloc _
      have C5 : Hid (CB (w5.alloc (.cells #[.int .i64 x, .int .i64 z] 49)) w.heap.size s n c) := hc5.alloc _
      have HNB2 : Hid (NtB (l ++ [⟨x, z⟩])) := by
        intro i t ht
        by_cases hi : i < l.length
        · rw [List.getElem?_append_left hi] at ht; exact HNB.out i t ht
        · rw [List.getElem?_append_right (by omega)] at ht
          have hi0 : i - l.length = 0 := by
            have := (List.getElem?_eq_some_iff.1 ht).1
            simp at this; omega
          rw [hi0] at ht
          simp at ht
          subst ht
          exact ⟨⟨by show -9223372036854775808 ≤ x; omega, by show x ≤ 9223372036854775807; omega⟩, hz'⟩
      clear hc5 hb5 O4 B4 C4 hz
      go_wp2_with (at_builtin; refine app_note rfl _ _ rfl (w5.alloc (.cells #[.int .i64 x, .int .i64 z] 49)) (w.heap.size + 1) (.slice su l.length cu) l.length (flatN l) rfl O5.out w5.heap.size (.int .i64 x) (.int .i64 z) rfl rfl rfl (by simp [go_sem]) (by simp [go_sem]) (by have := HL.out; omega) (by simp; omega) ?_; intro g6 cap6 w6 ho6 hg6 hgr6 hlt6; have O6 := hidT ho6; have G6 := hidT hg6; clear ho6 hg6 hgr6 hlt6)
      have D6 : Hid (Dt w w6 w.heap.size s n c (.slice (some ⟨g6, 0, none⟩) (l.length + 1) cap6) (l ++ [⟨x, z⟩])) := by
        refine ⟨C5.out.grown G6.out (fun q hq => by have := own_row O5.out q hq; omega), B5.out.grown G6.out (fun q hq => by have := own_row O5.out q hq; omega), ?_, by have := G6.out.size; simp at this; omega⟩
        show w6.ownsRow _ _ _ _ (l ++ [(⟨x, z⟩ : ND)]).length (flatN (l ++ [(⟨x, z⟩ : ND)]))
        rw [flatN_app, List.length_append]
        exact O6.out
      clear O5 B5 C5 O6 G6
      go_roundw
      case rel => exact ⟨k + 1, _, by omega, by go_num, by have := HL.out; simp; omega, HNB2.out, D6.out⟩
      case measure => simp [intOf]; omega
    · obtain ⟨s9, c9, e9, n9⟩ := OwnD.nts O3.out
      have N9 := hidT (n9.mono (Nat.zero_le _) (Nat.le_refl _))
      have K9 := hidT (B3.out.below (Nat.le_refl _) (Nat.le_refl _))
      cases e9
      clear n9
      go_wp2
      go_ret
      exact ⟨_, _, l, rfl, N9.out, by have := HL.out; omega, HNB.out, K9.out⟩

end Go.Proofs.YtfgikjipkfggbaaGreatDoor
