/- The law FnMessage of the given statements: what is written ahead of what is let go is known to whoever gets hold of that; without getting hold an older number may be answered. No condition. -/
import Derived.Test.YtlhhdkemmhlloaaMsg
import Derived.Deep.RegionHeld3
namespace Go.Proofs.Ytlhhdkemmhlloaa
set_option linter.unusedSimpArgs false
set_option linter.unusedVariables false
set_option maxRecDepth 100000
open Go.ChangeShapes Go.WideShapes Go.ChangeAt Go.RowKit

theorem at_any (s : Option Addr) (n c k : Nat) (w : World) (hk : k ≤ 2) (h : Bytes w w.heap.size s n) (hn : n ≤ 1048576) : Calls Try.prog 9 #[.slice s n c, .int .i64 k] w fun e w' => ∃ x : Int, e = .returned (.int .i64 x) ∧ 0 ≤ x ∧ x ≤ 255 ∧ w' = w := by
  by_cases hlt : (k : Int) < (n : Int)
  · rcases h with rfl | ⟨g, o, rfl, hg, hc⟩
    · omega
    obtain ⟨b, h1, h2, h3⟩ := hc k (by omega)
    have b0 : (0 : Int) ≤ (k : Int) := by omega
    go_enter Try.func9, Try.ntmps9
    go_wp2
    go_ret
    exact ⟨b, rfl, h2, h3, rfl⟩
  · clear h
    go_enter Try.func9, Try.ntmps9
    go_wp2
    go_ret
    exact ⟨_, rfl, by omega, by omega, rfl⟩

theorem made_rw (w : World) : Rw (w.alloc (.cells (madeCells #[.int .i64 0] 24) 3)) (some ⟨w.heap.size, 0, none⟩) z24 := by
  refine .inr ⟨w.heap.size, 0, rfl, Nat.zero_le _, by simp, fun i hi => ?_⟩
  have hi' : i < 24 := hi
  have e : (w.alloc (.cells (madeCells #[.int .i64 0] 24) 3)).cell? ⟨w.heap.size, 0 + i, none⟩ = (madeCells #[.int .i64 0] 24)[i]? := by rw [Nat.zero_add]; simp [go_sem]
  rw [e, ← Array.getElem?_toList, toList_madeCells_one, List.getElem?_replicate, if_pos hi', List.getD_eq_getElem?_getD]
  unfold z24
  rw [List.getElem?_replicate, if_pos hi']
  rfl
theorem msgStart {w1 W : World} {s1 : Option Addr} {c1 : Nat} (hW : (((w1.alloc (.cells #[.slice s1 (newM 24).length c1] 26)).alloc (.cells (madeCells #[.int .i64 0] 24) 3)).alloc (.cells (madeCells #[.int .i64 0] 24) 3)).drew = W) :
    Below w1.heap.size w1 W ∧ B1 W w1.heap.size (.slice s1 (newM 24).length c1) ∧ Rw W (some ⟨w1.heap.size + 1, 0, none⟩) z24 ∧ Rw W (some ⟨w1.heap.size + 1 + 1, 0, none⟩) z24 := by
  subst hW
  have a1 := (Below.refl w1.heap.size w1).alloc (Nat.le_refl _) (.cells #[.slice s1 (newM 24).length c1] 26)
  have b1 : B1 (w1.alloc (.cells #[.slice s1 (newM 24).length c1] 26)) w1.heap.size (.slice s1 (newM 24).length c1) := B1.new
  have e1 : (w1.alloc (.cells #[.slice s1 (newM 24).length c1] 26)).heap.size = w1.heap.size + 1 := by simp
  generalize w1.alloc (.cells #[.slice s1 (newM 24).length c1] 26) = A at a1 b1 e1 ⊢
  have a2 := (Below.refl A.heap.size A).alloc (Nat.le_refl _) (.cells (madeCells #[.int .i64 0] 24) 3)
  have r2 := made_rw A
  have e2 : (A.alloc (.cells (madeCells #[.int .i64 0] 24) 3)).heap.size = A.heap.size + 1 := by simp
  generalize A.alloc (.cells (madeCells #[.int .i64 0] 24) 3) = C at a2 r2 e2 ⊢
  have a3 := (Below.refl C.heap.size C).alloc (Nat.le_refl _) (.cells (madeCells #[.int .i64 0] 24) 3)
  have r3 := made_rw C
  generalize C.alloc (.cells (madeCells #[.int .i64 0] 24) 3) = E at a3 r3 ⊢
  have a4 : Below E.heap.size E E.drew := Below.drew (Below.refl _ _)
  rw [← e1]
  refine ⟨((a1.trans (a2.mono (by omega))).trans (a3.mono (by omega))).trans (a4.mono (by have := a3.size; omega)), ((b1.below a2).below a3).below a4, (r2.below a3).below a4, ?_⟩
  rw [← e2]
  exact r3.below a4

theorem st24 (s s' : Option Addr) (c c' : Nat) (v : Int) (w : World) (h : Mw w s (newM 24)) (h' : Rw w s' z24) :
    Calls Try.prog 10 #[.agg #[.slice s (newM 24).length c], .slice s' 24 c', .int .i64 1, .int .i64 v, .bool false] w fun e w' => ∃ s1 c1 s2 c2, e = .returned (.tuple #[.agg #[.slice s1 (mA v).length c1], .slice s2 lA.length c2]) ∧ MemR w' w.heap.size w'.heap.size s1 (mA v) ∧ Rw w' s2 lA ∧ Below w.heap.size w w' := by
  have e : z24.length = 24 := rfl
  have k := gStoreI s s' c c' (newM 24) (mA v) z24 lA 1 v false w h h' (by rw [e]; omega) mfit0 rfl rfl
  rw [e] at k
  exact k
theorem ld24 (s s' : Option Addr) (c c' : Nat) (v : Int) (hold : Bool) (L : List Int) (w : World) (h : Mw w s (mB v)) (h' : Rw w s' z24) (hL : loadW (mB v) z24 2 0 hold = L) :
    Calls Try.prog 11 #[.agg #[.slice s (mB v).length c], .slice s' 24 c', .int .i64 2, .int .i64 0, .bool hold] w fun e w' => ∃ s2 c2, e = .returned (.tuple #[.int .i64 1, .slice s2 L.length c2]) ∧ Rw w' s2 L ∧ Below w.heap.size w w' := by
  have e : z24.length = 24 := rfl
  have k := gLoadI s s' c c' (mB v) z24 L 2 0 1 hold w h h' (by rw [e]; omega) (mfitB v) (by decide) hL (flagV v)
  rw [e] at k
  exact k

set_option maxRecDepth 100000 in
set_option maxHeartbeats 8000000 in
theorem walkFnMessage (s : Option Addr) (n c : Nat) (w : World) (hb : Bytes w w.heap.size s n) (hn : n ≤ maxLen) : Calls Try.prog 3 #[.slice s n c] w fun e w' => e = .returned (.bool true) ∧ Below w.heap.size w w' := by
  have HB0 : Hid (Bytes w w.heap.size s n) := hb
  have HN : Hid (n ≤ maxLen) := hn
  clear hb hn
  go_enter Try.func3, Try.ntmps3
  by_cases hbig : 1048576 < n
  · go_wp2_with (go_at_call 7; refine (big_any _ _ _ _).mono ?_; rintro e w' ⟨rfl, hw⟩; have hw' := hw.symm; clear hw; subst hw'; rw [decide_eq_true hbig])
    go_ret
    exact ⟨rfl, Below.refl _ _⟩
  go_wp2_with (go_at_call 7; refine (big_any _ _ _ _).mono ?_; rintro e w' ⟨rfl, hw⟩; have hw' := hw.symm; clear hw; subst hw'; rw [decide_eq_false hbig])
  have HG : Hid (n ≤ 1048576) := by show _ ≤ _; omega
  clear hbig
  refine (gNewI w).mono ?_
  rintro e w1 ⟨s1, c1, rfl, hm1, hb1⟩
  have M1 : Hid (Mw w1 s1 (newM 24)) := mw_of hm1 (Nat.le_refl _)
  have K1 : Hid (Below w.heap.size w w1) := hb1
  have Z1 : Hid (w.heap.size ≤ w1.heap.size) := hb1.size
  clear hm1 hb1
  have hmk : ∀ w : World, (Instr.makeSlice 28 (.int .i64 24) (.int .i64 24)).run Try.prog w = .ok (.slice (some ⟨w.heap.size, 0, none⟩) 24 24) (w.alloc (.cells (madeCells #[.int .i64 0] 24) 3)) := fun w => by simpa using mkInt 24 (by omega) w
  go_wp2_with fail
  first | go_region_with (fail) | fail
  all_goals clear hmk
  all_goals go_wp2_with fail
  all_goals
    obtain ⟨W, hW⟩ : ∃ W, (((w1.alloc (.cells #[.slice s1 (newM 24).length c1] 26)).alloc (.cells (madeCells #[.int .i64 0] 24) 3)).alloc (.cells (madeCells #[.int .i64 0] 24) 3)).drew = W := ⟨_, rfl⟩
    have F : W = W := rfl
    obtain ⟨hbw, mB1, rA, rB⟩ := msgStart hW
    have KW : Hid (Below w.heap.size w W) := K1.out.trans (hbw.mono Z1.out)
    have MW : Hid (Mw W s1 (newM 24)) := M1.out.below hbw
    have BW : Hid (B1 W w1.heap.size (.slice s1 (newM 24).length c1)) := mB1
    have RA : Hid (Rw W (some ⟨w1.heap.size + 1, 0, none⟩) z24) := rA
    have RB : Hid (Rw W (some ⟨w1.heap.size + 1 + 1, 0, none⟩) z24) := rB
    rw [hW]
    clear hW F hbw mB1 rA rB K1 M1
    refine (at_any s n c 1 W (by omega) (HB0.out.up KW.out) HG.out).mono ?_
    rintro e w2 ⟨v0, rfl, v1, v2, hw2⟩
    have hw2' := hw2.symm
    clear hw2
    subst hw2'
    have x0 := BW.out.c0
    have xz := BW.out.fz
    have xl := BW.out.lt
    have va : 1 ≤ 1 + v0 := by omega
    have vb : 1 + v0 ≤ 256 := by omega
    go_wp2_with fail
    generalize 1 + v0 = v at va vb ⊢
    first | with_reducible refine (st24 s1 (some ⟨w1.heap.size + 1, 0, none⟩) c1 24 v W MW.out RA.out).mono ?_ | with_reducible refine (st24 s1 (some ⟨w1.heap.size + 1 + 1, 0, none⟩) c1 24 v W MW.out RB.out).mono ?_
    rintro e w3 ⟨s3, c3, sa3, ca3, rfl, hm3, ha3, hb3⟩
    have B3 : Hid (B1 w3 w1.heap.size (.slice s1 (newM 24).length c1)) := BW.out.below hb3
    have K3 : Hid (Below w.heap.size w w3) := KW.out.trans (hb3.mono KW.out.size)
    have RA3 : Hid (Rw w3 (some ⟨w1.heap.size + 1, 0, none⟩) z24) := RA.out.below hb3
    have RB3 : Hid (Rw w3 (some ⟨w1.heap.size + 1 + 1, 0, none⟩) z24) := RB.out.below hb3
    have A3 : Hid (Rw w3 sa3 lA) := ha3
    have M3 : Hid (MemR w3 W.heap.size w3.heap.size s3 (mA v)) := hm3
    clear hm3 ha3 hb3 BW KW RA RB MW x0 xz
    have x0 := B3.out.c0
    have xz := B3.out.fz
    have x3 := B3.out.lt
    go_wp2_with fail
    have GL : Hid (w1.heap.size < W.heap.size) := xl
    obtain ⟨V, hV⟩ : ∃ V, w3.setCell ⟨w1.heap.size, 0, none⟩ (.slice s3 (mA v).length c3) = V := ⟨_, rfl⟩
    have B4 : Hid (B1 V w1.heap.size (.slice s3 (mA v).length c3)) := by show B1 _ _ _; rw [← hV]; exact B3.out.set
    have K4 : Hid (Below w.heap.size w V) := by show Below _ _ _; rw [← hV]; exact below_box K3.out Z1.out
    have RA4 : Hid (Rw V (some ⟨w1.heap.size + 1, 0, none⟩) z24) := by show Rw _ _ _; rw [← hV]; exact RA3.out.box B3.out
    have RB4 : Hid (Rw V (some ⟨w1.heap.size + 1 + 1, 0, none⟩) z24) := by show Rw _ _ _; rw [← hV]; exact RB3.out.box B3.out
    have A4 : Hid (Rw V sa3 lA) := by show Rw _ _ _; rw [← hV]; exact A3.out.box B3.out
    have M4 : Hid (Mw V s3 (mA v)) := by show Mw _ _ _; rw [← hV]; exact mw_of (M3.out.keep (Keep.of_set GL.out)) (by simp)
    rw [hV]
    clear hV B3 K3 RA3 RB3 A3 M3 x0 xz x3 xl
    refine (gStoreI s3 sa3 c3 ca3 (mA v) (mB v) lA (lB v) 2 1 true V M4.out A4.out (by show lA.length ≤ _; rw [lenA]; omega) (mfitA v) rfl rfl).mono ?_
    rintro e w5 ⟨s5, c5, sa5, ca5, rfl, hm5, ha5, hb5⟩
    have B5 : Hid (B1 w5 w1.heap.size (.slice s3 (mA v).length c3)) := B4.out.below hb5
    have K5 : Hid (Below w.heap.size w w5) := K4.out.trans (hb5.mono K4.out.size)
    have RA5 : Hid (Rw w5 (some ⟨w1.heap.size + 1, 0, none⟩) z24) := RA4.out.below hb5
    have RB5 : Hid (Rw w5 (some ⟨w1.heap.size + 1 + 1, 0, none⟩) z24) := RB4.out.below hb5
    have A5 : Hid (Rw w5 sa5 (lB v)) := ha5
    have M5 : Hid (MemR w5 V.heap.size w5.heap.size s5 (mB v)) := hm5
    have GV : Hid (w1.heap.size < V.heap.size) := B4.out.lt
    clear hm5 ha5 hb5 B4 K4 RA4 RB4 A4 M4
    have x0 := B5.out.c0
    have xz := B5.out.fz
    have x3 := B5.out.lt
    go_wp2_with fail
    obtain ⟨U, hU⟩ : ∃ V, w5.setCell ⟨w1.heap.size, 0, none⟩ (.slice s5 (mB v).length c5) = V := ⟨_, rfl⟩
    have B6 : Hid (B1 U w1.heap.size (.slice s5 (mB v).length c5)) := by show B1 _ _ _; rw [← hU]; exact B5.out.set
    have K6 : Hid (Below w.heap.size w U) := by show Below _ _ _; rw [← hU]; exact below_box K5.out Z1.out
    have RA6 : Hid (Rw U (some ⟨w1.heap.size + 1, 0, none⟩) z24) := by show Rw _ _ _; rw [← hU]; exact RA5.out.box B5.out
    have RB6 : Hid (Rw U (some ⟨w1.heap.size + 1 + 1, 0, none⟩) z24) := by show Rw _ _ _; rw [← hU]; exact RB5.out.box B5.out
    have A6 : Hid (Rw U sa5 (lB v)) := by show Rw _ _ _; rw [← hU]; exact A5.out.box B5.out
    have M6 : Hid (Mw U s5 (mB v)) := by show Mw _ _ _; rw [← hU]; exact mw_of (M5.out.keep (Keep.of_set GV.out)) (by simp)
    rw [hU]
    clear hU B5 K5 RA5 RB5 A5 M5 x0 xz x3
    first | with_reducible refine (ld24 s5 (some ⟨w1.heap.size + 1, 0, none⟩) c5 24 v true (heldL v) U M6.out RA6.out rfl).mono ?_ | with_reducible refine (ld24 s5 (some ⟨w1.heap.size + 1 + 1, 0, none⟩) c5 24 v true (heldL v) U M6.out RB6.out rfl).mono ?_
    rintro e w7 ⟨sh, ch, rfl, hh, hb7⟩
    have B7 : Hid (B1 w7 w1.heap.size (.slice s5 (mB v).length c5)) := B6.out.below hb7
    have K7 : Hid (Below w.heap.size w w7) := K6.out.trans (hb7.mono K6.out.size)
    have RA7 : Hid (Rw w7 (some ⟨w1.heap.size + 1, 0, none⟩) z24) := RA6.out.below hb7
    have RB7 : Hid (Rw w7 (some ⟨w1.heap.size + 1 + 1, 0, none⟩) z24) := RB6.out.below hb7
    have A7 : Hid (Rw w7 sa5 (lB v)) := A6.out.below hb7
    have M7 : Hid (Mw w7 s5 (mB v)) := M6.out.below hb7
    have H7 : Hid (Rw w7 sh (heldL v)) := hh
    clear B6 K6 RA6 RB6 A6 M6
    clear hh hb7
    have x0 := B7.out.c0
    have xl := B7.out.lt
    go_wp2_with fail
    first | with_reducible refine (ld24 s5 (some ⟨w1.heap.size + 1, 0, none⟩) c5 24 v false (looseL v) w7 M7.out RA7.out rfl).mono ?_ | with_reducible refine (ld24 s5 (some ⟨w1.heap.size + 1 + 1, 0, none⟩) c5 24 v false (looseL v) w7 M7.out RB7.out rfl).mono ?_
    rintro e w8 ⟨sl, cl, rfl, hh, hb8⟩
    have B8 : Hid (B1 w8 w1.heap.size (.slice s5 (mB v).length c5)) := B7.out.below hb8
    have K8 : Hid (Below w.heap.size w w8) := K7.out.trans (hb8.mono K7.out.size)
    have RA8 : Hid (Rw w8 (some ⟨w1.heap.size + 1, 0, none⟩) z24) := RA7.out.below hb8
    have RB8 : Hid (Rw w8 (some ⟨w1.heap.size + 1 + 1, 0, none⟩) z24) := RB7.out.below hb8
    have A8 : Hid (Rw w8 sa5 (lB v)) := A7.out.below hb8
    have M8 : Hid (Mw w8 s5 (mB v)) := M7.out.below hb8
    have H8 : Hid (Rw w8 sh (heldL v)) := H7.out.below hb8
    have L8 : Hid (Rw w8 sl (looseL v)) := hh
    clear B7 K7 RA7 RB7 A7 M7
    clear hh hb8 H7 x0 xl
    have x0 := B8.out.c0
    have xl := B8.out.lt
    go_wp2_with fail
    refine (at_any s n c 2 w8 (by omega) (HB0.out.up K8.out) HG.out).mono ?_
    rintro e w9 ⟨t, rfl, t1, t2, hw9⟩
    have hw9' := hw9.symm
    clear hw9
    subst hw9'
    go_wp2_with fail
    refine (gLoadI s5 sh c5 ch (mB v) (heldL v) (loadW (mB v) (heldL v) 1 t false) 1 t v false w8 M8.out H8.out (by rw [lenH]; omega) (mfitB v) (by omega) rfl (xV v t)).mono ?_
    rintro e w10 ⟨sq, cq, rfl, hh, hb10⟩
    have B10 : Hid (B1 w10 w1.heap.size (.slice s5 (mB v).length c5)) := B8.out.below hb10
    have K10 : Hid (Below w.heap.size w w10) := K8.out.trans (hb10.mono K8.out.size)
    have RA10 : Hid (Rw w10 (some ⟨w1.heap.size + 1, 0, none⟩) z24) := RA8.out.below hb10
    have RB10 : Hid (Rw w10 (some ⟨w1.heap.size + 1 + 1, 0, none⟩) z24) := RB8.out.below hb10
    have A10 : Hid (Rw w10 sa5 (lB v)) := A8.out.below hb10
    have M10 : Hid (Mw w10 s5 (mB v)) := M8.out.below hb10
    have H10 : Hid (Rw w10 sh (heldL v)) := H8.out.below hb10
    have L10 : Hid (Rw w10 sl (looseL v)) := L8.out.below hb10
    clear B8 K8 RA8 RB8 A8 M8
    clear hh hb10 H8 L8 x0 xl
    have x0 := B10.out.c0
    have xl := B10.out.lt
    go_wp2_with fail
    refine (gLoadI s5 sl c5 cl (mB v) (looseL v) (loadW (mB v) (looseL v) 1 (1 + t) false) 1 (1 + t) 0 false w10 M10.out L10.out (by rw [lenL]; omega) (mfitB v) (by omega) rfl (yV v t t1)).mono ?_
    rintro e w11 ⟨sq2, cq2, rfl, hh, hb11⟩
    have B11 : Hid (B1 w11 w1.heap.size (.slice s5 (mB v).length c5)) := B10.out.below hb11
    have K11 : Hid (Below w.heap.size w w11) := K10.out.trans (hb11.mono K10.out.size)
    have RA11 : Hid (Rw w11 (some ⟨w1.heap.size + 1, 0, none⟩) z24) := RA10.out.below hb11
    have RB11 : Hid (Rw w11 (some ⟨w1.heap.size + 1 + 1, 0, none⟩) z24) := RB10.out.below hb11
    have A11 : Hid (Rw w11 sa5 (lB v)) := A10.out.below hb11
    have M11 : Hid (Mw w11 s5 (mB v)) := M10.out.below hb11
    have H11 : Hid (Rw w11 sh (heldL v)) := H10.out.below hb11
    have L11 : Hid (Rw w11 sl (looseL v)) := L10.out.below hb11
    clear B10 K10 RA10 RB10 A10 M10
    clear hh hb11 H10 L10 x0 xl
    have x0 := B11.out.c0
    have xl := B11.out.lt
    go_wp2_with fail
    refine (gLoadI s5 sl c5 cl (mB v) (looseL v) (loadW (mB v) (looseL v) 1 0 false) 1 0 v false w11 M11.out L11.out (by rw [lenL]; omega) (mfitB v) (by omega) rfl (zV v)).mono ?_
    rintro e w12 ⟨sq3, cq3, rfl, hh, hb12⟩
    have B12 : Hid (B1 w12 w1.heap.size (.slice s5 (mB v).length c5)) := B11.out.below hb12
    have K12 : Hid (Below w.heap.size w w12) := K11.out.trans (hb12.mono K11.out.size)
    have RA12 : Hid (Rw w12 (some ⟨w1.heap.size + 1, 0, none⟩) z24) := RA11.out.below hb12
    have RB12 : Hid (Rw w12 (some ⟨w1.heap.size + 1 + 1, 0, none⟩) z24) := RB11.out.below hb12
    have A12 : Hid (Rw w12 sa5 (lB v)) := A11.out.below hb12
    have M12 : Hid (Mw w12 s5 (mB v)) := M11.out.below hb12
    have H12 : Hid (Rw w12 sh (heldL v)) := H11.out.below hb12
    have L12 : Hid (Rw w12 sl (looseL v)) := L11.out.below hb12
    clear B11 K11 RA11 RB11 A11 M11
    clear hh hb12 H11 L11 x0 xl
    have x0 := B12.out.c0
    have xl := B12.out.lt
    go_wp2_with fail
    refine (gLoadS s5 sh c5 ch (mB v) (heldL v) (loadW (mB v) (heldL v) 1 t false) 1 t v false w12 M12.out H12.out (by rw [lenH]; omega) (mfitB v) (by omega) rfl (xV v t)).mono ?_
    rintro e w13 ⟨sq4, cq4, rfl, hh, hb13⟩
    have B13 : Hid (B1 w13 w1.heap.size (.slice s5 (mB v).length c5)) := B12.out.below hb13
    have K13 : Hid (Below w.heap.size w w13) := K12.out.trans (hb13.mono K12.out.size)
    have RA13 : Hid (Rw w13 (some ⟨w1.heap.size + 1, 0, none⟩) z24) := RA12.out.below hb13
    have RB13 : Hid (Rw w13 (some ⟨w1.heap.size + 1 + 1, 0, none⟩) z24) := RB12.out.below hb13
    have A13 : Hid (Rw w13 sa5 (lB v)) := A12.out.below hb13
    have M13 : Hid (Mw w13 s5 (mB v)) := M12.out.below hb13
    have H13 : Hid (Rw w13 sh (heldL v)) := H12.out.below hb13
    have L13 : Hid (Rw w13 sl (looseL v)) := L12.out.below hb13
    clear B12 K12 RA12 RB12 A12 M12
    clear hh hb13 H12 L12 x0 xl
    go_wp2_with fail
    refine (gKnows sh sl ch cl (heldL v) (looseL v) true w13 H13.out L13.out (by rw [lenH]; omega) (knowsHL v)).mono ?_
    rintro e w14 ⟨rfl, hb14⟩
    have H14 : Hid (Rw w14 sh (heldL v)) := H13.out.below hb14
    have A14 : Hid (Rw w14 sa5 (lB v)) := A13.out.below hb14
    have K14 : Hid (Below w.heap.size w w14) := K13.out.trans (hb14.mono K13.out.size)
    clear hb14 B13 K13 RA13 RB13 A13 M13 H13 L13
    go_wp2_with fail
    refine (gKnows sa5 sh ca5 ch (lB v) (heldL v) true w14 A14.out H14.out (by rw [lenB]; omega) (knowsBH v)).mono ?_
    rintro e w15 ⟨rfl, hb15⟩
    have K15 : Hid (Below w.heap.size w w15) := K14.out.trans (hb15.mono K14.out.size)
    clear hb15
    go_wp2
    go_ret
    exact ⟨rfl, K15.out⟩

set_option maxRecDepth 100000 in
theorem liftedFnMessage (os : Os) (started : os.Started) (H : Type) (enc : TypeId × Value → H) :
    ReturnsInHanded {} Try.checked os 3 .any (Rows.fnMessageSpec.pre6 enc Try.prog Try.f3 Rows.fnMessageRow.domain false) (Rows.fnMessageSpec.post enc Try.prog Try.f3 false true false false) := by
  refine returnsInHanded_of_change (C := Try.checked) ownS started (by kernel_rfl) Try.func3
    (ChangeSpec.witness6 (enc := enc) (C := Try.checked) false ⟨#[], #[.slice none 0 0], []⟩ 8 (by kernel_rfl) (by kernel_rfl) (by kernel_rfl) (by kernel_rfl)) ?_
  intro W base args ds gs before hval0 hW hcnd _
  have hval : ∀ (j : Nat) t v, Try.f3.params[j]? = some t → args[j]? = some v → Value.okWide Try.prog W .any base t v := hval0
  have hW' := hW
  obtain ⟨p, q, hA0, hV, rfl, hfz, hnd⟩ := hW
  have hA : DataW.TrodAll enc Try.prog W 0 (fun _ => true) true Try.f3.params.toList args.toList ds p := hA0
  rw [Try.params3] at hA hval
  obtain ⟨v0, d0, hargs, rfl, h0⟩ := trodAll_one hA
  obtain rfl : args = #[v0] := by cases args; simp_all
  obtain ⟨rfl, rfl⟩ := trodVars_none hV
  have k0 := h0
  have lt0 : ∀ x ∈ p, x.block < W.heap.size := by obtain ⟨m, hm⟩ := k0; exact DataW.trod_lt m _ _ _ hm
  obtain ⟨s, n, c, rfl, hn, hB⟩ := bytes_read (hval 0 22 v0 rfl rfl) h0
  clear hA0 hval0
  refine (walkFnMessage s n c W hB hn).mono fun e W' ⟨he, bel⟩ => ?_
  subst he
  exact ⟨_, rfl, _, _, _, [], _, [], hW', trodAll_mk1 (shut_bool Try.underlying4 _), trodAll_mk1 (Below.trod laidOutS (by kernel_rfl) (of_decide_eq_true (by kernel_rfl)) k0 bel lt0), rfl, bel.frame _, fun h => by cases h⟩

theorem fnMessage_holds : Rows.FnMessageSaid :=
  OpenClaim.holds_of_wide 3 Try.f3 rfl rfl rfl rfl rfl rfl rfl ⟨rfl, rfl, rfl, rfl, rfl⟩ rfl rfl rfl rfl rfl (by kernel_rfl) Try.func3 (by kernel_rfl)
    (of_decide_eq_true (by kernel_rfl)) (by unfold Func.isWrapper; first | (rw [if_pos (by decide +kernel)]; kernel_rfl) | (rw [if_neg (by decide +kernel)]; exact ⟨rfl, rfl⟩))
    (fun os started H enc _ => liftedFnMessage os started H enc)
#print axioms fnMessage_holds

end Go.Proofs.Ytlhhdkemmhlloaa
