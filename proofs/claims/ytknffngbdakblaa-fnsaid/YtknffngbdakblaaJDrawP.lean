/- l1DrawRight: a program is drawn into new memory; the cursor's own block alone is turned. Conditions: the cursor and its bytes lie in memory as the reading says. -/
import Derived.Test.YtknffngbdakblaaJG00
import Derived.Test.YtknffngbdakblaaJOwn
import Derived.Test.YtknffngbdakblaaJDrawRightR
import Derived.Test.YtknffngbdakblaaJDrawB
import Derived.Test.YtknffngbdakblaaJDraw1
import Derived.Test.YtknffngbdakblaaJCursor
import Derived.Test.YtknffngbdakblaaJG14
import Derived.Deep.RegionLaw
namespace Go.Proofs.Ytknffngbdakblaa
set_option linter.unusedSimpArgs false
set_option linter.unusedVariables false
set_option maxRecDepth 100000
open Go.RowKit Go.Deep
theorem OwnC.mono {w : World} {base base' n : Nat} {v : Value} (h : OwnC w base v n) (hb : base' ≤ base) : OwnC w base' v n := by
 obtain ⟨xs, h1, h2⟩ := h
 exact ⟨xs, own_mono h1 hb, h2⟩
theorem OwnSx88.mono {w : World} {base base' n : Nat} {v : Value} (h : OwnSx88 w base v n) (hb : base' ≤ base) : OwnSx88 w base' v n := by
 obtain ⟨xs, h1, h2⟩ := h
 refine ⟨xs, own_mono h1 hb, fun u hu => ?_⟩
 obtain ⟨m, m1, m2, h3⟩ := h2 u hu
 exact ⟨m, m1, m2, h3.mono hb⟩
theorem OwnI.sl {w : World} {base n : Nat} {v : Value} (h : OwnI w base v n) : ∃ (s : Option Addr) (c : Nat), v = .slice s n c := by
 obtain ⟨xs, h1, -⟩ := h
 exact own_sl h1
theorem OwnC.sl {w : World} {base n : Nat} {v : Value} (h : OwnC w base v n) : ∃ (s : Option Addr) (c : Nat), v = .slice s n c := by
 obtain ⟨xs, h1, -⟩ := h
 exact own_sl h1
theorem OwnSx88.sl {w : World} {base n : Nat} {v : Value} (h : OwnSx88 w base v n) : ∃ (s : Option Addr) (c : Nat), v = .slice s n c := by
 obtain ⟨xs, h1, -⟩ := h
 exact own_sl h1
theorem ent_pick (args : Array Value) (w : World) : (callFunc 13 args).run Try.prog w = .ok (.enter 13 args) w := by kernel_rfl
theorem ent_spoil (args : Array Value) (w : World) : (callFunc 19 args).run Try.prog w = .ok (.enter 19 args) w := by kernel_rfl
set_option maxRecDepth 100000 in
set_option maxHeartbeats 4000000 in
theorem drawRight_cb (p : Nat) (s : Option Addr) (n c : Nat) (w : World) (h : CB w p s n c) :
  Calls Try.prog 16 #[.pointer (some ⟨p, 0, none⟩)] w fun e w' => ∃ (v0 v1 : Value) (a b : Nat), e = .returned (.agg #[v0, v1]) ∧ OwnC w' w.heap.size v0 a ∧ OwnSx88 w' w.heap.size v1 b ∧ 1 ≤ a ∧ a ≤ 3 ∧ 1 ≤ b ∧ b ≤ 4 ∧ CB w' p s n c ∧ But p w w' := by
 have hp := h.lt
 have H0 : Hid (Pr w ((w.alloc (.cells #[.slice none 0 0, .slice none 0 0] 40)).alloc (.cells #[.slice none 0 0, .slice none 0 0] 40)) p s n c w.heap.size (.slice none 0 0) (.slice none 0 0)) := pr_new w p n c s _ _ _ _ _ _ h
 clear h
 go_enter Try.func16, Try.ntmps16
 go_wp2_with fail
 refine (below_cb p s n c 3 _ H0.out.cb (by omega) (by omega)).mono ?_
 rintro e w1 ⟨x, rfl, x0, x1, hc1, hb1⟩
 have H1 : Hid (Pr w w1 p s n c w.heap.size (.slice none 0 0) (.slice none 0 0)) := H0.out.step hc1 hb1
 clear hc1 hb1 H0
 go_wp2
 go_loopw [5] (fun i wr => ∃ (j : Nat) (v0 : Value), (j : Int) ≤ 1 + x ∧ i = .int .i64 j ∧ Pr w wr p s n c w.heap.size v0 (.slice none 0 0) ∧ OwnC wr (w.heap.size + 2) v0 j) (fun i _ => 4 - (intOf i).toNat)
 case atStart => exact ⟨0, _, by omega, rfl, H1.out, OwnC.nil _ _⟩
 case round =>
  obtain ⟨j, v0, hj, rfl, hpr, how⟩ := hrel
  have HP : Hid (Pr w wr p s n c w.heap.size v0 (.slice none 0 0)) := hpr
  have HW : Hid (OwnC wr (w.heap.size + 2) v0 j) := how
  clear hpr how
  by_cases hlt : (j : Int) < 1 + x
  ·have c0 := HP.out.c0
   go_wp2_with fail
   first | go_region_law (first | (refine app_caps (by rfl) _ _ (by rfl) w5 (IntKind.i64.wrap (1 + y)) (w.heap.size + 2) j v0 (by rfl) ((HW.out.keep (w' := wr.drew) (Below.drew (Below.refl _ _))).but hb5 (by omega)) (by rfl) (by omega) P5.lt ?_; intro g cap w6 ho6 hg6 hr6 hrow6; have P6 := (P5.alloc _).grown hg6 hr6; have d2 := P6.c0; have d3 := P6.fP) | (refine step_call 11 #[.pointer (some ⟨p, 0, none⟩), .int .i64 4] (by rfl) _ _ (by rfl) (by simp [go_sem]) ent_below ?_; refine (below_cb p s n c 4 wr.drew HP.out.drew.cb (by omega) (by omega)).mono ?_; rintro e w5 ⟨y, rfl, y0, y1, hc5, hb5⟩; have P5 := HP.out.drew.step hc5 hb5; have d0 := P5.c0; have l5 := P5.lt; refine ⟨_, rfl, ?_⟩)) | fail
   all_goals
    clear c0 d0 d2 d3
    have H6 : Hid (Pr w w6 p s n c w.heap.size v0 (.slice none 0 0)) := P6
    have O6 : Hid (OwnC w6 (w.heap.size + 2) (.slice (some ⟨g, 0, none⟩) (j + 1) cap) (j + 1)) := ho6
    clear P6 ho6 P5 hb5 hc5
    go_wp2
    go_roundw
    case rel => exact ⟨j + 1, _, by omega, by go_num, H6.out.set0 _, O6.out.low (by simp)⟩
    case measure => simp [intOf]; omega
  ·have hjx : Hid ((j : Int) = 1 + x) := by show _ = _; omega
   go_wp2
   go_loopw [6] (fun i wr => ∃ (k : Nat) (v1 : Value), k ≤ 4 ∧ i = .int .i64 k ∧ Pr w wr p s n c w.heap.size v0 v1 ∧ OwnC wr (w.heap.size + 2) v0 j ∧ OwnSx88 wr (w.heap.size + 2) v1 k) (fun i _ => 4 - (intOf i).toNat)
   case atStart => exact ⟨0, _, by omega, rfl, HP.out, HW.out, OwnSx88.nil _ _⟩
   case round =>
    obtain ⟨k, v1, hk, rfl, hpr, hoc, hos⟩ := hrel
    have P1 : Hid (Pr w wr p s n c w.heap.size v0 v1) := hpr
    have C1 : Hid (OwnC wr (w.heap.size + 2) v0 j) := hoc
    have S1 : Hid (OwnSx88 wr (w.heap.size + 2) v1 k) := hos
    clear hpr hoc hos HP HW
    go_wp2_with fail
    refine (below_cb p s n c 4 wr P1.out.cb (by omega) (by omega)).mono ?_
    rintro e w2 ⟨y, rfl, y0, y1, hc2, hb2⟩
    have P2 : Hid (Pr w w2 p s n c w.heap.size v0 v1) := P1.out.step hc2 hb2
    have C2 : Hid (OwnC w2 (w.heap.size + 2) v0 j) := C1.out.but hb2 (by omega)
    have S2 : Hid (OwnSx88 w2 (w.heap.size + 2) v1 k) := S1.out.but hb2 (by omega)
    clear hc2 hb2 P1 C1 S1
    by_cases hlt' : (k : Int) < 1 + y
    ·have c1 := P2.out.c1
     have l2 := P2.out.lt
     go_wp2_with fail
     first | go_region_law (first | (refine app_bods (by rfl) _ _ (by rfl) w5 (.slice sl m cp) m (w.heap.size + 2) k v1 (by rfl) ((S2.out.keep (w' := w2.drew) (Below.drew (Below.refl _ _))).but hb5 (by omega)) (ho5.mono (by simp; omega)) m1 m2 (by rfl) (by omega) l5 ?_; intro g cap w6 ho6 hg6 hr6 hrow6; have P6 := (P5.alloc _).grown hg6 hr6; have d2 := P6.c1; have d3 := P6.fP) | (refine step_call 20 #[.pointer (some ⟨p, 0, none⟩), .int .i64 (1 + x)] (by rfl) _ _ (by rfl) (by simp [go_sem]) ent_body ?_; refine (drawBody_cb p s n c (1 + x) w2.drew P2.out.drew.cb (by omega) (by omega)).mono ?_; rintro e w5 ⟨yv, m, rfl, ho5, m1, m2, hc5, hb5⟩; have P5 := P2.out.drew.step hc5 hb5; have d0 := P5.c1; have l5 := P5.lt; obtain ⟨sl, cp, rfl⟩ := ho5.sl; refine ⟨_, rfl, ?_⟩)) | fail
     all_goals
      clear c1 d0 d2 d3
      have H6 : Hid (Pr w w6 p s n c w.heap.size v0 v1) := P6
      have O6 : Hid (OwnSx88 w6 (w.heap.size + 2) (.slice (some ⟨g, 0, none⟩) (k + 1) cap) (k + 1)) := ho6
      have C6 : Hid (OwnC w6 (w.heap.size + 2) v0 j) := (((C2.out.keep (w' := w2.drew) (Below.drew (Below.refl _ _))).but hb5 (by omega)).keep ((Below.refl _ _).alloc (Nat.le_refl _) _)).far hg6 hrow6 (by decide)
      clear P6 ho6 P5 hb5 hc5 ho5
      go_wp2
      go_roundw
      case rel => exact ⟨k + 1, _, by omega, by go_num, H6.out.set1 _, C6.out.low (by simp), O6.out.low (by simp)⟩
      case measure => simp [intOf]; omega
    ·obtain ⟨s0, a0, rfl⟩ := C2.out.sl
     obtain ⟨s1, a1, rfl⟩ := S2.out.sl
     have c0 := P2.out.c0
     have c1 := P2.out.c1
     have l2 := P2.out.lt
     obtain ⟨q0, g0⟩ := Option.isSome_iff_exists.1 P2.out.r0
     obtain ⟨q1, g1⟩ := Option.isSome_iff_exists.1 P2.out.r1
     have fz := P2.out.fR
     have hjj := hjx.out
     have B2 : Hid (But p w w2) := P2.out.but
     have CB2 : Hid (CB w2 p s n c) := P2.out.cb
     go_wp2
     exact bodyPost_ret (v := .agg #[.slice s0 j a0, .slice s1 k a1]) (by simp [results, Try.results16, go_sem, g0, g1]) rfl ⟨_, _, j, k, rfl, ((C2.out.low (by simp)).low (by simp)).mono (by omega), ((S2.out.low (by simp)).low (by simp)).mono (by omega), by omega, by omega, by omega, by omega, (CB2.out.set hp).set hp, but_set1 (but_set1 B2.out (Nat.le_refl _)) (Nat.le_refl _)⟩
end Go.Proofs.Ytknffngbdakblaa
