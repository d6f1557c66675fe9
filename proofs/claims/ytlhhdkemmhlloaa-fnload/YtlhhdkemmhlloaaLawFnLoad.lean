/- The law FnLoad of the given statements: what is read of a drawn memory was written, is no older than what was known, and the view only grows. No condition. -/
import Derived.Test.YtlhhdkemmhlloaaDrawL6
import Derived.Test.YtlhhdkemmhlloaaPureLd
import Derived.Test.YtlhhdkemmhlloaaQuietC
namespace Go.Proofs.Ytlhhdkemmhlloaa
set_option linter.unusedSimpArgs false
set_option linter.unusedVariables false
set_option maxRecDepth 100000
open Go.ChangeShapes Go.WideShapes Go.ChangeAt Go.RowKit

theorem BM.below {w w' : World} {X : Nat} {v : Value} (h : BM w X v) (hb : Below w.heap.size w w') : BM w' X v := h.kept (hb.block X h.lt)
theorem Rw.ints {w : World} {s : Option Addr} {l : List Int} (h : Rw w s l) : Ints w s l := IntsR.ints h (Nat.le_refl _)
theorem fit_m {m : List (List WD)} (h : Fit6 m) : MFits m := by unfold Fit6 at h; unfold MFits; omega
theorem gSame (s s' : Option Addr) (c c' : Nat) (l l' : List Int) (w : World) (h : Rw w s l) (h' : Rw w s' l') (hl : l.length ≤ 24) (he : l = l') :
    Calls Try.prog 15 #[.slice s l.length c, .slice s' l'.length c'] w fun e w' => e = .returned (.bool true) ∧ Below w.heap.size w w' := by
  refine (sameInts_any s s' l l' c c' w h.ints h'.ints (by omega)).mono ?_
  rintro e w' ⟨rfl, n, rfl⟩
  exact ⟨by rw [decide_eq_true he], ⟨rfl, rfl, rfl, Nat.le_refl _, fun _ _ => rfl⟩⟩

theorem loadW_len {m : List (List WD)} {l : List Int} (cell late : Int) (hold : Bool) (hl : l.length ≤ 24) : (loadW m l cell late hold).length ≤ 24 := by
  by_cases hr : rightB m l cell = true
  · obtain ⟨k, r, rfl, hrt⟩ := right_of hr
    obtain ⟨j, x, e1, e2, e3, e4, -⟩ := hrt.at' late
    rw [loadW_yes (j := j) hr e1 e4]
    split
    · rw [join_len, List.length_set]; omega
    · rw [List.length_set]; exact hl
  · unfold loadW
    rw [if_neg hr]
    exact hl

set_option maxRecDepth 100000 in
set_option maxHeartbeats 8000000 in
theorem walkFnLoad (s : Option Addr) (n c : Nat) (w : World) (hb : Bytes w w.heap.size s n) (hn : n ≤ maxLen) : Calls Try.prog 4 #[.slice s n c] w fun e w' => e = .returned (.bool true) ∧ Below w.heap.size w w' := by
  have HB0 : Hid (Bytes w w.heap.size s n) := hb
  have HN : Hid (n ≤ maxLen) := hn
  clear hb hn
  go_enter Try.func4, Try.ntmps4
  by_cases hbig : 1048576 < n
  · go_wp2_with (go_at_call 7; refine (big_any _ _ _ _).mono ?_; rintro e w' ⟨rfl, hw⟩; have hw' := hw.symm; clear hw; subst hw'; rw [decide_eq_true hbig])
    go_ret
    exact ⟨rfl, Below.refl _ _⟩
  go_wp2_with (go_at_call 7; refine (big_any _ _ _ _).mono ?_; rintro e w' ⟨rfl, hw⟩; have hw' := hw.symm; clear hw; subst hw'; rw [decide_eq_false hbig])
  clear hbig
  refine (drawLoad_any s n c w HB0.out HN.out).mono ?_
  rintro e w1 ⟨sm, cm, m, sv, cv, l, cell, late, hold, rfl, hm1, hr1, hf, hl, q0, q1, hlate, hb1⟩
  have HF : Hid (Fit6 m) := hf
  have HL : Hid (l.length ≤ 24) := hl
  have HLT : Hid (late ≤ 9223372036854775807) := hlate
  have K1 : Hid (Below w.heap.size w w1) := hb1
  have M1 : Hid (Mw w1 sm m) := hm1
  have R1 : Hid (Rw w1 sv l) := hr1
  clear hf hl hb1 hm1 hr1 hlate
  go_wp2_with fail
  obtain ⟨W, hW⟩ : ∃ W, w1.alloc (.cells #[.slice sm m.length cm] 26) = W := ⟨_, rfl⟩
  have A0 : Below w1.heap.size w1 W := by rw [← hW]; exact (Below.refl _ _).alloc (Nat.le_refl _) _
  have X2 : Hid (BM W w1.heap.size (.slice sm m.length cm)) := by show BM _ _ _; rw [← hW]; exact BM.new
  have K2 : Hid (Below w.heap.size w W) := K1.out.trans (A0.mono K1.out.size)
  have M2 : Hid (Mw W sm m) := M1.out.below A0
  have R2 : Hid (Rw W sv l) := R1.out.below A0
  rw [hW]
  clear hW A0 K1 M1 R1
  generalize w1.heap.size = X at X2 ⊢
  obtain ⟨q, hq⟩ : ∃ q, loadV m l cell late = q := ⟨_, rfl⟩
  obtain ⟨L, hL⟩ : ∃ L, loadW m l cell late hold = L := ⟨_, rfl⟩
  have EQ : Hid (loadV m l cell late = q) := hq
  have EL : Hid (loadW m l cell late hold = L) := hL
  have LL : Hid (L.length ≤ 24) := by show _ ≤ _; rw [← hL]; exact loadW_len cell late hold HL.out
  clear hq hL
  refine (gLoadI sm sv cm cv m l L cell late q hold W M2.out R2.out (by have := HL.out; omega) (fit_m HF.out) HLT.out EL.out EQ.out).mono ?_
  rintro e w3 ⟨s4, c4, rfl, hr3, hb3⟩
  have X3 : Hid (BM w3 X (.slice sm m.length cm)) := X2.out.below hb3
  have K3 : Hid (Below w.heap.size w w3) := K2.out.trans (hb3.mono K2.out.size)
  have M3 : Hid (Mw w3 sm m) := M2.out.below hb3
  have R3 : Hid (Rw w3 sv l) := R2.out.below hb3
  have V3 : Hid (Rw w3 s4 L) := hr3
  clear hr3 hb3 X2 K2 M2 R2
  have x0 := X3.out.c0
  have xl := X3.out.lt
  go_wp2_with fail
  refine (gLoadS sm sv cm cv m l L cell late q hold w3 M3.out R3.out (by have := HL.out; omega) (fit_m HF.out) HLT.out EL.out EQ.out).mono ?_
  rintro e w5 ⟨s6, c6, rfl, hr5, hb5⟩
  have X5 : Hid (BM w5 X (.slice sm m.length cm)) := X3.out.below hb5
  have K5 : Hid (Below w.heap.size w w5) := K3.out.trans (hb5.mono K3.out.size)
  have M5 : Hid (Mw w5 sm m) := M3.out.below hb5
  have R5 : Hid (Rw w5 sv l) := R3.out.below hb5
  have V5 : Hid (Rw w5 s4 L) := V3.out.below hb5
  have W5 : Hid (Rw w5 s6 L) := hr5
  clear hr5 hb5 X3 K3 M3 R3 V3 x0 xl
  have x0 := X5.out.c0
  have xl := X5.out.lt
  go_wp2_with fail
  obtain ⟨b1, hb1⟩ : ∃ b, memB m = b := ⟨_, rfl⟩
  obtain ⟨b2, hb2⟩ : ∃ b, viewB m l = b := ⟨_, rfl⟩
  have HM : Hid (memB m = b1) := hb1
  have HV : Hid (viewB m l = b2) := hb2
  clear hb1 hb2
  have hne := ext_ne w5
  have u0 := Ext.fit x0 xl
  have nq : (q != q) = false := by simp
  have n1 : (b1 != b1) = false := by simp
  have n2 : (b2 != b2) = false := by simp
  refine regionExt w5 (by kernel_rfl) (by kernel_rfl) ?_
  repeat (go_big_quiet_step (first | (rename_i Y; go_at_call 15; refine (gSame s4 s6 c4 c6 L L Y.w (V5.out.below Y.b) (W5.out.below Y.b) LL.out rfl).mono ?_; rintro e wy ⟨rfl, hby⟩; exact ⟨rfl, Y.on hby⟩) | (rename_i Y; go_at_call 16; refine (gMemI sm cm m b1 Y.w (M5.out.below Y.b) (fit_m HF.out) HM.out).mono ?_; rintro e wy ⟨rfl, hby⟩; exact ⟨rfl, Y.on hby⟩) | (rename_i Y; go_at_call 17; refine (gMemS sm cm m b1 Y.w (M5.out.below Y.b) (fit_m HF.out) HM.out).mono ?_; rintro e wy ⟨rfl, hby⟩; exact ⟨rfl, Y.on hby⟩) | (rename_i Y; go_at_call 18; refine (gViewI sm sv cm cv m l b2 Y.w (M5.out.below Y.b) (R5.out.below Y.b) (by have := HL.out; omega) HV.out).mono ?_; rintro e wy ⟨rfl, hby⟩; exact ⟨rfl, Y.on hby⟩) | (rename_i Y; go_at_call 19; refine (gViewS sm sv cm cv m l b2 Y.w (M5.out.below Y.b) (R5.out.below Y.b) (by have := HL.out; omega) (fit_m HF.out) HV.out).mono ?_; rintro e wy ⟨rfl, hby⟩; exact ⟨rfl, Y.on hby⟩)))
  refine wpQuiet_nil ?_
  rintro w7 ⟨X3, rfl⟩
  have hb7 : Below w5.heap.size w5 X3.w := X3.b
  have X7 : Hid (BM X3.w X (.slice sm m.length cm)) := X5.out.below hb7
  have M7 : Hid (Mw X3.w sm m) := M5.out.below hb7
  have R7 : Hid (Rw X3.w sv l) := R5.out.below hb7
  have V7 : Hid (Rw X3.w s4 L) := V5.out.below hb7
  have K7 : Hid (Below w.heap.size w X3.w) := K5.out.trans (hb7.mono K5.out.size)
  clear X5 M5 R5 V5 K5
  generalize X3.w = w7 at X7 M7 R7 V7 K7 ⊢
  clear hb7 W5 hne u0 x0 xl
  have x0 := X7.out.c0
  have xl := X7.out.lt
  cases hr : rightB m l cell
  · have ELl : Hid (L = l) := by show L = l; rw [← EL.out]; unfold loadW; rw [hr]; rfl
    have EQ0 : q = 0 := by rw [← EQ.out]; unfold loadV; rw [hr]; rfl
    subst EQ0
    have HR : Hid (rightB m l cell = false) := hr
    clear hr
    cases b1
    · go_wp2_with fail
      refine (gMemS sm cm m false w7 M7.out (fit_m HF.out) HM.out).mono ?_
      rintro e w8 ⟨rfl, hb8⟩
      have X8 : Hid (BM w8 X (.slice sm m.length cm)) := X7.out.below hb8
      have M8 : Hid (Mw w8 sm m) := M7.out.below hb8
      have R8 : Hid (Rw w8 sv l) := R7.out.below hb8
      have V8 : Hid (Rw w8 s4 L) := V7.out.below hb8
      have K8 : Hid (Below w.heap.size w w8) := K7.out.trans (hb8.mono K7.out.size)
      clear X7 M7 R7 V7 K7
      clear hb8
      clear x0 xl
      have x0 := X8.out.c0
      have xl := X8.out.lt
      go_wp2_with fail
      refine (gSame s4 sv c4 cv L l w8 V8.out R8.out LL.out ELl.out).mono ?_
      rintro e wz ⟨rfl, hbz⟩
      have Kz : Hid (Below w.heap.size w wz) := K8.out.trans (hbz.mono K8.out.size)
      clear hbz
      go_wp2
      go_ret
      exact ⟨rfl, Kz.out⟩
    cases b2
    · go_wp2_with fail
      refine (gMemS sm cm m true w7 M7.out (fit_m HF.out) HM.out).mono ?_
      rintro e w8 ⟨rfl, hb8⟩
      have X8 : Hid (BM w8 X (.slice sm m.length cm)) := X7.out.below hb8
      have M8 : Hid (Mw w8 sm m) := M7.out.below hb8
      have R8 : Hid (Rw w8 sv l) := R7.out.below hb8
      have V8 : Hid (Rw w8 s4 L) := V7.out.below hb8
      have K8 : Hid (Below w.heap.size w w8) := K7.out.trans (hb8.mono K7.out.size)
      clear X7 M7 R7 V7 K7
      clear hb8
      clear x0 xl
      have x0 := X8.out.c0
      have xl := X8.out.lt
      go_wp2_with fail
      refine (gViewS sm sv cm cv m l false w8 M8.out R8.out (by have := HL.out; omega) (fit_m HF.out) HV.out).mono ?_
      rintro e w9 ⟨rfl, hb9⟩
      have X9 : Hid (BM w9 X (.slice sm m.length cm)) := X8.out.below hb9
      have M9 : Hid (Mw w9 sm m) := M8.out.below hb9
      have R9 : Hid (Rw w9 sv l) := R8.out.below hb9
      have V9 : Hid (Rw w9 s4 L) := V8.out.below hb9
      have K9 : Hid (Below w.heap.size w w9) := K8.out.trans (hb9.mono K8.out.size)
      clear X8 M8 R8 V8 K8
      clear hb9
      clear x0 xl
      have x0 := X9.out.c0
      have xl := X9.out.lt
      go_wp2_with fail
      refine (gSame s4 sv c4 cv L l w9 V9.out R9.out LL.out ELl.out).mono ?_
      rintro e wz ⟨rfl, hbz⟩
      have Kz : Hid (Below w.heap.size w wz) := K9.out.trans (hbz.mono K9.out.size)
      clear hbz
      go_wp2
      go_ret
      exact ⟨rfl, Kz.out⟩
    have hcell : cell < 0 ∨ 24 ≤ cell := by
      have h3 := HR.out
      unfold rightB at h3
      rw [HM.out, HV.out] at h3
      simp at h3
      omega
    by_cases hc0 : cell < 0
    all_goals
      go_wp2_with fail
      refine (gMemS sm cm m true w7 M7.out (fit_m HF.out) HM.out).mono ?_
      rintro e w8 ⟨rfl, hb8⟩
      have X8 : Hid (BM w8 X (.slice sm m.length cm)) := X7.out.below hb8
      have M8 : Hid (Mw w8 sm m) := M7.out.below hb8
      have R8 : Hid (Rw w8 sv l) := R7.out.below hb8
      have V8 : Hid (Rw w8 s4 L) := V7.out.below hb8
      have K8 : Hid (Below w.heap.size w w8) := K7.out.trans (hb8.mono K7.out.size)
      clear X7 M7 R7 V7 K7
      clear hb8
      clear x0 xl
      have x0 := X8.out.c0
      have xl := X8.out.lt
      go_wp2_with fail
      refine (gViewS sm sv cm cv m l true w8 M8.out R8.out (by have := HL.out; omega) (fit_m HF.out) HV.out).mono ?_
      rintro e w9 ⟨rfl, hb9⟩
      have X9 : Hid (BM w9 X (.slice sm m.length cm)) := X8.out.below hb9
      have M9 : Hid (Mw w9 sm m) := M8.out.below hb9
      have R9 : Hid (Rw w9 sv l) := R8.out.below hb9
      have V9 : Hid (Rw w9 s4 L) := V8.out.below hb9
      have K9 : Hid (Below w.heap.size w w9) := K8.out.trans (hb9.mono K8.out.size)
      clear X8 M8 R8 V8 K8
      clear hb9
      clear x0 xl
      have x0 := X9.out.c0
      have xl := X9.out.lt
      try (have hc3 : 24 ≤ cell := by omega)
      clear hcell
      go_wp2_with fail
      refine (gSame s4 sv c4 cv L l w9 V9.out R9.out LL.out ELl.out).mono ?_
      rintro e wz ⟨rfl, hbz⟩
      have Kz : Hid (Below w.heap.size w wz) := K9.out.trans (hbz.mono K9.out.size)
      clear hbz
      go_wp2
      go_ret
      exact ⟨rfl, Kz.out⟩
  · have HR : Hid (rightB m l cell = true) := hr
    clear hr
    obtain ⟨h1, h2, hc0, hc1⟩ := right_parts HR.out
    have e1 : b1 = true := HM.out.symm.trans h1
    have e2 : b2 = true := HV.out.symm.trans h2
    subst e1 e2
    clear h1 h2
    go_wp2_with fail
    refine (gMemS sm cm m true w7 M7.out (fit_m HF.out) HM.out).mono ?_
    rintro e w8 ⟨rfl, hb8⟩
    have X8 : Hid (BM w8 X (.slice sm m.length cm)) := X7.out.below hb8
    have M8 : Hid (Mw w8 sm m) := M7.out.below hb8
    have R8 : Hid (Rw w8 sv l) := R7.out.below hb8
    have V8 : Hid (Rw w8 s4 L) := V7.out.below hb8
    have K8 : Hid (Below w.heap.size w w8) := K7.out.trans (hb8.mono K7.out.size)
    clear X7 M7 R7 V7 K7
    clear hb8
    clear x0 xl
    have x0 := X8.out.c0
    have xl := X8.out.lt
    go_wp2_with fail
    refine (gViewS sm sv cm cv m l true w8 M8.out R8.out (by have := HL.out; omega) (fit_m HF.out) HV.out).mono ?_
    rintro e w9 ⟨rfl, hb9⟩
    have X9 : Hid (BM w9 X (.slice sm m.length cm)) := X8.out.below hb9
    have M9 : Hid (Mw w9 sm m) := M8.out.below hb9
    have R9 : Hid (Rw w9 sv l) := R8.out.below hb9
    have V9 : Hid (Rw w9 s4 L) := V8.out.below hb9
    have K9 : Hid (Below w.heap.size w w9) := K8.out.trans (hb9.mono K8.out.size)
    clear X8 M8 R8 V8 K8
    clear hb9
    clear x0 xl
    have x0 := X9.out.c0
    have xl := X9.out.lt
    obtain ⟨k, r, j, x, a, hck, hrt, g1, g2, g3, g4, g5, g6, g7⟩ := load_facts (late := late) (hold := hold) HR.out
    subst hck
    have EX : Hid (x.v = q) := g2.symm.trans EQ.out
    have F5 : Hid (knowsB L l = true) := by show knowsB L l = true; rw [← EL.out]; exact g5
    have F6 : Hid (viewB m L = true) := by show viewB m L = true; rw [← EL.out]; exact g6
    have F7 : Hid (late ≤ 0 → j = r.length - 1) := g7
    have FJ : Hid (r[j]? = some x) := g1
    have FA : Hid (a ≤ j) := g4
    have HRT : Hid (Rt m l k r) := hrt
    have hjr : j < r.length := (List.getElem?_eq_some_iff.1 g1).1
    have har : a < r.length := by omega
    obtain ⟨gm, om, s1, cr, ea, -, a2, a3, a4⟩ := M9.out.row hrt.hr
    subst ea
    obtain ⟨gr, orr, es, -, a6, a7⟩ : ∃ g o, s1 = some ⟨g, o, none⟩ ∧ 0 ≤ g ∧ g < w9.heap.size ∧ ∀ (i : Nat) (y : WD), r[i]? = some y → w9.cell? ⟨g, o + i * 2, none⟩ = some (.int .i64 y.v) := by
      rcases a4 with h0 | ⟨g, o, e1, e2, e3, e4⟩
      · rw [h0] at har; simp at har
      · exact ⟨g, o, e1, Nat.zero_le _, e3, fun i y hy => by obtain ⟨s', c', h1, -⟩ := e4 i y hy; exact h1⟩
    subst es
    obtain ⟨gv, ov, ev, b3, b4⟩ : ∃ g o, sv = some ⟨g, o, none⟩ ∧ g < w9.heap.size ∧ w9.cell? ⟨g, o + k, none⟩ = some (.int .i64 (a : Int)) := by
      rcases R9.out with h0 | ⟨g, o, e1, -, e3, e4⟩
      · have := hrt.hl; rw [h0] at this; simp at this
      · exact ⟨g, o, e1, e3, by rw [e4 k (by rw [hrt.hl]; exact hrt.hk), g3]⟩
    subst ev
    obtain ⟨xl', hxl⟩ : ∃ y, r[r.length - 1]? = some y := ⟨_, List.getElem?_eq_getElem (by omega)⟩
    have A7 : Hid (∀ (i : Nat) (y : WD), r[i]? = some y → w9.cell? ⟨gr, orr + i * 2, none⟩ = some (.int .i64 y.v)) := a7
    have lastC := a7 (r.length - 1) xl' hxl
    have LASTX : Hid (r[r.length - 1]? = some xl') := hxl
    have i1 : (k : Int) < (m.length : Int) := by have := hrt.hm; have := hrt.hk; omega
    have i2 : (k : Int) < (l.length : Int) := by have := hrt.hl; have := hrt.hk; omega
    have i3 : (0 : Int) ≤ (r.length : Int) - 1 := by omega
    have i4 : (r.length : Int) - 1 < (r.length : Int) := by omega
    have i5 : (1 : Int) ≤ (r.length : Int) := by omega
    have i6 : (r.length : Int) ≤ 4000 := by have := hrt.n2; omega
    have i7 : (0 : Int) ≤ (k : Int) := by omega
    have i8 : (k : Int) < 24 := hc1
    have A2 : gm < w9.heap.size := a2
    clear g1 g2 g3 g4 g5 g6 g7 hrt a7 hxl a4
    go_wp2
    go_quiet (fail)
    go_wp2
    go_loopw [13, 14] (fun th i wr => ∃ t : Nat, a ≤ t ∧ t ≤ r.length ∧ i = .int .i64 t ∧ th = .bool (tB r q a t) ∧ Below w9.heap.size w9 wr) (fun _ i _ => r.length - (intOf i).toNat)
    case atStart => exact ⟨a, Nat.le_refl _, by omega, rfl, by rw [tB_start], belowQ (Below.refl _ _) _⟩
    case round =>
      obtain ⟨t, t1, t2, rfl, rfl, hbr⟩ := hrel
      have HBR : Hid (Below w9.heap.size w9 wr) := hbr
      have x0r := (X9.out.below hbr).c0
      have xlr := (X9.out.below hbr).lt
      have a3r := (hbr.cell (p := ⟨gm, om + k, none⟩) A2).trans a3
      have a2r : gm < wr.heap.size := Nat.lt_of_lt_of_le A2 hbr.size
      have a6r : gr < wr.heap.size := Nat.lt_of_lt_of_le a6 hbr.size
      clear x0 xl a3
      by_cases hlt : t < r.length
      · obtain ⟨y, hy⟩ : ∃ y, r[t]? = some y := ⟨_, List.getElem?_eq_getElem hlt⟩
        have cy := (hbr.cell (p := ⟨gr, orr + t * 2, none⟩) a6).trans (A7.out t y hy)
        have i9 : (t : Int) < (r.length : Int) := by omega
        have i10 : (0 : Int) ≤ (t : Int) := by omega
        have HS : Hid (tB r q a (t + 1) = (tB r q a t || (y.v == q))) := tB_step hy t1
        clear hbr hy
        cases htb : tB r q a t
        · rw [htb] at HS
          clear htb
          go_wp2
          go_roundw
          case rel => exact ⟨t + 1, by omega, by omega, by go_num, by rw [HS.out]; simp, HBR.out⟩
          case measure => simp [intOf]; omega
        · rw [htb] at HS
          clear htb
          go_wp2
          go_roundw
          case rel => exact ⟨t + 1, by omega, by omega, by go_num, by rw [HS.out]; simp, HBR.out⟩
          case measure => simp [intOf]; omega
      · have et : t = r.length := by omega
        have i9 : ¬ (t : Int) < (r.length : Int) := by omega
        have htb : tB r q a t = true := by rw [et]; exact tB_end FJ.out FA.out EX.out
        rw [htb]
        clear et htb hbr
        go_wp2_with fail
        have Vr : Hid (Rw wr s4 L) := V9.out.below HBR.out
        have Rr : Hid (Rw wr (some ⟨gv, ov, none⟩) l) := R9.out.below HBR.out
        have Mr : Hid (Mw wr (some ⟨gm, om, none⟩) m) := M9.out.below HBR.out
        have Xr : Hid (BM wr X (.slice (some ⟨gm, om, none⟩) m.length cm)) := X9.out.below HBR.out
        have Kr : Hid (Below w.heap.size w wr) := K9.out.trans (HBR.out.mono K9.out.size)
        have LQ : Hid (late ≤ 0 → xl'.v = q) := fun h => by
          have e := F7.out h
          have e2 := LASTX.out
          rw [← e, FJ.out] at e2
          injection e2 with e2
          rw [← e2]
          exact EX.out
        refine (gKnows s4 (some ⟨gv, ov, none⟩) c4 cv L l true wr Vr.out Rr.out (by have := LL.out; omega) F5.out).mono ?_
        rintro e wt ⟨rfl, hbt⟩
        have Vt : Hid (Rw wt s4 L) := Vr.out.below hbt
        have Mt : Hid (Mw wt (some ⟨gm, om, none⟩) m) := Mr.out.below hbt
        have Xt : Hid (BM wt X (.slice (some ⟨gm, om, none⟩) m.length cm)) := Xr.out.below hbt
        have Kt : Hid (Below w.heap.size w wt) := Kr.out.trans (hbt.mono Kr.out.size)
        clear hbt x0r xlr a3r a2r a6r
        have x0t := Xt.out.c0
        have xlt := Xt.out.lt
        go_wp2_with fail
        refine (gViewI (some ⟨gm, om, none⟩) s4 cm c4 m L true wt Mt.out Vt.out (by have := LL.out; omega) F6.out).mono ?_
        rintro e wu ⟨rfl, hbu⟩
        have Ku : Hid (Below w.heap.size w wu) := Kt.out.trans (hbu.mono Kt.out.size)
        clear hbu
        by_cases hl0 : 0 < late
        · go_wp2
          go_ret
          exact ⟨rfl, Ku.out⟩
        · have hqe : (q == xl'.v) = true := by rw [LQ.out (by omega)]; simp
          go_wp2
          go_ret
          exact ⟨rfl, Ku.out⟩

set_option maxRecDepth 100000 in
theorem liftedFnLoad (os : Os) (started : os.Started) (H : Type) (enc : TypeId × Value → H) :
    ReturnsInHanded {} Try.checked os 4 .any (Rows.fnLoadSpec.pre6 enc Try.prog Try.f4 Rows.fnLoadRow.domain false) (Rows.fnLoadSpec.post enc Try.prog Try.f4 false true false false) := by
  refine returnsInHanded_of_change (C := Try.checked) ownS started (by kernel_rfl) Try.func4
    (ChangeSpec.witness6 (enc := enc) (C := Try.checked) false ⟨#[], #[.slice none 0 0], []⟩ 8 (by kernel_rfl) (by kernel_rfl) (by kernel_rfl) (by kernel_rfl)) ?_
  intro W base args ds gs before hval0 hW hcnd _
  have hval : ∀ (j : Nat) t v, Try.f4.params[j]? = some t → args[j]? = some v → Value.okWide Try.prog W .any base t v := hval0
  have hW' := hW
  obtain ⟨p, q, hA0, hV, rfl, hfz, hnd⟩ := hW
  have hA : DataW.TrodAll enc Try.prog W 0 (fun _ => true) true Try.f4.params.toList args.toList ds p := hA0
  rw [Try.params4] at hA hval
  obtain ⟨v0, d0, hargs, rfl, h0⟩ := trodAll_one hA
  obtain rfl : args = #[v0] := by cases args; simp_all
  obtain ⟨rfl, rfl⟩ := trodVars_none hV
  have k0 := h0
  have lt0 : ∀ x ∈ p, x.block < W.heap.size := by obtain ⟨m, hm⟩ := k0; exact DataW.trod_lt m _ _ _ hm
  obtain ⟨s, n, c, rfl, hn, hB⟩ := bytes_read (hval 0 22 v0 rfl rfl) h0
  clear hA0 hval0
  refine (walkFnLoad s n c W hB hn).mono fun e W' ⟨he, bel⟩ => ?_
  subst he
  exact ⟨_, rfl, _, _, _, [], _, [], hW', trodAll_mk1 (shut_bool Try.underlying4 _), trodAll_mk1 (Below.trod laidOutS (by kernel_rfl) (of_decide_eq_true (by kernel_rfl)) k0 bel lt0), rfl, bel.frame _, fun h => by cases h⟩

theorem fnLoad_holds : Rows.FnLoadSaid :=
  OpenClaim.holds_of_wide 4 Try.f4 rfl rfl rfl rfl rfl rfl rfl ⟨rfl, rfl, rfl, rfl, rfl⟩ rfl rfl rfl rfl rfl (by kernel_rfl) Try.func4 (by kernel_rfl)
    (of_decide_eq_true (by kernel_rfl)) (by unfold Func.isWrapper; first | (rw [if_pos (by decide +kernel)]; kernel_rfl) | (rw [if_neg (by decide +kernel)]; exact ⟨rfl, rfl⟩))
    (fun os started H enc _ => liftedFnLoad os started H enc)
#print axioms fnLoad_holds

end Go.Proofs.Ytlhhdkemmhlloaa
