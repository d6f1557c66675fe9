/- The law FnSwap of the given statements: what is swapped in a drawn memory is the last number, and the new one is last then. No condition. -/
import Derived.Test.YtlhhdkemmhlloaaDrawW6
import Derived.Test.YtlhhdkemmhlloaaPureSw
namespace Go.Proofs.Ytlhhdkemmhlloaa
set_option linter.unusedSimpArgs false
set_option linter.unusedVariables false
set_option maxRecDepth 100000
open Go.ChangeShapes Go.WideShapes Go.ChangeAt Go.RowKit

theorem BM.below {w w' : World} {X : Nat} {v : Value} (h : BM w X v) (hb : Below w.heap.size w w') : BM w' X v := h.kept (hb.block X h.lt)
theorem Rw.ints {w : World} {s : Option Addr} {l : List Int} (h : Rw w s l) : Ints w s l := IntsR.ints h (Nat.le_refl _)
theorem fit_m {m : List (List WD)} (h : Fit6 m) : MFits m := by unfold Fit6 at h; unfold MFits; omega
theorem fit_sw {m : List (List WD)} {l : List Int} (cell v : Int) (h : Fit6 m) (hl : l.length ≤ 24) : MFits (swM m l cell v) ∧ (swW m l cell).length ≤ 24 := by
  by_cases hc : canB m l cell = true
  · have hr : rightB m l cell = true := by unfold canB at hc; rw [Bool.and_eq_true] at hc; exact hc.1
    obtain ⟨k, r, rfl, hrt⟩ := right_of hr
    obtain ⟨j, x, e1, e2, e3, e4, e5⟩ := hrt.at' 0
    have hload : loadW m l k 0 true = joinL (l.set k j) x.vw := by rw [loadW_yes (j := j) hr e1 e4, if_pos rfl]
    have hsl : (swL m l k).length ≤ 24 := by
      unfold swL
      rw [hload, join_len, List.length_set]
      omega
    unfold swM swW
    rw [if_pos hc, if_pos hc, hrt.row, Int.toNat_natCast]
    refine ⟨?_, by rw [List.length_set]; exact hsl⟩
    unfold MFits
    rw [szR_set _ m k r hrt.hr, List.length_set, List.length_set]
    unfold Fit6 at h
    omega
  · obtain ⟨e1, e2, e3⟩ := sw_no (v := v) (show canB m l cell = false by simpa using hc)
    rw [e1, e2]
    exact ⟨fit_m h, hl⟩
theorem gSame (s s' : Option Addr) (c c' : Nat) (l l' : List Int) (w : World) (h : Rw w s l) (h' : Rw w s' l') (hl : l.length ≤ 24) (he : l = l') :
    Calls Try.prog 15 #[.slice s l.length c, .slice s' l'.length c'] w fun e w' => e = .returned (.bool true) ∧ Below w.heap.size w w' := by
  refine (sameInts_any s s' l l' c c' w h.ints h'.ints (by omega)).mono ?_
  rintro e w' ⟨rfl, n, rfl⟩
  exact ⟨by rw [decide_eq_true he], ⟨rfl, rfl, rfl, Nat.le_refl _, fun _ _ => rfl⟩⟩

set_option maxRecDepth 100000 in
set_option maxHeartbeats 8000000 in
theorem walkFnSwap (s : Option Addr) (n c : Nat) (w : World) (hb : Bytes w w.heap.size s n) (hn : n ≤ maxLen) : Calls Try.prog 6 #[.slice s n c] w fun e w' => e = .returned (.bool true) ∧ Below w.heap.size w w' := by
  have HB0 : Hid (Bytes w w.heap.size s n) := hb
  have HN : Hid (n ≤ maxLen) := hn
  clear hb hn
  go_enter Try.func6, Try.ntmps6
  by_cases hbig : 1048576 < n
  · go_wp2_with (go_at_call 7; refine (big_any _ _ _ _).mono ?_; rintro e w' ⟨rfl, hw⟩; have hw' := hw.symm; clear hw; subst hw'; rw [decide_eq_true hbig])
    go_ret
    exact ⟨rfl, Below.refl _ _⟩
  go_wp2_with (go_at_call 7; refine (big_any _ _ _ _).mono ?_; rintro e w' ⟨rfl, hw⟩; have hw' := hw.symm; clear hw; subst hw'; rw [decide_eq_false hbig])
  clear hbig
  refine (drawSwap_any s n c w HB0.out HN.out).mono ?_
  rintro e w1 ⟨sm, cm, m, sv, cv, l, cell, z, rfl, hm1, hr1, hf, hl, q0, q1, hb1⟩
  have HF : Hid (Fit6 m) := hf
  have HL : Hid (l.length ≤ 24) := hl
  have K1 : Hid (Below w.heap.size w w1) := hb1
  have M1 : Hid (Mw w1 sm m) := hm1
  have R1 : Hid (Rw w1 sv l) := hr1
  clear hf hl hb1 hm1 hr1
  go_wp2_with fail
  obtain ⟨W, hW⟩ : ∃ W, w1.alloc (.cells #[.slice sm m.length cm] 26) = W := ⟨_, rfl⟩
  have A0 : Below w1.heap.size w1 W := by rw [← hW]; exact (Below.refl _ _).alloc (Nat.le_refl _) _
  have X1 : Hid (BM W w1.heap.size (.slice sm m.length cm)) := by show BM _ _ _; rw [← hW]; exact BM.new
  have K2 : Hid (Below w.heap.size w W) := K1.out.trans (A0.mono K1.out.size)
  have M2 : Hid (Mw W sm m) := M1.out.below A0
  have R2 : Hid (Rw W sv l) := R1.out.below A0
  rw [hW]
  clear hW A0 K1 M1 R1
  generalize w1.heap.size = X at X1 ⊢
  obtain ⟨M, hM⟩ : ∃ M, swM m l cell z = M := ⟨_, rfl⟩
  obtain ⟨L, hL⟩ : ∃ L, swW m l cell = L := ⟨_, rfl⟩
  obtain ⟨q, hq⟩ : ∃ q, swV m l cell = q := ⟨_, rfl⟩
  have EQ : Hid (swV m l cell = q) := hq
  clear hq
  have EM : Hid (swM m l cell z = M) := hM
  have EL : Hid (swW m l cell = L) := hL
  have FM : Hid (MFits M) := by show MFits _; rw [← hM]; exact (fit_sw cell z HF.out HL.out).1
  have LL : Hid (L.length ≤ 24) := by show _ ≤ _; rw [← hL]; exact (fit_sw cell z HF.out HL.out).2
  clear hM hL
  refine (gSwapI sm sv cm cv m M l L cell z q W M2.out R2.out (by have := HL.out; omega) (fit_m HF.out) EM.out EL.out EQ.out).mono ?_
  rintro e w3 ⟨s3, c3, s4, c4, rfl, hm3, hr3, hb3⟩
  have X3 : Hid (BM w3 X (.slice sm m.length cm)) := X1.out.below hb3
  have K3 : Hid (Below w.heap.size w w3) := K2.out.trans (hb3.mono K2.out.size)
  have M3 : Hid (Mw w3 sm m) := M2.out.below hb3
  have R3 : Hid (Rw w3 sv l) := R2.out.below hb3
  have N3 : Hid (Mw w3 s3 M) := mw_of hm3 (Nat.le_refl _)
  have V3 : Hid (Rw w3 s4 L) := hr3
  clear hm3 hr3 hb3 X1 K2 M2 R2
  have x0 := X3.out.c0
  have xl := X3.out.lt
  go_wp2_with fail
  obtain ⟨U, hU⟩ : ∃ W, w3.alloc (.cells #[.slice s3 M.length c3] 26) = W := ⟨_, rfl⟩
  have A0 : Below w3.heap.size w3 U := by rw [← hU]; exact (Below.refl _ _).alloc (Nat.le_refl _) _
  have Y4 : Hid (BM U w3.heap.size (.slice s3 M.length c3)) := by show BM _ _ _; rw [← hU]; exact BM.new
  have X4 : Hid (BM U X (.slice sm m.length cm)) := X3.out.below A0
  have K4 : Hid (Below w.heap.size w U) := K3.out.trans (A0.mono K3.out.size)
  have M4 : Hid (Mw U sm m) := M3.out.below A0
  have R4 : Hid (Rw U sv l) := R3.out.below A0
  have N4 : Hid (Mw U s3 M) := N3.out.below A0
  have V4 : Hid (Rw U s4 L) := V3.out.below A0
  rw [hU]
  clear hU A0 K3 M3 R3 N3 V3 X3 x0 xl
  generalize w3.heap.size = Y at Y4 ⊢
  refine (gSwapS sm sv cm cv m M l L cell z q U M4.out R4.out (by have := HL.out; omega) (fit_m HF.out) EM.out EL.out EQ.out).mono ?_
  rintro e w5 ⟨s5, c5, s6, c6, rfl, hm5, hr5, hb5⟩
  have X5 : Hid (BM w5 X (.slice sm m.length cm)) := X4.out.below hb5
  have Y5 : Hid (BM w5 Y (.slice s3 M.length c3)) := Y4.out.below hb5
  have K5 : Hid (Below w.heap.size w w5) := K4.out.trans (hb5.mono K4.out.size)
  have M5 : Hid (Mw w5 sm m) := M4.out.below hb5
  have R5 : Hid (Rw w5 sv l) := R4.out.below hb5
  have N5 : Hid (Mw w5 s3 M) := N4.out.below hb5
  have V5 : Hid (Rw w5 s4 L) := V4.out.below hb5
  have W5 : Hid (Rw w5 s6 L) := hr5
  clear hm5 hr5 hb5 X4 Y4 K4 M4 R4 N4 V4
  go_wp2_with fail
  obtain ⟨T, hT⟩ : ∃ W, w5.alloc (.cells #[.slice s5 M.length c5] 26) = W := ⟨_, rfl⟩
  have A0 : Below w5.heap.size w5 T := by rw [← hT]; exact (Below.refl _ _).alloc (Nat.le_refl _) _
  have Z6 : Hid (BM T w5.heap.size (.slice s5 M.length c5)) := by show BM _ _ _; rw [← hT]; exact BM.new
  have X6 : Hid (BM T X (.slice sm m.length cm)) := X5.out.below A0
  have Y6 : Hid (BM T Y (.slice s3 M.length c3)) := Y5.out.below A0
  have K6 : Hid (Below w.heap.size w T) := K5.out.trans (A0.mono K5.out.size)
  have M6 : Hid (Mw T sm m) := M5.out.below A0
  have R6 : Hid (Rw T sv l) := R5.out.below A0
  have N6 : Hid (Mw T s3 M) := N5.out.below A0
  have V6 : Hid (Rw T s4 L) := V5.out.below A0
  have W6 : Hid (Rw T s6 L) := W5.out.below A0
  rw [hT]
  clear hT A0 K5 M5 R5 N5 V5 W5 X5 Y5
  generalize w5.heap.size = Z at Z6 ⊢
  refine (gSame s4 s6 c4 c6 L L T V6.out W6.out LL.out rfl).mono ?_
  rintro e w7 ⟨rfl, hb7⟩
  have X7 : Hid (BM w7 X (.slice sm m.length cm)) := X6.out.below hb7
  have Y7 : Hid (BM w7 Y (.slice s3 M.length c3)) := Y6.out.below hb7
  have Z7 : Hid (BM w7 Z (.slice s5 M.length c5)) := Z6.out.below hb7
  have M7 : Hid (Mw w7 sm m) := M6.out.below hb7
  have R7 : Hid (Rw w7 sv l) := R6.out.below hb7
  have N7 : Hid (Mw w7 s3 M) := N6.out.below hb7
  have V7 : Hid (Rw w7 s4 L) := V6.out.below hb7
  have K7 : Hid (Below w.heap.size w w7) := K6.out.trans (hb7.mono K6.out.size)
  clear X6 Y6 Z6 M6 R6 N6 V6 K6
  clear hb7 W6
  have x0 := X7.out.c0
  have xl := X7.out.lt
  have y0 := Y7.out.c0
  have yl := Y7.out.lt
  have z0 := Z7.out.c0
  have zl := Z7.out.lt
  cases hr : rightB m l cell
  · obtain ⟨e1, e2, e3⟩ := sw_no (v := z) (show canB m l cell = false by unfold canB; rw [hr]; rfl)
    have ELl : Hid (L = l) := EL.out.symm.trans e2
    have EMm : M = m := EM.out.symm.trans e1
    have ELN : M.length = m.length := by rw [EMm]
    have bl : ((M.length : Int) == (m.length : Int)) = true := by rw [ELN]; simp
    have HR : Hid (rightB m l cell = false) := hr
    have EQ0 : q = 0 := EQ.out.symm.trans e3
    subst EQ0
    clear e1 e2 e3 EMm hr ELN bl
    cases h1 : memB m
    · have H1 : Hid (memB m = false) := h1
      clear h1
      go_wp2_with fail
      refine (gMemS sm cm m false w7 M7.out (fit_m HF.out) H1.out).mono ?_
      rintro e w8 ⟨rfl, hb8⟩
      have X8 : Hid (BM w8 X (.slice sm m.length cm)) := X7.out.below hb8
      have Y8 : Hid (BM w8 Y (.slice s3 M.length c3)) := Y7.out.below hb8
      have Z8 : Hid (BM w8 Z (.slice s5 M.length c5)) := Z7.out.below hb8
      have M8 : Hid (Mw w8 sm m) := M7.out.below hb8
      have R8 : Hid (Rw w8 sv l) := R7.out.below hb8
      have N8 : Hid (Mw w8 s3 M) := N7.out.below hb8
      have V8 : Hid (Rw w8 s4 L) := V7.out.below hb8
      have K8 : Hid (Below w.heap.size w w8) := K7.out.trans (hb8.mono K7.out.size)
      clear X7 Y7 Z7 M7 R7 N7 V7 K7
      clear hb8
      clear x0 xl y0 yl z0 zl
      have x0 := X8.out.c0
      have xl := X8.out.lt
      have y0 := Y8.out.c0
      have yl := Y8.out.lt
      have z0 := Z8.out.c0
      have zl := Z8.out.lt
      go_wp2_with fail
      refine (gSame s4 sv c4 cv L l w8 V8.out R8.out LL.out ELl.out).mono ?_
      rintro e wz ⟨rfl, hbz⟩
      have Xz : Hid (BM wz X (.slice sm m.length cm)) := X8.out.below hbz
      have Yz : Hid (BM wz Y (.slice s3 M.length c3)) := Y8.out.below hbz
      have Zz : Hid (BM wz Z (.slice s5 M.length c5)) := Z8.out.below hbz
      have Mz : Hid (Mw wz sm m) := M8.out.below hbz
      have Rz : Hid (Rw wz sv l) := R8.out.below hbz
      have Nz : Hid (Mw wz s3 M) := N8.out.below hbz
      have Vz : Hid (Rw wz s4 L) := V8.out.below hbz
      have Kz : Hid (Below w.heap.size w wz) := K8.out.trans (hbz.mono K8.out.size)
      clear X8 Y8 Z8 M8 R8 N8 V8 K8
      clear x0 xl y0 yl z0 zl
      have x0 := Xz.out.c0
      have xl := Xz.out.lt
      have y0 := Yz.out.c0
      have yl := Yz.out.lt
      have z0 := Zz.out.c0
      have zl := Zz.out.lt
      go_wp2
      go_ret
      exact ⟨rfl, Kz.out⟩
    have H1 : Hid (memB m = true) := h1
    clear h1
    cases h2 : viewB m l
    · have H2 : Hid (viewB m l = false) := h2
      clear h2
      go_wp2_with fail
      refine (gMemS sm cm m true w7 M7.out (fit_m HF.out) H1.out).mono ?_
      rintro e w8 ⟨rfl, hb8⟩
      have X8 : Hid (BM w8 X (.slice sm m.length cm)) := X7.out.below hb8
      have Y8 : Hid (BM w8 Y (.slice s3 M.length c3)) := Y7.out.below hb8
      have Z8 : Hid (BM w8 Z (.slice s5 M.length c5)) := Z7.out.below hb8
      have M8 : Hid (Mw w8 sm m) := M7.out.below hb8
      have R8 : Hid (Rw w8 sv l) := R7.out.below hb8
      have N8 : Hid (Mw w8 s3 M) := N7.out.below hb8
      have V8 : Hid (Rw w8 s4 L) := V7.out.below hb8
      have K8 : Hid (Below w.heap.size w w8) := K7.out.trans (hb8.mono K7.out.size)
      clear X7 Y7 Z7 M7 R7 N7 V7 K7
      clear hb8
      clear x0 xl y0 yl z0 zl
      have x0 := X8.out.c0
      have xl := X8.out.lt
      have y0 := Y8.out.c0
      have yl := Y8.out.lt
      have z0 := Z8.out.c0
      have zl := Z8.out.lt
      go_wp2_with fail
      refine (gViewS sm sv cm cv m l false w8 M8.out R8.out (by have := HL.out; omega) (fit_m HF.out) H2.out).mono ?_
      rintro e w9 ⟨rfl, hb9⟩
      have X9 : Hid (BM w9 X (.slice sm m.length cm)) := X8.out.below hb9
      have Y9 : Hid (BM w9 Y (.slice s3 M.length c3)) := Y8.out.below hb9
      have Z9 : Hid (BM w9 Z (.slice s5 M.length c5)) := Z8.out.below hb9
      have M9 : Hid (Mw w9 sm m) := M8.out.below hb9
      have R9 : Hid (Rw w9 sv l) := R8.out.below hb9
      have N9 : Hid (Mw w9 s3 M) := N8.out.below hb9
      have V9 : Hid (Rw w9 s4 L) := V8.out.below hb9
      have K9 : Hid (Below w.heap.size w w9) := K8.out.trans (hb9.mono K8.out.size)
      clear X8 Y8 Z8 M8 R8 N8 V8 K8
      clear hb9
      clear x0 xl y0 yl z0 zl
      have x0 := X9.out.c0
      have xl := X9.out.lt
      have y0 := Y9.out.c0
      have yl := Y9.out.lt
      have z0 := Z9.out.c0
      have zl := Z9.out.lt
      go_wp2_with fail
      refine (gSame s4 sv c4 cv L l w9 V9.out R9.out LL.out ELl.out).mono ?_
      rintro e wz ⟨rfl, hbz⟩
      have Xz : Hid (BM wz X (.slice sm m.length cm)) := X9.out.below hbz
      have Yz : Hid (BM wz Y (.slice s3 M.length c3)) := Y9.out.below hbz
      have Zz : Hid (BM wz Z (.slice s5 M.length c5)) := Z9.out.below hbz
      have Mz : Hid (Mw wz sm m) := M9.out.below hbz
      have Rz : Hid (Rw wz sv l) := R9.out.below hbz
      have Nz : Hid (Mw wz s3 M) := N9.out.below hbz
      have Vz : Hid (Rw wz s4 L) := V9.out.below hbz
      have Kz : Hid (Below w.heap.size w wz) := K9.out.trans (hbz.mono K9.out.size)
      clear X9 Y9 Z9 M9 R9 N9 V9 K9
      clear x0 xl y0 yl z0 zl
      have x0 := Xz.out.c0
      have xl := Xz.out.lt
      have y0 := Yz.out.c0
      have yl := Yz.out.lt
      have z0 := Zz.out.c0
      have zl := Zz.out.lt
      go_wp2
      go_ret
      exact ⟨rfl, Kz.out⟩
    have H2 : Hid (viewB m l = true) := h2
    clear h2
    have hcell : cell < 0 ∨ 24 ≤ cell := by
      have h3 := HR.out
      unfold rightB at h3
      rw [H1.out, H2.out] at h3
      simp at h3
      omega
    by_cases hc0 : cell < 0
    all_goals
      go_wp2_with fail
      refine (gMemS sm cm m true w7 M7.out (fit_m HF.out) H1.out).mono ?_
      rintro e w8 ⟨rfl, hb8⟩
      have X8 : Hid (BM w8 X (.slice sm m.length cm)) := X7.out.below hb8
      have Y8 : Hid (BM w8 Y (.slice s3 M.length c3)) := Y7.out.below hb8
      have Z8 : Hid (BM w8 Z (.slice s5 M.length c5)) := Z7.out.below hb8
      have M8 : Hid (Mw w8 sm m) := M7.out.below hb8
      have R8 : Hid (Rw w8 sv l) := R7.out.below hb8
      have N8 : Hid (Mw w8 s3 M) := N7.out.below hb8
      have V8 : Hid (Rw w8 s4 L) := V7.out.below hb8
      have K8 : Hid (Below w.heap.size w w8) := K7.out.trans (hb8.mono K7.out.size)
      clear X7 Y7 Z7 M7 R7 N7 V7 K7
      clear hb8
      clear x0 xl y0 yl z0 zl
      have x0 := X8.out.c0
      have xl := X8.out.lt
      have y0 := Y8.out.c0
      have yl := Y8.out.lt
      have z0 := Z8.out.c0
      have zl := Z8.out.lt
      go_wp2_with fail
      refine (gViewS sm sv cm cv m l true w8 M8.out R8.out (by have := HL.out; omega) (fit_m HF.out) H2.out).mono ?_
      rintro e w9 ⟨rfl, hb9⟩
      have X9 : Hid (BM w9 X (.slice sm m.length cm)) := X8.out.below hb9
      have Y9 : Hid (BM w9 Y (.slice s3 M.length c3)) := Y8.out.below hb9
      have Z9 : Hid (BM w9 Z (.slice s5 M.length c5)) := Z8.out.below hb9
      have M9 : Hid (Mw w9 sm m) := M8.out.below hb9
      have R9 : Hid (Rw w9 sv l) := R8.out.below hb9
      have N9 : Hid (Mw w9 s3 M) := N8.out.below hb9
      have V9 : Hid (Rw w9 s4 L) := V8.out.below hb9
      have K9 : Hid (Below w.heap.size w w9) := K8.out.trans (hb9.mono K8.out.size)
      clear X8 Y8 Z8 M8 R8 N8 V8 K8
      clear hb9
      clear x0 xl y0 yl z0 zl
      have x0 := X9.out.c0
      have xl := X9.out.lt
      have y0 := Y9.out.c0
      have yl := Y9.out.lt
      have z0 := Z9.out.c0
      have zl := Z9.out.lt
      have hc1 : cell < 0 ∨ ¬ cell < 24 := by omega
      have hc2 : 24 ≤ cell ∨ cell < 0 := by omega
      try (have hc3 : 24 ≤ cell := by omega)
      clear hc1 hc2 hcell
      go_wp2_with fail
      refine (gSame s4 sv c4 cv L l w9 V9.out R9.out LL.out ELl.out).mono ?_
      rintro e wz ⟨rfl, hbz⟩
      have Xz : Hid (BM wz X (.slice sm m.length cm)) := X9.out.below hbz
      have Yz : Hid (BM wz Y (.slice s3 M.length c3)) := Y9.out.below hbz
      have Zz : Hid (BM wz Z (.slice s5 M.length c5)) := Z9.out.below hbz
      have Mz : Hid (Mw wz sm m) := M9.out.below hbz
      have Rz : Hid (Rw wz sv l) := R9.out.below hbz
      have Nz : Hid (Mw wz s3 M) := N9.out.below hbz
      have Vz : Hid (Rw wz s4 L) := V9.out.below hbz
      have Kz : Hid (Below w.heap.size w wz) := K9.out.trans (hbz.mono K9.out.size)
      clear X9 Y9 Z9 M9 R9 N9 V9 K9
      clear x0 xl y0 yl z0 zl
      have x0 := Xz.out.c0
      have xl := Xz.out.lt
      have y0 := Yz.out.c0
      have yl := Yz.out.lt
      have z0 := Zz.out.c0
      have zl := Zz.out.lt
      go_wp2
      go_ret
      exact ⟨rfl, Kz.out⟩
  · have HR : Hid (rightB m l cell = true) := hr
    clear hr
    obtain ⟨k, hck, hk24, f1, f2, f3, f4⟩ := sw_facts z HR.out (by have := HF.out; unfold Fit6 at this; omega)
    subst hck
    have F1 : Hid (memB M = true) := by show memB M = true; rw [← EM.out]; exact f1
    have F2 : Hid (knowsB L l = true) := by show knowsB L l = true; rw [← EL.out]; exact f2
    have F3 : Hid (loadV M L k 0 = z) := by show loadV M L k 0 = z; rw [← EM.out, ← EL.out]; exact f3
    have F4 : Hid (loadV m l k 0 = q) := by show loadV m l k 0 = q; rw [← f4]; exact EQ.out
    obtain ⟨h1, h2, -, -⟩ := right_parts HR.out
    have H1 : Hid (memB m = true) := h1
    have H2 : Hid (viewB m l = true) := h2
    have hk0 : (0 : Int) ≤ (k : Int) := by omega
    have hk1 : (k : Int) < 24 := by omega
    clear f1 f2 f3 f4 h1 h2
    go_wp2_with fail
    refine (gMemS sm cm m true w7 M7.out (fit_m HF.out) H1.out).mono ?_
    rintro e w8 ⟨rfl, hb8⟩
    have X8 : Hid (BM w8 X (.slice sm m.length cm)) := X7.out.below hb8
    have Y8 : Hid (BM w8 Y (.slice s3 M.length c3)) := Y7.out.below hb8
    have Z8 : Hid (BM w8 Z (.slice s5 M.length c5)) := Z7.out.below hb8
    have M8 : Hid (Mw w8 sm m) := M7.out.below hb8
    have R8 : Hid (Rw w8 sv l) := R7.out.below hb8
    have N8 : Hid (Mw w8 s3 M) := N7.out.below hb8
    have V8 : Hid (Rw w8 s4 L) := V7.out.below hb8
    have K8 : Hid (Below w.heap.size w w8) := K7.out.trans (hb8.mono K7.out.size)
    clear X7 Y7 Z7 M7 R7 N7 V7 K7
    clear hb8
    clear x0 xl y0 yl z0 zl
    have x0 := X8.out.c0
    have xl := X8.out.lt
    have y0 := Y8.out.c0
    have yl := Y8.out.lt
    have z0 := Z8.out.c0
    have zl := Z8.out.lt
    go_wp2_with fail
    refine (gViewS sm sv cm cv m l true w8 M8.out R8.out (by have := HL.out; omega) (fit_m HF.out) H2.out).mono ?_
    rintro e w9 ⟨rfl, hb9⟩
    have X9 : Hid (BM w9 X (.slice sm m.length cm)) := X8.out.below hb9
    have Y9 : Hid (BM w9 Y (.slice s3 M.length c3)) := Y8.out.below hb9
    have Z9 : Hid (BM w9 Z (.slice s5 M.length c5)) := Z8.out.below hb9
    have M9 : Hid (Mw w9 sm m) := M8.out.below hb9
    have R9 : Hid (Rw w9 sv l) := R8.out.below hb9
    have N9 : Hid (Mw w9 s3 M) := N8.out.below hb9
    have V9 : Hid (Rw w9 s4 L) := V8.out.below hb9
    have K9 : Hid (Below w.heap.size w w9) := K8.out.trans (hb9.mono K8.out.size)
    clear X8 Y8 Z8 M8 R8 N8 V8 K8
    clear hb9
    clear x0 xl y0 yl z0 zl
    have x0 := X9.out.c0
    have xl := X9.out.lt
    have y0 := Y9.out.c0
    have yl := Y9.out.lt
    have z0 := Z9.out.c0
    have zl := Z9.out.lt
    go_wp2_with fail
    refine (gLoadI sm sv cm cv m l (loadW m l k 0 false) k 0 q false w9 M9.out R9.out (by have := HL.out; omega) (fit_m HF.out) (by omega) rfl F4.out).mono ?_
    rintro e wr ⟨sq, cq, rfl, -, hbr⟩
    have Xr : Hid (BM wr X (.slice sm m.length cm)) := X9.out.below hbr
    have Yr : Hid (BM wr Y (.slice s3 M.length c3)) := Y9.out.below hbr
    have Zr : Hid (BM wr Z (.slice s5 M.length c5)) := Z9.out.below hbr
    have Mr : Hid (Mw wr sm m) := M9.out.below hbr
    have Rr : Hid (Rw wr sv l) := R9.out.below hbr
    have Nr : Hid (Mw wr s3 M) := N9.out.below hbr
    have Vr : Hid (Rw wr s4 L) := V9.out.below hbr
    have Kr : Hid (Below w.heap.size w wr) := K9.out.trans (hbr.mono K9.out.size)
    clear X9 Y9 Z9 M9 R9 N9 V9 K9
    clear hbr
    clear x0 xl y0 yl z0 zl
    have x0 := Xr.out.c0
    have xl := Xr.out.lt
    have y0 := Yr.out.c0
    have yl := Yr.out.lt
    have z0 := Zr.out.c0
    have zl := Zr.out.lt
    go_wp2_with fail
    refine (gLoadI s3 s4 c3 c4 M L (loadW M L k 0 false) k 0 z false wr Nr.out Vr.out (by have := LL.out; omega) FM.out (by omega) rfl F3.out).mono ?_
    rintro e wt ⟨sq2, cq2, rfl, -, hbt⟩
    have Xt : Hid (BM wt X (.slice sm m.length cm)) := Xr.out.below hbt
    have Yt : Hid (BM wt Y (.slice s3 M.length c3)) := Yr.out.below hbt
    have Zt : Hid (BM wt Z (.slice s5 M.length c5)) := Zr.out.below hbt
    have Mt : Hid (Mw wt sm m) := Mr.out.below hbt
    have Rt : Hid (Rw wt sv l) := Rr.out.below hbt
    have Nt : Hid (Mw wt s3 M) := Nr.out.below hbt
    have Vt : Hid (Rw wt s4 L) := Vr.out.below hbt
    have Kt : Hid (Below w.heap.size w wt) := Kr.out.trans (hbt.mono Kr.out.size)
    clear Xr Yr Zr Mr Rr Nr Vr Kr
    clear hbt
    clear x0 xl y0 yl z0 zl
    have x0 := Xt.out.c0
    have xl := Xt.out.lt
    have y0 := Yt.out.c0
    have yl := Yt.out.lt
    have z0 := Zt.out.c0
    have zl := Zt.out.lt
    go_wp2_with fail
    refine (gKnows s4 sv c4 cv L l true wt Vt.out Rt.out (by have := LL.out; omega) F2.out).mono ?_
    rintro e wu ⟨rfl, hbu⟩
    have Xu : Hid (BM wu X (.slice sm m.length cm)) := Xt.out.below hbu
    have Yu : Hid (BM wu Y (.slice s3 M.length c3)) := Yt.out.below hbu
    have Zu : Hid (BM wu Z (.slice s5 M.length c5)) := Zt.out.below hbu
    have Mu : Hid (Mw wu sm m) := Mt.out.below hbu
    have Ru : Hid (Rw wu sv l) := Rt.out.below hbu
    have Nu : Hid (Mw wu s3 M) := Nt.out.below hbu
    have Vu : Hid (Rw wu s4 L) := Vt.out.below hbu
    have Ku : Hid (Below w.heap.size w wu) := Kt.out.trans (hbu.mono Kt.out.size)
    clear Xt Yt Zt Mt Rt Nt Vt Kt
    clear hbu
    clear x0 xl y0 yl z0 zl
    have x0 := Xu.out.c0
    have xl := Xu.out.lt
    have y0 := Yu.out.c0
    have yl := Yu.out.lt
    have z0 := Zu.out.c0
    have zl := Zu.out.lt
    go_wp2_with fail
    refine (gMemI s3 c3 M true wu Nu.out FM.out F1.out).mono ?_
    rintro e wv ⟨rfl, hbv⟩
    have Xv : Hid (BM wv X (.slice sm m.length cm)) := Xu.out.below hbv
    have Yv : Hid (BM wv Y (.slice s3 M.length c3)) := Yu.out.below hbv
    have Zv : Hid (BM wv Z (.slice s5 M.length c5)) := Zu.out.below hbv
    have Mv : Hid (Mw wv sm m) := Mu.out.below hbv
    have Rv : Hid (Rw wv sv l) := Ru.out.below hbv
    have Nv : Hid (Mw wv s3 M) := Nu.out.below hbv
    have Vv : Hid (Rw wv s4 L) := Vu.out.below hbv
    have Kv : Hid (Below w.heap.size w wv) := Ku.out.trans (hbv.mono Ku.out.size)
    clear Xu Yu Zu Mu Ru Nu Vu Ku
    clear hbv
    clear x0 xl y0 yl z0 zl
    go_wp2
    go_ret
    exact ⟨rfl, Kv.out⟩

set_option maxRecDepth 100000 in
theorem liftedFnSwap (os : Os) (started : os.Started) (H : Type) (enc : TypeId × Value → H) :
    ReturnsInHanded {} Try.checked os 6 .any (Rows.fnSwapSpec.pre6 enc Try.prog Try.f6 Rows.fnSwapRow.domain false) (Rows.fnSwapSpec.post enc Try.prog Try.f6 false true false false) := by
  refine returnsInHanded_of_change (C := Try.checked) ownS started (by kernel_rfl) Try.func6
    (ChangeSpec.witness6 (enc := enc) (C := Try.checked) false ⟨#[], #[.slice none 0 0], []⟩ 8 (by kernel_rfl) (by kernel_rfl) (by kernel_rfl) (by kernel_rfl)) ?_
  intro W base args ds gs before hval0 hW hcnd _
  have hval : ∀ (j : Nat) t v, Try.f6.params[j]? = some t → args[j]? = some v → Value.okWide Try.prog W .any base t v := hval0
  have hW' := hW
  obtain ⟨p, q, hA0, hV, rfl, hfz, hnd⟩ := hW
  have hA : DataW.TrodAll enc Try.prog W 0 (fun _ => true) true Try.f6.params.toList args.toList ds p := hA0
  rw [Try.params6] at hA hval
  obtain ⟨v0, d0, hargs, rfl, h0⟩ := trodAll_one hA
  obtain rfl : args = #[v0] := by cases args; simp_all
  obtain ⟨rfl, rfl⟩ := trodVars_none hV
  have k0 := h0
  have lt0 : ∀ x ∈ p, x.block < W.heap.size := by obtain ⟨m, hm⟩ := k0; exact DataW.trod_lt m _ _ _ hm
  obtain ⟨s, n, c, rfl, hn, hB⟩ := bytes_read (hval 0 22 v0 rfl rfl) h0
  clear hA0 hval0
  refine (walkFnSwap s n c W hB hn).mono fun e W' ⟨he, bel⟩ => ?_
  subst he
  exact ⟨_, rfl, _, _, _, [], _, [], hW', trodAll_mk1 (shut_bool Try.underlying4 _), trodAll_mk1 (Below.trod laidOutS (by kernel_rfl) (of_decide_eq_true (by kernel_rfl)) k0 bel lt0), rfl, bel.frame _, fun h => by cases h⟩

theorem fnSwap_holds : Rows.FnSwapSaid :=
  OpenClaim.holds_of_wide 6 Try.f6 rfl rfl rfl rfl rfl rfl rfl ⟨rfl, rfl, rfl, rfl, rfl⟩ rfl rfl rfl rfl rfl (by kernel_rfl) Try.func6 (by kernel_rfl)
    (of_decide_eq_true (by kernel_rfl)) (by unfold Func.isWrapper; first | (rw [if_pos (by decide +kernel)]; kernel_rfl) | (rw [if_neg (by decide +kernel)]; exact ⟨rfl, rfl⟩))
    (fun os started H enc _ => liftedFnSwap os started H enc)
#print axioms fnSwap_holds

end Go.Proofs.Ytlhhdkemmhlloaa
