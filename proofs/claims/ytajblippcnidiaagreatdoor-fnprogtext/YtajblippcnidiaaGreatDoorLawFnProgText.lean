/- The law FnProgText of the given statements: a drawn program is read from its text as it was; a text that is read is that of the program. Condition: the card's own (the listed tables hold what the program's text lays). -/
import Derived.Test.YtajblippcnidiaaGreatDoorFrameD
import Derived.Test.YtajblippcnidiaaGreatDoorDentP
import Derived.Test.YtajblippcnidiaaGreatDoorSameP
import Derived.Test.YtajblippcnidiaaGreatDoorOwnRz
import Derived.Test.YtajblippcnidiaaGreatDoorPRead6
import Derived.Test.YtajblippcnidiaaGreatDoorSPReadAll
import Derived.Test.YtajblippcnidiaaGreatDoorCards
import Derived.Test.YtajblippcnidiaaGreatDoorTie
import Derived.SevenTiedAt
import Derived.OpenVars
namespace Go.Proofs.YtajblippcnidiaaGreatDoor
set_option linter.unusedSimpArgs false
set_option linter.unusedVariables false
set_option maxRecDepth 100000
open Go.ChangeShapes Go.WideShapes Go.ChangeAt Go.RowKit

theorem big_any (s : Option Addr) (n c : Nat) (w : World) : Calls Tryz.prog 4 #[.slice s n c] w fun e w' => e = .returned (.bool (decide (1048576 < n))) ∧ w' = w := by
  go_enter Tryz.func4, Tryz.ntmps4
  go_wp2
  go_ret
  refine ⟨ret_bool ?_, rfl⟩
  rw [Bool.eq_iff_iff]
  simp
  omega
structure Bxz (G : Nat) (W : World) (a b : Value) : Prop where
  c0 : W.cell? ⟨G, 0, none⟩ = some a
  c1 : W.cell? ⟨G, 1, none⟩ = some b
  z : G < W.heap.size
theorem bxz (w : World) (a b : Value) (T : TypeId) : ∃ W, w.alloc (.cells #[a, b] T) = W ∧ Bxz w.heap.size W a b ∧ Below w.heap.size w W ∧ w.heap.size < W.heap.size :=
  ⟨_, rfl, ⟨by simp [go_sem], by simp [go_sem], by simp⟩, (Below.refl _ _).alloc (Nat.le_refl _) _, by simp⟩
theorem Bxz.keep {G : Nat} {W W' : World} {a b : Value} (h : Bxz G W a b) (hb : W'.heap[G]? = W.heap[G]?) (hz : W.heap.size ≤ W'.heap.size) : Bxz G W' a b :=
  ⟨(World.cell?_of_block (w := W) (a := ⟨G, 0, none⟩) hb).trans h.c0, (World.cell?_of_block (w := W) (a := ⟨G, 1, none⟩) hb).trans h.c1, by have := h.z; omega⟩

set_option maxRecDepth 100000 in
set_option maxHeartbeats 8000000 in
theorem walkFnProgText (s : Option Addr) (n c : Nat) (w : World) (hb : Bytes w w.heap.size s n) (hn : n ≤ maxLen) (hE : Env w w.heap.size) :
    Calls Tryz.prog 3 #[.slice s n c] w fun e w' => e = .returned (.bool true) ∧ Below w.heap.size w w' := by
  have HB : Hid (Bytes w w.heap.size s n) := hb
  have HE : Hid (Env w w.heap.size) := hE
  clear hb hE
  by_cases hbig : 1048576 < n
  · go_enter Tryz.func3, Tryz.ntmps3
    go_wp2_with (go_at_call 4; refine (big_any _ _ _ _).mono ?_; rintro e w' ⟨rfl, hw⟩; have hw' := hw.symm; clear hw; subst hw'; rw [decide_eq_true hbig])
    go_ret
    exact ⟨rfl, Below.refl _ _⟩
  · go_enter Tryz.func3, Tryz.ntmps3
    go_wp2_with (go_at_call 4; refine (big_any _ _ _ _).mono ?_; rintro e w' ⟨rfl, hw⟩; have hw' := hw.symm; clear hw; subst hw'; rw [decide_eq_false hbig])
    refine (drawProgText_any s n c w HB.out hn).mono ?_
    rintro e w1 ⟨v0, v1, na, nb, rfl, hC, hS, ha6, hb6, hb1⟩
    obtain ⟨s0, d0, caps, rfl, hca, hIC⟩ := hC.ints
    obtain ⟨s1, d1, bods, rfl, hbo, hbl, hIS⟩ := hS.bods
    have hf : Fits ⟨caps, bods⟩ := ⟨by show caps.length ≤ _; omega, by show bods.length ≤ _; omega, fun i hi => by have := hbl i hi; show (bods.getD i []).length ≤ _; omega⟩
    have hp : ProgR w1 w.heap.size w1.heap.size s0 s1 ⟨caps, bods⟩ := ⟨hIC, hIS⟩
    obtain ⟨p, hpe⟩ : ∃ p : PD, p = ⟨caps, bods⟩ := ⟨_, rfl⟩
    have c1 : caps.length = p.caps.length := by rw [hpe]
    have c2 : bods.length = p.bods.length := by rw [hpe]
    rw [← hpe] at hf hp
    rw [c1, c2]
    have K1 : Hid (Below w.heap.size w w1) := hb1
    have P1 : Hid (ProgR w1 w.heap.size w1.heap.size s0 s1 p) := hp
    have FP : Hid (Fits p) := hf
    clear hb1 hC hS hIC hIS hbl hca hbo ha6 hb6 hf hp hpe c1 c2
    go_wp2_with fail
    obtain ⟨W1, hW1, bx1, kb1, zz1⟩ := bxz w1 (.slice s0 p.caps.length d0) (.slice s1 p.bods.length d1) 27
    rw [hW1]
    clear hW1
    have KW1 : Hid (Below w.heap.size w W1) := K1.out.trans (kb1.mono K1.out.size)
    have BX1 : Hid (Bxz w1.heap.size W1 (.slice s0 p.caps.length d0) (.slice s1 p.bods.length d1)) := bx1
    have PW1 : Hid (ProgR W1 w.heap.size w1.heap.size s0 s1 p) := P1.out.keep (Keep.of_below kb1 (Nat.le_refl _))
    have EW1 : Hid (Env W1 W1.heap.size) := (HE.out.keep KW1.out).mono KW1.out.size
    clear bx1 kb1
    refine (implProgText_any s0 s1 d0 d1 w.heap.size w1.heap.size p W1 PW1.out (by omega) FP.out EW1.out).mono ?_
    rintro e w2 ⟨rfl, hb2⟩
    have z2 := hb2.size
    have K2 : Hid (Below w.heap.size w w2) := KW1.out.trans (hb2.mono KW1.out.size)
    have BX2 : Hid (Bxz w1.heap.size w2 (.slice s0 p.caps.length d0) (.slice s1 p.bods.length d1)) := BX1.out.keep (hb2.block _ BX1.out.z) hb2.size
    have P2 : Hid (ProgR w2 w.heap.size w1.heap.size s0 s1 p) := PW1.out.keep (Keep.of_below hb2 (by omega))
    clear hb2 PW1 BX1 EW1 P1
    obtain ⟨x0, x1, xz⟩ := BX2.out
    go_wp2_with fail
    refine (specProgText_any s0 s1 d0 d1 w.heap.size w1.heap.size p w2 P2.out (by omega) FP.out).mono ?_
    rintro e w3 ⟨rfl, hb3⟩
    have z3 := hb3.size
    have K3 : Hid (Below w.heap.size w w3) := K2.out.trans (hb3.mono K2.out.size)
    have BX3 : Hid (Bxz w1.heap.size w3 (.slice s0 p.caps.length d0) (.slice s1 p.bods.length d1)) := BX2.out.keep (hb3.block _ BX2.out.z) hb3.size
    have P3 : Hid (ProgR w3 w.heap.size w1.heap.size s0 s1 p) := P2.out.keep (Keep.of_below hb3 (by omega))
    clear hb3 x0 x1 xz P2 BX2
    obtain ⟨x0, x1, xz⟩ := BX3.out
    cases hv : progB p
    · have T : Hid (progT p = []) := by show _ = _; unfold progT; rw [hv]; rfl
      have V : Hid (progB p = false) := hv
      rw [T.out]
      clear hv
      go_wp2_with fail
      refine (implProg_any s0 s1 d0 d1 w.heap.size w1.heap.size p w3 P3.out (by omega) FP.out).mono ?_
      rintro e w4 ⟨rfl, hb4⟩
      rw [V.out]
      have KN : Hid (Below w.heap.size w w4) := K3.out.trans (hb4.mono K3.out.size)
      clear hb4 x0 x1 xz
      go_wp2_with fail
      refine (drawProgRead_any s n c w4 (bytes_up HB.out KN.out KN.out.size) hn).mono ?_
      rintro e w6 ⟨l, rfl, hl, hb6⟩
      have K6 : Hid (Below w.heap.size w w6) := KN.out.trans (hb6.mono KN.out.size)
      have E6 : Hid (Env w6 w6.heap.size) := (HE.out.keep K6.out).mono K6.out.size
      clear hb6
      go_wp2_with fail
      refine (implProgRead_any l (by omega) _ E6.out).mono ?_
      rintro e w7 ⟨hp7, hb7⟩
      have K7 : Hid (Below w.heap.size w w7) := K6.out.trans (hb7.mono K6.out.size)
      clear hb7
      cases hr : readP l with
      | none =>
        rw [hr] at hp7
        have hp7' : e = .returned (.tuple #[.agg #[.slice none 0 0, .slice none 0 0], .bool false]) := hp7
        subst hp7'
        have HRN : Hid (readP l = none) := hr
        clear hr hp7
        go_wp2_with fail
        obtain ⟨W7, hW7, bx7, kb7, zz7⟩ := bxz w7 (.slice none 0 0) (.slice none 0 0) 27
        rw [hW7]
        clear hW7
        have KW7 : Hid (Below w.heap.size w W7) := K7.out.trans (kb7.mono K7.out.size)
        have BX7 : Hid (Bxz w7.heap.size W7 (.slice none 0 0) (.slice none 0 0)) := bx7
        clear bx7 kb7
        refine (specProgRead_any l (by omega) _).mono ?_
        rintro e w8 ⟨hp8, hb8⟩
        rw [HRN.out] at hp8
        have hp8' : e = .returned (.tuple #[.agg #[.slice none 0 0, .slice none 0 0], .bool false]) := hp8
        subst hp8'
        have K8 : Hid (Below w.heap.size w w8) := KW7.out.trans (hb8.mono KW7.out.size)
        obtain ⟨y0, y1, yz⟩ := BX7.out.keep (hb8.block _ BX7.out.z) hb8.size
        clear hb8 hp8
        have K9 : Hid (∀ o, Below w.heap.size w (w8.alloc o)) := fun o => K8.out.alloc K8.out.size _
        go_wp2
        go_ret
        exact ⟨rfl, by first | exact K8.out | exact K9.out _⟩
      | some q =>
        rw [hr] at hp7
        obtain ⟨v7, v7', he7, o7, o7', hF7⟩ := hp7
        subst he7
        obtain ⟨s7, c7, s7', c7', rfl, rfl, P7⟩ := OwnB.prog o7 o7'
        have HRN : Hid (readP l = some q) := hr
        have HTX : Hid (progT q = l) := (readP_inv hr).1.symm
        have HP7 : Hid (ProgR w7 w6.heap.size w7.heap.size s7 s7' q) := P7
        have HF7 : Hid (Fits q) := hF7
        clear hr o7 o7' P7 hF7
        go_wp2_with fail
        obtain ⟨W7, hW7, bx7, kb7, zz7⟩ := bxz w7 (.slice s7 q.caps.length c7) (.slice s7' q.bods.length c7') 27
        rw [hW7]
        clear hW7
        have KW7 : Hid (Below w.heap.size w W7) := K7.out.trans (kb7.mono K7.out.size)
        have BX7 : Hid (Bxz w7.heap.size W7 (.slice s7 q.caps.length c7) (.slice s7' q.bods.length c7')) := bx7
        have PW7 : Hid (ProgR W7 w6.heap.size w7.heap.size s7 s7' q) := HP7.out.keep (Keep.of_below kb7 (Nat.le_refl _))
        clear bx7 kb7
        refine (specProgRead_any l (by omega) _).mono ?_
        rintro e w8 ⟨hp8, hb8⟩
        rw [HRN.out] at hp8
        obtain ⟨v8, v8', he8, o8, o8', -⟩ := hp8
        subst he8
        obtain ⟨s8, c8, s8', c8', rfl, rfl, -⟩ := OwnB.prog o8 o8'
        clear o8 o8'
        have z8 := hb8.size
        have K8 : Hid (Below w.heap.size w w8) := KW7.out.trans (hb8.mono KW7.out.size)
        have BX8 : Hid (Bxz w7.heap.size w8 (.slice s7 q.caps.length c7) (.slice s7' q.bods.length c7')) := BX7.out.keep (hb8.block _ BX7.out.z) hb8.size
        have P8 : Hid (ProgR w8 w6.heap.size w7.heap.size s7 s7' q) := PW7.out.keep (Keep.of_below hb8 (by omega))
        clear hb8
        obtain ⟨y0, y1, yz⟩ := BX8.out
        go_wp2_with fail
        obtain ⟨W8, hW8, -, kb8, zz8⟩ := bxz w8 (.slice s8 q.caps.length c8) (.slice s8' q.bods.length c8') 27
        rw [hW8]
        clear hW8
        have KW8 : Hid (Below w.heap.size w W8) := K8.out.trans (kb8.mono K8.out.size)
        have PW8 : Hid (ProgR W8 w6.heap.size w7.heap.size s7 s7' q) := P8.out.keep (Keep.of_below kb8 (by omega))
        have EW8 : Hid (Env W8 W8.heap.size) := (HE.out.keep KW8.out).mono KW8.out.size
        clear kb8 y0 y1 yz
        refine (implProgText_any s7 s7' c7 c7' w6.heap.size w7.heap.size q W8 PW8.out (by omega) HF7.out EW8.out).mono ?_
        rintro e w9 ⟨rfl, hb9⟩
        rw [HTX.out]
        have K9 : Hid (Below w.heap.size w w9) := KW8.out.trans (hb9.mono KW8.out.size)
        clear hb9
        go_wp2
        go_ret
        exact ⟨rfl, K9.out⟩
    · have V : Hid (progB p = true) := hv
      have HRT : Hid (readP (progT p) = some p) := readP_text hv
      have htl := progT_le p
      have HNE : Hid ((progT p == []) = false) := by
        show _ = _
        unfold progT
        rw [if_pos hv]
        simp [capsL]
      clear hv
      generalize progT p = tx at HRT HNE htl
      have hne := HNE.out
      go_wp2_with fail
      refine (implProg_any s0 s1 d0 d1 w.heap.size w1.heap.size p w3 P3.out (by omega) FP.out).mono ?_
      rintro e w4 ⟨rfl, hb4⟩
      rw [V.out]
      have z4 := hb4.size
      have K4 : Hid (Below w.heap.size w w4) := K3.out.trans (hb4.mono K3.out.size)
      have E4 : Hid (Env w4 w4.heap.size) := (HE.out.keep K4.out).mono K4.out.size
      have BX4 : Hid (Bxz w1.heap.size w4 (.slice s0 p.caps.length d0) (.slice s1 p.bods.length d1)) := BX3.out.keep (hb4.block _ BX3.out.z) hb4.size
      have P4 : Hid (ProgR w4 w.heap.size w1.heap.size s0 s1 p) := P3.out.keep (Keep.of_below hb4 (by omega))
      clear hb4 x0 x1 xz P3 BX3
      go_wp2_with fail
      refine (implProgRead_any tx (by omega) _ E4.out).mono ?_
      rintro e w5 ⟨hp5, hb5⟩
      rw [HRT.out] at hp5
      obtain ⟨v5, v5', he5, o5, o5', -⟩ := hp5
      subst he5
      obtain ⟨s5, c5, s5', c5', rfl, rfl, Q5⟩ := OwnB.prog o5 o5'
      have z5 := hb5.size
      have K5 : Hid (Below w.heap.size w w5) := K4.out.trans (hb5.mono K4.out.size)
      have BX5 : Hid (Bxz w1.heap.size w5 (.slice s0 p.caps.length d0) (.slice s1 p.bods.length d1)) := BX4.out.keep (hb5.block _ BX4.out.z) hb5.size
      have P5 : Hid (ProgR w5 w.heap.size w1.heap.size s0 s1 p) := P4.out.keep (Keep.of_below hb5 (by omega))
      have HQ5 : Hid (ProgR w5 w4.heap.size w5.heap.size s5 s5' p) := Q5
      clear hb5 o5 o5' Q5 P4 BX4 E4
      obtain ⟨x0, x1, xz⟩ := BX5.out
      go_wp2_with fail
      obtain ⟨W5, hW5, -, kb5, zz5⟩ := bxz w5 (.slice s5 p.caps.length c5) (.slice s5' p.bods.length c5') 27
      rw [hW5]
      clear hW5
      have KW5 : Hid (Below w.heap.size w W5) := K5.out.trans (kb5.mono K5.out.size)
      have PW5 : Hid (ProgR W5 w.heap.size w1.heap.size s0 s1 p) := P5.out.keep (Keep.of_below kb5 (by omega))
      have QW5 : Hid (ProgR W5 w4.heap.size w5.heap.size s5 s5' p) := HQ5.out.keep (Keep.of_below kb5 (by omega))
      clear kb5 x0 x1 xz
      refine (sameProg_same s0 s1 s5 s5' d0 d1 c5 c5' w.heap.size w1.heap.size w4.heap.size w5.heap.size p W5 PW5.out QW5.out (by omega) (by omega) FP.out).mono ?_
      rintro e w5n ⟨rfl, hbn⟩
      have KN : Hid (Below w.heap.size w w5n) := KW5.out.trans (hbn.mono KW5.out.size)
      clear hbn PW5 QW5 KW5 K5 P5 HQ5 BX5 HRT HNE hne htl
      go_wp2_with fail
      refine (drawProgRead_any s n c w5n (bytes_up HB.out KN.out KN.out.size) hn).mono ?_
      rintro e w6 ⟨l, rfl, hl, hb6⟩
      have K6 : Hid (Below w.heap.size w w6) := KN.out.trans (hb6.mono KN.out.size)
      have E6 : Hid (Env w6 w6.heap.size) := (HE.out.keep K6.out).mono K6.out.size
      clear hb6
      go_wp2_with fail
      refine (implProgRead_any l (by omega) _ E6.out).mono ?_
      rintro e w7 ⟨hp7, hb7⟩
      have K7 : Hid (Below w.heap.size w w7) := K6.out.trans (hb7.mono K6.out.size)
      clear hb7
      cases hr : readP l with
      | none =>
        rw [hr] at hp7
        have hp7' : e = .returned (.tuple #[.agg #[.slice none 0 0, .slice none 0 0], .bool false]) := hp7
        subst hp7'
        have HRN : Hid (readP l = none) := hr
        clear hr hp7
        go_wp2_with fail
        obtain ⟨W7, hW7, bx7, kb7, zz7⟩ := bxz w7 (.slice none 0 0) (.slice none 0 0) 27
        rw [hW7]
        clear hW7
        have KW7 : Hid (Below w.heap.size w W7) := K7.out.trans (kb7.mono K7.out.size)
        have BX7 : Hid (Bxz w7.heap.size W7 (.slice none 0 0) (.slice none 0 0)) := bx7
        clear bx7 kb7
        refine (specProgRead_any l (by omega) _).mono ?_
        rintro e w8 ⟨hp8, hb8⟩
        rw [HRN.out] at hp8
        have hp8' : e = .returned (.tuple #[.agg #[.slice none 0 0, .slice none 0 0], .bool false]) := hp8
        subst hp8'
        have K8 : Hid (Below w.heap.size w w8) := KW7.out.trans (hb8.mono KW7.out.size)
        obtain ⟨y0, y1, yz⟩ := BX7.out.keep (hb8.block _ BX7.out.z) hb8.size
        clear hb8 hp8
        have K9 : Hid (∀ o, Below w.heap.size w (w8.alloc o)) := fun o => K8.out.alloc K8.out.size _
        go_wp2
        go_ret
        exact ⟨rfl, by first | exact K8.out | exact K9.out _⟩
      | some q =>
        rw [hr] at hp7
        obtain ⟨v7, v7', he7, o7, o7', hF7⟩ := hp7
        subst he7
        obtain ⟨s7, c7, s7', c7', rfl, rfl, P7⟩ := OwnB.prog o7 o7'
        have HRN : Hid (readP l = some q) := hr
        have HTX : Hid (progT q = l) := (readP_inv hr).1.symm
        have HP7 : Hid (ProgR w7 w6.heap.size w7.heap.size s7 s7' q) := P7
        have HF7 : Hid (Fits q) := hF7
        clear hr o7 o7' P7 hF7
        go_wp2_with fail
        obtain ⟨W7, hW7, bx7, kb7, zz7⟩ := bxz w7 (.slice s7 q.caps.length c7) (.slice s7' q.bods.length c7') 27
        rw [hW7]
        clear hW7
        have KW7 : Hid (Below w.heap.size w W7) := K7.out.trans (kb7.mono K7.out.size)
        have BX7 : Hid (Bxz w7.heap.size W7 (.slice s7 q.caps.length c7) (.slice s7' q.bods.length c7')) := bx7
        have PW7 : Hid (ProgR W7 w6.heap.size w7.heap.size s7 s7' q) := HP7.out.keep (Keep.of_below kb7 (Nat.le_refl _))
        clear bx7 kb7
        refine (specProgRead_any l (by omega) _).mono ?_
        rintro e w8 ⟨hp8, hb8⟩
        rw [HRN.out] at hp8
        obtain ⟨v8, v8', he8, o8, o8', -⟩ := hp8
        subst he8
        obtain ⟨s8, c8, s8', c8', rfl, rfl, -⟩ := OwnB.prog o8 o8'
        clear o8 o8'
        have z8 := hb8.size
        have K8 : Hid (Below w.heap.size w w8) := KW7.out.trans (hb8.mono KW7.out.size)
        have BX8 : Hid (Bxz w7.heap.size w8 (.slice s7 q.caps.length c7) (.slice s7' q.bods.length c7')) := BX7.out.keep (hb8.block _ BX7.out.z) hb8.size
        have P8 : Hid (ProgR w8 w6.heap.size w7.heap.size s7 s7' q) := PW7.out.keep (Keep.of_below hb8 (by omega))
        clear hb8
        obtain ⟨y0, y1, yz⟩ := BX8.out
        go_wp2_with fail
        obtain ⟨W8, hW8, -, kb8, zz8⟩ := bxz w8 (.slice s8 q.caps.length c8) (.slice s8' q.bods.length c8') 27
        rw [hW8]
        clear hW8
        have KW8 : Hid (Below w.heap.size w W8) := K8.out.trans (kb8.mono K8.out.size)
        have PW8 : Hid (ProgR W8 w6.heap.size w7.heap.size s7 s7' q) := P8.out.keep (Keep.of_below kb8 (by omega))
        have EW8 : Hid (Env W8 W8.heap.size) := (HE.out.keep KW8.out).mono KW8.out.size
        clear kb8 y0 y1 yz
        refine (implProgText_any s7 s7' c7 c7' w6.heap.size w7.heap.size q W8 PW8.out (by omega) HF7.out EW8.out).mono ?_
        rintro e w9 ⟨rfl, hb9⟩
        rw [HTX.out]
        have K9 : Hid (Below w.heap.size w w9) := KW8.out.trans (hb9.mono KW8.out.size)
        clear hb9
        go_wp2
        go_ret
        exact ⟨rfl, K9.out⟩


/- how the bytes of a draw read -/
theorem bytes_read {H : Type} {enc : TypeId × Value → H} {w : World} {base b0 : Nat} {held : Bool} {k : Reach} {v : Value} {d : DataW H} {p : List MemPlace}
    (hv : Value.okWide Tryz.prog w k b0 22 v) (h : DataW.Trod enc Tryz.prog w base (fun _ => true) held 22 v d p) :
    ∃ (s : Option Addr) (n c : Nat), v = .slice s n c ∧ n ≤ maxLen ∧ Bytes w w.heap.size s n := by
  obtain ⟨s, len, cap, rfl⟩ := okWide_slice Tryz.underlying22 hv
  obtain ⟨fuel, hf⟩ := h
  rcases open_ints Tryz.underlying22 Tryz.underlying5 (by kernel_rfl) hf with ⟨hcs, _⟩ | ⟨a, l, c, zs, hcs, _, hl, hm, hz, _, hcell, hwz⟩
  · simp [Value.cells] at hcs
    obtain ⟨rfl, rfl, rfl⟩ := hcs
    exact ⟨none, 0, 0, rfl, Nat.zero_le _, .inl rfl⟩
  · simp [Value.cells] at hcs
    obtain ⟨rfl, rfl, rfl⟩ := hcs
    simp at hz
    refine ⟨some a, len, cap, rfl, by omega, ?_⟩
    by_cases h0 : len = 0
    · exact .inl h0
    · have c0 := hcell 0 (by omega)
      have c0' : w.cell? a = some (.int .u8 (zs.getD 0 0)) := by simpa [Addr.add] using c0
      have hs := World.cell?_spot c0'
      have hg : a.block < w.heap.size := by
        apply Classical.byContradiction
        intro hn
        have : w.heap[a.block]? = none := by simp; omega
        simp [World.cell?, this] at c0'
      obtain ⟨g, off, spot⟩ := a
      simp at hs
      subst hs
      refine .inr ⟨g, off, rfl, hg, fun i hi => ?_⟩
      have ci := hcell i (by omega)
      have e : (Addr.add ⟨g, off, none⟩ i) = ⟨g, off + i, none⟩ := by
        by_cases h : i = 0
        · subst h; rfl
        · simp [Addr.add, h]
      rw [e] at ci
      have hmem : zs.getD i 0 ∈ zs := by
        rw [List.getD_eq_getElem?_getD, List.getElem?_eq_getElem (by omega)]
        exact List.getElem_mem (by omega)
      have hw := bounds_u8 (hwz _ hmem)
      exact ⟨_, ci, by omega, by omega⟩

set_option maxRecDepth 100000 in
theorem liftedFnProgText (os : Os) (started : os.Started) (H : Type) (enc : TypeId × Value → H) :
    ReturnsInHanded {} Tryz.checked os 3 .any (fun w args => (Rows.fnProgTextSpec.pre enc Tryz.prog Tryz.f3 [] false w args ∧ laidMetH Tryz.prog Rows.fnProgTextRow.laid w) ∧ sizedMet enc Tryz.prog Tryz.f3 (OpenSpec.ofChange Rows.fnProgTextSpec) false w args)
      (Rows.fnProgTextSpec.post enc Tryz.prog Tryz.f3 false true false false) := by
  refine returnsInHanded_of_change_and (C := Tryz.checked) (X := fun w _ => laidMetH Tryz.prog Rows.fnProgTextRow.laid w) (fun _ _ _ hh h => h.of_heap hh) ownD started (by kernel_rfl) Tryz.func3
    (ChangeSpec.witness_shaped (enc := enc) (C := Tryz.checked) (os := os) (X := fun w _ => laidMetH Tryz.prog Rows.fnProgTextRow.laid w) false (World.doorLaid Tryz.prog 42 os) #[.slice none 0 0] 8 rfl (World.shaped_of_RefB (by kernel_rfl) (by kernel_rfl)) (by kernel_rfl) (by kernel_rfl) (by kernel_rfl) (door_met os _)) ?_
  intro W base args ds gs before hval0 hW _ _ hL _
  have hval : ∀ (j : Nat) t v, Tryz.f3.params[j]? = some t → args[j]? = some v → Value.okWide Tryz.prog W .any base t v := hval0
  have hW' := hW
  obtain ⟨p, q, hA0, hV, rfl, hfz, hnd⟩ := hW
  have hA : DataW.TrodAll enc Tryz.prog W 0 (fun _ => true) true Tryz.f3.params.toList args.toList ds p := hA0
  rw [Tryz.params3] at hA hval
  obtain ⟨v0, d0, hargs, rfl, h0⟩ := trodAll_one hA
  obtain rfl : args = #[v0] := by cases args; simp_all
  have hVk := hV
  obtain ⟨g9, t9, cs9, fuel9, d9, p9, rfl, -⟩ := trodVars_one hV
  have k0 := h0
  have lt0 : ∀ x ∈ p, x.block < W.heap.size := by obtain ⟨m, hm⟩ := k0; exact DataW.trod_lt m _ _ _ hm
  obtain ⟨s, n, c, rfl, hn, hB⟩ := bytes_read (hval 0 22 v0 rfl rfl) h0
  clear hA0 hval0
  refine (walkFnProgText s n c W hB hn (env_of_laid hL)).mono fun e W' ⟨he, bel⟩ => ?_
  subst he
  exact ⟨_, rfl, _, _, _, [], _, _, hW', trodAll_mk1 (shut_bool Tryz.underlying4 _), trodAll_mk1 (Below.trod laidOutD (by kernel_rfl) (of_decide_eq_true (by kernel_rfl)) k0 bel lt0), Below.trodVars laidOutD bel (by kernel_rfl) hVk, bel.frame _, fun h => by cases h⟩

theorem fnProgText_row : Rows.FnProgTextSaid :=
  OpenClaim.holds_of_wide 3 Tryz.f3 rfl rfl rfl rfl rfl rfl rfl ⟨rfl, rfl, rfl, rfl, rfl⟩ rfl rfl rfl rfl rfl (by kernel_rfl) Tryz.func3 (by kernel_rfl)
    (of_decide_eq_true (by kernel_rfl)) (by unfold Func.isWrapper; first | (rw [if_pos (by decide +kernel)]; kernel_rfl) | (rw [if_neg (by decide +kernel)]; exact ⟨rfl, rfl⟩))
    (fun os started H enc _ => liftedFnProgText os started H enc)

theorem fnProgText_card : Rows.FnProgTextCardSaid :=
  Claim7.holds_tied_plain_at .later [] [.data, .data, .data, .data] true _ _
    fnProgText_row (fun _ h => by cases h) (by kernel_rfl) (fun _ h => by cases h) fnProgText_row_tie rfl ⟨rfl, rfl⟩ (by kernel_rfl) rfl
    (fun f fn hf hfn => by
      obtain rfl : f = 3 := Option.some.inj ((show Tryz.prog.funcNamed Rows.fnProgTextRow.func = some 3 by kernel_rfl).symm.trans hf) |>.symm
      obtain rfl : fn = Tryz.f3 := (Option.some.inj (Tryz.func3.symm.trans hfn)).symm
      exact ⟨by kernel_rfl, fun j t ht => by
        rw [Tryz.params3] at ht
        have hm : t ∈ [22] := by simpa using Array.mem_of_getElem? ht
        have hall : ([22].all fun u => !Tryz.prog.wantsStandIn u) = true := by kernel_rfl
        exact (show Tryz.prog.wantsStandIn t = false by simpa using List.all_eq_true.1 hall t hm)⟩)
    (by kernel_rfl)
#print axioms fnProgText_card
end Go.Proofs.YtajblippcnidiaaGreatDoor
