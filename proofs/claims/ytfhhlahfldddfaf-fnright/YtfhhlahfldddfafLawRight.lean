/- The law FnRight of the given statements: what is right for some places and channels is right for more; a body that is right has right places; the program answers as the specification. No condition. -/
import Derived.Test.YtfhhlahfldddfafRows
import Derived.WalkKit
import Derived.ProofKit
import Derived.OpenShut
import Derived.ShutString
import Derived.ChangeOld
import Derived.Below
import Derived.Test.YtfhhlahfldddfafDrawI
import Derived.Test.YtfhhlahfldddfafProgOk2a
import Derived.Deep.RegionHeld3
namespace Go.Proofs.Ytfhhlahfldddfaf
set_option linter.unusedSimpArgs false
set_option linter.unusedVariables false
open Go.ChangeShapes Go.WideShapes Go.ChangeAt Go.RowKit

theorem big_any (s : Option Addr) (n c : Nat) (w : World) : Calls Try.prog 4 #[.slice s n c] w fun e w' => e = .returned (.bool (decide (1048576 < n))) ∧ w' = w := by
  go_enter Try.func4, Try.ntmps4
  go_wp2
  go_ret
  refine ⟨ret_bool ?_, rfl⟩
  rw [Bool.eq_iff_iff]
  simp
  omega

theorem ins_more {o r a b m z : Int} (h : Plain.insB o r a b m 8 z = true) : Plain.insB o r a b m 9 z = true := by
  obtain ⟨a1, a2, a3, a4, a5, a6, a7, a8, d⟩ := of_decide_eq_true h
  refine decide_eq_true ⟨a1, a2, a3, a4, a5, a6, a7, a8, ?_⟩
  rcases d with d | d | d | d | d | d | d | d | d | d
  · exact .inl d
  · exact .inr (.inl d)
  · exact .inr (.inr (.inl d))
  · exact .inr (.inr (.inr (.inl d)))
  · exact .inr (.inr (.inr (.inr (.inl d))))
  · exact .inr (.inr (.inr (.inr (.inr (.inl d)))))
  · exact .inr (.inr (.inr (.inr (.inr (.inr (.inl d))))))
  · exact .inr (.inr (.inr (.inr (.inr (.inr (.inr (.inl ⟨d.1, d.2.1, by have := d.2.2.1; omega, d.2.2.2⟩)))))))
  · exact .inr (.inr (.inr (.inr (.inr (.inr (.inr (.inr (.inl ⟨d.1, d.2.1, by have := d.2.2.1; omega, d.2.2.2⟩))))))))
  · exact .inr (.inr (.inr (.inr (.inr (.inr (.inr (.inr (.inr d))))))))
theorem ins_chan {o r a b m z : Int} (h : Plain.insB o r a b m 8 z = true) (hz : z < 3) : Plain.insB o r a b m 8 (z + 1) = true := by
  obtain ⟨a1, a2, a3, a4, a5, a6, a7, a8, d⟩ := of_decide_eq_true h
  refine decide_eq_true ⟨a1, a2, a3, a4, a5, a6, by omega, by omega, ?_⟩
  rcases d with d | d | d | d | d | d | d | d | d | d
  · exact .inl d
  · exact .inr (.inl d)
  · exact .inr (.inr (.inl ⟨d.1, d.2.1, by have := d.2.2.1; omega, d.2.2.2⟩))
  · exact .inr (.inr (.inr (.inl ⟨d.1, d.2.1, by have := d.2.2.1; omega, d.2.2.2⟩)))
  · exact .inr (.inr (.inr (.inr (.inl ⟨d.1, d.2.1, by have := d.2.2.1; omega, d.2.2.2⟩))))
  · exact .inr (.inr (.inr (.inr (.inr (.inl ⟨d.1, d.2.1, by have := d.2.2.1; omega, d.2.2.2⟩)))))
  · exact .inr (.inr (.inr (.inr (.inr (.inr (.inl d))))))
  · exact .inr (.inr (.inr (.inr (.inr (.inr (.inr (.inl d)))))))
  · exact .inr (.inr (.inr (.inr (.inr (.inr (.inr (.inr (.inl d))))))))
  · exact .inr (.inr (.inr (.inr (.inr (.inr (.inr (.inr (.inr d))))))))
theorem body_each {l : List I5} {ch : Int} (h : bodyB l ch = true) : ∀ i, i < l.length → insX (l.getD i z5) l.length ch = true := by
  unfold bodyB at h
  rw [Bool.and_eq_true] at h
  exact of_decide_eq_true h.1

theorem keep2 {w1 w2 : World} {B K : Nat} {v0 v1 : Value} (hb : Below K w1 w2) (hz : B < K) (c0 : w1.cell? ⟨B, 0, none⟩ = some v0) (c1 : w1.cell? ⟨B, 1, none⟩ = some v1) : w2.cell? ⟨B, 0, none⟩ = some v0 ∧ w2.cell? ⟨B, 1, none⟩ = some v1 :=
  ⟨(hb.cell (p := ⟨B, 0, none⟩) hz).trans c0, (hb.cell (p := ⟨B, 1, none⟩) hz).trans c1⟩
theorem prog_cells {w5 w6 w7 : World} {v0 v1 : Value} {T : TypeId} (hb6 : Below ((w5.alloc (.cells #[v0, v1] T)).drew).heap.size ((w5.alloc (.cells #[v0, v1] T)).drew) w6) (hb7 : Below w6.heap.size w6 w7) : w7.cell? ⟨w5.heap.size, 0, none⟩ = some v0 ∧ w7.cell? ⟨w5.heap.size, 1, none⟩ = some v1 := by
  have hs : w5.heap.size < w6.heap.size := by have := hb6.size; simp at this; omega
  obtain ⟨a0, a1⟩ := keep2 (B := w5.heap.size) hb6 (by simp) (v0 := v0) (v1 := v1) (by simp [go_sem]) (by simp [go_sem])
  exact keep2 hb7 hs a0 a1

theorem below_up {w0 w1 w2 : World} (h : Below w0.heap.size w0 w1) (h2 : Below w1.heap.size w1 w2) : Below w0.heap.size w0 w2 := h.trans (h2.mono h.size)
theorem insB_up {w5 w6 : World} {lo hi : Nat} {sl : Option Addr} {l : List I5} (h : InsR w5 lo hi sl l) (q : Below w5.heap.size w5 w6) (hi5 : hi ≤ w5.heap.size) : InsB w6 w6.heap.size sl l :=
  ((h.keep (Keep.of_below q hi5)).mono (Nat.le_refl _) (Nat.le_trans hi5 q.size)).insB
theorem size_up6 {w5 w6 : World} {o : Obj} (hb6 : Below ((w5.alloc o).drew).heap.size ((w5.alloc o).drew) w6) : w5.heap.size < w6.heap.size := by
  have := hb6.size
  simp at this
  omega
theorem prog_cells6 {w5 w6 : World} {v0 v1 : Value} {T : TypeId} (hb6 : Below ((w5.alloc (.cells #[v0, v1] T)).drew).heap.size ((w5.alloc (.cells #[v0, v1] T)).drew) w6) : w6.cell? ⟨w5.heap.size, 0, none⟩ = some v0 ∧ w6.cell? ⟨w5.heap.size, 1, none⟩ = some v1 :=
  keep2 (B := w5.heap.size) hb6 (by simp) (v0 := v0) (v1 := v1) (by simp [go_sem]) (by simp [go_sem])
theorem progR_up {w5 w7 : World} {lo : Nat} {s0 s1 : Option Addr} {p : PD} (h : ProgR w5 lo w5.heap.size s0 s1 p) (q : Below w5.heap.size w5 w7) : ProgR w7 lo w5.heap.size s0 s1 p :=
  ⟨h.1.keep (Keep.of_below q (Nat.le_refl _)), h.2.keep (Keep.of_below q (Nat.le_refl _))⟩

set_option maxRecDepth 100000 in
set_option maxHeartbeats 4000000 in
theorem walkRight (s : Option Addr) (n c : Nat) (w : World) (hb : Bytes w w.heap.size s n) (hn : n ≤ maxLen) :
    Calls Try.prog 3 #[.slice s n c] w fun e w' => e = .returned (.bool true) ∧ Below w.heap.size w w' := by
  have HB : Hid (Bytes w w.heap.size s n) := hb
  clear hb
  by_cases hbig : 1048576 < n
  · go_enter Try.func3, Try.ntmps3
    go_wp2_with (go_at_call 4; refine (big_any _ _ _ _).mono ?_; rintro e w' ⟨rfl, hw⟩; have hw' := hw.symm; clear hw; subst hw'; rw [decide_eq_true hbig])
    go_ret
    exact ⟨rfl, Below.refl _ _⟩
  · go_enter Try.func3, Try.ntmps3
    go_wp2_with (go_at_call 4; refine (big_any _ _ _ _).mono ?_; rintro e w' ⟨rfl, hw⟩; have hw' := hw.symm; clear hw; subst hw'; rw [decide_eq_false hbig])
    refine (drawInsOk_any s n c w HB.out hn).mono ?_
    rintro e w1 ⟨o, r, a, b, m, z, rfl, z0, z1, hb1⟩
    have hz1 := hb1.size
    have K1 : Hid (Below w.heap.size w w1) := hb1
    have X1 : Hid (Has (w1.alloc (.cells #[.int .i64 o, .int .i64 r, .int .i64 a, .int .i64 b, .int .i64 m] 25)) w1.heap.size o r a b m) := ⟨by simp [go_sem], by simp [go_sem], by simp [go_sem], by simp [go_sem], by simp [go_sem]⟩
    clear hb1
    go_wp2_with fail
    refine (insOk_any o r a b m 8 z _).mono ?_
    rintro e w2 ⟨rfl, hb2⟩
    have hz2 : w1.heap.size < w2.heap.size := by have := hb2.size; simp at this; omega
    have X2 : Hid (Has w2 w1.heap.size o r a b m) := X1.out.keep hb2 (by simp)
    have K2 : Hid (Below w.heap.size w w2) := (K1.out.alloc hz1 (.cells #[.int .i64 o, .int .i64 r, .int .i64 a, .int .i64 b, .int .i64 m] 25)).trans (hb2.mono (by simp; omega))
    clear hb2 X1
    go_wp2_with fail
    refine (drawBodyOk_any s n c w2 (bytes_up HB.out K2.out (by have := K2.out.size; omega)) hn).mono ?_
    rintro e w3 ⟨v, k, y, rfl, ho3, hk, hb3⟩
    obtain ⟨sl, cl, l, rfl, hlk, hI⟩ := ho3.ins
    have hz3 := hb3.size
    have hl : l.length ≤ 1048576 := by omega
    have X3 : Hid (Has w3 w1.heap.size o r a b m) := X2.out.keep hb3 hz2
    have K3 : Hid (Below w.heap.size w w3) := K2.out.trans (hb3.mono (by have := K2.out.size; omega))
    have I3 : Hid (InsR w3 w2.heap.size w3.heap.size sl l) := hI
    clear hI ho3 hb3 X2 hlk hk
    go_wp2_with fail
    refine (implBody_any sl cl w3.heap.size l y w3 I3.out.insB (Nat.le_refl _) hl).mono ?_
    rintro e w4 ⟨rfl, hb4⟩
    have hz4 := hb4.size
    have X4 : Hid (Has w4 w1.heap.size o r a b m) := X3.out.keep hb4 (by omega)
    have K4 : Hid (Below w.heap.size w w4) := K3.out.trans (hb4.mono (by have := K3.out.size; omega))
    have I4 : Hid (InsR w4 w2.heap.size w3.heap.size sl l) := I3.out.keep (Keep.of_below hb4 (Nat.le_refl _))
    clear hb4 X3 I3
    go_wp2_with fail
    refine (drawProgOk_any s n c w4 (bytes_up HB.out K4.out (by have := K4.out.size; omega)) hn).mono ?_
    rintro e w5 ⟨v0, v1, na, nb, rfl, hC, hS, ha6, hb6, hb5⟩
    obtain ⟨s0, d0, caps, rfl, hca, hIC⟩ := hC.ints
    obtain ⟨s1, d1, bods, rfl, hbo, hbl, hIS⟩ := hS.bods
    have hz5 := hb5.size
    have X5 : Hid (Has w5 w1.heap.size o r a b m) := X4.out.keep hb5 (by omega)
    have K5 : Hid (Below w.heap.size w w5) := K4.out.trans (hb5.mono (by have := K4.out.size; omega))
    have I5' : Hid (InsR w5 w2.heap.size w3.heap.size sl l) := I4.out.keep (Keep.of_below hb5 (by omega))
    have P5 : Hid (ProgR w5 w4.heap.size w5.heap.size s0 s1 ⟨caps, bods⟩) := ⟨hIC, hIS⟩
    have F5 : Hid (Fits ⟨caps, bods⟩) := ⟨by show caps.length ≤ _; omega, by show bods.length ≤ _; omega, fun i hi => by have := hbl i hi; show (bods.getD i []).length ≤ _; omega⟩
    clear hb5 X4 I4 hC hS hIC hIS hbl hca hbo ha6 hb6
    have kp : Below w5.heap.size w5 (w5.alloc (.cells #[.slice s0 caps.length d0, .slice s1 bods.length d1] 36)) := (Below.refl _ _).alloc (Nat.le_refl _) _
    have KP : Hid (Below w5.heap.size w5 (w5.alloc (.cells #[.slice s0 caps.length d0, .slice s1 bods.length d1] 36)).drew) := kp.drew
    obtain ⟨x0, x1, x2, x3, x4⟩ := X5.out
    have l5 : w1.heap.size < w5.heap.size := by omega
    have l35 : w3.heap.size ≤ w5.heap.size := by omega
    clear kp
    go_wp2_with fail
    first | go_region_with (first
      | (go_at_call 10; refine (specInsOk_any o r a b m 8 z _).mono ?_; rintro e w6 ⟨rfl, hb6⟩; have q6 := below_up KP.out hb6; have I6 := insB_up I5'.out q6 l35; have PP6 := prog_cells6 hb6; have l6 := size_up6 hb6; clear hb6)
      | (go_at_call 11; refine (specBody_any sl cl w6.heap.size l y w6 I6 (Nat.le_refl _) hl).mono ?_; rintro e w7 ⟨rfl, hb7⟩; have q7 := below_up q6 hb7; have PP7 := keep2 hb7 l6 PP6.1 PP6.2; have l7 := Nat.lt_of_lt_of_le l6 hb7.size; have P7 := progR_up P5.out q7; obtain ⟨p0, p1⟩ := PP7; clear hb7)
      | (go_at_call 12; refine (implProg_any s0 s1 d0 d1 w4.heap.size w5.heap.size ⟨caps, bods⟩ w7 P7 (Nat.le_of_lt l7) F5.out).mono ?_; rintro e w8 ⟨rfl, hb8⟩; have q8 := below_up q7 hb8; have PP8 := keep2 hb8 l7 p0 p1; have l8 := Nat.lt_of_lt_of_le l7 hb8.size; have P8 := progR_up P5.out q8; obtain ⟨p2, p3⟩ := PP8; clear hb8)
      | (go_at_call 13; refine (specProg_any s0 s1 d0 d1 w4.heap.size w5.heap.size ⟨caps, bods⟩ w8 P8 (Nat.le_of_lt l8) F5.out).mono ?_; rintro e w9 ⟨rfl, hb9⟩; have q9 := below_up q8 hb9; clear hb9)) | fail
    all_goals
      have X9 : Hid (Has w9 w1.heap.size o r a b m) := X5.out.keep q9 l5
      have I9 : Hid (InsR w9 w2.heap.size w3.heap.size sl l) := I5'.out.keep (Keep.of_below q9 (by omega))
      have K9 : Hid (Below w.heap.size w w9) := K5.out.trans (q9.mono (by have := K5.out.size; omega))
      have hz9 : w5.heap.size ≤ w9.heap.size := q9.size
      clear x0 x1 x2 x3 x4 p0 p1 p2 p3 q6 q7 q8 q9 I6 P7 P8 PP6 l6 l7 l8 P5 F5 KP X5 I5' K5
      obtain ⟨x0, x1, x2, x3, x4⟩ := X9.out
      have hX9 : w3.heap.size ≤ w9.heap.size := by omega
      cases hv : Plain.insB o r a b m 8 z
      · have KX := K9
        have IX := I9
        have hX := hX9
        go_wp2_with fail
        go_loopw [11] (fun i wr => ∃ k : Nat, k ≤ l.length ∧ i = .int .i64 k ∧ Below w.heap.size w wr ∧ InsR wr w2.heap.size w3.heap.size sl l ∧ w3.heap.size ≤ wr.heap.size) (fun i _ => l.length - (intOf i).toNat)
        case atStart => exact ⟨0, Nat.zero_le _, rfl, KX.out, IX.out, hX⟩
        case round =>
          obtain ⟨k, hk, rfl, hbr, hir, hsr⟩ := hrel
          have KR : Hid (Below w.heap.size w wr) := hbr
          have IR : Hid (InsR wr w2.heap.size w3.heap.size sl l) := hir
          clear hbr hir
          cases hbv : bodyB l y
          · by_cases hlt : k < l.length
            · have b1 : (k : Int) < (l.length : Int) := by omega
              go_wp2
              go_ret
              exact ⟨rfl, KR.out⟩
            · have b1 : ¬ (k : Int) < (l.length : Int) := by omega
              go_wp2
              go_ret
              exact ⟨rfl, KR.out⟩
          · by_cases hlt : k < l.length
            · have b0 : (0 : Int) ≤ (k : Int) := by omega
              have b1 : (k : Int) < (l.length : Int) := by omega
              have E := body_each hbv k hlt
              rcases IR.out with e | ⟨g, off, hsl, h1, h2, hc⟩
              · rw [e] at hlt; simp at hlt
              · obtain ⟨f0, f1, f2, f3, f4⟩ := hc k hlt
                subst hsl
                generalize l.getD k z5 = x at f0 f1 f2 f3 f4 E
                obtain ⟨xo, xr, xa, xb, xn⟩ := x
                have E' : Hid (Plain.insB xo xr xa xb xn l.length y = true) := E
                clear E hc
                go_wp2_with fail
                refine (insOk_any _ _ _ _ _ _ _ _).mono ?_
                rintro e wz ⟨rfl, hbz⟩
                rw [E'.out]
                have KZ : Hid (Below wr.heap.size wr wz) := hbz
                have hszz := hbz.size
                clear hbz
                go_wp2
                go_roundw
                case rel => exact ⟨k + 1, by omega, by go_num, KR.out.trans (KZ.out.mono KR.out.size), IR.out.keep (Keep.of_below KZ.out hsr), by omega⟩
                case measure => simp [intOf]; omega
            · have b1 : ¬ (k : Int) < (l.length : Int) := by omega
              go_wp2
              go_ret
              exact ⟨rfl, KR.out⟩
      · have V9 : Hid (Plain.insB o r a b m 9 z = true) := ins_more hv
        by_cases hz : z < 3
        · have V8 : Hid (Plain.insB o r a b m 8 (z + 1) = true) := ins_chan hv hz
          have hzw : wrap64 (z + 1) = z + 1 := by unfold wrap64; omega
          go_wp2_with fail
          refine (insOk_any o r a b m 9 z _).mono ?_
          rintro e wA ⟨rfl, hbA⟩
          rw [V9.out]
          have hsA := hbA.size
          have XA : Hid (Has wA w1.heap.size o r a b m) := X9.out.keep hbA (by omega)
          have IA : Hid (InsR wA w2.heap.size w3.heap.size sl l) := I9.out.keep (Keep.of_below hbA hX9)
          have KA : Hid (Below w.heap.size w wA) := K9.out.trans (hbA.mono (by have := K9.out.size; omega))
          clear hbA x0 x1 x2 x3 x4
          obtain ⟨x0, x1, x2, x3, x4⟩ := XA.out
          go_wp2_with fail
          refine (insOk_any o r a b m 8 _ _).mono ?_
          rintro e wB ⟨rfl, hbB⟩
          rw [V8.out]
          have hsB := hbB.size
          have IX : Hid (InsR wB w2.heap.size w3.heap.size sl l) := IA.out.keep (Keep.of_below hbB (by omega))
          have KX : Hid (Below w.heap.size w wB) := KA.out.trans (hbB.mono (by have := KA.out.size; omega))
          have hX : w3.heap.size ≤ wB.heap.size := by omega
          clear hbB x0 x1 x2 x3 x4
          go_wp2_with fail
          go_loopw [11] (fun i wr => ∃ k : Nat, k ≤ l.length ∧ i = .int .i64 k ∧ Below w.heap.size w wr ∧ InsR wr w2.heap.size w3.heap.size sl l ∧ w3.heap.size ≤ wr.heap.size) (fun i _ => l.length - (intOf i).toNat)
          case atStart => exact ⟨0, Nat.zero_le _, rfl, KX.out, IX.out, hX⟩
          case round =>
            obtain ⟨k, hk, rfl, hbr, hir, hsr⟩ := hrel
            have KR : Hid (Below w.heap.size w wr) := hbr
            have IR : Hid (InsR wr w2.heap.size w3.heap.size sl l) := hir
            clear hbr hir
            cases hbv : bodyB l y
            · by_cases hlt : k < l.length
              · have b1 : (k : Int) < (l.length : Int) := by omega
                go_wp2
                go_ret
                exact ⟨rfl, KR.out⟩
              · have b1 : ¬ (k : Int) < (l.length : Int) := by omega
                go_wp2
                go_ret
                exact ⟨rfl, KR.out⟩
            · by_cases hlt : k < l.length
              · have b0 : (0 : Int) ≤ (k : Int) := by omega
                have b1 : (k : Int) < (l.length : Int) := by omega
                have E := body_each hbv k hlt
                rcases IR.out with e | ⟨g, off, hsl, h1, h2, hc⟩
                · rw [e] at hlt; simp at hlt
                · obtain ⟨f0, f1, f2, f3, f4⟩ := hc k hlt
                  subst hsl
                  generalize l.getD k z5 = x at f0 f1 f2 f3 f4 E
                  obtain ⟨xo, xr, xa, xb, xn⟩ := x
                  have E' : Hid (Plain.insB xo xr xa xb xn l.length y = true) := E
                  clear E hc
                  go_wp2_with fail
                  refine (insOk_any _ _ _ _ _ _ _ _).mono ?_
                  rintro e wz ⟨rfl, hbz⟩
                  rw [E'.out]
                  have KZ : Hid (Below wr.heap.size wr wz) := hbz
                  have hszz := hbz.size
                  clear hbz
                  go_wp2
                  go_roundw
                  case rel => exact ⟨k + 1, by omega, by go_num, KR.out.trans (KZ.out.mono KR.out.size), IR.out.keep (Keep.of_below KZ.out hsr), by omega⟩
                  case measure => simp [intOf]; omega
              · have b1 : ¬ (k : Int) < (l.length : Int) := by omega
                go_wp2
                go_ret
                exact ⟨rfl, KR.out⟩
        · go_wp2_with fail
          refine (insOk_any o r a b m 9 z _).mono ?_
          rintro e wA ⟨rfl, hbA⟩
          rw [V9.out]
          have hsA := hbA.size
          have IX : Hid (InsR wA w2.heap.size w3.heap.size sl l) := I9.out.keep (Keep.of_below hbA hX9)
          have KX : Hid (Below w.heap.size w wA) := K9.out.trans (hbA.mono (by have := K9.out.size; omega))
          have hX : w3.heap.size ≤ wA.heap.size := by omega
          clear hbA x0 x1 x2 x3 x4
          go_wp2_with fail
          go_loopw [11] (fun i wr => ∃ k : Nat, k ≤ l.length ∧ i = .int .i64 k ∧ Below w.heap.size w wr ∧ InsR wr w2.heap.size w3.heap.size sl l ∧ w3.heap.size ≤ wr.heap.size) (fun i _ => l.length - (intOf i).toNat)
          case atStart => exact ⟨0, Nat.zero_le _, rfl, KX.out, IX.out, hX⟩
          case round =>
            obtain ⟨k, hk, rfl, hbr, hir, hsr⟩ := hrel
            have KR : Hid (Below w.heap.size w wr) := hbr
            have IR : Hid (InsR wr w2.heap.size w3.heap.size sl l) := hir
            clear hbr hir
            cases hbv : bodyB l y
            · by_cases hlt : k < l.length
              · have b1 : (k : Int) < (l.length : Int) := by omega
                go_wp2
                go_ret
                exact ⟨rfl, KR.out⟩
              · have b1 : ¬ (k : Int) < (l.length : Int) := by omega
                go_wp2
                go_ret
                exact ⟨rfl, KR.out⟩
            · by_cases hlt : k < l.length
              · have b0 : (0 : Int) ≤ (k : Int) := by omega
                have b1 : (k : Int) < (l.length : Int) := by omega
                have E := body_each hbv k hlt
                rcases IR.out with e | ⟨g, off, hsl, h1, h2, hc⟩
                · rw [e] at hlt; simp at hlt
                · obtain ⟨f0, f1, f2, f3, f4⟩ := hc k hlt
                  subst hsl
                  generalize l.getD k z5 = x at f0 f1 f2 f3 f4 E
                  obtain ⟨xo, xr, xa, xb, xn⟩ := x
                  have E' : Hid (Plain.insB xo xr xa xb xn l.length y = true) := E
                  clear E hc
                  go_wp2_with fail
                  refine (insOk_any _ _ _ _ _ _ _ _).mono ?_
                  rintro e wz ⟨rfl, hbz⟩
                  rw [E'.out]
                  have KZ : Hid (Below wr.heap.size wr wz) := hbz
                  have hszz := hbz.size
                  clear hbz
                  go_wp2
                  go_roundw
                  case rel => exact ⟨k + 1, by omega, by go_num, KR.out.trans (KZ.out.mono KR.out.size), IR.out.keep (Keep.of_below KZ.out hsr), by omega⟩
                  case measure => simp [intOf]; omega
              · have b1 : ¬ (k : Int) < (l.length : Int) := by omega
                go_wp2
                go_ret
                exact ⟨rfl, KR.out⟩

theorem ownT : ownKnob Try.prog.godebug = none := by kernel_rfl
theorem laidOutT : laidOutB Try.prog = true := by kernel_rfl

/- how the bytes of a draw read -/
theorem bytes_read {H : Type} {enc : TypeId × Value → H} {w : World} {base b0 : Nat} {held : Bool} {k : Reach} {v : Value} {d : DataW H} {p : List MemPlace}
    (hv : Value.okWide Try.prog w k b0 22 v) (h : DataW.Trod enc Try.prog w base (fun _ => true) held 22 v d p) :
    ∃ (s : Option Addr) (n c : Nat), v = .slice s n c ∧ n ≤ maxLen ∧ Bytes w w.heap.size s n := by
  obtain ⟨s, len, cap, rfl⟩ := okWide_slice Try.underlying22 hv
  obtain ⟨fuel, hf⟩ := h
  rcases open_ints Try.underlying22 Try.underlying5 (by kernel_rfl) hf with ⟨hcs, _⟩ | ⟨a, l, c, zs, hcs, _, hl, hm, hz, _, hcell, hwz⟩
  · simp [Value.cells] at hcs
    obtain ⟨rfl, rfl, rfl⟩ := hcs
    exact ⟨none, 0, 0, rfl, Nat.zero_le _, .inl rfl⟩
  · simp [Value.cells] at hcs
    obtain ⟨rfl, rfl, rfl⟩ := hcs
    simp at hz
    refine ⟨some a, len, cap, rfl, by omega, ?_⟩
    by_cases h0 : len = 0
    · exact .inl h0
    · have c0 := hcell 0 (by omega)
      have c0' : w.cell? a = some (.int .u8 (zs.getD 0 0)) := by simpa [Addr.add] using c0
      have hs := World.cell?_spot c0'
      have hg : a.block < w.heap.size := by
        apply Classical.byContradiction
        intro hn
        have : w.heap[a.block]? = none := by simp; omega
        simp [World.cell?, this] at c0'
      obtain ⟨g, off, spot⟩ := a
      simp at hs
      subst hs
      refine .inr ⟨g, off, rfl, hg, fun i hi => ?_⟩
      have ci := hcell i (by omega)
      have e : (Addr.add ⟨g, off, none⟩ i) = ⟨g, off + i, none⟩ := by
        by_cases h : i = 0
        · subst h; rfl
        · simp [Addr.add, h]
      rw [e] at ci
      have hmem : zs.getD i 0 ∈ zs := by
        rw [List.getD_eq_getElem?_getD, List.getElem?_eq_getElem (by omega)]
        exact List.getElem_mem (by omega)
      have hw := bounds_u8 (hwz _ hmem)
      exact ⟨_, ci, by omega, by omega⟩

set_option maxRecDepth 100000 in
theorem liftedRight (os : Os) (started : os.Started) (H : Type) (enc : TypeId × Value → H) :
    ReturnsInHanded {} Try.checked os 3 .any (Rows.fnRightSpec.pre6 enc Try.prog Try.f3 Rows.fnRightRow.domain false) (Rows.fnRightSpec.post enc Try.prog Try.f3 false true false false) := by
  refine returnsInHanded_of_change (C := Try.checked) ownT started (by kernel_rfl) Try.func3
    (ChangeSpec.witness6 (enc := enc) (C := Try.checked) false ⟨#[], #[.slice none 0 0], []⟩ 8 (by kernel_rfl) (by kernel_rfl) (by kernel_rfl) (by kernel_rfl)) ?_
  intro W base args ds gs before hval0 hW hcnd _
  have hval : ∀ (j : Nat) t v, Try.f3.params[j]? = some t → args[j]? = some v → Value.okWide Try.prog W .any base t v := hval0
  have hW' := hW
  obtain ⟨p, q, hA0, hV, rfl, hfz, hnd⟩ := hW
  have hA : DataW.TrodAll enc Try.prog W 0 (fun _ => true) true Try.f3.params.toList args.toList ds p := hA0
  rw [Try.params3] at hA hval
  obtain ⟨v0, d0, hargs, rfl, h0⟩ := trodAll_one hA
  obtain rfl : args = #[v0] := by cases args; simp_all
  obtain ⟨rfl, rfl⟩ := trodVars_none hV
  have k0 := h0
  have lt0 : ∀ x ∈ p, x.block < W.heap.size := by obtain ⟨m, hm⟩ := k0; exact DataW.trod_lt m _ _ _ hm
  obtain ⟨s, n, c, rfl, hn, hB⟩ := bytes_read (hval 0 22 v0 rfl rfl) h0
  clear hA0 hval0
  refine (walkRight s n c W hB hn).mono fun e W' ⟨he, bel⟩ => ?_
  subst he
  exact ⟨_, rfl, _, _, _, [], _, [], hW', trodAll_mk1 (shut_bool Try.underlying4 _), trodAll_mk1 (Below.trod laidOutT (by kernel_rfl) (of_decide_eq_true (by kernel_rfl)) k0 bel lt0), rfl, bel.frame _, fun h => by cases h⟩

theorem fnRight_holds : Rows.FnRightSaid :=
  OpenClaim.holds_of_wide 3 Try.f3 rfl rfl rfl rfl rfl rfl rfl ⟨rfl, rfl, rfl, rfl, rfl⟩ rfl rfl rfl rfl rfl (by kernel_rfl) Try.func3 (by kernel_rfl)
    (of_decide_eq_true (by kernel_rfl)) (by unfold Func.isWrapper; first | (rw [if_pos (by decide +kernel)]; kernel_rfl) | (rw [if_neg (by decide +kernel)]; exact ⟨rfl, rfl⟩))
    (fun os started H enc _ => liftedRight os started H enc)
#print axioms fnRight_holds
end Go.Proofs.Ytfhhlahfldddfaf
