/- The law FnSets of the given statements: what a drawn place takes and sets are its own registers, and as the specification says. No condition. -/
import Derived.Test.YtkmobmnbdapjkagFrames
import Derived.Test.YtkmobmnbdapjkagRegs2
import Derived.Test.YtkmobmnbdapjkagSameInts
import Derived.Test.YtkmobmnbdapjkagDraw3
import Derived.Deep.RegionHeld3
namespace Go.Proofs.Ytkmobmnbdapjkag
set_option linter.unusedSimpArgs false
set_option linter.unusedVariables false
open Go.ChangeShapes Go.WideShapes Go.ChangeAt Go.RowKit

theorem big_any (s : Option Addr) (n c : Nat) (w : World) : Calls Try.prog 6 #[.slice s n c] w fun e w' => e = .returned (.bool (decide (1048576 < n))) ∧ w' = w := by
  go_enter Try.func6, Try.ntmps6
  go_wp2
  go_ret
  refine ⟨ret_bool' ?_, rfl⟩
  rw [Bool.eq_iff_iff]
  simp
  omega

set_option maxHeartbeats 400000 in
theorem drawReads_any (s : Option Addr) (n c : Nat) (w : World) (hb : Bytes w w.heap.size s n) (hn : n ≤ maxLen) :
    Calls Try.prog 7 #[.slice s n c] w fun e w' => ∃ o r a b m : Int, e = .returned (.agg #[.int .i64 o, .int .i64 r, .int .i64 a, .int .i64 b, .int .i64 m]) ∧ Below w.heap.size w w' := by
  have HB : Hid (Bytes (w.alloc (.cells #[.int .i64 0, .int .i64 0, .int .i64 0, .int .i64 0, .int .i64 0] 25)) (w.heap.size + 1) s n) := by
    have h1 := hb.below ((Below.refl w.heap.size w).alloc (Nat.le_refl _) (.cells #[.int .i64 0, .int .i64 0, .int .i64 0, .int .i64 0, .int .i64 0] 25)) (Nat.le_refl _)
    rcases h1 with h1 | ⟨g, o, hs, hg, hc⟩
    · exact .inl h1
    · exact .inr ⟨g, o, hs, by omega, hc⟩
  have HR0 : Hid (Res (w.alloc (.cells #[.int .i64 0, .int .i64 0, .int .i64 0, .int .i64 0, .int .i64 0] 25)) w.heap.size) := res_new w (.int .i64 0) (.int .i64 0) (.int .i64 0) (.int .i64 0) (.int .i64 0) 25
  clear hb
  go_enter Try.func7, Try.ntmps7
  go_wp2_with fail
  refine (drawOne_any s n c _ (by simpa using HB.out) hn).mono ?_
  rintro e w1 ⟨o, r, a, b, m, rfl, hb1⟩
  obtain ⟨u0, u1, u2, u3, u4, g0, g1, g2, g3, g4⟩ := (HR0.out.of_below hb1 (by simp)).at
  have z := (HR0.out.of_below hb1 (by simp)).2.1
  have K1 : Hid (Below w.heap.size w w1) := ((Below.refl _ _).alloc (Nat.le_refl _) _).trans (hb1.mono (by simp))
  clear hb1
  go_wp2
  exact bodyPost_ret (v := .agg #[.int .i64 o, .int .i64 r, .int .i64 a, .int .i64 b, .int .i64 m]) (by simp [results, Try.results7, go_sem, g0, g1, g2, g3, g4]) rfl ⟨_, _, _, _, _, rfl, below_set5v K1.out (Nat.le_refl _)⟩

set_option maxHeartbeats 400000 in
theorem drawSets_any (s : Option Addr) (n c : Nat) (w : World) (hb : Bytes w w.heap.size s n) (hn : n ≤ maxLen) :
    Calls Try.prog 13 #[.slice s n c] w fun e w' => ∃ o r a b m : Int, e = .returned (.agg #[.int .i64 o, .int .i64 r, .int .i64 a, .int .i64 b, .int .i64 m]) ∧ Below w.heap.size w w' := by
  have HB : Hid (Bytes (w.alloc (.cells #[.int .i64 0, .int .i64 0, .int .i64 0, .int .i64 0, .int .i64 0] 25)) (w.heap.size + 1) s n) := by
    have h1 := hb.below ((Below.refl w.heap.size w).alloc (Nat.le_refl _) (.cells #[.int .i64 0, .int .i64 0, .int .i64 0, .int .i64 0, .int .i64 0] 25)) (Nat.le_refl _)
    rcases h1 with h1 | ⟨g, o, hs, hg, hc⟩
    · exact .inl h1
    · exact .inr ⟨g, o, hs, by omega, hc⟩
  have HR0 : Hid (Res (w.alloc (.cells #[.int .i64 0, .int .i64 0, .int .i64 0, .int .i64 0, .int .i64 0] 25)) w.heap.size) := res_new w (.int .i64 0) (.int .i64 0) (.int .i64 0) (.int .i64 0) (.int .i64 0) 25
  clear hb
  go_enter Try.func13, Try.ntmps13
  go_wp2_with fail
  refine (drawOne_any s n c _ (by simpa using HB.out) hn).mono ?_
  rintro e w1 ⟨o, r, a, b, m, rfl, hb1⟩
  obtain ⟨u0, u1, u2, u3, u4, g0, g1, g2, g3, g4⟩ := (HR0.out.of_below hb1 (by simp)).at
  have z := (HR0.out.of_below hb1 (by simp)).2.1
  have K1 : Hid (Below w.heap.size w w1) := ((Below.refl _ _).alloc (Nat.le_refl _) _).trans (hb1.mono (by simp))
  clear hb1
  go_wp2
  exact bodyPost_ret (v := .agg #[.int .i64 o, .int .i64 r, .int .i64 a, .int .i64 b, .int .i64 m]) (by simp [results, Try.results13, go_sem, g0, g1, g2, g3, g4]) rfl ⟨_, _, _, _, _, rfl, below_set5v K1.out (Nat.le_refl _)⟩

theorem Bytes.mono {w : World} {p p' n : Nat} {s : Option Addr} (h : Bytes w p s n) (hp : p ≤ p') : Bytes w p' s n := by
  rcases h with h | ⟨g, o, hs, hg, hc⟩
  · exact .inl h
  · exact .inr ⟨g, o, hs, by omega, hc⟩
theorem Has.keep {w w' : World} {X B : Nat} {o r a b m : Int} (h : Has w X o r a b m) (hb : Below B w w') (hX : X < B) : Has w' X o r a b m :=
  ⟨(hb.cell (p := ⟨X, 0, none⟩) hX).trans h.1, (hb.cell (p := ⟨X, 1, none⟩) hX).trans h.2.1, (hb.cell (p := ⟨X, 2, none⟩) hX).trans h.2.2.1, (hb.cell (p := ⟨X, 3, none⟩) hX).trans h.2.2.2.1, (hb.cell (p := ⟨X, 4, none⟩) hX).trans h.2.2.2.2⟩
theorem Ints.keep {w w' : World} {s : Option Addr} {l : List Int} (h : Ints w s l) (hb : Below w.heap.size w w') : Ints w' s l := by
  rcases h with h | ⟨g, o, hs, hg, hc⟩
  · exact .inl h
  · exact .inr ⟨g, o, hs, by have := hb.size; omega, fun i hi => (hb.cell hg).trans (hc i hi)⟩
theorem fresh_ints {w w' : World} {s : Option Addr} {l : List Int}
    (h : l = [] ∨ ∃ g, s = some ⟨g, 0, none⟩ ∧ w.heap.size ≤ g ∧ g < w'.heap.size ∧ (∀ i, i < l.length → w'.cell? ⟨g, 0 + i, none⟩ = some (.int .i64 (l.getD i 0))) ∧ (∀ i, i < l.length → w'.frozen? ⟨g, 0 + i, none⟩ = false)) : Ints w' s l := by
  rcases h with rfl | ⟨g, rfl, h1, h2, h3, h4⟩
  · exact .inl rfl
  · exact .inr ⟨g, 0, rfl, h2, h3⟩
theorem reads_mem (o a b : Int) (i : Nat) (h : i < (Plain.readsL o a b).length) : (Plain.readsL o a b).getD i 0 = a ∨ (Plain.readsL o a b).getD i 0 = b := by
  unfold Plain.readsL at h ⊢
  split at h
  · rename_i hc
    rw [if_pos hc]
    match i, h with
    | 0, _ => exact .inl rfl
    | 1, _ => exact .inr rfl
  · rename_i hc
    rw [if_neg hc]
    split at h
    · rename_i hd
      rw [if_pos hd]
      match i, h with
      | 0, _ => exact .inl rfl
    · simp at h
theorem sets_mem (o r b : Int) (i : Nat) (h : i < (Plain.setsL o r b).length) : (Plain.setsL o r b).getD i 0 = r ∨ (Plain.setsL o r b).getD i 0 = b := by
  unfold Plain.setsL at h ⊢
  split at h
  · rename_i hc
    rw [if_pos hc]
    match i, h with
    | 0, _ => exact .inl rfl
  · rename_i hc
    rw [if_neg hc]
    split at h
    · rename_i hd
      rw [if_pos hd]
      match i, h with
      | 0, _ => exact .inl rfl
      | 1, _ => exact .inr rfl
    · simp at h
theorem readsL_le (o a b : Int) : (Plain.readsL o a b).length ≤ 2 := by unfold Plain.readsL; split <;> (try split) <;> simp
theorem setsL_le (o a b : Int) : (Plain.setsL o a b).length ≤ 2 := by unfold Plain.setsL; split <;> (try split) <;> simp

set_option maxRecDepth 100000 in
set_option maxHeartbeats 4000000 in
theorem walkSets (s : Option Addr) (n c : Nat) (w : World) (hb : Bytes w w.heap.size s n) (hn : n ≤ maxLen) :
    Calls Try.prog 3 #[.slice s n c] w fun e w' => e = .returned (.bool true) ∧ Below w.heap.size w w' := by
  have HB : Hid (Bytes w w.heap.size s n) := hb
  clear hb
  by_cases hbig : 1048576 < n
  · go_enter Try.func3, Try.ntmps3
    go_wp2_with (go_at_call 6; refine (big_any _ _ _ _).mono ?_; rintro e w' ⟨rfl, hw⟩; have hw' := hw.symm; clear hw; subst hw'; rw [decide_eq_true hbig])
    go_ret
    exact ⟨rfl, Below.refl _ _⟩
  · go_enter Try.func3, Try.ntmps3
    go_wp2_with (go_at_call 6; refine (big_any _ _ _ _).mono ?_; rintro e w' ⟨rfl, hw⟩; have hw' := hw.symm; clear hw; subst hw'; rw [decide_eq_false hbig])
    refine (drawReads_any s n c w HB.out hn).mono ?_
    rintro e w1 ⟨o, r, a, b, m, rfl, hb1⟩
    have hz1 := hb1.size
    have K1 : Hid (Below w.heap.size w w1) := hb1
    have X1 : Hid (Has (w1.alloc (.cells #[.int .i64 o, .int .i64 r, .int .i64 a, .int .i64 b, .int .i64 m] 25)) w1.heap.size o r a b m) := ⟨by simp [go_sem], by simp [go_sem], by simp [go_sem], by simp [go_sem], by simp [go_sem]⟩
    clear hb1
    have l1 := readsL_le o a b
    have l2 := setsL_le o r b
    have M1 : Hid (∀ i, i < (Plain.readsL o a b).length → (Plain.readsL o a b).getD i 0 = a ∨ (Plain.readsL o a b).getD i 0 = b) := reads_mem o a b
    have RI : Hid (∀ w, Calls Try.prog 8 #[.agg #[.int .i64 o, .int .i64 r, .int .i64 a, .int .i64 b, .int .i64 m]] w fun e w' => ∃ v, e = .returned v ∧ Fresh w w' v (Plain.readsL o a b)) := fun w => implReads_any o r a b m w
    have RS : Hid (∀ w, Calls Try.prog 11 #[.agg #[.int .i64 o, .int .i64 r, .int .i64 a, .int .i64 b, .int .i64 m]] w fun e w' => ∃ v, e = .returned v ∧ Fresh w w' v (Plain.readsL o a b)) := fun w => specReads_any o r a b m w
    have SI : Hid (∀ w, Calls Try.prog 9 #[.agg #[.int .i64 o, .int .i64 r, .int .i64 a, .int .i64 b, .int .i64 m]] w fun e w' => ∃ v, e = .returned v ∧ Fresh w w' v (Plain.setsL o r b)) := fun w => implSets_any o r a b m w
    have SS : Hid (∀ w, Calls Try.prog 12 #[.agg #[.int .i64 o, .int .i64 r, .int .i64 a, .int .i64 b, .int .i64 m]] w fun e w' => ∃ v, e = .returned v ∧ Fresh w w' v (Plain.setsL o r b)) := fun w => specSets_any o r a b m w
    generalize Plain.readsL o a b = p1 at l1 M1 RI RS
    generalize Plain.setsL o r b = p2 at l2 SI SS
    obtain ⟨x0, x1, x2, x3, x4⟩ := X1.out
    go_wp2_with fail
    first | go_region_with (first | (go_at_call 8; refine (RI.out _).mono ?_; rintro e w2 ⟨v, rfl, sa, ca, rfl, hb2, hf2⟩; obtain ⟨y0, y1, y2, y3, y4⟩ := Has.keep (w := (w1.alloc (.cells #[.int .i64 o, .int .i64 r, .int .i64 a, .int .i64 b, .int .i64 m] 25)).drew) X1.out hb2 (by simp)) | (go_at_call 9; refine (SI.out _).mono ?_; rintro e w3 ⟨v, rfl, sb, cb, rfl, hb3, hf3⟩)) | fail
    all_goals
      have hz2 : w1.heap.size < w2.heap.size := by have := hb2.size; simp at this; omega
      have X3 : Hid (Has w3 w1.heap.size o r a b m) := Has.keep (Has.keep (w := (w1.alloc (.cells #[.int .i64 o, .int .i64 r, .int .i64 a, .int .i64 b, .int .i64 m] 25)).drew) X1.out hb2 (by simp)) hb3 hz2
      have K3 : Hid (Below w.heap.size w w3) := (((K1.out.alloc hz1 (.cells #[.int .i64 o, .int .i64 r, .int .i64 a, .int .i64 b, .int .i64 m] 25)).drew).trans (hb2.mono (by simp; omega))).trans (hb3.mono (by omega))
      have A3 : Hid (Ints w3 sa p1) := (fresh_ints hf2).keep hb3
      have B3 : Hid (Ints w3 sb p2) := fresh_ints hf3
      have hz3 : w1.heap.size < w3.heap.size := by have := hb3.size; omega
      clear y0 y1 y2 y3 y4 hb2 hf2 hb3 hf3 x0 x1 x2 x3 x4 X1 RI SI
      obtain ⟨x0, x1, x2, x3, x4⟩ := X3.out
      go_wp2_with fail
      refine (RS.out _).mono ?_
      rintro e w4 ⟨v, rfl, sc, cc, rfl, hb4, hf4⟩
      go_wp2_with fail
      refine (sameInts_any sa sc p1 p1 ca cc w4 (A3.out.keep hb4) (fresh_ints hf4) (by omega)).mono ?_
      rintro e w5 ⟨rfl, m4, rfl⟩
      rw [decide_eq_true (rfl : p1 = p1)]
      have X4 : Hid (Has (w4.drewN m4) w1.heap.size o r a b m) := X3.out.keep (w' := w4) hb4 hz3
      have K4 : Hid (Below w.heap.size w w4) := K3.out.trans (hb4.mono (by omega))
      have A4 : Hid (Ints w4 sa p1) := A3.out.keep hb4
      have B4 : Hid (Ints w4 sb p2) := B3.out.keep hb4
      have hz4 : w1.heap.size < w4.heap.size := by have := hb4.size; omega
      clear x0 x1 x2 x3 x4 hb4 hf4 X3
      obtain ⟨x0, x1, x2, x3, x4⟩ := X4.out
      go_wp2_with fail
      refine (SS.out _).mono ?_
      rintro e w6 ⟨v, rfl, sd, cd, rfl, hb6, hf6⟩
      go_wp2_with fail
      refine (sameInts_any sb sd p2 p2 cb cd w6 (B4.out.keep (w' := w6) ⟨hb6.os, hb6.tape, hb6.output, hb6.size, hb6.block⟩) (fresh_ints hf6) (by omega)).mono ?_
      rintro e w7 ⟨rfl, m6, rfl⟩
      rw [decide_eq_true (rfl : p2 = p2)]
      have X6 : Hid (Has w6 w1.heap.size o r a b m) := X4.out.keep (w' := w6) hb6 (by simp; omega)
      have hz6 : w4.heap.size ≤ w6.heap.size := hb6.size
      have K6 : Hid (Below w.heap.size w w6) := K4.out.trans ⟨hb6.os, hb6.tape, hb6.output, hb6.size, fun k hk => hb6.block k (by simp; omega)⟩
      have A6 : Hid (Ints w6 sa p1) := A4.out.keep (w' := w6) ⟨hb6.os, hb6.tape, hb6.output, hb6.size, hb6.block⟩
      clear x0 x1 x2 x3 x4 hb6 hf6 X4 A3 B3 A4 B4 K3 K4 RS SS
      obtain ⟨x0, x1, x2, x3, x4⟩ := X6.out
      go_wp2
      go_loopw [6] (fun i wr => ∃ k q : Nat, k ≤ p1.length ∧ i = .int .i64 k ∧ wr = w6.drewN q) (fun i _ => p1.length - (intOf i).toNat)
      case atStart => exact ⟨0, m6, Nat.zero_le _, rfl, rfl⟩
      case round =>
        obtain ⟨k, q, hk, rfl, rfl⟩ := hrel
        by_cases hlt : k < p1.length
        · have i0 : (0 : Int) ≤ (k : Int) := by omega
          have i1 : (k : Int) < (p1.length : Int) := by omega
          obtain ⟨g, off, hs, hc⟩ : ∃ g off, sa = some ⟨g, off, none⟩ ∧ w6.cell? ⟨g, off + k, none⟩ = some (.int .i64 (p1.getD k 0)) := by
            rcases A6.out with h | ⟨g, off, a, b, d⟩
            · rw [h] at hlt; simp at hlt
            · exact ⟨g, off, a, d k hlt⟩
          subst hs
          have hm := M1.out k hlt
          generalize p1.getD k 0 = y at hc hm
          by_cases hya : y = a
          · subst hya
            have q0 : (y != y) = false := by simp
            clear hm
            go_wp2_with fail
            go_quiet (fail)
            go_wp2
            go_roundw
            case rel => exact ⟨k + 1, _, by omega, by go_num, rfl⟩
            case measure => simp [intOf]; omega
          · have hyb : y = b := by rcases hm with h | h <;> first | exact absurd h hya | exact h
            subst hyb
            have q0 : (y != a) = true := by simp [hya]
            have q1 : (y != y) = false := by simp
            clear hm hya
            go_wp2_with fail
            go_quiet (fail)
            go_wp2
            go_roundw
            case rel => exact ⟨k + 1, _, by omega, by go_num, rfl⟩
            case measure => simp [intOf]; omega
        · have HB6 : Hid (Bytes (w6.drewN q) (w6.drewN q).heap.size s n) := (HB.out.below (w' := w6.drewN q) ⟨K6.out.os, K6.out.tape, K6.out.output, K6.out.size, K6.out.block⟩ (Nat.le_refl _)).mono (by have := K6.out.size; simpa using this)
          clear x0 x1 x2 x3 x4 X6 A6 M1
          go_wp2_with fail
          refine (drawSets_any s n c _ HB6.out hn).mono ?_
          rintro e w8 ⟨o', r', a', b', m', rfl, hb8⟩
          have hz8 : w6.heap.size ≤ w8.heap.size := hb8.size
          have K8 : Hid (Below w.heap.size w w8) := K6.out.trans ⟨hb8.os, hb8.tape, hb8.output, hb8.size, fun k hk => hb8.block k (by have := K6.out.size; simp; omega)⟩
          have hz0 : w.heap.size ≤ w8.heap.size := K8.out.size
          have X8 : Hid (Has (w8.alloc (.cells #[.int .i64 o', .int .i64 r', .int .i64 a', .int .i64 b', .int .i64 m'] 25)) w8.heap.size o' r' a' b' m') := ⟨by simp [go_sem], by simp [go_sem], by simp [go_sem], by simp [go_sem], by simp [go_sem]⟩
          clear hb8 HB6
          have l3 := setsL_le o' r' b'
          have M3 : Hid (∀ i, i < (Plain.setsL o' r' b').length → (Plain.setsL o' r' b').getD i 0 = r' ∨ (Plain.setsL o' r' b').getD i 0 = b') := sets_mem o' r' b'
          have SI' : Hid (∀ w, Calls Try.prog 9 #[.agg #[.int .i64 o', .int .i64 r', .int .i64 a', .int .i64 b', .int .i64 m']] w fun e w' => ∃ v, e = .returned v ∧ Fresh w w' v (Plain.setsL o' r' b')) := fun w => implSets_any o' r' a' b' m' w
          generalize Plain.setsL o' r' b' = p3 at l3 M3 SI'
          go_wp2_with fail
          refine (SI'.out _).mono ?_
          rintro e w9 ⟨v, rfl, se, ce, rfl, hb9, hf9⟩
          have hz9 : w8.heap.size < w9.heap.size := by have := hb9.size; simp at this; omega
          have X9 : Hid (Has w9 w8.heap.size o' r' a' b' m') := X8.out.keep hb9 (by simp)
          have K9 : Hid (Below w.heap.size w w9) := (K8.out.alloc hz0 (.cells #[.int .i64 o', .int .i64 r', .int .i64 a', .int .i64 b', .int .i64 m'] 25)).trans (hb9.mono (by simp; omega))
          have A9 : Hid (Ints w9 se p3) := fresh_ints hf9
          clear hb9 hf9 X8 SI'
          obtain ⟨x0, x1, x2, x3, x4⟩ := X9.out
          go_wp2
          go_loopw [9] (fun i wr => ∃ k q : Nat, k ≤ p3.length ∧ i = .int .i64 k ∧ wr = w9.drewN q) (fun i _ => p3.length - (intOf i).toNat)
          case atStart => exact ⟨0, 0, Nat.zero_le _, rfl, rfl⟩
          case round =>
            obtain ⟨k, q, hk, rfl, rfl⟩ := hrel
            by_cases hlt : k < p3.length
            · have i0 : (0 : Int) ≤ (k : Int) := by omega
              have i1 : (k : Int) < (p3.length : Int) := by omega
              obtain ⟨g, off, hs, hc⟩ : ∃ g off, se = some ⟨g, off, none⟩ ∧ w9.cell? ⟨g, off + k, none⟩ = some (.int .i64 (p3.getD k 0)) := by
                rcases A9.out with h | ⟨g, off, a, b, d⟩
                · rw [h] at hlt; simp at hlt
                · exact ⟨g, off, a, d k hlt⟩
              subst hs
              have hm := M3.out k hlt
              generalize p3.getD k 0 = y at hc hm
              by_cases hya : y = r'
              · subst hya
                have q0 : (y != y) = false := by simp
                clear hm
                go_wp2_with fail
                go_quiet (fail)
                go_wp2
                go_roundw
                case rel => exact ⟨k + 1, _, by omega, by go_num, rfl⟩
                case measure => simp [intOf]; omega
              · have hyb : y = b' := by rcases hm with h | h <;> first | exact absurd h hya | exact h
                subst hyb
                have q0 : (y != r') = true := by simp [hya]
                have q1 : (y != y) = false := by simp
                clear hm hya
                go_wp2_with fail
                go_quiet (fail)
                go_wp2
                go_roundw
                case rel => exact ⟨k + 1, _, by omega, by go_num, rfl⟩
                case measure => simp [intOf]; omega
            · have j1 : (p1.length : Int) ≤ 2 := by omega
              have j2 : (p2.length : Int) ≤ 2 := by omega
              go_wp2
              go_ret
              exact ⟨ret_bool' (by simp [j1, j2]), K9.out.os, K9.out.tape, K9.out.output, K9.out.size, K9.out.block⟩

theorem ownS : ownKnob Try.prog.godebug = none := by kernel_rfl
theorem laidOutS : laidOutB Try.prog = true := by kernel_rfl

/- how the bytes of a draw read -/
theorem bytes_read {H : Type} {enc : TypeId × Value → H} {w : World} {base b0 : Nat} {held : Bool} {k : Reach} {v : Value} {d : DataW H} {p : List MemPlace}
    (hv : Value.okWide Try.prog w k b0 22 v) (h : DataW.Trod enc Try.prog w base (fun _ => true) held 22 v d p) :
    ∃ (s : Option Addr) (n c : Nat), v = .slice s n c ∧ n ≤ maxLen ∧ Bytes w w.heap.size s n := by
  obtain ⟨s, len, cap, rfl⟩ := okWide_slice Try.underlying22 hv
  obtain ⟨fuel, hf⟩ := h
  rcases open_ints Try.underlying22 Try.underlying5 (by kernel_rfl) hf with ⟨hcs, _⟩ | ⟨a, l, c, zs, hcs, _, hl, hm, hz, _, hcell, hwz⟩
  · simp [Value.cells] at hcs
    obtain ⟨rfl, rfl, rfl⟩ := hcs
    exact ⟨none, 0, 0, rfl, Nat.zero_le _, .inl rfl⟩
  · simp [Value.cells] at hcs
    obtain ⟨rfl, rfl, rfl⟩ := hcs
    simp at hz
    refine ⟨some a, len, cap, rfl, by omega, ?_⟩
    by_cases h0 : len = 0
    · exact .inl h0
    · have c0 := hcell 0 (by omega)
      have c0' : w.cell? a = some (.int .u8 (zs.getD 0 0)) := by simpa [Addr.add] using c0
      have hs := World.cell?_spot c0'
      have hg : a.block < w.heap.size := by
        apply Classical.byContradiction
        intro hn
        have : w.heap[a.block]? = none := by simp; omega
        simp [World.cell?, this] at c0'
      obtain ⟨g, off, spot⟩ := a
      simp at hs
      subst hs
      refine .inr ⟨g, off, rfl, hg, fun i hi => ?_⟩
      have ci := hcell i (by omega)
      have e : (Addr.add ⟨g, off, none⟩ i) = ⟨g, off + i, none⟩ := by
        by_cases h : i = 0
        · subst h; rfl
        · simp [Addr.add, h]
      rw [e] at ci
      have hmem : zs.getD i 0 ∈ zs := by
        rw [List.getD_eq_getElem?_getD, List.getElem?_eq_getElem (by omega)]
        exact List.getElem_mem (by omega)
      have hw := bounds_u8 (hwz _ hmem)
      exact ⟨_, ci, by omega, by omega⟩

set_option maxRecDepth 100000 in
theorem liftedSets (os : Os) (started : os.Started) (H : Type) (enc : TypeId × Value → H) :
    ReturnsInHanded {} Try.checked os 3 .any (Rows.fnSetsSpec.pre6 enc Try.prog Try.f3 Rows.fnSetsRow.domain false) (Rows.fnSetsSpec.post enc Try.prog Try.f3 false true false false) := by
  refine returnsInHanded_of_change (C := Try.checked) ownS started (by kernel_rfl) Try.func3
    (ChangeSpec.witness6 (enc := enc) (C := Try.checked) false ⟨#[], #[.slice none 0 0], []⟩ 8 (by kernel_rfl) (by kernel_rfl) (by kernel_rfl) (by kernel_rfl)) ?_
  intro W base args ds gs before hval0 hW hcnd _
  have hval : ∀ (j : Nat) t v, Try.f3.params[j]? = some t → args[j]? = some v → Value.okWide Try.prog W .any base t v := hval0
  have hW' := hW
  obtain ⟨p, q, hA0, hV, rfl, hfz, hnd⟩ := hW
  have hA : DataW.TrodAll enc Try.prog W 0 (fun _ => true) true Try.f3.params.toList args.toList ds p := hA0
  rw [Try.params3] at hA hval
  obtain ⟨v0, d0, hargs, rfl, h0⟩ := trodAll_one hA
  obtain rfl : args = #[v0] := by cases args; simp_all
  obtain ⟨rfl, rfl⟩ := trodVars_none hV
  have k0 := h0
  have lt0 : ∀ x ∈ p, x.block < W.heap.size := by obtain ⟨m, hm⟩ := k0; exact DataW.trod_lt m _ _ _ hm
  obtain ⟨s, n, c, rfl, hn, hB⟩ := bytes_read (hval 0 22 v0 rfl rfl) h0
  clear hA0 hval0
  refine (walkSets s n c W hB hn).mono fun e W' ⟨he, bel⟩ => ?_
  subst he
  exact ⟨_, rfl, _, _, _, [], _, [], hW', trodAll_mk1 (shut_bool Try.underlying4 _), trodAll_mk1 (Below.trod laidOutS (by kernel_rfl) (of_decide_eq_true (by kernel_rfl)) k0 bel lt0), rfl, bel.frame _, fun h => by cases h⟩

theorem fnSets_holds : Rows.FnSetsSaid :=
  OpenClaim.holds_of_wide 3 Try.f3 rfl rfl rfl rfl rfl rfl rfl ⟨rfl, rfl, rfl, rfl, rfl⟩ rfl rfl rfl rfl rfl (by kernel_rfl) Try.func3 (by kernel_rfl)
    (of_decide_eq_true (by kernel_rfl)) (by unfold Func.isWrapper; first | (rw [if_pos (by decide +kernel)]; kernel_rfl) | (rw [if_neg (by decide +kernel)]; exact ⟨rfl, rfl⟩))
    (fun os started H enc _ => liftedSets os started H enc)
#print axioms fnSets_holds
end Go.Proofs.Ytkmobmnbdapjkag
