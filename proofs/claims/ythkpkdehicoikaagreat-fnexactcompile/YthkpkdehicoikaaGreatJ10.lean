/- BodyOk of the program, at every list of at most 1048576 places. ProgOk of the specification and of the program, at every program whose lists are of at most 1048576 each: each answers as the plain law says; and how the laws hold two programs against each other. -/
import Derived.Test.YthkpkdehicoikaaGreatJ09
import Derived.Test.YthkpkdehicoikaaGreatProgCopy
namespace Go.Proofs.YthkpkdehicoikaaGreat
section
set_option linter.unusedSimpArgs false
set_option linter.unusedVariables false
set_option maxRecDepth 100000
open Go.RowKit

theorem endsBody_any (o r a b n : Int) (w : World) : Calls Tryz.prog 71 #[.agg #[.int .i64 o, .int .i64 r, .int .i64 a, .int .i64 b, .int .i64 n]] w fun e w' => e = .returned (.bool (decide (o = 13 ∨ o = 11))) ∧ Below w.heap.size w w' := by
  by_cases h1 : o = 13
  · subst h1
    go_enter Tryz.func71, Tryz.ntmps71
    go_wp2
    go_ret
    exact ⟨rfl, (Below.refl _ _).alloc (Nat.le_refl _) _⟩
  · have h2 : (o == 13) = false := by simp [h1]
    go_enter Tryz.func71, Tryz.ntmps71
    go_wp2
    go_ret
    exact ⟨ret_bool (by rw [Bool.eq_iff_iff]; simp [h1]), (Below.refl _ _).alloc (Nat.le_refl _) _⟩

set_option maxRecDepth 100000 in
set_option maxHeartbeats 1000000 in
theorem implBody_some (g off c B : Nat) (l : List I5) (ch : Int) (w : World) (hg : g < B) (hc : ∀ i, i < l.length → At5 w g (off + i * 5) (l.getD i z5)) (hB : B ≤ w.heap.size) (h1 : Plain.chansB ch = true) (hl1 : 1 ≤ l.length) (hl : l.length ≤ 24) :
    Calls Tryz.prog 50 #[.slice (some ⟨g, off, none⟩) l.length c, .int .i64 ch] w fun e w' => e = .returned (.bool (bodyB l ch)) ∧ Below w.heap.size w w' := by
  have HC : Hid (∀ i, i < l.length → At5 w g (off + i * 5) (l.getD i z5)) := hc
  clear hc
  have q1 : ¬ (l.length : Int) < 1 := by omega
  have q2 : ¬ 24 < (l.length : Int) := by omega
  go_enter Tryz.func50, Tryz.ntmps50
  go_wp2_with (go_at_call 68; refine (areChans_is _ true _ h1).mono ?_; rintro e w' ⟨rfl, hw⟩; have hw' := hw.symm; clear hw; subst hw')
  go_loopw [22] (fun i wr => ∃ k : Nat, k ≤ l.length ∧ i = .int .i64 k ∧ Below w.heap.size w wr ∧ (∀ i, i < k → insX (l.getD i z5) l.length ch = true)) (fun i _ => l.length - (intOf i).toNat)
  case atStart => exact ⟨0, Nat.zero_le _, rfl, Below.refl _ _, fun i hi => absurd hi (Nat.not_lt_zero _)⟩
  case round =>
    obtain ⟨k, hk, rfl, hb, hd⟩ := hrel
    have HB : Hid (Below w.heap.size w wr) := hb
    have HD : Hid (∀ i, i < k → insX (l.getD i z5) l.length ch = true) := hd
    clear hb hd
    by_cases hlt : k < l.length
    · obtain ⟨f0, f1, f2, f3, f4⟩ := (HC.out k hlt).keep HB.out (by omega)
      cases hv : insX (l.getD k z5) l.length ch
      · have F : Hid (bodyB l ch = false) := body_no hlt hv
        generalize l.getD k z5 = x at f0 f1 f2 f3 f4 hv
        obtain ⟨xo, xr, xa, xb, xn⟩ := x
        have V : Hid (Plain.insB xo xr xa xb xn l.length ch = false) := hv
        clear hv
        have b0 : (0 : Int) ≤ (k : Int) := by omega
        have b1 : (k : Int) < (l.length : Int) := by omega
        go_wp2_with fail
        refine (insOk_any _ _ _ _ _ _ _ _).mono ?_
        rintro e w1 ⟨rfl, hb1⟩
        rw [V.out]
        have hs1 := HB.out.size
        go_wp2
        go_ret
        exact ⟨by rw [F.out]; rfl, (HB.out.alloc hs1 _).trans (hb1.mono (by simp; omega))⟩
      · have HV : Hid (insX (l.getD k z5) l.length ch = true) := hv
        generalize l.getD k z5 = x at f0 f1 f2 f3 f4 hv
        obtain ⟨xo, xr, xa, xb, xn⟩ := x
        have V : Hid (Plain.insB xo xr xa xb xn l.length ch = true) := hv
        clear hv
        have b0 : (0 : Int) ≤ (k : Int) := by omega
        have b1 : (k : Int) < (l.length : Int) := by omega
        go_wp2_with fail
        refine (insOk_any _ _ _ _ _ _ _ _).mono ?_
        rintro e w1 ⟨rfl, hb1⟩
        rw [V.out]
        have hs1 := HB.out.size
        have HB1 : Hid (Below w.heap.size w w1) := (HB.out.alloc hs1 _).trans (hb1.mono (by simp; omega))
        clear hb1
        go_wp2
        go_roundw
        case rel =>
          refine ⟨k + 1, by omega, by go_num, HB1.out, ?_⟩
          intro i hi
          by_cases e : i = k
          · subst e; exact HV.out
          · exact HD.out i (by omega)
        case measure => simp [intOf]; omega
    · have : k = l.length := by omega
      subst this
      have F : Hid (bodyB l ch = lastB l) := by
        show _ = _
        rw [body_all HD.out, decide_eq_true ⟨hl1, hl⟩, h1]
        simp
      obtain ⟨f0, f1, f2, f3, f4⟩ := (HC.out (l.length - 1) (by omega)).keep HB.out (by omega)
      generalize hx : l.getD (l.length - 1) z5 = x at f0 f1 f2 f3 f4
      have FX : Hid (lastB l = decide (x.o = 13 ∨ x.o = 11)) := by show _ = _; unfold lastB; rw [hx]
      clear hx
      obtain ⟨xo, xr, xa, xb, xn⟩ := x
      have b0 : (1 : Int) ≤ (l.length : Int) := by omega
      have b1 : (l.length : Int) - 1 < (l.length : Int) := by omega
      go_wp2_with fail
      refine (endsBody_any _ _ _ _ _ _).mono ?_
      rintro e w1 ⟨rfl, hb1⟩
      have hs1 := HB.out.size
      go_wp2
      go_ret
      exact ⟨ret_bool (by rw [F.out, FX.out]; simp), HB.out.trans (hb1.mono hs1)⟩

set_option maxRecDepth 100000 in
theorem implBody_bad (s : Option Addr) (n c : Nat) (ch : Int) (w : World) (hn : n ≤ 1048576) (h : Plain.chansB ch = false ∨ n < 1 ∨ 24 < n) :
    Calls Tryz.prog 50 #[.slice s n c, .int .i64 ch] w fun e w' => e = .returned (.bool false) ∧ w' = w := by
  cases h1 : Plain.chansB ch
  · go_enter Tryz.func50, Tryz.ntmps50
    go_wp2_with (go_at_call 68; refine (areChans_is _ false _ h1).mono ?_; rintro e w' ⟨rfl, rfl⟩)
    go_ret
    exact ⟨rfl, rfl⟩
  · have h' : n < 1 ∨ 24 < n := by
      rcases h with h | h
      · rw [h1] at h; cases h
      · exact h
    clear h
    by_cases h2 : n < 1
    · have q1 : (n : Int) < 1 := by omega
      clear h' h2
      go_enter Tryz.func50, Tryz.ntmps50
      go_wp2_with (go_at_call 68; refine (areChans_is _ true _ h1).mono ?_; rintro e w' ⟨rfl, rfl⟩)
      go_ret
      exact ⟨rfl, rfl⟩
    · have q1 : ¬ (n : Int) < 1 := by omega
      have q2 : 24 < (n : Int) := by omega
      clear h' h2
      go_enter Tryz.func50, Tryz.ntmps50
      go_wp2_with (go_at_call 68; refine (areChans_is _ true _ h1).mono ?_; rintro e w' ⟨rfl, rfl⟩)
      go_ret
      exact ⟨rfl, rfl⟩

theorem implBody_any (s : Option Addr) (c B : Nat) (l : List I5) (ch : Int) (w : World) (h : InsB w B s l) (hB : B ≤ w.heap.size) (hl : l.length ≤ 1048576) :
    Calls Tryz.prog 50 #[.slice s l.length c, .int .i64 ch] w fun e w' => e = .returned (.bool (bodyB l ch)) ∧ Below w.heap.size w w' := by
  by_cases hd : Plain.chansB ch = true ∧ 1 ≤ l.length ∧ l.length ≤ 24
  · obtain ⟨h1, h2, h3⟩ := hd
    rcases h with rfl | ⟨g, off, rfl, hg, hc⟩
    · simp at h2
    · exact implBody_some g off c B l ch w hg hc hB h1 h2 h3
  · have hd' : Plain.chansB ch = false ∨ l.length < 1 ∨ 24 < l.length := by
      cases hq : Plain.chansB ch
      · exact .inl rfl
      · right
        have : ¬ (1 ≤ l.length ∧ l.length ≤ 24) := fun hh => hd ⟨hq, hh⟩
        omega
    have F : bodyB l ch = false := by
      rcases hd' with h | h
      · exact body_chans h
      · refine body_short ?_
        simp [Plain.inB]
        omega
    rw [F]
    refine (implBody_bad s l.length c ch w hl hd').mono ?_
    rintro e w' ⟨rfl, rfl⟩
    exact ⟨rfl, Below.refl _ _⟩
end

section
set_option linter.unusedSimpArgs false
set_option linter.unusedVariables false
set_option maxRecDepth 100000
open Go.RowKit

def capsB (l : List Int) : Bool := decide (∀ i, i < l.length → Plain.inB (l.getD i 0) 1 4 = true)
def bodsB (p : PD) : Bool := decide (∀ i, i < p.bods.length → bodyB (p.bods.getD i []) p.caps.length = true)
def progB (p : PD) : Bool := capsB p.caps && (bodsB p && (decide (p.caps.length ≤ 3) && Plain.inB p.bods.length 1 4))

theorem caps_no {l : List Int} {k : Nat} (hk : k < l.length) (h : Plain.inB (l.getD k 0) 1 4 = false) : capsB l = false := by
  unfold capsB
  rw [decide_eq_false_iff_not]
  intro hh
  rw [hh k hk] at h
  cases h
theorem caps_yes {l : List Int} (h : ∀ i, i < l.length → Plain.inB (l.getD i 0) 1 4 = true) : capsB l = true := by
  unfold capsB
  rw [decide_eq_true_iff]
  exact h
theorem bods_no {p : PD} {k : Nat} (hk : k < p.bods.length) (h : bodyB (p.bods.getD k []) p.caps.length = false) : bodsB p = false := by
  unfold bodsB
  rw [decide_eq_false_iff_not]
  intro hh
  rw [hh k hk] at h
  cases h
theorem bods_yes {p : PD} (h : ∀ i, i < p.bods.length → bodyB (p.bods.getD i []) p.caps.length = true) : bodsB p = true := by
  unfold bodsB
  rw [decide_eq_true_iff]
  exact h

set_option maxRecDepth 100000 in
set_option maxHeartbeats 1000000 in
theorem specProg_any (s s' : Option Addr) (c c' lo hi : Nat) (p : PD) (w : World) (h : ProgR w lo hi s s' p) (hB : hi ≤ w.heap.size) (hf : Fits p) :
    Calls Tryz.prog 15 #[.agg #[.slice s p.caps.length c, .slice s' p.bods.length c']] w fun e w' => e = .returned (.bool (progB p)) ∧ Below w.heap.size w w' := by
  obtain ⟨q1, q2, q3⟩ := hf
  obtain ⟨h1, h2⟩ := h
  have H1 : Hid (IntsR w lo hi s p.caps) := h1
  have H2 : Hid (BodsR w lo hi s' p.bods) := h2
  have Q3 : Hid (∀ i, i < p.bods.length → (p.bods.getD i []).length ≤ 1048576) := q3
  clear h1 h2 q3
  go_enter Tryz.func15, Tryz.ntmps15
  go_wp2
  go_loop [3] (fun i => ∃ k : Nat, k ≤ p.caps.length ∧ i = .int .i64 k ∧ (∀ i, i < k → Plain.inB (p.caps.getD i 0) 1 4 = true)) (fun i => p.caps.length - (intOf i).toNat)
  case atStart => exact ⟨0, Nat.zero_le _, rfl, fun i hi => absurd hi (Nat.not_lt_zero _)⟩
  case round =>
    obtain ⟨k, hk, rfl, hd⟩ := hrel
    have HD : Hid (∀ i, i < k → Plain.inB (p.caps.getD i 0) 1 4 = true) := hd
    clear hd
    by_cases hlt : k < p.caps.length
    · have b0 : (0 : Int) ≤ (k : Int) := by omega
      have b1 : (k : Int) < (p.caps.length : Int) := by omega
      obtain ⟨g, off, hs, -, hg, hc⟩ : ∃ g off, s = some ⟨g, off, none⟩ ∧ lo ≤ g ∧ g < w.heap.size ∧ ∀ i, i < p.caps.length → w.cell? ⟨g, off + i, none⟩ = some (.int .i64 (p.caps.getD i 0)) := by
        rcases H1.out with h | ⟨g, off, a, b, d, e⟩
        · rw [h] at hlt; simp at hlt
        · exact ⟨g, off, a, b, by omega, e⟩
      subst hs
      have f0 := hc k hlt
      clear hc
      cases hv : Plain.inB (p.caps.getD k 0) 1 4
      · have F : Hid (progB p = false) := by show _ = _; unfold progB; rw [caps_no hlt hv]; rfl
        generalize p.caps.getD k 0 = x at f0 hv
        go_wp2_with (go_at_call 34; refine (l1In_any _ _ _ _).mono ?_; rintro e w' ⟨rfl, hw⟩; have hw' := hw.symm; clear hw; subst hw'; rw [hv])
        go_ret
        exact ⟨by rw [F.out]; rfl, (Below.refl _ _).alloc (Nat.le_refl _) _⟩
      · have HV : Hid (Plain.inB (p.caps.getD k 0) 1 4 = true) := hv
        generalize p.caps.getD k 0 = x at f0 hv
        go_wp2_with (go_at_call 34; refine (l1In_any _ _ _ _).mono ?_; rintro e w' ⟨rfl, hw⟩; have hw' := hw.symm; clear hw; subst hw'; rw [hv])
        go_round
        case rel =>
          refine ⟨k + 1, by omega, by go_num, ?_⟩
          intro i hi
          by_cases e : i = k
          · subst e; exact HV.out
          · exact HD.out i (by omega)
        case measure => simp [intOf]; omega
    · have : k = p.caps.length := by omega
      subst this
      have C : Hid (capsB p.caps = true) := caps_yes HD.out
      clear HD
      go_wp2
      go_loopw [4] (fun i wr => ∃ k : Nat, k ≤ p.bods.length ∧ i = .int .i64 k ∧ Below (w.heap.size + 1) (w.alloc (.cells #[.slice s p.caps.length c, .slice s' p.bods.length c'] 32)) wr ∧ (∀ i, i < k → bodyB (p.bods.getD i []) p.caps.length = true)) (fun i _ => p.bods.length - (intOf i).toNat)
      case atStart => exact ⟨0, Nat.zero_le _, rfl, Below.refl _ _, fun i hi => absurd hi (Nat.not_lt_zero _)⟩
      case round =>
        obtain ⟨k, hk', rfl, hb, hd⟩ := hrel
        have HD : Hid (∀ i, i < k → bodyB (p.bods.getD i []) p.caps.length = true) := hd
        have x0 : wr.cell? ⟨w.heap.size, 0, none⟩ = some (.slice s p.caps.length c) := by rw [hb.cell (by simp)]; simp [go_sem]
        have x1 : wr.cell? ⟨w.heap.size, 1, none⟩ = some (.slice s' p.bods.length c') := by rw [hb.cell (by simp)]; simp [go_sem]
        have k1 : Below w.heap.size w wr := ((Below.refl _ _).alloc (Nat.le_refl _) _).trans (hb.mono (by omega))
        have hsz : w.heap.size < wr.heap.size := by have := hb.size; simp at this; omega
        have HB : Hid (Below (w.heap.size + 1) (w.alloc (.cells #[.slice s p.caps.length c, .slice s' p.bods.length c'] 32)) wr) := hb
        have K1 : Hid (Below w.heap.size w wr) := k1
        clear hd hb k1
        by_cases hlt' : k < p.bods.length
        · have b0 : (0 : Int) ≤ (k : Int) := by omega
          have b1 : (k : Int) < (p.bods.length : Int) := by omega
          obtain ⟨g, off, hs, hg, hc⟩ : ∃ g off, s' = some ⟨g, off, none⟩ ∧ g < w.heap.size ∧ BodR wr lo hi g (off + k) (p.bods.getD k []) := by
            rcases H2.out with h | ⟨g, off, a, b, d, e⟩
            · rw [h] at hlt'; simp at hlt'
            · exact ⟨g, off, a, by omega, (e k hlt').keep (Keep.of_below K1.out hB) (K1.out.cell (p := ⟨g, off + k, none⟩) (by show g < _; omega))⟩
          subst hs
          obtain ⟨t, tc, f0, hin⟩ := hc
          have hlen := Q3.out k hlt'
          cases hv : bodyB (p.bods.getD k []) p.caps.length
          · have F : Hid (progB p = false) := by show _ = _; unfold progB; rw [bods_no hlt' hv]; simp
            generalize p.bods.getD k [] = x at f0 hv hin hlen
            have HIN : Hid (InsR wr lo hi t x) := hin
            have HV : Hid (bodyB x p.caps.length = false) := hv
            clear hin hv
            go_wp2_with fail
            first | go_region_with (go_at_call 35; refine (specBody_any t tc wr.heap.size x p.caps.length _ ?_ ?_ hlen).mono ?_; (exact (HIN.out.mono (Nat.le_refl _) (by omega)).insB); (simp); rintro e w1 ⟨rfl, hb1⟩; rw [HV.out]) | fail
            all_goals
              have HB1 : Hid (Below wr.heap.size wr w1) := ⟨hb1.os, hb1.tape, hb1.output, hb1.size, hb1.block⟩
              clear hb1
              go_wp2
              go_ret
              exact ⟨by rw [F.out]; rfl, K1.out.trans (HB1.out.mono (by omega))⟩
          · have HVV : Hid (bodyB (p.bods.getD k []) p.caps.length = true) := hv
            generalize p.bods.getD k [] = x at f0 hv hin hlen
            have HIN : Hid (InsR wr lo hi t x) := hin
            have HV : Hid (bodyB x p.caps.length = true) := hv
            clear hin hv
            go_wp2_with fail
            first | go_region_with (go_at_call 35; refine (specBody_any t tc wr.heap.size x p.caps.length _ ?_ ?_ hlen).mono ?_; (exact (HIN.out.mono (Nat.le_refl _) (by omega)).insB); (simp); rintro e w1 ⟨rfl, hb1⟩; rw [HV.out]) | fail
            all_goals
              have HB1 : Hid (Below wr.heap.size wr w1) := ⟨hb1.os, hb1.tape, hb1.output, hb1.size, hb1.block⟩
              clear hb1
              go_wp2
              go_roundw
              case rel =>
                refine ⟨k + 1, by omega, by go_num, HB.out.trans (HB1.out.mono (by omega)), ?_⟩
                intro i hi
                by_cases e : i = k
                · subst e; exact HVV.out
                · exact HD.out i (by omega)
              case measure => simp [intOf]; omega
        · have : k = p.bods.length := by omega
          subst this
          have F : Hid (progB p = (decide (p.caps.length ≤ 3) && Plain.inB p.bods.length 1 4)) := by show _ = _; unfold progB; rw [C.out, bods_yes HD.out]; simp
          by_cases h3 : p.caps.length ≤ 3
          · have h3' : (p.caps.length : Int) ≤ 3 := by omega
            go_wp2_with (go_at_call 34; refine (l1In_any _ _ _ _).mono ?_; rintro e w' ⟨rfl, hw⟩; have hw' := hw.symm; clear hw; subst hw')
            go_ret
            exact ⟨ret_bool (by rw [F.out, decide_eq_true h3]; rfl), K1.out⟩
          · have h3' : ¬ (p.caps.length : Int) ≤ 3 := by omega
            go_wp2_with (go_at_call 34; refine (l1In_any _ _ _ _).mono ?_; rintro e w' ⟨rfl, hw⟩; have hw' := hw.symm; clear hw; subst hw')
            go_ret
            exact ⟨ret_bool (by rw [F.out, decide_eq_false h3]; rfl), K1.out⟩
end

end Go.Proofs.YthkpkdehicoikaaGreat
