/- CodeOk of the program, at every list of at most 1048576 steps. -/
import Derived.Test.YtfgikjipkfggbaaGreatDoorQuietC
import Derived.Test.YtfgikjipkfggbaaGreatDoorStepLists
import Derived.Test.YtfgikjipkfggbaaGreatDoorC7Plain
import Derived.Test.YtfgikjipkfggbaaGreatDoorC7Ok
import Derived.Test.YtfgikjipkfggbaaGreatDoorC7Leaf
import Derived.Test.YtfgikjipkfggbaaGreatDoorCode
namespace Go.Proofs.YtfgikjipkfggbaaGreatDoor
set_option linter.unusedSimpArgs false
set_option linter.unusedVariables false
set_option maxRecDepth 100000
open Go.RowKit

theorem endsCode_any (o r a b n : Int) (w : World) : Calls Tryz.prog 44 #[.agg #[.int .i64 o, .int .i64 r, .int .i64 a, .int .i64 b, .int .i64 n]] w fun e w' => e = .returned (.bool (Plain.endB o)) ∧ Below w.heap.size w w' := by
  by_cases h1 : o = 10
  · subst h1
    go_enter Tryz.func44, Tryz.ntmps44
    go_wp2
    go_ret
    exact ⟨rfl, (Below.refl _ _).alloc (Nat.le_refl _) _⟩
  have h2 : (o == 10) = false := by simp [h1]
  by_cases h3 : o = 12
  · subst h3
    go_enter Tryz.func44, Tryz.ntmps44
    go_wp2
    go_ret
    exact ⟨rfl, (Below.refl _ _).alloc (Nat.le_refl _) _⟩
  have h4 : (o == 12) = false := by simp [h3]
  go_enter Tryz.func44, Tryz.ntmps44
  go_wp2
  go_ret
  exact ⟨ret_bool (by rw [Bool.eq_iff_iff]; simp [Plain.endB, h1, h3]), (Below.refl _ _).alloc (Nat.le_refl _) _⟩

set_option maxRecDepth 100000 in
set_option maxHeartbeats 1000000 in
theorem implCode_some (g off c B : Nat) (l : List I5) (w : World) (hg : g < B) (hc : ∀ i, i < l.length → At5 w g (off + i * 5) (l.getD i z5)) (hB : B ≤ w.heap.size) (hl1 : 1 ≤ l.length) (hl : l.length ≤ 800) :
    Calls Tryz.prog 19 #[.slice (some ⟨g, off, none⟩) l.length c] w fun e w' => e = .returned (.bool (codeB l)) ∧ Below w.heap.size w w' := by
  have HC : Hid (∀ i, i < l.length → At5 w g (off + i * 5) (l.getD i z5)) := hc
  clear hc
  have q1 : ¬ (l.length : Int) < 1 := by omega
  have q2 : ¬ 800 < (l.length : Int) := by omega
  go_enter Tryz.func19, Tryz.ntmps19
  go_wp2
  go_loopw [15] (fun i wr => ∃ k : Nat, k ≤ l.length ∧ i = .int .i64 k ∧ Below w.heap.size w wr ∧ (∀ i, i < k → stX (l.getD i z5) l.length = true)) (fun i _ => l.length - (intOf i).toNat)
  case atStart => exact ⟨0, Nat.zero_le _, rfl, Below.refl _ _, fun i hi => absurd hi (Nat.not_lt_zero _)⟩
  case round =>
    obtain ⟨k, hk, rfl, hb, hd⟩ := hrel
    have HB : Hid (Below w.heap.size w wr) := hb
    have HD : Hid (∀ i, i < k → stX (l.getD i z5) l.length = true) := hd
    clear hb hd
    by_cases hlt : k < l.length
    · obtain ⟨f0, f1, f2, f3, f4⟩ := (HC.out k hlt).keep HB.out (by omega)
      cases hv : stX (l.getD k z5) l.length
      · have F : Hid (codeB l = false) := code_no hlt hv
        generalize l.getD k z5 = x at f0 f1 f2 f3 f4 hv
        obtain ⟨xo, xr, xa, xb, xn⟩ := x
        have V : Hid (Plain.stepB xo xr xa xb xn l.length = false) := hv
        clear hv
        have b0 : (0 : Int) ≤ (k : Int) := by omega
        have b1 : (k : Int) < (l.length : Int) := by omega
        go_wp2_with fail
        refine (stepOk_any _ _ _ _ _ _ _).mono ?_
        rintro e w1 ⟨rfl, hb1⟩
        rw [V.out]
        have hs1 := HB.out.size
        go_wp2
        go_ret
        exact ⟨by rw [F.out]; rfl, (HB.out.alloc hs1 _).trans (hb1.mono (by simp; omega))⟩
      · have HV : Hid (stX (l.getD k z5) l.length = true) := hv
        generalize l.getD k z5 = x at f0 f1 f2 f3 f4 hv
        obtain ⟨xo, xr, xa, xb, xn⟩ := x
        have V : Hid (Plain.stepB xo xr xa xb xn l.length = true) := hv
        clear hv
        have b0 : (0 : Int) ≤ (k : Int) := by omega
        have b1 : (k : Int) < (l.length : Int) := by omega
        go_wp2_with fail
        refine (stepOk_any _ _ _ _ _ _ _).mono ?_
        rintro e w1 ⟨rfl, hb1⟩
        rw [V.out]
        have hs1 := HB.out.size
        have HB1 : Hid (Below w.heap.size w w1) := (HB.out.alloc hs1 _).trans (hb1.mono (by simp; omega))
        clear hb1
        go_wp2
        go_roundw
        case rel =>
          refine ⟨k + 1, by omega, by go_num, HB1.out, ?_⟩
          intro i hi
          by_cases e : i = k
          · subst e; exact HV.out
          · exact HD.out i (by omega)
        case measure => simp [intOf]; omega
    · have : k = l.length := by omega
      subst this
      have F : Hid (codeB l = lastB l) := by
        show _ = _
        rw [code_all HD.out, decide_eq_true ⟨hl1, hl⟩]
        simp
      obtain ⟨f0, f1, f2, f3, f4⟩ := (HC.out (l.length - 1) (by omega)).keep HB.out (by omega)
      generalize hx : l.getD (l.length - 1) z5 = x at f0 f1 f2 f3 f4
      have FX : Hid (lastB l = Plain.endB x.o) := by show _ = _; unfold lastB; rw [hx]
      clear hx
      obtain ⟨xo, xr, xa, xb, xn⟩ := x
      have b0 : (1 : Int) ≤ (l.length : Int) := by omega
      have b1 : (l.length : Int) - 1 < (l.length : Int) := by omega
      go_wp2_with fail
      refine (endsCode_any _ _ _ _ _ _).mono ?_
      rintro e w1 ⟨rfl, hb1⟩
      have hs1 := HB.out.size
      go_wp2
      go_ret
      exact ⟨ret_bool (by rw [F.out, FX.out]), HB.out.trans (hb1.mono hs1)⟩

theorem implCode_bad (s : Option Addr) (n c : Nat) (w : World) (hn : n ≤ 1048576) (h : n < 1 ∨ 800 < n) :
    Calls Tryz.prog 19 #[.slice s n c] w fun e w' => e = .returned (.bool false) ∧ w' = w := by
  by_cases h2 : n < 1
  · have q1 : (n : Int) < 1 := by omega
    clear h h2
    go_enter Tryz.func19, Tryz.ntmps19
    go_wp2
    go_ret
    exact ⟨rfl, rfl⟩
  · have q1 : ¬ (n : Int) < 1 := by omega
    have q2 : 800 < (n : Int) := by omega
    clear h h2
    go_enter Tryz.func19, Tryz.ntmps19
    go_wp2
    go_ret
    exact ⟨rfl, rfl⟩

theorem implCode_any (s : Option Addr) (c B : Nat) (l : List I5) (w : World) (h : InsB w B s l) (hB : B ≤ w.heap.size) (hl : l.length ≤ 1048576) :
    Calls Tryz.prog 19 #[.slice s l.length c] w fun e w' => e = .returned (.bool (codeB l)) ∧ Below w.heap.size w w' := by
  by_cases hd : 1 ≤ l.length ∧ l.length ≤ 800
  · obtain ⟨h2, h3⟩ := hd
    rcases h with rfl | ⟨g, off, rfl, hg, hc⟩
    · simp at h2
    · exact implCode_some g off c B l w hg hc hB h2 h3
  · have F : codeB l = false := by
      refine code_short ?_
      simp [Plain.inB]
      omega
    rw [F]
    refine (implCode_bad s l.length c w hl (by omega)).mono ?_
    rintro e w' ⟨rfl, rfl⟩
    exact ⟨rfl, Below.refl _ _⟩


end Go.Proofs.YtfgikjipkfggbaaGreatDoor
