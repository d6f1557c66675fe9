/- BodyOk of the specification, at every list of at most 1048576 places. BodyOk of the program, at every list of at most 1048576 places. -/
import Derived.Test.YtknffngbdakblaaJG00
import Derived.Test.YtknffngbdakblaaJSpecIns
import Derived.Test.YtknffngbdakblaaJG01
import Derived.Test.YtknffngbdakblaaJG02
import Derived.Test.YtknffngbdakblaaJG06
namespace Go.Proofs.Ytknffngbdakblaa
section
set_option linter.unusedSimpArgs false
set_option linter.unusedVariables false
set_option maxRecDepth 100000
open Go.RowKit
theorem body_short {l : List I5} {ch : Int} (h : Plain.inB (l.length : Int) 1 24 = false) : bodyB l ch = false := by
 have : decide (1 ≤ l.length ∧ l.length ≤ 24) = false := by
  rw [decide_eq_false_iff_not]
  simp [Plain.inB] at h
  omega
 unfold bodyB
 rw [this]
 simp
theorem body_chans {l : List I5} {ch : Int} (h : Plain.inB ch 0 3 = false) : bodyB l ch = false := by
 have : Plain.chansB ch = false := h
 unfold bodyB
 rw [this]
 simp
set_option maxRecDepth 100000 in
set_option maxHeartbeats 1000000 in
theorem specBody_some (g off c B : Nat) (l : List I5) (ch : Int) (w : World) (hg : g < B) (hc : ∀ i, i < l.length → At5 w g (off + i * 5) (l.getD i z5)) (hB : B ≤ w.heap.size) (hl : l.length ≤ 1048576) :
  Calls Try.prog 27 #[.slice (some ⟨g, off, none⟩) l.length c, .int .i64 ch] w fun e w' => e = .returned (.bool (bodyB l ch)) ∧ Below w.heap.size w w' := by
 have HC : Hid (∀ i, i < l.length → At5 w g (off + i * 5) (l.getD i z5)) := hc
 clear hc
 go_enter Try.func27, Try.ntmps27
 go_wp2
 go_loopw [6] (fun i wr => ∃ k : Nat, k ≤ l.length ∧ i = .int .i64 k ∧ Below w.heap.size w wr ∧ (∀ i, i < k → insX (l.getD i z5) l.length ch = true)) (fun i _ => l.length - (intOf i).toNat)
 case atStart => exact ⟨0, Nat.zero_le _, rfl, Below.refl _ _, fun i hi => absurd hi (Nat.not_lt_zero _)⟩
 case round =>
  obtain ⟨k, hk, rfl, hb, hd⟩ := hrel
  have HB : Hid (Below w.heap.size w wr) := hb
  have HD : Hid (∀ i, i < k → insX (l.getD i z5) l.length ch = true) := hd
  clear hb hd
  by_cases hlt : k < l.length
  ·obtain ⟨f0, f1, f2, f3, f4⟩ := (HC.out k hlt).keep HB.out (by omega)
   cases hv : insX (l.getD k z5) l.length ch
   ·have F : Hid (bodyB l ch = false) := body_no hlt hv
    generalize l.getD k z5 = x at f0 f1 f2 f3 f4 hv
    obtain ⟨xo, xr, xa, xb, xn⟩ := x
    have V : Hid (Plain.insB xo xr xa xb xn l.length ch = false) := hv
    clear hv
    have b0 : (0 : Int) ≤ (k : Int) := by omega
    have b1 : (k : Int) < (l.length : Int) := by omega
    go_wp2_with fail
    refine (specInsOk_any _ _ _ _ _ _ _ _).mono ?_
    rintro e w1 ⟨rfl, hb1⟩
    rw [V.out]
    have hs1 := HB.out.size
    go_wp2
    go_ret
    exact ⟨by rw [F.out]; rfl, HB.out.trans (hb1.mono hs1)⟩
   ·have HV : Hid (insX (l.getD k z5) l.length ch = true) := hv
    generalize l.getD k z5 = x at f0 f1 f2 f3 f4 hv
    obtain ⟨xo, xr, xa, xb, xn⟩ := x
    have V : Hid (Plain.insB xo xr xa xb xn l.length ch = true) := hv
    clear hv
    have b0 : (0 : Int) ≤ (k : Int) := by omega
    have b1 : (k : Int) < (l.length : Int) := by omega
    go_wp2_with fail
    refine (specInsOk_any _ _ _ _ _ _ _ _).mono ?_
    rintro e w1 ⟨rfl, hb1⟩
    rw [V.out]
    have hs1 := HB.out.size
    have HB1 : Hid (Below wr.heap.size wr w1) := hb1
    clear hb1
    go_wp2
    go_roundw
    case rel =>
     refine ⟨k + 1, by omega, by go_num, HB.out.trans (HB1.out.mono hs1), ?_⟩
     intro i hi
     by_cases e : i = k
     ·subst e; exact HV.out
     ·exact HD.out i (by omega)
    case measure => simp [intOf]; omega
  ·have : k = l.length := by omega
   subst this
   cases h1 : Plain.inB (l.length : Int) 1 24
   ·have F : Hid (bodyB l ch = false) := body_short h1
    go_wp2_with (go_at_call 23; refine (l1In_any _ _ _ _).mono ?_; rintro e w' ⟨rfl, rfl⟩)
    go_ret
    exact ⟨by rw [F.out]; rfl, HB.out⟩
   ·cases h2 : Plain.inB ch 0 3
    ·have F : Hid (bodyB l ch = false) := body_chans h2
     go_wp2_with (go_at_call 23; refine (l1In_any _ _ _ _).mono ?_; rintro e w' ⟨rfl, rfl⟩)
     go_ret
     exact ⟨by rw [F.out]; rfl, HB.out⟩
    ·have hlen : 1 ≤ l.length ∧ l.length ≤ 24 := by simp [Plain.inB] at h1; omega
     have F : Hid (bodyB l ch = lastB l) := by
      show _ = _
      rw [body_all HD.out, decide_eq_true hlen, (show Plain.chansB ch = true from h2)]
      simp
     obtain ⟨f0, -⟩ := (HC.out (l.length - 1) (by omega)).keep HB.out (by omega)
     generalize hx : (l.getD (l.length - 1) z5).o = x at f0
     have FX : Hid (lastB l = decide (x = 13 ∨ x = 11)) := by show _ = _; unfold lastB; rw [hx]
     clear hx
     have b0 : (1 : Int) ≤ (l.length : Int) := by omega
     have b1 : (l.length : Int) - 1 < (l.length : Int) := by omega
     go_wp2_with (go_at_call 23; refine (l1In_any _ _ _ _).mono ?_; rintro e w' ⟨rfl, rfl⟩)
     all_goals
      go_ret
      refine ⟨ret_bool ?_, HB.out⟩
      rw [F.out, FX.out, Bool.eq_iff_iff]
      simp [*]
theorem specBody_any (s : Option Addr) (c B : Nat) (l : List I5) (ch : Int) (w : World) (h : InsB w B s l) (hB : B ≤ w.heap.size) (hl : l.length ≤ 1048576) :
  Calls Try.prog 27 #[.slice s l.length c, .int .i64 ch] w fun e w' => e = .returned (.bool (bodyB l ch)) ∧ Below w.heap.size w w' := by
 rcases h with rfl | ⟨g, off, rfl, hg, hc⟩
 ·have h1 : Plain.inB ((0 : Nat) : Int) 1 24 = false := by decide
  have h2 : Plain.inB 0 1 24 = false := by decide
  have F : Hid (bodyB [] ch = false) := body_short (l := []) h1
  clear h1
  go_enter Try.func27, Try.ntmps27
  go_wp2
  go_loop [6] (fun i => i = .int .i64 0) (fun _ => 0)
  case atStart => rfl
  case round =>
   subst hrel
   go_wp2_with (go_at_call 23; refine (l1In_any _ _ _ _).mono ?_; rintro e w' ⟨rfl, rfl⟩)
   go_ret
   exact ⟨by rw [F.out]; rfl, Below.refl _ _⟩
 ·exact specBody_some g off c B l ch w hg hc hB hl
end
section
set_option linter.unusedSimpArgs false
set_option linter.unusedVariables false
set_option maxRecDepth 100000
open Go.RowKit
end
end Go.Proofs.Ytknffngbdakblaa
