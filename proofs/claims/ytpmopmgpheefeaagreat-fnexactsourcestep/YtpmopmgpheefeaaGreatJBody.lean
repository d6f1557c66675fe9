/- BodyOk of the program and of the specification, at every list of at most 1048576 places: each answers as the plain law says; and how the laws hold two such lists against each other. -/
import Derived.Test.YtpmopmgpheefeaaGreatJG00
import Derived.Test.YtpmopmgpheefeaaGreatJG01
import Derived.Test.YtpmopmgpheefeaaGreatJInsOk
import Derived.Test.YtpmopmgpheefeaaGreatJSpecIns
namespace Go.Proofs.YtpmopmgpheefeaaGreat
set_option linter.unusedSimpArgs false
set_option linter.unusedVariables false
set_option maxRecDepth 100000
open Go.RowKit
def insX (x : I5) (pl ch : Int) : Bool := Plain.insB x.o x.r x.a x.b x.n pl ch
def lastB (l : List I5) : Bool := decide ((l.getD (l.length - 1) z5).o = 13 ∨ (l.getD (l.length - 1) z5).o = 11)
def bodyB (l : List I5) (ch : Int) : Bool := decide (∀ i, i < l.length → insX (l.getD i z5) l.length ch = true) && (decide (1 ≤ l.length ∧ l.length ≤ 24) && (Plain.chansB ch && lastB l))
theorem body_no {l : List I5} {ch : Int} {k : Nat} (hk : k < l.length) (h : insX (l.getD k z5) l.length ch = false) : bodyB l ch = false := by
 have : decide (∀ i, i < l.length → insX (l.getD i z5) l.length ch = true) = false := by
  rw [decide_eq_false_iff_not]
  intro hh
  rw [hh k hk] at h
  cases h
 unfold bodyB
 rw [this, Bool.false_and]
theorem body_all {l : List I5} {ch : Int} (h : ∀ i, i < l.length → insX (l.getD i z5) l.length ch = true) : bodyB l ch = (decide (1 ≤ l.length ∧ l.length ≤ 24) && (Plain.chansB ch && lastB l)) := by
 have : decide (∀ i, i < l.length → insX (l.getD i z5) l.length ch = true) = true := by
  rw [decide_eq_true_iff]; exact h
 unfold bodyB
 rw [this, Bool.true_and]
theorem eqIns_same (o r a b n : Int) (w : World) : Calls Tryz.prog 95 #[.agg #[.int .i64 o, .int .i64 r, .int .i64 a, .int .i64 b, .int .i64 n], .agg #[.int .i64 o, .int .i64 r, .int .i64 a, .int .i64 b, .int .i64 n]] w fun e w' => e = .returned (.bool true) ∧ Below w.heap.size w w' := by
 go_enter Tryz.func95, Tryz.ntmps95
 go_wp2
 go_ret
 exact ⟨rfl, ((Below.refl _ _).alloc (Nat.le_refl _) _).alloc (by simp) _⟩
set_option maxHeartbeats 1000000 in
theorem eqInsS_same (s s' : Option Addr) (c c' B : Nat) (l : List I5) (w : World) (h : InsB w B s l) (h' : InsB w B s' l) (hB : B ≤ w.heap.size) (hl : l.length ≤ 1048576) :
  Calls Tryz.prog 70 #[.slice s l.length c, .slice s' l.length c'] w fun e w' => e = .returned (.bool true) ∧ Below w.heap.size w w' := by
 rcases h with rfl | ⟨g, off, rfl, hg, hc⟩
 ·go_enter Tryz.func70, Tryz.ntmps70
  go_wp2
  go_loop [5] (fun i => i = .int .i64 0) (fun _ => 0)
  case atStart => rfl
  case round =>
   subst hrel
   go_wp2
   go_ret
   exact ⟨rfl, Below.refl _ _⟩
 ·rcases h' with rfl | ⟨g', off', rfl, hg', hc'⟩
  ·go_enter Tryz.func70, Tryz.ntmps70
   go_wp2
   go_loop [5] (fun i => i = .int .i64 0) (fun _ => 0)
   case atStart => rfl
   case round =>
    subst hrel
    go_wp2
    go_ret
    exact ⟨rfl, Below.refl _ _⟩
  ·have hne : ((l.length : Int) != (l.length : Int)) = false := by simp
   have HC : Hid (∀ i, i < l.length → At5 w g (off + i * 5) (l.getD i z5)) := hc
   have HC' : Hid (∀ i, i < l.length → At5 w g' (off' + i * 5) (l.getD i z5)) := hc'
   clear hc hc'
   go_enter Tryz.func70, Tryz.ntmps70
   go_wp2
   go_loopw [5] (fun i wr => ∃ k : Nat, k ≤ l.length ∧ i = .int .i64 k ∧ Below w.heap.size w wr) (fun i _ => l.length - (intOf i).toNat)
   case atStart => exact ⟨0, Nat.zero_le _, rfl, Below.refl _ _⟩
   case round =>
    obtain ⟨k, hk, rfl, hb⟩ := hrel
    have HB : Hid (Below w.heap.size w wr) := hb
    clear hb
    by_cases hlt : k < l.length
    ·obtain ⟨f0, f1, f2, f3, f4⟩ := (HC.out k hlt).keep HB.out (by omega)
     obtain ⟨f0', f1', f2', f3', f4'⟩ := (HC'.out k hlt).keep HB.out (by omega)
     generalize l.getD k z5 = x at f0 f1 f2 f3 f4 f0' f1' f2' f3' f4'
     obtain ⟨xo, xr, xa, xb, xn⟩ := x
     have b0 : (0 : Int) ≤ (k : Int) := by omega
     have b1 : (k : Int) < (l.length : Int) := by omega
     go_wp2_with fail
     first | go_region_with (go_at_call 95; refine (eqIns_same _ _ _ _ _ _).mono ?_; rintro e w1 ⟨rfl, hb1⟩) | fail
     all_goals
      have HB1 : Hid (Below wr.heap.size wr w1) := ⟨hb1.os, hb1.tape, hb1.output, hb1.size, hb1.block⟩
      have hs1 := HB.out.size
      clear hb1
      go_wp2
      go_roundw
      case rel => exact ⟨k + 1, by omega, by go_num, HB.out.trans (HB1.out.mono hs1)⟩
      case measure => simp [intOf]; omega
    ·go_wp2
     go_ret
     exact ⟨rfl, HB.out⟩
end Go.Proofs.YtpmopmgpheefeaaGreat
