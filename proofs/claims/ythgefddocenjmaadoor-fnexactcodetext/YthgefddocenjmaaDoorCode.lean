/- Lists of steps: when code is right; the laws' counting and comparing of lists. Conditions: lists of at most 1048576 steps where they are compared. -/
import Derived.Test.YthgefddocenjmaaDoorQuietC
import Derived.Test.YthgefddocenjmaaDoorC7Plain
import Derived.Test.YthgefddocenjmaaDoorStepLists
import Derived.Test.YthgefddocenjmaaDoorEqStep
import Derived.Deep.RegionHeld3
import Derived.Test.YthgefddocenjmaaDoorC7Spec
namespace Go.Proofs.YthgefddocenjmaaDoor
set_option linter.unusedSimpArgs false
set_option linter.unusedVariables false
set_option maxRecDepth 100000
open Go.RowKit

def stX (x : I5) (pl : Int) : Bool := Plain.stepB x.o x.r x.a x.b x.n pl
def lastB (l : List I5) : Bool := Plain.endB (l.getD (l.length - 1) z5).o
def codeB (l : List I5) : Bool := decide (∀ i, i < l.length → stX (l.getD i z5) l.length = true) && (decide (1 ≤ l.length ∧ l.length ≤ 800) && lastB l)

theorem code_no {l : List I5} {k : Nat} (hk : k < l.length) (h : stX (l.getD k z5) l.length = false) : codeB l = false := by
  have : decide (∀ i, i < l.length → stX (l.getD i z5) l.length = true) = false := by
    rw [decide_eq_false_iff_not]
    intro H
    rw [H k hk] at h
    cases h
  unfold codeB
  rw [this]
  rfl
theorem code_all {l : List I5} (h : ∀ i, i < l.length → stX (l.getD i z5) l.length = true) : codeB l = (decide (1 ≤ l.length ∧ l.length ≤ 800) && lastB l) := by
  unfold codeB
  rw [decide_eq_true h]
  simp
theorem code_short {l : List I5} (h : Plain.inB (l.length : Int) 1 800 = false) : codeB l = false := by
  have : decide (1 ≤ l.length ∧ l.length ≤ 800) = false := by
    rw [decide_eq_false_iff_not]
    simp [Plain.inB] at h
    omega
  unfold codeB
  rw [this]
  simp

theorem szStepS_any (s : Option Addr) (n c : Nat) (w : World) (hn : n ≤ maxLen) : Calls Tryd.prog 10 #[.slice s n c, .int .i64 1048576] w fun e w' => e = .returned (.int .i64 (if 1048576 < n then -1 else 1048576 - (n : Int))) ∧ w' = w := by
  unfold maxLen at hn
  by_cases h : 1048576 < n
  · rw [if_pos h]
    have h1 : (1048576 : Int) - (n : Int) < 0 := by omega
    go_enter Tryd.func10, Tryd.ntmps10
    go_wp2
    go_ret
    exact ⟨rfl, rfl⟩
  · rw [if_neg h]
    have h1 : ¬ (1048576 : Int) - (n : Int) < 0 := by omega
    go_enter Tryd.func10, Tryd.ntmps10
    go_wp2
    go_ret
    exact ⟨rfl, rfl⟩

set_option maxHeartbeats 1000000 in
theorem eqStepS_same (s s' : Option Addr) (c c' B : Nat) (l : List I5) (w : World) (h : InsB w B s l) (h' : InsB w B s' l) (hB : B ≤ w.heap.size) (hl : l.length ≤ 1048576) :
    Calls Tryd.prog 14 #[.slice s l.length c, .slice s' l.length c'] w fun e w' => e = .returned (.bool true) ∧ Below w.heap.size w w' := by
  rcases h with rfl | ⟨g, off, rfl, hg, hc⟩
  · go_enter Tryd.func14, Tryd.ntmps14
    go_wp2
    go_loop [5] (fun i => i = .int .i64 0) (fun _ => 0)
    case atStart => rfl
    case round =>
      subst hrel
      go_wp2
      go_ret
      exact ⟨rfl, Below.refl _ _⟩
  · rcases h' with rfl | ⟨g', off', rfl, hg', hc'⟩
    · go_enter Tryd.func14, Tryd.ntmps14
      go_wp2
      go_loop [5] (fun i => i = .int .i64 0) (fun _ => 0)
      case atStart => rfl
      case round =>
        subst hrel
        go_wp2
        go_ret
        exact ⟨rfl, Below.refl _ _⟩
    · have hne : ((l.length : Int) != (l.length : Int)) = false := by simp
      have HC : Hid (∀ i, i < l.length → At5 w g (off + i * 5) (l.getD i z5)) := hc
      have HC' : Hid (∀ i, i < l.length → At5 w g' (off' + i * 5) (l.getD i z5)) := hc'
      clear hc hc'
      go_enter Tryd.func14, Tryd.ntmps14
      go_wp2
      go_loopw [5] (fun i wr => ∃ k : Nat, k ≤ l.length ∧ i = .int .i64 k ∧ Below w.heap.size w wr) (fun i _ => l.length - (intOf i).toNat)
      case atStart => exact ⟨0, Nat.zero_le _, rfl, Below.refl _ _⟩
      case round =>
        obtain ⟨k, hk, rfl, hb⟩ := hrel
        have HB : Hid (Below w.heap.size w wr) := hb
        clear hb
        by_cases hlt : k < l.length
        · obtain ⟨f0, f1, f2, f3, f4⟩ := (HC.out k hlt).keep HB.out (by omega)
          obtain ⟨f0', f1', f2', f3', f4'⟩ := (HC'.out k hlt).keep HB.out (by omega)
          generalize l.getD k z5 = x at f0 f1 f2 f3 f4 f0' f1' f2' f3' f4'
          obtain ⟨xo, xr, xa, xb, xn⟩ := x
          have b0 : (0 : Int) ≤ (k : Int) := by omega
          have b1 : (k : Int) < (l.length : Int) := by omega
          go_wp2_with fail
          first | go_region_with (go_at_call 36; refine (eqStep_same _ _ _ _ _ _).mono ?_; rintro e w1 ⟨rfl, hb1⟩) | fail
          all_goals
            have HB1 : Hid (Below wr.heap.size wr w1) := ⟨hb1.os, hb1.tape, hb1.output, hb1.size, hb1.block⟩
            have hs1 := HB.out.size
            clear hb1
            go_wp2
            go_roundw
            case rel => exact ⟨k + 1, by omega, by go_num, HB.out.trans (HB1.out.mono hs1)⟩
            case measure => simp [intOf]; omega
        · go_wp2
          go_ret
          exact ⟨rfl, HB.out⟩


end Go.Proofs.YthgefddocenjmaaDoor
