/- rowTexts of the program: the texts of all rows, one behind another, whatever a row is shown as. Conditions: at most 1048576 rows. -/
import Derived.Test.YtfgikjipkfggbaaGreatDoorQuietC
import Derived.Test.YtfgikjipkfggbaaGreatDoorOwnT
import Derived.Test.YtfgikjipkfggbaaGreatDoorT16Env
namespace Go.Proofs.YtfgikjipkfggbaaGreatDoor
set_option linter.unusedSimpArgs false
set_option linter.unusedVariables false
set_option maxRecDepth 100000
open Go.RowKit

set_option maxHeartbeats 2000000 in
theorem rowsT_any (n : Nat) (p0 : Value) (T : Nat → List UInt8) (I : World → Prop) (B : Nat) (w : World) (hn : n ≤ 1048576) (hB : B < w.heap.size) (h0 : I w)
    (hI : ∀ X X', I X → Below w.heap.size X X' → I X')
    (hf : ∀ (k : Nat) X, k < n → w.heap.size ≤ X.heap.size → I X → Calls Tryz.prog 30 #[.int .i64 k, p0] X fun e X' => e = .returned (.string ⟨(T k).toArray⟩) ∧ I X' ∧ Kb B X X') :
    Calls Tryz.prog 27 #[.int .i64 n, .func (.func 30) #[] #[p0]] w fun e w' => ∃ v, e = .returned v ∧ OwnT w' w.heap.size v ((List.range n).map T) ∧ I w' ∧ Kb B w w' := by
  have HF := hidT hf
  have HI := hidT hI
  have H0 := hidT h0
  clear hf hI h0
  go_enter Tryz.func27, Tryz.ntmps27
  go_wp2_with fail
  go_loopw [5, 8] (fun v i wr => ∃ k : Nat, k ≤ n ∧ i = .int .i64 k ∧ OwnT wr w.heap.size v ((List.range k).map T) ∧ I wr ∧ Kb B w wr) (fun _ i _ => n - (intOf i).toNat)
  case atStart => exact ⟨0, Nat.zero_le _, rfl, ownT_nil _ _, H0.out, Kb.refl _ _⟩
  case round =>
    obtain ⟨k, hk, rfl, ho, hi, hb⟩ := hrel
    have hsr := hb.size
    have HO := hidT ho
    have HR := hidT hi
    have HK := hidT hb
    clear ho hi hb
    by_cases hlt : k < n
    · have i1 : (k : Int) < (n : Int) := by omega
      have HX : Hid ((List.range (k + 1)).map T = (List.range k).map T ++ [T k]) := by show _ = _; rw [List.range_succ]; simp
      have hlen : ((List.range k).map T).length ≤ 1099511627776 := by simp; omega
      generalize (List.range k).map T = tx at HO HX hlen
      go_wp2_with fail
      refine Calls.mono (HF.out k wr hlt hsr HR.out) ?_
      rintro e w4 ⟨rfl, hi4, hk4⟩
      have O4 := hidT (HO.out.kb hk4 hB)
      have K4 := hidT (HK.out.trans hk4)
      have I4 := hidT hi4
      have s4 := hk4.size
      clear hi4 hk4 HO HK HR
      go_wp2_with (at_builtin; refine app_str rfl _ _ rfl w4 (T k) w.heap.size u5 tx rfl O4.out rfl (by omega) (by omega) ?_; intro g5 cap5 w5 ho5 hb5 hs5 hg5; have O5 := hidT ho5; have B5 := hidT hb5; clear ho5 hb5)
      go_roundw
      case rel => exact ⟨k + 1, by omega, by go_num, by rw [HX.out]; exact O5.out, HI.out _ _ I4.out B5.out, K4.out.on B5.out (Nat.le_refl _)⟩
      case measure => simp [intOf]; omega
    · have i1 : ¬ (k : Int) < (n : Int) := by omega
      have : k = n := by omega
      subst this
      go_wp2
      go_ret
      exact ⟨_, rfl, HO.out, HR.out, HK.out⟩

set_option maxHeartbeats 2000000 in
theorem rowsC_any (n : Nat) (p0 : Value) (T : Nat → List UInt8) (I : World → Prop) (B : Nat) (w : World) (hn : n ≤ 1048576) (hB : B < w.heap.size) (h0 : I w)
    (hI : ∀ X X', I X → Below w.heap.size X X' → I X')
    (hf : ∀ (k : Nat) X, k < n → w.heap.size ≤ X.heap.size → I X → Calls Tryz.prog 32 #[.int .i64 k, p0] X fun e X' => e = .returned (.string ⟨(T k).toArray⟩) ∧ I X' ∧ Kb B X X') :
    Calls Tryz.prog 27 #[.int .i64 n, .func (.func 32) #[] #[p0]] w fun e w' => ∃ v, e = .returned v ∧ OwnT w' w.heap.size v ((List.range n).map T) ∧ I w' ∧ Kb B w w' := by
  have HF := hidT hf
  have HI := hidT hI
  have H0 := hidT h0
  clear hf hI h0
  go_enter Tryz.func27, Tryz.ntmps27
  go_wp2_with fail
  go_loopw [5, 8] (fun v i wr => ∃ k : Nat, k ≤ n ∧ i = .int .i64 k ∧ OwnT wr w.heap.size v ((List.range k).map T) ∧ I wr ∧ Kb B w wr) (fun _ i _ => n - (intOf i).toNat)
  case atStart => exact ⟨0, Nat.zero_le _, rfl, ownT_nil _ _, H0.out, Kb.refl _ _⟩
  case round =>
    obtain ⟨k, hk, rfl, ho, hi, hb⟩ := hrel
    have hsr := hb.size
    have HO := hidT ho
    have HR := hidT hi
    have HK := hidT hb
    clear ho hi hb
    by_cases hlt : k < n
    · have i1 : (k : Int) < (n : Int) := by omega
      have HX : Hid ((List.range (k + 1)).map T = (List.range k).map T ++ [T k]) := by show _ = _; rw [List.range_succ]; simp
      have hlen : ((List.range k).map T).length ≤ 1099511627776 := by simp; omega
      generalize (List.range k).map T = tx at HO HX hlen
      go_wp2_with fail
      refine Calls.mono (HF.out k wr hlt hsr HR.out) ?_
      rintro e w4 ⟨rfl, hi4, hk4⟩
      have O4 := hidT (HO.out.kb hk4 hB)
      have K4 := hidT (HK.out.trans hk4)
      have I4 := hidT hi4
      have s4 := hk4.size
      clear hi4 hk4 HO HK HR
      go_wp2_with (at_builtin; refine app_str rfl _ _ rfl w4 (T k) w.heap.size u5 tx rfl O4.out rfl (by omega) (by omega) ?_; intro g5 cap5 w5 ho5 hb5 hs5 hg5; have O5 := hidT ho5; have B5 := hidT hb5; clear ho5 hb5)
      go_roundw
      case rel => exact ⟨k + 1, by omega, by go_num, by rw [HX.out]; exact O5.out, HI.out _ _ I4.out B5.out, K4.out.on B5.out (Nat.le_refl _)⟩
      case measure => simp [intOf]; omega
    · have i1 : ¬ (k : Int) < (n : Int) := by omega
      have : k = n := by omega
      subst this
      go_wp2
      go_ret
      exact ⟨_, rfl, HO.out, HR.out, HK.out⟩


end Go.Proofs.YtfgikjipkfggbaaGreatDoor
