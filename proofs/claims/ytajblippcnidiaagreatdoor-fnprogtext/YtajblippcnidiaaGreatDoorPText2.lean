/- ProgText of the program, at every program of lists of at most 1048576 entries. Condition: the tables hold what their initialisers lay (Env). -/
import Derived.Test.YtajblippcnidiaaGreatDoorPTextL
import Derived.Test.YtajblippcnidiaaGreatDoorProgOk2a
import Derived.Test.YtajblippcnidiaaGreatDoorText3
import Derived.Test.YtajblippcnidiaaGreatDoorOwnT
namespace Go.Proofs.YtajblippcnidiaaGreatDoor
set_option linter.unusedSimpArgs false
set_option linter.unusedVariables false
set_option maxRecDepth 100000
open Go.RowKit

set_option maxHeartbeats 4000000 in
theorem capsText_any (s : Option Addr) (c lo hi : Nat) (l : List Int) (w : World) (h : IntsR w lo hi s l) (hB : hi ≤ w.heap.size) (hl : l.length ≤ 3) (hv : ∀ v ∈ l, -1000000000 ≤ v ∧ v ≤ 1000000000) (hE : Env w w.heap.size) :
    Calls Tryz.prog 15 #[.slice s l.length c] w fun e w' => e = .returned (.string ⟨(capsL l).toArray⟩) ∧ Below w.heap.size w w' := by
  have HP : Hid (IntsR w lo hi s l) := h
  have N2 : Hid (∀ v ∈ l, -1000000000 ≤ v ∧ v ≤ 1000000000) := hv
  have HE : Hid (Env w w.heap.size) := hE
  clear h hv hE
  go_enter Tryz.func15, Tryz.ntmps15
  go_wp2_with fail
  go_loopw [3, 8] (fun t i wr => ∃ k : Nat, k ≤ l.length ∧ i = .int .i64 k ∧ t = .string ⟨(capsL (l.take k)).toArray⟩ ∧ Below w.heap.size w wr) (fun _ i _ => l.length - (intOf i).toNat)
  case atStart => exact ⟨0, Nat.zero_le _, rfl, by simp [capsL, numText], Below.refl _ _⟩
  case round =>
    obtain ⟨k, hk, rfl, rfl, hbr⟩ := hrel
    have KR : Hid (Below w.heap.size w wr) := hbr
    have hsr := hbr.size
    have HTB := (show Hid _ from (HE.out.keep hbr).tab)
    clear hbr
    have ht : (capsL (l.take k)).length ≤ 43 := by
      have := numText_take_le N2.out hl k
      simp [capsL]; omega
    by_cases hlt : k < l.length
    · have HX' : Hid (capsL (l.take (k + 1)) = capsL (l.take k) ++ (32 :: Lib.itoa (l.getD k 0))) := by show _ = _; unfold capsL; rw [numText_take hlt, List.append_assoc]
      generalize capsL (l.take k) = tx at ht HX'
      have i0 : (0 : Int) ≤ (k : Int) := by omega
      have i1 : (k : Int) < (l.length : Int) := by omega
      obtain ⟨g, off, hs, f0⟩ := ints_at (HP.out.keep (Keep.of_below KR.out hB)) hlt
      subst hs
      have hx := N2.out _ (getD_mem hlt)
      generalize l.getD k 0 = x at f0 hx HX'
      have a1 := add1 32 (Lib.itoa x) (by have := itoa_le hx.1 hx.2; omega)
      have a2 := addL tx (32 :: Lib.itoa x) (by omega) (by have := itoa_le hx.1 hx.2; simp; omega)
      go_wp2_with (go_at_call 33; refine (Tryz.strconv_Itoa x (by omega) (by omega) _ HTB.out).mono ?_; rintro e w4 ⟨rfl, hg⟩; have hb4 : Hid (Below wr.heap.size wr w4) := (by obtain ⟨k4, os4, h4⟩ := hg; rw [h4]; exact below_grow _ _ _); clear hg)
      go_roundw
      case rel => exact ⟨k + 1, by omega, by go_num, by rw [HX'.out], KR.out.trans (hb4.out.mono hsr)⟩
      case measure => simp [intOf]; omega
    · have i1 : ¬ (k : Int) < (l.length : Int) := by omega
      have e : l.take k = l := List.take_of_length_le (by omega)
      rw [e]
      clear e
      go_wp2
      go_ret
      exact ⟨rfl, KR.out⟩

theorem join_ends : ∀ (ls : List (List UInt8)), ls ≠ [] → Lib.join ls [10] ++ [10] = endsL ls
  | [], h => absurd rfl h
  | [x], _ => by simp [Lib.join, endsL]
  | x :: y :: r, _ => by
    have ih := join_ends (y :: r) (by simp)
    have e : Lib.join (x :: y :: r) [10] = x ++ [10] ++ Lib.join (y :: r) [10] := by simp [Lib.join]
    rw [e, List.append_assoc, ih]
    simp [endsL]

end Go.Proofs.YtajblippcnidiaaGreatDoor
