/- ProgText of the program, at every program of lists of at most 1048576 entries. Condition: the tables hold what their initialisers lay (Env). -/
import Derived.Test.YtfhhlahfldddfahDoorPText
import Derived.Test.YtfhhlahfldddfahDoorProgOk2
import Derived.Test.YtfhhlahfldddfahDoorText3
import Derived.Test.YtfhhlahfldddfahDoorOwnT
namespace Go.Proofs.YtfhhlahfldddfahDoor
set_option linter.unusedSimpArgs false
set_option linter.unusedVariables false
set_option maxRecDepth 100000
open Go.RowKit

set_option maxHeartbeats 4000000 in
theorem capsText_any (s : Option Addr) (c lo hi : Nat) (l : List Int) (w : World) (h : IntsR w lo hi s l) (hB : hi ≤ w.heap.size) (hl : l.length ≤ 3) (hv : ∀ v ∈ l, -1000000000 ≤ v ∧ v ≤ 1000000000) (hE : Env w w.heap.size) :
    Calls Tryd.prog 35 #[.slice s l.length c] w fun e w' => e = .returned (.string ⟨(capsL l).toArray⟩) ∧ Below w.heap.size w w' := by
  have HP : Hid (IntsR w lo hi s l) := h
  have N2 : Hid (∀ v ∈ l, -1000000000 ≤ v ∧ v ≤ 1000000000) := hv
  have HE : Hid (Env w w.heap.size) := hE
  clear h hv hE
  go_enter Tryd.func35, Tryd.ntmps35
  go_wp2_with fail
  go_loopw [3, 8] (fun t i wr => ∃ k : Nat, k ≤ l.length ∧ i = .int .i64 k ∧ t = .string ⟨(capsL (l.take k)).toArray⟩ ∧ Below w.heap.size w wr) (fun _ i _ => l.length - (intOf i).toNat)
  case atStart => exact ⟨0, Nat.zero_le _, rfl, by simp [capsL, numText], Below.refl _ _⟩
  case round =>
    obtain ⟨k, hk, rfl, rfl, hbr⟩ := hrel
    have KR : Hid (Below w.heap.size w wr) := hbr
    have hsr := hbr.size
    have HTB := (show Hid _ from (HE.out.keep hbr).tab)
    clear hbr
    have ht : (capsL (l.take k)).length ≤ 43 := by
      have := numText_take_le N2.out hl k
      simp [capsL]; omega
    by_cases hlt : k < l.length
    · have HX' : Hid (capsL (l.take (k + 1)) = capsL (l.take k) ++ (32 :: Lib.itoa (l.getD k 0))) := by show _ = _; unfold capsL; rw [numText_take hlt, List.append_assoc]
      generalize capsL (l.take k) = tx at ht HX'
      have i0 : (0 : Int) ≤ (k : Int) := by omega
      have i1 : (k : Int) < (l.length : Int) := by omega
      obtain ⟨g, off, hs, f0⟩ := ints_at (HP.out.keep (Keep.of_below KR.out hB)) hlt
      subst hs
      have hx := N2.out _ (getD_mem hlt)
      generalize l.getD k 0 = x at f0 hx HX'
      have a1 := add1 32 (Lib.itoa x) (by have := itoa_le hx.1 hx.2; omega)
      have a2 := addL tx (32 :: Lib.itoa x) (by omega) (by have := itoa_le hx.1 hx.2; simp; omega)
      go_wp2_with (go_at_call 22; refine (Tryd.strconv_Itoa x (by omega) (by omega) _ HTB.out).mono ?_; rintro e w4 ⟨rfl, hg⟩; have hb4 : Hid (Below wr.heap.size wr w4) := (by obtain ⟨k4, os4, h4⟩ := hg; rw [h4]; exact below_grow _ _ _); clear hg)
      go_roundw
      case rel => exact ⟨k + 1, by omega, by go_num, by rw [HX'.out], KR.out.trans (hb4.out.mono hsr)⟩
      case measure => simp [intOf]; omega
    · have i1 : ¬ (k : Int) < (l.length : Int) := by omega
      have e : l.take k = l := List.take_of_length_le (by omega)
      rw [e]
      clear e
      go_wp2
      go_ret
      exact ⟨rfl, KR.out⟩

def linesB (l : List (List I5)) : List (List UInt8) := l.flatMap fun b => [98, 111, 100, 121] :: b.map lineX
theorem linesB_take {l : List (List I5)} {k : Nat} (h : k < l.length) : linesB (l.take (k + 1)) = linesB (l.take k) ++ ([98, 111, 100, 121] :: (l.getD k []).map lineX) := by
  have e : l.take (k + 1) = l.take k ++ [l.getD k []] := by
    rw [List.take_add_one, List.getD_eq_getElem?_getD, List.getElem?_eq_getElem h]
    rfl
  rw [e]
  simp only [linesB, List.flatMap_append, List.flatMap_cons, List.flatMap_nil, List.append_nil]
theorem linesB_le {l : List (List I5)} (h : ∀ b ∈ l, b.length ≤ 24) : (linesB l).length ≤ 25 * l.length := by
  induction l with
  | nil => simp [linesB]
  | cons b l ih =>
    have h1 := h b (by simp)
    have h2 := ih fun u hu => h u (by simp [hu])
    simp [linesB] at h2 ⊢
    omega
theorem map_take {l : List I5} {k : Nat} (h : k < l.length) : (l.take (k + 1)).map lineX = (l.take k).map lineX ++ [lineX (l.getD k z5)] := by
  have e : l.take (k + 1) = l.take k ++ [l.getD k z5] := by
    rw [List.take_add_one, List.getD_eq_getElem?_getD, List.getElem?_eq_getElem h]
    rfl
  rw [e]
  simp
/- what strings.Join makes of the lines, and a byte 10 behind -/
def endsL (ls : List (List UInt8)) : List UInt8 := ls.flatMap fun l => l ++ [10]
theorem join_ends : ∀ (ls : List (List UInt8)), ls ≠ [] → Lib.join ls [10] ++ [10] = endsL ls
  | [], h => absurd rfl h
  | [x], _ => by simp [Lib.join, endsL]
  | x :: y :: r, _ => by
    have ih := join_ends (y :: r) (by simp)
    have e : Lib.join (x :: y :: r) [10] = x ++ [10] ++ Lib.join (y :: r) [10] := by simp [Lib.join]
    rw [e, List.append_assoc, ih]
    simp [endsL]
theorem ends_bods (l : List (List I5)) : endsL (linesB l) = bodsT l := by
  induction l with
  | nil => rfl
  | cons b l ih =>
    have e : linesB (b :: l) = ([98, 111, 100, 121] :: b.map lineX) ++ linesB l := by simp [linesB]
    have e2 : ∀ xs ys : List (List UInt8), endsL (xs ++ ys) = endsL xs ++ endsL ys := fun xs ys => by simp [endsL]
    rw [e, e2, ih]
    have e3 : endsL ([98, 111, 100, 121] :: b.map lineX) = bodyT b := by
      have : ∀ b : List I5, endsL (b.map lineX) = insT b := fun b => by
        induction b with
        | nil => rfl
        | cons x b ih => simp [endsL, insT, lineE] at ih ⊢; exact ih
      have e4 : endsL ([98, 111, 100, 121] :: b.map lineX) = [98, 111, 100, 121] ++ [10] ++ endsL (b.map lineX) := by simp [endsL]
      rw [e4, this]
      simp [bodyT]
    rw [e3]
    simp [bodsT]
theorem prog_lines {p : PD} (h : progB p = true) : endsL (capsL p.caps :: linesB p.bods) = progT p := by
  have e : endsL (capsL p.caps :: linesB p.bods) = capsL p.caps ++ [10] ++ endsL (linesB p.bods) := by simp [endsL]
  rw [e, ends_bods]
  unfold progT
  rw [if_pos h]

end Go.Proofs.YtfhhlahfldddfahDoor
