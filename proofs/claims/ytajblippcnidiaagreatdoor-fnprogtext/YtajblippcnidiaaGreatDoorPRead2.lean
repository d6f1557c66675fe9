/- readLines of the program, at every text of at most 2^40 bytes. -/
import Derived.Test.YtajblippcnidiaaGreatDoorRead1
import Derived.Test.YtajblippcnidiaaGreatDoorRead2
namespace Go.Proofs.YtajblippcnidiaaGreatDoor
set_option linter.unusedSimpArgs false
set_option linter.unusedVariables false
set_option maxRecDepth 100000
open Go.RowKit

def linesPost (base : Nat) (ls : List (List UInt8)) (e : Ending) (w' : World) : Prop :=
  if ls.length < 2 ∨ ls.getLastD [] ≠ [] then e = .panicked [{ v := noT, recovered := false }]
  else ∃ g cap, e = .returned (.slice (some ⟨g, 0, none⟩) (ls.length - 1) cap) ∧ OwnT w' base (.slice (some ⟨g, 0, none⟩) ls.length cap) ls

theorem last_getD {ls : List (List UInt8)} (h : 0 < ls.length) : ls.getD (ls.length - 1) [] = ls.getLastD [] := by
  rw [List.getLastD_eq_getLast?, List.getLast?_eq_getElem?, List.getD_eq_getElem?_getD]

set_option maxHeartbeats 4000000 in
theorem readLines_any (l : List UInt8) (hl : l.length ≤ 1099511627775) (w : World) : Calls Tryz.prog 48 #[.string ⟨l.toArray⟩] w fun e w' => linesPost (w.heap.size + 1) (splitA 10 [] l) e w' ∧ Below w.heap.size w w' := by
  have hln := splitA_len 10 l []
  go_enter Tryz.func48, Tryz.ntmps48
  go_wp2_with fail
  refine (cut_any l 10 (by decide) hl _).mono ?_
  rintro e w1 ⟨g, cap, rfl, ho1, hb1, hs1⟩
  obtain ⟨ls, hls⟩ : ∃ ls, splitA 10 [] l = ls := ⟨_, rfl⟩
  have HS : Hid (splitA 10 [] l = ls) := hls
  rw [hls] at hln ho1
  rw [hls]
  clear hls
  obtain ⟨n, hn⟩ : ∃ n, ls.length = n + 1 := ⟨ls.length - 1, by omega⟩
  have HN : Hid (ls.length = n + 1) := hn
  have O1 : Hid (OwnT w1 (w.heap.size + 1) (.slice (some ⟨g, 0, none⟩) (n + 1) cap) ls) := by show OwnT _ _ _ _; rw [← hn]; exact ho1
  have K1 : Hid (Below w.heap.size w w1) := hb1
  have c0 := ho1.cell (i := n) (by omega)
  have hcap := ho1.cap
  have hlast : ls.getD n [] = ls.getLastD [] := by have := last_getD (ls := ls) (by omega); rw [← this]; congr 1; omega
  rw [hlast] at c0
  rw [hn]
  have hnb : n ≤ 1099511627775 := by omega
  rw [hn] at hcap
  obtain ⟨x, hx⟩ : ∃ x, ls.getLastD [] = x := ⟨_, rfl⟩
  rw [hx] at c0
  have HX : Hid (ls.getLastD [] = x) := hx
  clear ho1 hb1 hlast hn hx hln
  by_cases h1 : n < 1
  · have HP : Hid (linesPost (w.heap.size + 1) ls (.panicked [{ v := noT, recovered := false }]) w1) := by show linesPost _ _ _ _; unfold linesPost; rw [if_pos (Or.inl (by rw [HN.out]; omega))]
    have e : n = 0 := by omega
    subst e
    go_wp2
    refine ⟨rfl, ?_, K1.out⟩; rw [HS.out]; exact HP.out
  · have j0 : ¬ (n : Int) < 1 := by omega
    by_cases hx0 : x = []
    · subst hx0
      have HP : Hid (linesPost (w.heap.size + 1) ls (.returned (.slice (some ⟨g, 0, none⟩) n cap)) w1) := by show linesPost _ _ _ _; unfold linesPost; rw [if_neg (by rw [HX.out, HN.out]; simp; omega)]; exact ⟨g, cap, by rw [HN.out]; rfl, by rw [HN.out]; exact O1.out⟩
      go_wp2
      go_ret
      refine ⟨?_, K1.out⟩; rw [HS.out]; exact HP.out
    · have HP : Hid (linesPost (w.heap.size + 1) ls (.panicked [{ v := noT, recovered := false }]) w1) := by show linesPost _ _ _ _; unfold linesPost; rw [if_pos (Or.inr (by rw [HX.out]; exact hx0))]
      have hxe : x.isEmpty = false := by simpa using hx0
      go_wp2
      refine ⟨rfl, ?_, K1.out⟩; rw [HS.out]; exact HP.out

end Go.Proofs.YtajblippcnidiaaGreatDoor
