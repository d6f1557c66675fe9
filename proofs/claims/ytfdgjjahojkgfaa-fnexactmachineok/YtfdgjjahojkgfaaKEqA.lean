/- How the laws compare rows of code. Conditions: they are counted. -/
import Derived.Test.YtfdgjjahojkgfaaKDefs
import Derived.Test.YtfdgjjahojkgfaaCode
import Derived.Deep.RegionWith
namespace Go.Proofs.Ytfdgjjahojkgfaa
set_option linter.unusedSimpArgs false
set_option linter.unusedVariables false
set_option maxRecDepth 100000
open Go.RowKit

set_option maxHeartbeats 2000000 in
theorem eqStepSS_alike (s s' : Option Addr) (c c' lo hi lo' hi' : Nat) (l : List (List I5)) (w : World) (h : CsR w lo hi s l) (h' : CsR w lo' hi' s' l) (hB : hi ≤ w.heap.size) (hB' : hi' ≤ w.heap.size) (hl : l.length + szC l ≤ 1048576) :
    Calls Try.prog 14 #[.slice s l.length c, .slice s' l.length c'] w fun e w' => e = .returned (.bool true) ∧ Below w.heap.size w w' := by
  have H1 : Hid (CsR w lo hi s l) := h
  have H2 : Hid (CsR w lo' hi' s' l) := h'
  have Q3 : Hid (∀ (i : Nat) (t : List I5), l[i]? = some t → t.length ≤ 1048576) := fun i t ht => by have := szC_at l i t ht; omega
  have hl1 : l.length ≤ 1048576 := by omega
  clear h h' hl
  have hne : ((l.length : Int) != (l.length : Int)) = false := by simp
  go_enter Try.func14, Try.ntmps14
  go_wp2
  go_loopw [5] (fun i wr => ∃ k : Nat, k ≤ l.length ∧ i = .int .i64 k ∧ Below w.heap.size w wr) (fun i _ => l.length - (intOf i).toNat)
  case atStart => exact ⟨0, Nat.zero_le _, rfl, Below.refl _ _⟩
  case round =>
    obtain ⟨k, hk, rfl, hb⟩ := hrel
    have HB : Hid (Below w.heap.size w wr) := hb
    have hsz := hb.size
    clear hb
    by_cases hlt : k < l.length
    · obtain ⟨t, ht⟩ : ∃ t, l[k]? = some t := ⟨_, List.getElem?_eq_getElem hlt⟩
      obtain ⟨g, off, s1, c1, hs, g1, g2, f1, hin⟩ := (H1.out.keep (Keep.of_below HB.out hB)).at ht
      obtain ⟨g', off', s2, c2, hs', g1', g2', f1', hin'⟩ := (H2.out.keep (Keep.of_below HB.out hB')).at ht
      subst hs
      subst hs'
      have hlen := Q3.out k t ht
      have HI1 : Hid (InsB wr wr.heap.size s1 t) := hin.insB.mono (by omega)
      have HI2 : Hid (InsB wr wr.heap.size s2 t) := hin'.insB.mono (by omega)
      clear hin hin' ht
      have b0 : (0 : Int) ≤ (k : Int) := by omega
      have b1 : (k : Int) < (l.length : Int) := by omega
      go_wp2_with fail
      first | go_region_with (go_at_call 41; refine (eqStepS_same s1 s2 c1 c2 wr.heap.size t _ ?_ ?_ ?_ (by omega)).mono ?_; (exact HI1.out); (exact HI2.out); (first | exact Nat.le_refl _ | omega | (simp; omega)); rintro e w1 ⟨rfl, hb1⟩) | fail
      all_goals
        have HB1 : Hid (Below wr.heap.size wr w1) := ⟨hb1.os, hb1.tape, hb1.output, hb1.size, hb1.block⟩
        clear hb1
        go_wp2
        go_roundw
        case rel => exact ⟨k + 1, by omega, by go_num, HB.out.trans (HB1.out.mono hsz)⟩
        case measure => simp [intOf]; omega
    · go_wp2
      go_ret
      exact ⟨rfl, HB.out⟩


end Go.Proofs.Ytfdgjjahojkgfaa
