/- How the laws hold two sources against each other. Conditions: lists of at most 1048576. -/
import Derived.Test.YthgefddocenjmaaDoorQuietC
import Derived.Test.YthgefddocenjmaaDoorLists
import Derived.Test.YthgefddocenjmaaDoorIntRows
import Derived.Test.YthgefddocenjmaaDoorSrcDefs
import Derived.Deep.RegionWith
namespace Go.Proofs.YthgefddocenjmaaDoor
set_option linter.unusedSimpArgs false
set_option linter.unusedVariables false
set_option maxRecDepth 100000
open Go.RowKit
set_option maxHeartbeats 1000000 in
theorem eqChan_alike (pc : Int) (st : Bool) (s s' : Option Addr) (l : List Int) (c c' lo hi lo' hi' : Nat) (w : World) (h : IntsR w lo hi s l) (h' : IntsR w lo' hi' s' l) (hB : hi ≤ w.heap.size) (hB' : hi' ≤ w.heap.size) (hl : l.length ≤ 1000000000) :
    Calls Tryd.prog 24 #[.agg #[.int .i64 pc, .slice s l.length c, .bool st], .agg #[.int .i64 pc, .slice s' l.length c', .bool st]] w fun e w' => e = .returned (.bool true) ∧ Below w.heap.size w w' := by
  have HR : Hid (IntsR w lo hi s l) := h
  have HR' : Hid (IntsR w lo' hi' s' l) := h'
  clear h h'
  have hd : (st != st) = false := by simp
  go_enter Tryd.func24, Tryd.ntmps24
  go_wp2_with fail
  refine (eqIntS_any s s' l l c c' _ ((HR.out.keep (Keep.of_below (((Below.refl w.heap.size w).alloc (Nat.le_refl _) _).alloc (by simp) _) hB)).ints (by simp; omega)) ((HR'.out.keep (Keep.of_below (((Below.refl w.heap.size w).alloc (Nat.le_refl _) _).alloc (by simp) _) hB')).ints (by simp; omega)) (by omega)).mono ?_
  rintro e w1 ⟨rfl, m1, rfl⟩
  rw [decide_eq_true (rfl : l = l)]
  go_wp2
  go_ret
  exact ⟨rfl, (((Below.refl w.heap.size w).alloc (Nat.le_refl _) _).alloc (by simp) _).trans ⟨rfl, rfl, rfl, Nat.le_refl _, fun _ _ => rfl⟩⟩

theorem eqNote_alike (a b : Int) (w : World) : Calls Tryd.prog 40 #[.agg #[.int .i64 a, .int .i64 b], .agg #[.int .i64 a, .int .i64 b]] w fun e w' => e = .returned (.bool true) ∧ Below w.heap.size w w' := by
  go_enter Tryd.func40, Tryd.ntmps40
  go_wp2
  go_ret
  exact ⟨rfl, ((Below.refl _ _).alloc (Nat.le_refl _) _).alloc (by simp) _⟩

set_option maxHeartbeats 2000000 in
theorem eqNoteS_alike (s s' : Option Addr) (c c' lo hi lo' hi' : Nat) (l : List ND) (w : World) (h : NtsR w lo hi s l) (h' : NtsR w lo' hi' s' l) (hB : hi ≤ w.heap.size) (hB' : hi' ≤ w.heap.size) (hl : l.length ≤ 1048576) :
    Calls Tryd.prog 19 #[.slice s l.length c, .slice s' l.length c'] w fun e w' => e = .returned (.bool true) ∧ Below w.heap.size w w' := by
  have H1 : Hid (NtsR w lo hi s l) := h
  have H2 : Hid (NtsR w lo' hi' s' l) := h'
  clear h h'
  have hne : ((l.length : Int) != (l.length : Int)) = false := by simp
  go_enter Tryd.func19, Tryd.ntmps19
  go_wp2
  go_loopw [5] (fun i wr => ∃ k : Nat, k ≤ l.length ∧ i = .int .i64 k ∧ Below w.heap.size w wr) (fun i _ => l.length - (intOf i).toNat)
  case atStart => exact ⟨0, Nat.zero_le _, rfl, Below.refl _ _⟩
  case round =>
    obtain ⟨k, hk, rfl, hb⟩ := hrel
    have HB : Hid (Below w.heap.size w wr) := hb
    have hsz := hb.size
    clear hb
    by_cases hlt : k < l.length
    · obtain ⟨t, ht⟩ : ∃ t, l[k]? = some t := ⟨_, List.getElem?_eq_getElem hlt⟩
      obtain ⟨g, off, hs, hg, f0, f1⟩ : ∃ g off, s = some ⟨g, off, none⟩ ∧ g < w.heap.size ∧ NtR wr g (off + k * 2) t := by
        rcases H1.out with h | ⟨g, off, a, b, d, e⟩
        · rw [h] at hlt; simp at hlt
        · exact ⟨g, off, a, by omega, (HB.out.cell (p := ⟨g, _, none⟩) (by show g < _; omega)).trans (e k t ht).1, (HB.out.cell (p := ⟨g, _, none⟩) (by show g < _; omega)).trans (e k t ht).2⟩
      obtain ⟨g', off', hs', hg', f0', f1'⟩ : ∃ g off, s' = some ⟨g, off, none⟩ ∧ g < w.heap.size ∧ NtR wr g (off + k * 2) t := by
        rcases H2.out with h | ⟨g, off, a, b, d, e⟩
        · rw [h] at hlt; simp at hlt
        · exact ⟨g, off, a, by omega, (HB.out.cell (p := ⟨g, _, none⟩) (by show g < _; omega)).trans (e k t ht).1, (HB.out.cell (p := ⟨g, _, none⟩) (by show g < _; omega)).trans (e k t ht).2⟩
      subst hs
      subst hs'
      obtain ⟨ta, tb⟩ := t
      simp only at f0 f1 f0' f1'
      clear ht
      have b0 : (0 : Int) ≤ (k : Int) := by omega
      have b1 : (k : Int) < (l.length : Int) := by omega
      go_wp2_with fail
      first | go_region_with (go_at_call 40; refine (eqNote_alike ta tb _).mono ?_; rintro e w1 ⟨rfl, hb1⟩) | fail
      all_goals
        have HB1 : Hid (Below wr.heap.size wr w1) := ⟨hb1.os, hb1.tape, hb1.output, hb1.size, hb1.block⟩
        clear hb1
        go_wp2
        go_roundw
        case rel => exact ⟨k + 1, by omega, by go_num, HB.out.trans (HB1.out.mono hsz)⟩
        case measure => simp [intOf]; omega
    · go_wp2
      go_ret
      exact ⟨rfl, HB.out⟩

theorem six {w W : World} {a b c a' b' c' : Value} {T T' : TypeId} (hW : (w.alloc (.cells #[a, b, c] T)).alloc (.cells #[a', b', c'] T') = W) : Below w.heap.size w W ∧ w.heap.size < W.heap.size ∧ w.heap.size + 1 < W.heap.size ∧ (W.cell? ⟨w.heap.size, 1, none⟩ = some b ∧ W.cell? ⟨w.heap.size, 2, none⟩ = some c) ∧ W.cell? ⟨w.heap.size + 1, 1, none⟩ = some b' ∧ W.cell? ⟨w.heap.size + 1, 2, none⟩ = some c' := by
  subst hW
  exact ⟨((Below.refl _ _).alloc (Nat.le_refl _) _).alloc (by simp) _, by simp; omega, by simp, ⟨by simp [go_sem], by simp [go_sem]⟩, by simp [go_sem], by simp [go_sem]⟩

end Go.Proofs.YthgefddocenjmaaDoor
