/- How the laws compare rows of cores. Conditions: they are counted. -/
import Derived.Test.YtfdgjjahojkgfaaKDefs
import Derived.Test.YtfdgjjahojkgfaaKSz
import Derived.Test.YtfdgjjahojkgfaaMemOk
import Derived.Deep.RegionWith
namespace Go.Proofs.Ytfdgjjahojkgfaa
set_option linter.unusedSimpArgs false
set_option linter.unusedVariables false
set_option maxRecDepth 100000
open Go.RowKit

theorem two4 {w W : World} {a b c d a' b' c' d' : Value} {T T' : TypeId} (hW : (w.alloc (.cells #[a, b, c, d] T)).alloc (.cells #[a', b', c', d'] T') = W) : Below w.heap.size w W ∧ B4 W w.heap.size a b c d ∧ B4 W (w.heap.size + 1) a' b' c' d' := by
  subst hW
  refine ⟨((Below.refl _ _).alloc (Nat.le_refl _) _).alloc (by simp) _, ⟨?_, ?_, ?_, ?_, ?_⟩, ⟨?_, ?_, ?_, ?_, ?_⟩⟩ <;> simp [go_sem] <;> omega

set_option maxHeartbeats 1000000 in
theorem eqCore_alike (pc st : Int) (s s' t t' : Option Addr) (l m : List Int) (c c' e e' lo hi lo' hi' : Nat) (w : World) (h : IntsR w lo hi s l) (h' : IntsR w lo' hi' s' l) (q : IntsR w lo hi t m) (q' : IntsR w lo' hi' t' m) (hB : hi ≤ w.heap.size) (hB' : hi' ≤ w.heap.size) (hl : l.length ≤ 1000000000) (hm : m.length ≤ 1000000000) :
    Calls Try.prog 60 #[.agg #[.int .i64 pc, .slice s l.length c, .slice t m.length e, .int .i64 st], .agg #[.int .i64 pc, .slice s' l.length c', .slice t' m.length e', .int .i64 st]] w fun e w' => e = .returned (.bool true) ∧ Below w.heap.size w w' := by
  have H1 : Hid (IntsR w lo hi s l) := h
  have H2 : Hid (IntsR w lo' hi' s' l) := h'
  have Q1 : Hid (IntsR w lo hi t m) := q
  have Q2 : Hid (IntsR w lo' hi' t' m) := q'
  clear h h' q q'
  have e1 : (pc != pc) = false := by simp
  have e2 : (st != st) = false := by simp
  go_enter Try.func60, Try.ntmps60
  go_wp2_with fail
  try (first | go_region_with fail | skip)
  have k0 : Below w.heap.size w ((w.alloc (.cells #[.int .i64 pc, .slice s l.length c, .slice t m.length e, .int .i64 st] 58)).alloc (.cells #[.int .i64 pc, .slice s' l.length c', .slice t' m.length e', .int .i64 st] 58)) := ((Below.refl w.heap.size w).alloc (Nat.le_refl _) _).alloc (by simp) _
  refine (eqIntS_any s s' l l c c' _ ((H1.out.keep (Keep.of_below k0 hB)).ints (by simp; omega)) ((H2.out.keep (Keep.of_below k0 hB')).ints (by simp; omega)) (by omega)).mono ?_
  rintro r w1 ⟨rfl, m1, rfl⟩
  rw [decide_eq_true (rfl : l = l)]
  obtain ⟨W, hW⟩ : ∃ W, (w.alloc (.cells #[.int .i64 pc, .slice s l.length c, .slice t m.length e, .int .i64 st] 58)).alloc (.cells #[.int .i64 pc, .slice s' l.length c', .slice t' m.length e', .int .i64 st] 58) = W := ⟨_, rfl⟩
  obtain ⟨kw, ⟨z0, -, -, a2, a3⟩, ⟨z1, -, -, b2, b3⟩⟩ := two4 hW
  rw [hW]
  clear hW k0
  obtain ⟨V, hV⟩ : ∃ V, W.drewN m1 = V := ⟨_, rfl⟩
  have kv : Below w.heap.size w V := by rw [← hV]; exact belowQ kw m1
  have z0' : w.heap.size < V.heap.size := by rw [← hV]; exact z0
  have z1' : w.heap.size + 1 < V.heap.size := by rw [← hV]; exact z1
  have a2' : V.cell? ⟨w.heap.size, 2, none⟩ = some (.slice t m.length e) := by rw [← hV]; exact a2
  have b2' : V.cell? ⟨w.heap.size + 1, 2, none⟩ = some (.slice t' m.length e') := by rw [← hV]; exact b2
  have a3' : V.cell? ⟨w.heap.size, 3, none⟩ = some (.int .i64 st) := by rw [← hV]; exact a3
  have b3' : V.cell? ⟨w.heap.size + 1, 3, none⟩ = some (.int .i64 st) := by rw [← hV]; exact b3
  rw [hV]
  have HV : Hid (Below w.heap.size w V) := kv
  clear hV kw kv a2 a3 b2 b3 z0 z1
  go_wp2_with fail
  refine (eqIntS_any t t' m m e e' _ ((Q1.out.keep (Keep.of_below HV.out hB)).ints (by omega)) ((Q2.out.keep (Keep.of_below HV.out hB')).ints (by omega)) (by omega)).mono ?_
  rintro r w1 ⟨rfl, m2, rfl⟩
  rw [decide_eq_true (rfl : m = m)]
  go_wp2
  go_ret
  exact ⟨rfl, belowQ HV.out _⟩

set_option maxHeartbeats 2000000 in
theorem eqCoreS_alike (s s' : Option Addr) (c c' lo hi lo' hi' : Nat) (l : List KD) (w : World) (h : KsR w lo hi s l) (h' : KsR w lo' hi' s' l) (hB : hi ≤ w.heap.size) (hB' : hi' ≤ w.heap.size) (hl : l.length + szK l ≤ 1048676) :
    Calls Try.prog 32 #[.slice s l.length c, .slice s' l.length c'] w fun e w' => e = .returned (.bool true) ∧ Below w.heap.size w w' := by
  have H1 : Hid (KsR w lo hi s l) := h
  have H2 : Hid (KsR w lo' hi' s' l) := h'
  have Q3 : Hid (∀ (i : Nat) (t : KD), l[i]? = some t → t.regs.length + t.vw.length ≤ 1048676) := fun i t ht => by have := szK_at l i t ht; omega
  have hl1 : l.length ≤ 1048676 := by omega
  clear h h' hl
  have hne : ((l.length : Int) != (l.length : Int)) = false := by simp
  go_enter Try.func32, Try.ntmps32
  go_wp2
  go_loopw [5] (fun i wr => ∃ k : Nat, k ≤ l.length ∧ i = .int .i64 k ∧ Below w.heap.size w wr) (fun i _ => l.length - (intOf i).toNat)
  case atStart => exact ⟨0, Nat.zero_le _, rfl, Below.refl _ _⟩
  case round =>
    obtain ⟨k, hk, rfl, hb⟩ := hrel
    have HB : Hid (Below w.heap.size w wr) := hb
    have hsz := hb.size
    clear hb
    by_cases hlt : k < l.length
    · obtain ⟨t, ht⟩ : ∃ t, l[k]? = some t := ⟨_, List.getElem?_eq_getElem hlt⟩
      obtain ⟨g, off, s1, c1, s3, c3, hs, g1, g2, f0, f1, f2, f3, hin, kin⟩ := (H1.out.keep (Keep.of_below HB.out hB)).at ht
      obtain ⟨g', off', s2, c2, s4, c4, hs', g1', g2', f0', f1', f2', f3', hin', kin'⟩ := (H2.out.keep (Keep.of_below HB.out hB')).at ht
      subst hs
      subst hs'
      have hlen := Q3.out k t ht
      obtain ⟨v, rg, vw, st⟩ := t
      simp only at f0 f1 f2 f3 f0' f1' f2' f3' hin hin' kin kin' hlen
      have KI1 : Hid (IntsR wr lo hi s3 vw) := kin
      have KI2 : Hid (IntsR wr lo' hi' s4 vw) := kin'
      clear kin kin'
      have HI1 : Hid (IntsR wr lo hi s1 rg) := hin
      have HI2 : Hid (IntsR wr lo' hi' s2 rg) := hin'
      clear hin hin' ht
      have b0 : (0 : Int) ≤ (k : Int) := by omega
      have b1 : (k : Int) < (l.length : Int) := by omega
      go_wp2_with fail
      first | go_region_with (go_at_call 60; refine (eqCore_alike v st s1 s2 s3 s4 rg vw c1 c2 c3 c4 lo hi lo' hi' _ ?_ ?_ ?_ ?_ ?_ ?_ (by omega) (by omega)).mono ?_; (exact HI1.out); (exact HI2.out); (exact KI1.out); (exact KI2.out); (first | omega | (simp; omega)); (first | omega | (simp; omega)); rintro e w1 ⟨rfl, hb1⟩) | fail
      all_goals
        have HB1 : Hid (Below wr.heap.size wr w1) := ⟨hb1.os, hb1.tape, hb1.output, hb1.size, hb1.block⟩
        clear hb1
        go_wp2
        go_roundw
        case rel => exact ⟨k + 1, by omega, by go_num, HB.out.trans (HB1.out.mono hsz)⟩
        case measure => simp [intOf]; omega
    · go_wp2
      go_ret
      exact ⟨rfl, HB.out⟩


end Go.Proofs.Ytfdgjjahojkgfaa
