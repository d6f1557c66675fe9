/- How the laws hold two equal programs against each other (sameProg). Conditions: lists of at most 1048576. -/
import Derived.Test.YtajblippcnidiaaGreatDoorProgOk2a
import Derived.Test.YtajblippcnidiaaGreatDoorSameInts
import Derived.Deep.RegionWith
import Derived.Deep.RegionHeld3
namespace Go.Proofs.YtajblippcnidiaaGreatDoor
set_option linter.unusedSimpArgs false
set_option linter.unusedVariables false
set_option maxRecDepth 100000
open Go.RowKit

theorem IntsR.ints {w : World} {lo hi : Nat} {s : Option Addr} {l : List Int} (h : IntsR w lo hi s l) (hh : hi ≤ w.heap.size) : Ints w s l := by
  rcases h with h | ⟨g, o, hs, a, b, hc⟩
  · exact .inl h
  · exact .inr ⟨g, o, hs, by omega, hc⟩
theorem ne_self (z : Int) : (z != z) = false := by simp

set_option maxHeartbeats 1000000 in
theorem sameIns_same (s s' : Option Addr) (c c' lo hi lo' hi' : Nat) (l : List I5) (w : World) (h : InsR w lo hi s l) (h' : InsR w lo' hi' s' l) (hB : hi ≤ w.heap.size) (hB' : hi' ≤ w.heap.size) (hl : l.length ≤ 1048576) :
    Calls Tryz.prog 26 #[.slice s l.length c, .slice s' l.length c'] w fun e w' => e = .returned (.bool true) ∧ Below w.heap.size w w' := by
  have H1 : Hid (InsR w lo hi s l) := h
  have H2 : Hid (InsR w lo' hi' s' l) := h'
  clear h h'
  have hne : ((l.length : Int) != (l.length : Int)) = false := by simp
  go_enter Tryz.func26, Tryz.ntmps26
  go_wp2
  go_loopw [5] (fun i wr => ∃ k m : Nat, k ≤ l.length ∧ i = .int .i64 k ∧ wr = w.drewN m) (fun i _ => l.length - (intOf i).toNat)
  case atStart => exact ⟨0, 0, Nat.zero_le _, rfl, rfl⟩
  case round =>
    obtain ⟨k, m, hk, rfl, rfl⟩ := hrel
    by_cases hlt : k < l.length
    · obtain ⟨g, off, hs, hc⟩ : ∃ g off, s = some ⟨g, off, none⟩ ∧ At5 w g (off + k * 5) (l.getD k z5) := by
        rcases H1.out with h | ⟨g, off, a, b, d, e⟩
        · rw [h] at hlt; simp at hlt
        · exact ⟨g, off, a, e k hlt⟩
      obtain ⟨g', off', hs', hc'⟩ : ∃ g off, s' = some ⟨g, off, none⟩ ∧ At5 w g (off + k * 5) (l.getD k z5) := by
        rcases H2.out with h | ⟨g, off, a, b, d, e⟩
        · rw [h] at hlt; simp at hlt
        · exact ⟨g, off, a, e k hlt⟩
      subst hs
      subst hs'
      generalize l.getD k z5 = x at hc hc'
      obtain ⟨f0, f1, f2, f3, f4⟩ := hc
      obtain ⟨f0', f1', f2', f3', f4'⟩ := hc'
      obtain ⟨xo, xr, xa, xb, xn⟩ := x
      simp only at f0 f1 f2 f3 f4 f0' f1' f2' f3' f4'
      have b0 : (0 : Int) ≤ (k : Int) := by omega
      have b1 : (k : Int) < (l.length : Int) := by omega
      have e0 := ne_self xo
      have e1 := ne_self xr
      have e2 := ne_self xa
      have e3 := ne_self xb
      have e4 := ne_self xn
      go_wp2_with fail
      go_quiet (fail)
      go_wp2
      go_roundw
      case rel => exact ⟨k + 1, _, by omega, by go_num, rfl⟩
      case measure => simp [intOf]; omega
    · go_wp2
      go_ret
      exact ⟨rfl, ⟨rfl, rfl, rfl, Nat.le_refl _, fun _ _ => rfl⟩⟩

theorem fourB {w W : World} {a b c d : Value} {T T' : TypeId} (hW : (w.alloc (.cells #[a, b] T)).alloc (.cells #[c, d] T') = W) : Below w.heap.size w W ∧ w.heap.size < W.heap.size ∧ w.heap.size + 1 < W.heap.size ∧ (W.cell? ⟨w.heap.size, 0, none⟩ = some a ∧ W.cell? ⟨w.heap.size, 1, none⟩ = some b) ∧ W.cell? ⟨w.heap.size + 1, 0, none⟩ = some c ∧ W.cell? ⟨w.heap.size + 1, 1, none⟩ = some d := by
  subst hW
  exact ⟨((Below.refl _ _).alloc (Nat.le_refl _) _).alloc (by simp) _, by simp; omega, by simp, ⟨by simp [go_sem], by simp [go_sem]⟩, by simp [go_sem], by simp [go_sem]⟩

set_option maxRecDepth 100000 in
set_option maxHeartbeats 4000000 in
theorem sameProg_same (s s' t t' : Option Addr) (c c' d d' lo hi lo' hi' : Nat) (p : PD) (w : World) (h : ProgR w lo hi s s' p) (h' : ProgR w lo' hi' t t' p) (hB : hi ≤ w.heap.size) (hB' : hi' ≤ w.heap.size) (hf : Fits p) :
    Calls Tryz.prog 10 #[.agg #[.slice s p.caps.length c, .slice s' p.bods.length c'], .agg #[.slice t p.caps.length d, .slice t' p.bods.length d']] w fun e w' => e = .returned (.bool true) ∧ Below w.heap.size w w' := by
  obtain ⟨q1, q2, q3⟩ := hf
  have H : Hid (ProgR w lo hi s s' p) := h
  have H' : Hid (ProgR w lo' hi' t t' p) := h'
  have Q3 : Hid (∀ i, i < p.bods.length → (p.bods.getD i []).length ≤ 1048576) := q3
  clear h h' q3
  have hne : ((p.bods.length : Int) != (p.bods.length : Int)) = false := by simp
  go_enter Tryz.func10, Tryz.ntmps10
  go_wp2_with fail
  obtain ⟨W, hW⟩ : ∃ W, (w.alloc (.cells #[.slice s p.caps.length c, .slice s' p.bods.length c'] 27)).alloc (.cells #[.slice t p.caps.length d, .slice t' p.bods.length d'] 27) = W := ⟨_, rfl⟩
  obtain ⟨ka, z0, z1, ⟨x0, x1⟩, y0, y1⟩ := fourB hW
  rw [hW]
  clear hW
  have K : Hid (Below w.heap.size w W) := ka
  clear ka
  refine (sameInts_any s t p.caps p.caps c d W ((H.out.1.keep (Keep.of_below K.out hB)).ints (by omega)) ((H'.out.1.keep (Keep.of_below K.out hB')).ints (by omega)) (by omega)).mono ?_
  rintro e w1 ⟨rfl, m, rfl⟩
  rw [decide_eq_true (rfl : p.caps = p.caps)]
  go_wp2
  go_loopw [5] (fun i wr => ∃ k : Nat, k ≤ p.bods.length ∧ i = .int .i64 k ∧ Below W.heap.size W wr) (fun i _ => p.bods.length - (intOf i).toNat)
  case atStart => exact ⟨0, Nat.zero_le _, rfl, ⟨rfl, rfl, rfl, Nat.le_refl _, fun _ _ => rfl⟩⟩
  case round =>
    obtain ⟨k, hk, rfl, hb⟩ := hrel
    have HB : Hid (Below W.heap.size W wr) := hb
    have hsz := hb.size
    have v0 := (hb.cell (p := ⟨w.heap.size, 1, none⟩) z0).trans x1
    have v1 := (hb.cell (p := ⟨w.heap.size + 1, 1, none⟩) z1).trans y1
    have e0 : w.heap.size < wr.heap.size := by omega
    have e1 : w.heap.size + 1 < wr.heap.size := by omega
    have K2 : Hid (Below w.heap.size w wr) := K.out.trans (hb.mono (by omega))
    clear hb
    by_cases hlt : k < p.bods.length
    · obtain ⟨g, off, hs, hg, hc⟩ : ∃ g off, s' = some ⟨g, off, none⟩ ∧ g < w.heap.size ∧ BodR wr lo hi g (off + k) (p.bods.getD k []) := by
        rcases H.out.2 with h | ⟨g, off, a, b, d, e⟩
        · rw [h] at hlt; simp at hlt
        · exact ⟨g, off, a, by omega, (e k hlt).keep (Keep.of_below K2.out hB) (K2.out.cell (p := ⟨g, off + k, none⟩) (by show g < _; omega))⟩
      obtain ⟨g', off', hs', hg', hc'⟩ : ∃ g off, t' = some ⟨g, off, none⟩ ∧ g < w.heap.size ∧ BodR wr lo' hi' g (off + k) (p.bods.getD k []) := by
        rcases H'.out.2 with h | ⟨g, off, a, b, d, e⟩
        · rw [h] at hlt; simp at hlt
        · exact ⟨g, off, a, by omega, (e k hlt).keep (Keep.of_below K2.out hB') (K2.out.cell (p := ⟨g, off + k, none⟩) (by show g < _; omega))⟩
      subst hs
      subst hs'
      obtain ⟨r, rc, f0, hin⟩ := hc
      obtain ⟨r', rc', f0', hin'⟩ := hc'
      have hlen := Q3.out k hlt
      generalize p.bods.getD k [] = x at f0 f0' hin hin' hlen
      have HI1 : Hid (InsR wr lo hi r x) := hin
      have HI2 : Hid (InsR wr lo' hi' r' x) := hin'
      clear hin hin'
      have b0 : (0 : Int) ≤ (k : Int) := by omega
      have b1 : (k : Int) < (p.bods.length : Int) := by omega
      have gz : g < wr.heap.size := by omega
      have gz' : g' < wr.heap.size := by omega
      have hh : hi ≤ wr.heap.size := by omega
      have hh' : hi' ≤ wr.heap.size := by omega
      go_wp2_with fail
      go_region_held3 (fun w' => w'.cell? ⟨w.heap.size, 1, none⟩ = some (.slice (some ⟨g, off, none⟩) p.bods.length c') ∧ w'.cell? ⟨w.heap.size + 1, 1, none⟩ = some (.slice (some ⟨g', off', none⟩) p.bods.length d') ∧ w'.cell? ⟨g, off + k, none⟩ = some (.slice r x.length rc) ∧ w'.cell? ⟨g', off' + k, none⟩ = some (.slice r' x.length rc')) (go_keep) (first | (go_at_call 26; refine (sameIns_same r r' rc rc' lo hi lo' hi' x wr.drew (HI1.out.keep (w' := wr.drew) (fun _ _ _ => rfl)) (HI2.out.keep (w' := wr.drew) (fun _ _ _ => rfl)) hh hh' hlen).mono ?_; rintro e w3 ⟨rfl, hb3⟩; have u0 := (hb3.cell (p := ⟨w.heap.size, 1, none⟩) e0).trans v0; have u1 := (hb3.cell (p := ⟨w.heap.size + 1, 1, none⟩) e1).trans v1; have u2 := (hb3.cell (p := ⟨g, off + k, none⟩) gz).trans f0; have u3 := (hb3.cell (p := ⟨g', off' + k, none⟩) gz').trans f0'))
      have HB1 : Hid (Below wr.heap.size wr w3) := ⟨hb3.os, hb3.tape, hb3.output, hb3.size, hb3.block⟩
      clear hb3 u0 u1 u2 u3 v0 v1 f0 f0'
      go_wp2
      go_roundw
      case rel => exact ⟨k + 1, by omega, by go_num, HB.out.trans (HB1.out.mono (by omega))⟩
      case measure => simp [intOf]; omega
    · go_wp2
      go_ret
      exact ⟨rfl, K2.out⟩

end Go.Proofs.YtajblippcnidiaaGreatDoor
