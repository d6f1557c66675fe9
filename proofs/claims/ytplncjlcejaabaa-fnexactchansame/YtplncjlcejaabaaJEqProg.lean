/- How the laws hold two programs against each other, in a cut without laws.toIns. Conditions: lists of at most 1048576. -/
import Derived.Test.YtplncjlcejaabaaJProgLists
import Derived.Test.YtplncjlcejaabaaJProgCopy
import Derived.Test.YtplncjlcejaabaaJIntRows
import Derived.Test.YtplncjlcejaabaaJInsLists
import Derived.Test.YtplncjlcejaabaaJBelDraw
import Derived.Test.YtplncjlcejaabaaJLists
import Derived.Deep.RegionWith
namespace Go.Proofs.Ytplncjlcejaabaa
set_option linter.unusedSimpArgs false
set_option linter.unusedVariables false
set_option maxRecDepth 100000
open Go.RowKit
theorem eqIns_same (o r a b n : Int) (w : World) : Calls Try.prog 91 #[.agg #[.int .i64 o, .int .i64 r, .int .i64 a, .int .i64 b, .int .i64 n], .agg #[.int .i64 o, .int .i64 r, .int .i64 a, .int .i64 b, .int .i64 n]] w fun e w' => e = .returned (.bool true) ∧ Below w.heap.size w w' := by
 go_enter Try.func91, Try.ntmps91
 go_wp2
 go_ret
 exact ⟨rfl, ((Below.refl _ _).alloc (Nat.le_refl _) _).alloc (by simp) _⟩
set_option maxHeartbeats 1000000 in
theorem eqInsS_same (s s' : Option Addr) (c c' B : Nat) (l : List I5) (w : World) (h : InsB w B s l) (h' : InsB w B s' l) (hB : B ≤ w.heap.size) (hl : l.length ≤ 1048576) :
  Calls Try.prog 74 #[.slice s l.length c, .slice s' l.length c'] w fun e w' => e = .returned (.bool true) ∧ Below w.heap.size w w' := by
 rcases h with rfl | ⟨g, off, rfl, hg, hc⟩
 ·go_enter Try.func74, Try.ntmps74
  go_wp2
  go_loop [5] (fun i => i = .int .i64 0) (fun _ => 0)
  case atStart => rfl
  case round =>
   subst hrel
   go_wp2
   go_ret
   exact ⟨rfl, Below.refl _ _⟩
 ·rcases h' with rfl | ⟨g', off', rfl, hg', hc'⟩
  ·go_enter Try.func74, Try.ntmps74
   go_wp2
   go_loop [5] (fun i => i = .int .i64 0) (fun _ => 0)
   case atStart => rfl
   case round =>
    subst hrel
    go_wp2
    go_ret
    exact ⟨rfl, Below.refl _ _⟩
  ·have hne : ((l.length : Int) != (l.length : Int)) = false := by simp
   have HC : Hid (∀ i, i < l.length → At5 w g (off + i * 5) (l.getD i z5)) := hc
   have HC' : Hid (∀ i, i < l.length → At5 w g' (off' + i * 5) (l.getD i z5)) := hc'
   clear hc hc'
   go_enter Try.func74, Try.ntmps74
   go_wp2
   go_loopw [5] (fun i wr => ∃ k : Nat, k ≤ l.length ∧ i = .int .i64 k ∧ Below w.heap.size w wr) (fun i _ => l.length - (intOf i).toNat)
   case atStart => exact ⟨0, Nat.zero_le _, rfl, Below.refl _ _⟩
   case round =>
    obtain ⟨k, hk, rfl, hb⟩ := hrel
    have HB : Hid (Below w.heap.size w wr) := hb
    clear hb
    by_cases hlt : k < l.length
    ·obtain ⟨f0, f1, f2, f3, f4⟩ := (HC.out k hlt).keep HB.out (by omega)
     obtain ⟨f0', f1', f2', f3', f4'⟩ := (HC'.out k hlt).keep HB.out (by omega)
     generalize l.getD k z5 = x at f0 f1 f2 f3 f4 f0' f1' f2' f3' f4'
     obtain ⟨xo, xr, xa, xb, xn⟩ := x
     have b0 : (0 : Int) ≤ (k : Int) := by omega
     have b1 : (k : Int) < (l.length : Int) := by omega
     go_wp2_with fail
     first | go_region_with (go_at_call 91; refine (eqIns_same _ _ _ _ _ _).mono ?_; rintro e w1 ⟨rfl, hb1⟩) | fail
     all_goals
      have HB1 : Hid (Below wr.heap.size wr w1) := ⟨hb1.os, hb1.tape, hb1.output, hb1.size, hb1.block⟩
      have hs1 := HB.out.size
      clear hb1
      go_wp2
      go_roundw
      case rel => exact ⟨k + 1, by omega, by go_num, HB.out.trans (HB1.out.mono hs1)⟩
      case measure => simp [intOf]; omega
    ·go_wp2
     go_ret
     exact ⟨rfl, HB.out⟩
set_option maxHeartbeats 1000000 in
theorem eqInsSS_same (s s' : Option Addr) (c c' lo hi lo' hi' : Nat) (l : List (List I5)) (w : World) (h : BodsR w lo hi s l) (h' : BodsR w lo' hi' s' l) (hB : hi ≤ w.heap.size) (hB' : hi' ≤ w.heap.size) (hl : l.length ≤ 1048576) (hls : ∀ i, i < l.length → (l.getD i []).length ≤ 1048576) :
  Calls Try.prog 40 #[.slice s l.length c, .slice s' l.length c'] w fun e w' => e = .returned (.bool true) ∧ Below w.heap.size w w' := by
 have H1 : Hid (BodsR w lo hi s l) := h
 have H2 : Hid (BodsR w lo' hi' s' l) := h'
 have Q3 : Hid (∀ i, i < l.length → (l.getD i []).length ≤ 1048576) := hls
 clear h h' hls
 have hne : ((l.length : Int) != (l.length : Int)) = false := by simp
 go_enter Try.func40, Try.ntmps40
 go_wp2
 go_loopw [5] (fun i wr => ∃ k : Nat, k ≤ l.length ∧ i = .int .i64 k ∧ Below w.heap.size w wr) (fun i _ => l.length - (intOf i).toNat)
 case atStart => exact ⟨0, Nat.zero_le _, rfl, Below.refl _ _⟩
 case round =>
  obtain ⟨k, hk, rfl, hb⟩ := hrel
  have HB : Hid (Below w.heap.size w wr) := hb
  have hsz := hb.size
  clear hb
  by_cases hlt : k < l.length
  ·obtain ⟨g, off, hs, hg, hc⟩ : ∃ g off, s = some ⟨g, off, none⟩ ∧ g < w.heap.size ∧ BodR wr lo hi g (off + k) (l.getD k []) := by
    rcases H1.out with h | ⟨g, off, a, b, d, e⟩
    ·rw [h] at hlt; simp at hlt
    ·exact ⟨g, off, a, by omega, (e k hlt).keep (Keep.of_below HB.out hB) (HB.out.cell (p := ⟨g, off + k, none⟩) (by show g < _; omega))⟩
   obtain ⟨g', off', hs', hg', hc'⟩ : ∃ g off, s' = some ⟨g, off, none⟩ ∧ g < w.heap.size ∧ BodR wr lo' hi' g (off + k) (l.getD k []) := by
    rcases H2.out with h | ⟨g, off, a, b, d, e⟩
    ·rw [h] at hlt; simp at hlt
    ·exact ⟨g, off, a, by omega, (e k hlt).keep (Keep.of_below HB.out hB') (HB.out.cell (p := ⟨g, off + k, none⟩) (by show g < _; omega))⟩
   subst hs
   subst hs'
   obtain ⟨t, tc, f0, hin⟩ := hc
   obtain ⟨t', tc', f0', hin'⟩ := hc'
   have hlen := Q3.out k hlt
   generalize l.getD k [] = x at f0 f0' hin hin' hlen
   have HI1 : Hid (InsR wr lo hi t x) := hin
   have HI2 : Hid (InsR wr lo' hi' t' x) := hin'
   clear hin hin'
   have b0 : (0 : Int) ≤ (k : Int) := by omega
   have b1 : (k : Int) < (l.length : Int) := by omega
   go_wp2_with fail
   first | go_region_with (go_at_call 74; refine (eqInsS_same t t' tc tc' wr.heap.size x _ ?_ ?_ ?_ hlen).mono ?_; (exact (HI1.out.mono (Nat.le_refl _) (by omega)).insB); (exact (HI2.out.mono (Nat.le_refl _) (by omega)).insB); (simp); rintro e w1 ⟨rfl, hb1⟩) | fail
   all_goals
    have HB1 : Hid (Below wr.heap.size wr w1) := ⟨hb1.os, hb1.tape, hb1.output, hb1.size, hb1.block⟩
    clear hb1
    go_wp2
    go_roundw
    case rel => exact ⟨k + 1, by omega, by go_num, HB.out.trans (HB1.out.mono hsz)⟩
    case measure => simp [intOf]; omega
  ·go_wp2
   go_ret
   exact ⟨rfl, HB.out⟩
set_option maxHeartbeats 1000000 in
theorem eqProg_same (s s' t t' : Option Addr) (c c' d d' lo hi lo' hi' : Nat) (p : PD) (w : World) (h : ProgR w lo hi s s' p) (h' : ProgR w lo' hi' t t' p) (hB : hi ≤ w.heap.size) (hB' : hi' ≤ w.heap.size) (hf : Fits p) :
  Calls Try.prog 12 #[.agg #[.slice s p.caps.length c, .slice s' p.bods.length c'], .agg #[.slice t p.caps.length d, .slice t' p.bods.length d']] w fun e w' => e = .returned (.bool true) ∧ Below w.heap.size w w' := by
 obtain ⟨q1, q2, q3⟩ := hf
 obtain ⟨h1, h2⟩ := h
 obtain ⟨h3, h4⟩ := h'
 have H1 : Hid (IntsR w lo hi s p.caps) := h1
 have H2 : Hid (BodsR w lo hi s' p.bods) := h2
 have H3 : Hid (IntsR w lo' hi' t p.caps) := h3
 have H4 : Hid (BodsR w lo' hi' t' p.bods) := h4
 have Q3 : Hid (∀ i, i < p.bods.length → (p.bods.getD i []).length ≤ 1048576) := q3
 clear h1 h2 h3 h4 q3
 have ka : Below w.heap.size w ((w.alloc (.cells #[.slice s p.caps.length c, .slice s' p.bods.length c'] 44)).alloc (.cells #[.slice t p.caps.length d, .slice t' p.bods.length d'] 44)) := ((Below.refl _ _).alloc (Nat.le_refl _) _).alloc (by simp) _
 have KA : Hid (Below w.heap.size w ((w.alloc (.cells #[.slice s p.caps.length c, .slice s' p.bods.length c'] 44)).alloc (.cells #[.slice t p.caps.length d, .slice t' p.bods.length d'] 44))) := ka
 clear ka
 go_enter Try.func12, Try.ntmps12
 go_wp2_with fail
 refine (eqIntS_any s t p.caps p.caps c d _ ((H1.out.keep (Keep.of_below KA.out hB)).ints (by simp; omega)) ((H3.out.keep (Keep.of_below KA.out hB')).ints (by simp; omega)) (by omega)).mono ?_
 rintro e w1 ⟨rfl, m, rfl⟩
 rw [decide_eq_true (rfl : p.caps = p.caps)]
 go_wp2_with fail
 have kb := below_draw KA.out m
 refine (eqInsSS_same s' t' c' d' lo hi lo' hi' p.bods _ (H2.out.keep (Keep.of_below kb hB)) (H4.out.keep (Keep.of_below kb hB')) (by simp; omega) (by simp; omega) q2 Q3.out).mono ?_
 rintro e w2 ⟨rfl, hb2⟩
 go_wp2
 go_ret
 exact ⟨rfl, kb.trans (hb2.mono (by simp; omega))⟩
end Go.Proofs.Ytplncjlcejaabaa
