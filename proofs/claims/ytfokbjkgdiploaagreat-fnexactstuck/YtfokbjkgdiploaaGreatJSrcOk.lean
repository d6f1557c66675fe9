/- SourceOk of the program: threads, channels and the trace, each as the plain law says. Conditions: lists of at most 1048576. -/
import Derived.Test.YtfokbjkgdiploaaGreatJG00
import Derived.Test.YtfokbjkgdiploaaGreatJSpecIns
import Derived.Test.YtfokbjkgdiploaaGreatJProgOk
import Derived.Test.YtfokbjkgdiploaaGreatJG01
import Derived.Test.YtfokbjkgdiploaaGreatJG02
import Derived.Test.YtfokbjkgdiploaaGreatJLeaves
import Derived.Test.YtfokbjkgdiploaaGreatJG03
import Derived.Test.YtfokbjkgdiploaaGreatJProgOk2
import Derived.Deep.RegionWith
namespace Go.Proofs.YtfokbjkgdiploaaGreat
set_option linter.unusedSimpArgs false
set_option linter.unusedVariables false
set_option maxRecDepth 100000
open Go.RowKit
noncomputable def allB {α : Type} (l : List α) (f : Nat → α → Bool) : Bool := @decide (∀ (i : Nat) (t : α), l[i]? = some t → f i t = true) (Classical.propDecidable _)
theorem all_no {α : Type} {l : List α} {f : Nat → α → Bool} {k : Nat} {t : α} (hk : l[k]? = some t) (h : f k t = false) : allB l f = false := by
 unfold allB
 rw [@decide_eq_false_iff_not _ (Classical.propDecidable _)]
 intro hh
 rw [hh k t hk] at h
 cases h
theorem all_yes {α : Type} {l : List α} {f : Nat → α → Bool} (h : ∀ (i : Nat) (t : α), l[i]? = some t → f i t = true) : allB l f = true := by
 unfold allB
 rw [@decide_eq_true_iff _ (Classical.propDecidable _)]
 exact h
theorem all_get {α : Type} {l : List α} {f : Nat → α → Bool} (h : allB l f = true) : ∀ (i : Nat) (t : α), l[i]? = some t → f i t = true := by
 unfold allB at h
 rw [@decide_eq_true_iff _ (Classical.propDecidable _)] at h
 exact h
def thB (t : TD) (n : Nat) : Bool := decide (t.regs.length = 4) && (Plain.inB t.st 0 2 && Plain.oneB t.pc n)
def chB (c : CD) (cap : Int) : Bool := (Plain.inB c.cap 1 4 && decide ((c.list.length : Int) ≤ c.cap)) && decide (c.cap = cap)
noncomputable def thsB (l : List TD) (bs : List (List I5)) : Bool := decide (l.length = bs.length) && allB l (fun i t => thB t (bs.getD i []).length)
noncomputable def chsB (l : List CD) (cs : List Int) : Bool := decide (l.length = cs.length) && allB l (fun i t => chB t (cs.getD i 0))
noncomputable def trB (l : List ND) (n : Nat) : Bool := decide (l.length ≤ 4000) && allB l (fun _ t => Plain.oneB t.who n)
noncomputable def srcB (p : PD) (d : SD) : Bool := progB p && (thsB d.ths p.bods && (chsB d.chs p.caps && trB d.tr p.bods.length))
theorem isState_any (n : Int) (w : World) : Calls Tryz.prog 117 #[.int .i64 n] w fun e w' => e = .returned (.bool (Plain.inB n 0 2)) ∧ w' = w := by
 by_cases h0 : n = 0
 ·subst h0
  go_enter Tryz.func117, Tryz.ntmps117
  go_wp2
  go_ret
  exact ⟨rfl, rfl⟩
 by_cases h1 : n = 1
 ·subst h1
  go_enter Tryz.func117, Tryz.ntmps117
  go_wp2
  go_ret
  exact ⟨rfl, rfl⟩
 by_cases h2 : n = 2
 ·subst h2
  go_enter Tryz.func117, Tryz.ntmps117
  go_wp2
  go_ret
  exact ⟨rfl, rfl⟩
 ·have e0 : (n == 0) = false := by simpa using h0
  have e1 : (n == 1) = false := by simpa using h1
  have e2 : (n == 2) = false := by simpa using h2
  have F : Hid (Plain.inB n 0 2 = false) := by show _ = _; simp [Plain.inB]; omega
  clear h0 h1 h2
  go_enter Tryz.func117, Tryz.ntmps117
  go_wp2
  go_ret
  exact ⟨by rw [F.out]; rfl, rfl⟩
set_option maxHeartbeats 1000000 in
theorem threadOk_any (pc st : Int) (s s' : Option Addr) (l : List Int) (n c c' : Nat) (w : World) (hl : l.length ≤ 1048576) (hn : n ≤ 1048576) :
  Calls Tryz.prog 93 #[.agg #[.int .i64 pc, .slice s l.length c, .int .i64 st], .slice s' n c'] w fun e w' => e = .returned (.bool (thB ⟨pc, l, st⟩ n)) ∧ Below w.heap.size w w' := by
 by_cases h4 : l.length = 4
 ·have e4 : ((l.length : Int) == 4) = true := by simp; omega
  have E : Hid (thB ⟨pc, l, st⟩ n = (Plain.inB st 0 2 && Plain.oneB pc n)) := by show _ = _; unfold thB; rw [decide_eq_true h4]; rfl
  clear h4
  cases hs : Plain.inB st 0 2
  ·have HS : Hid (Plain.inB st 0 2 = false) := hs
   clear hs
   go_enter Tryz.func93, Tryz.ntmps93
   go_wp2_with (go_at_call 117; refine (isState_any _ _).mono ?_; rintro e w' ⟨rfl, rfl⟩; rw [HS.out])
   go_ret
   exact ⟨by rw [E.out, HS.out]; rfl, (Below.refl _ _).alloc (Nat.le_refl _) _⟩
  ·have HS : Hid (Plain.inB st 0 2 = true) := hs
   clear hs
   go_enter Tryz.func93, Tryz.ntmps93
   go_wp2_with (first | (go_at_call 117; refine (isState_any _ _).mono ?_; rintro e w' ⟨rfl, rfl⟩; rw [HS.out]) | (go_at_call 75; refine (isOneOf_any _ _ _).mono ?_; rintro e w' ⟨rfl, rfl⟩))
   go_ret
   exact ⟨by rw [E.out, HS.out]; rfl, (Below.refl _ _).alloc (Nat.le_refl _) _⟩
 ·have e4 : ((l.length : Int) == 4) = false := by simp; omega
  have E : Hid (thB ⟨pc, l, st⟩ n = false) := by show _ = _; unfold thB; rw [decide_eq_false h4]; rfl
  clear h4
  go_enter Tryz.func93, Tryz.ntmps93
  go_wp2
  go_ret
  exact ⟨by rw [E.out]; rfl, (Below.refl _ _).alloc (Nat.le_refl _) _⟩
set_option maxHeartbeats 1000000 in
theorem chanOk_any (cap : Int) (s : Option Addr) (n c : Nat) (cl : Bool) (w : World) (hn : n ≤ 1048576) : Calls Tryz.prog 94 #[.agg #[.int .i64 cap, .slice s n c, .bool cl]] w fun e w' => e = .returned (.bool (Plain.inB cap 1 4 && decide ((n : Int) ≤ cap))) ∧ Below w.heap.size w w' := by
 cases h1 : Plain.inB cap 1 4
 ·have H1 : Hid (Plain.inB cap 1 4 = false) := h1
  clear h1
  go_enter Tryz.func94, Tryz.ntmps94
  go_wp2_with (go_at_call 114; refine (capOk_any _ _).mono ?_; rintro e w' ⟨rfl, rfl⟩; rw [H1.out])
  go_ret
  exact ⟨rfl, (Below.refl _ _).alloc (Nat.le_refl _) _⟩
 ·have H1 : Hid (Plain.inB cap 1 4 = true) := h1
  clear h1
  by_cases h2 : (n : Int) ≤ cap
  ·have E : Hid (decide ((n : Int) ≤ cap) = true) := decide_eq_true h2
   go_enter Tryz.func94, Tryz.ntmps94
   go_wp2_with (go_at_call 114; refine (capOk_any _ _).mono ?_; rintro e w' ⟨rfl, rfl⟩; rw [H1.out])
   go_ret
   exact ⟨by rw [E.out]; rfl, (Below.refl _ _).alloc (Nat.le_refl _) _⟩
  ·have E : Hid (decide ((n : Int) ≤ cap) = false) := decide_eq_false h2
   go_enter Tryz.func94, Tryz.ntmps94
   go_wp2_with (go_at_call 114; refine (capOk_any _ _).mono ?_; rintro e w' ⟨rfl, rfl⟩; rw [H1.out])
   go_ret
   exact ⟨by rw [E.out]; rfl, (Below.refl _ _).alloc (Nat.le_refl _) _⟩
set_option maxHeartbeats 1000000 in
theorem sChanOk_any (cap : Int) (s : Option Addr) (n c : Nat) (cl : Bool) (w : World) (hn : n ≤ 1048576) : Calls Tryz.prog 64 #[.agg #[.int .i64 cap, .slice s n c, .bool cl]] w fun e w' => e = .returned (.bool (Plain.inB cap 1 4 && decide ((n : Int) ≤ cap))) ∧ Below w.heap.size w w' := by
 cases h1 : Plain.inB cap 1 4
 ·have H1 : Hid (Plain.inB cap 1 4 = false) := h1
  clear h1
  go_enter Tryz.func64, Tryz.ntmps64
  go_wp2_with (go_at_call 63; refine (l1In_any _ _ _ _).mono ?_; rintro e w' ⟨rfl, rfl⟩; rw [H1.out])
  go_ret
  exact ⟨rfl, (Below.refl _ _).alloc (Nat.le_refl _) _⟩
 ·have H1 : Hid (Plain.inB cap 1 4 = true) := h1
  clear h1
  by_cases h2 : (n : Int) ≤ cap
  ·have E : Hid (decide ((n : Int) ≤ cap) = true) := decide_eq_true h2
   go_enter Tryz.func64, Tryz.ntmps64
   go_wp2_with (go_at_call 63; refine (l1In_any _ _ _ _).mono ?_; rintro e w' ⟨rfl, rfl⟩; rw [H1.out])
   go_ret
   exact ⟨by rw [E.out]; rfl, (Below.refl _ _).alloc (Nat.le_refl _) _⟩
  ·have E : Hid (decide ((n : Int) ≤ cap) = false) := decide_eq_false h2
   go_enter Tryz.func64, Tryz.ntmps64
   go_wp2_with (go_at_call 63; refine (l1In_any _ _ _ _).mono ?_; rintro e w' ⟨rfl, rfl⟩; rw [H1.out])
   go_ret
   exact ⟨by rw [E.out]; rfl, (Below.refl _ _).alloc (Nat.le_refl _) _⟩
set_option maxRecDepth 100000 in
set_option maxHeartbeats 2000000 in
theorem threadsOk_any (s s' : Option Addr) (c c' lo hi lo' hi' : Nat) (l : List TD) (bs : List (List I5)) (w : World) (h : RecsR w lo hi s (l.map TD.rec3)) (h' : BodsR w lo' hi' s' bs) (hB : hi ≤ w.heap.size) (hB' : hi' ≤ w.heap.size) (hl : l.length ≤ 1048576) (hls : ∀ (i : Nat) (t : TD), l[i]? = some t → t.regs.length ≤ 1048576) (hm : bs.length ≤ 1048576) (hms : ∀ i, i < bs.length → (bs.getD i []).length ≤ 1048576) :
  Calls Tryz.prog 72 #[.slice s l.length c, .slice s' bs.length c'] w fun e w' => e = .returned (.bool (thsB l bs)) ∧ Below w.heap.size w w' := by
 have H1 : Hid (RecsR w lo hi s (l.map TD.rec3)) := h
 have H2 : Hid (BodsR w lo' hi' s' bs) := h'
 have Q1 : Hid (∀ (i : Nat) (t : TD), l[i]? = some t → t.regs.length ≤ 1048576) := hls
 have Q2 : Hid (∀ i, i < bs.length → (bs.getD i []).length ≤ 1048576) := hms
 clear h h' hls hms
 by_cases hn : l.length = bs.length
 ·have hne : ((l.length : Int) != (bs.length : Int)) = false := by simp; omega
  have E : Hid (thsB l bs = allB l (fun i t => thB t (bs.getD i []).length)) := by show _ = _; unfold thsB; rw [decide_eq_true hn]; rfl
  have HN : Hid (l.length = bs.length) := hn
  clear hn
  go_enter Tryz.func72, Tryz.ntmps72
  go_wp2
  go_loopw [14] (fun i wr => ∃ k : Nat, k ≤ l.length ∧ i = .int .i64 k ∧ Below w.heap.size w wr ∧ (∀ (i : Nat) (t : TD), i < k → l[i]? = some t → thB t (bs.getD i []).length = true)) (fun i _ => l.length - (intOf i).toNat)
  case atStart => exact ⟨0, Nat.zero_le _, rfl, Below.refl _ _, fun i t hi => absurd hi (Nat.not_lt_zero _)⟩
  case round =>
   obtain ⟨k, hk, rfl, hb, hd⟩ := hrel
   have HB : Hid (Below w.heap.size w wr) := hb
   have HD : Hid (∀ (i : Nat) (t : TD), i < k → l[i]? = some t → thB t (bs.getD i []).length = true) := hd
   have hsz := hb.size
   clear hb hd
   by_cases hlt : k < l.length
   ·have hlt' : k < bs.length := by have := HN.out; omega
    obtain ⟨t, ht⟩ : ∃ t, l[k]? = some t := ⟨_, List.getElem?_eq_getElem hlt⟩
    have hm : (l.map TD.rec3)[k]? = some t.rec3 := by rw [List.getElem?_map, ht]; rfl
    obtain ⟨g, off, hs, hg, hc⟩ : ∃ g off, s = some ⟨g, off, none⟩ ∧ g < w.heap.size ∧ RecR wr lo hi g (off + k * 3) t.rec3 := by
     rcases H1.out with h | ⟨g, off, a, b, d, e⟩
     ·rw [h] at hm; simp at hm
     ·exact ⟨g, off, a, by omega, (e k _ hm).keep (Keep.of_below HB.out hB) (fun j => HB.out.cell (p := ⟨g, j, none⟩) (by show g < _; omega))⟩
    obtain ⟨g', off', hs', hg', hc'⟩ : ∃ g off, s' = some ⟨g, off, none⟩ ∧ g < w.heap.size ∧ BodR wr lo' hi' g (off + k) (bs.getD k []) := by
     rcases H2.out with h | ⟨g, off, a, b, d, e⟩
     ·rw [h] at hlt'; simp at hlt'
     ·exact ⟨g, off, a, by omega, (e k hlt').keep (Keep.of_below HB.out hB') (HB.out.cell (p := ⟨g, off + k, none⟩) (by show g < _; omega))⟩
    subst hs
    subst hs'
    have hlen := Q1.out k t ht
    have hlen' := Q2.out k hlt'
    obtain ⟨s1, c1, f0, f1, f2, -⟩ := hc
    obtain ⟨s2, c2, f3, -⟩ := hc'
    have HT : Hid (l[k]? = some t) := ht
    obtain ⟨pc, rg, st⟩ := t
    simp only [TD.rec3] at f0 f1 f2 hlen
    have hgw : g < wr.heap.size := by omega
    have hgw' : g' < wr.heap.size := by omega
    have HXn : Hid (∃ n, (bs.getD k []).length = n) := ⟨_, rfl⟩
    obtain ⟨n, hx⟩ := HXn.out
    rw [hx] at f3 hlen'
    have HX : Hid ((bs.getD k []).length = n) := hx
    clear hx ht hm HXn
    have b0 : (0 : Int) ≤ (k : Int) := by omega
    have b1 : (k : Int) < (l.length : Int) := by omega
    have b2 : (k : Int) < (bs.length : Int) := by omega
    obtain ⟨bv, hv⟩ : ∃ b, thB ⟨pc, rg, st⟩ n = b := ⟨_, rfl⟩
    have HV : Hid (thB ⟨pc, rg, st⟩ n = bv) := hv
    clear hv
    go_wp2_with fail
    obtain ⟨W, hW⟩ : ∃ W, wr.alloc (.cells #[.int .i64 pc, .slice s1 rg.length c1, .int .i64 st] 82) = W := ⟨_, rfl⟩
    have kW : Below wr.heap.size wr W := by rw [← hW]; exact (Below.refl _ _).alloc (Nat.le_refl _) _
    have x0 : W.cell? ⟨wr.heap.size, 0, none⟩ = some (.int .i64 pc) := by rw [← hW]; simp [go_sem]
    have x1 : W.cell? ⟨wr.heap.size, 1, none⟩ = some (.slice s1 rg.length c1) := by rw [← hW]; simp [go_sem]
    have x2 : W.cell? ⟨wr.heap.size, 2, none⟩ = some (.int .i64 st) := by rw [← hW]; simp [go_sem]
    have zW : wr.heap.size < W.heap.size := by rw [← hW]; simp
    have f3' := (kW.cell (p := ⟨g', off' + k, none⟩) hgw').trans f3
    have KW : Hid (Below wr.heap.size wr W) := kW
    rw [hW]
    clear hW kW f0 f1 f2 f3
    cases bv
    ·have F : Hid (thsB l bs = false) := by show _ = _; rw [E.out]; exact all_no HT.out (by rw [HX.out]; exact HV.out)
     first | go_region_with (go_at_call 93; refine (threadOk_any pc st s1 s2 rg n c1 c2 _ hlen hlen').mono ?_; rintro e w1 ⟨rfl, hb1⟩; rw [HV.out]) | fail
     all_goals
      have HB1 : Hid (Below wr.heap.size wr w1) := KW.out.trans (Below.mono (show Below W.heap.size W w1 from ⟨hb1.os, hb1.tape, hb1.output, hb1.size, hb1.block⟩) (by omega))
      clear hb1
      go_wp2
      go_ret
      exact ⟨by rw [F.out]; rfl, HB.out.trans (HB1.out.mono hsz)⟩
    ·first | go_region_with (go_at_call 93; refine (threadOk_any pc st s1 s2 rg n c1 c2 _ hlen hlen').mono ?_; rintro e w1 ⟨rfl, hb1⟩; rw [HV.out]) | fail
     all_goals
      have HB1 : Hid (Below wr.heap.size wr w1) := KW.out.trans (Below.mono (show Below W.heap.size W w1 from ⟨hb1.os, hb1.tape, hb1.output, hb1.size, hb1.block⟩) (by omega))
      clear hb1
      go_wp2
      go_roundw
      case rel =>
       refine ⟨k + 1, by omega, by go_num, HB.out.trans (HB1.out.mono hsz), fun i t hi ht => ?_⟩
       by_cases e : i = k
       ·subst e
        rw [HT.out] at ht
        injection ht with ht
        subst ht
        rw [HX.out]
        exact HV.out
       ·exact HD.out i t (by omega) ht
      case measure => simp [intOf]; omega
   ·go_wp2
    go_ret
    exact ⟨by rw [E.out, all_yes (fun i t ht => HD.out i t (by have := (List.getElem?_eq_some_iff.1 ht).1; omega) ht)]; rfl, HB.out⟩
 ·have hne : ((l.length : Int) != (bs.length : Int)) = true := by simp; omega
  have E : Hid (thsB l bs = false) := by show _ = _; unfold thsB; rw [decide_eq_false hn]; rfl
  clear hn
  go_enter Tryz.func72, Tryz.ntmps72
  go_wp2
  go_ret
  exact ⟨by rw [E.out]; rfl, Below.refl _ _⟩
end Go.Proofs.YtfokbjkgdiploaaGreat
