/- ProgOk of the program, at every program whose lists are of at most 1048576 each; and how the laws hold two equal programs against each other. SourceOk of the program: threads, channels and the trace, each as the plain law says. Conditions: lists of at most 1048576. -/
import Derived.Test.YteefnjngcnebpaaGreatJG00
import Derived.Test.YteefnjngcnebpaaGreatJG01
import Derived.Test.YteefnjngcnebpaaGreatJG04
import Derived.Test.YteefnjngcnebpaaGreatJProgOk
import Derived.Test.YteefnjngcnebpaaGreatJSpecIns
import Derived.Test.YteefnjngcnebpaaGreatJLeaves
import Derived.Deep.RegionWith
namespace Go.Proofs.YteefnjngcnebpaaGreat
section
set_option linter.unusedSimpArgs false
set_option linter.unusedVariables false
set_option maxRecDepth 100000
open Go.RowKit
theorem below_draw {B : Nat} {w w' : World} (h : Below B w w') (m : Nat) : Below B w (w'.drewN m) := ⟨h.os, h.tape, h.output, h.size, h.block⟩
theorem capOk_any (n : Int) (w : World) : Calls Tryz.prog 69 #[.int .i64 n] w fun e w' => e = .returned (.bool (Plain.inB n 1 4)) ∧ w' = w := by
 by_cases h0 : 1 ≤ n <;> by_cases h1 : n ≤ 4
 all_goals
  go_enter Tryz.func69, Tryz.ntmps69
  go_wp2
  go_ret
  exact ⟨by simp [Plain.inB]; omega, rfl⟩
set_option maxRecDepth 100000 in
set_option maxHeartbeats 1000000 in
theorem capsOk_any (s : Option Addr) (c lo hi : Nat) (l : List Int) (w : World) (h : IntsR w lo hi s l) (hl : l.length ≤ 1048576) :
  Calls Tryz.prog 44 #[.slice s l.length c] w fun e w' => e = .returned (.bool (decide (l.length ≤ 3) && capsB l)) ∧ w' = w := by
 have H1 : Hid (IntsR w lo hi s l) := h
 clear h
 by_cases h3 : l.length ≤ 3
 ·have hch : Plain.chansB (l.length : Int) = true := by simp [Plain.chansB]; omega
  have E : Hid ((decide (l.length ≤ 3) && capsB l) = capsB l) := by show _ = _; rw [decide_eq_true h3]; simp
  go_enter Tryz.func44, Tryz.ntmps44
  go_wp2_with (go_at_call 68; refine (areChans_is _ true _ hch).mono ?_; rintro e w' ⟨rfl, hw⟩; have hw' := hw.symm; clear hw; subst hw')
  go_loop [11] (fun i => ∃ k : Nat, k ≤ l.length ∧ i = .int .i64 k ∧ (∀ i, i < k → Plain.inB (l.getD i 0) 1 4 = true)) (fun i => l.length - (intOf i).toNat)
  case atStart => exact ⟨0, Nat.zero_le _, rfl, fun i hi => absurd hi (Nat.not_lt_zero _)⟩
  case round =>
   obtain ⟨k, hk, rfl, hd⟩ := hrel
   have HD : Hid (∀ i, i < k → Plain.inB (l.getD i 0) 1 4 = true) := hd
   clear hd
   by_cases hlt : k < l.length
   ·have b0 : (0 : Int) ≤ (k : Int) := by omega
    have b1 : (k : Int) < (l.length : Int) := by omega
    obtain ⟨g, off, hs, hc⟩ : ∃ g off, s = some ⟨g, off, none⟩ ∧ ∀ i, i < l.length → w.cell? ⟨g, off + i, none⟩ = some (.int .i64 (l.getD i 0)) := by
     rcases H1.out with h | ⟨g, off, a, b, d, e⟩
     ·rw [h] at hlt; simp at hlt
     ·exact ⟨g, off, a, e⟩
    subst hs
    have f0 := hc k hlt
    clear hc
    cases hv : Plain.inB (l.getD k 0) 1 4
    ·have F : Hid (capsB l = false) := caps_no hlt hv
     generalize l.getD k 0 = x at f0 hv
     go_wp2_with (go_at_call 69; refine (capOk_any _ _).mono ?_; rintro e w' ⟨rfl, hw⟩; have hw' := hw.symm; clear hw; subst hw'; rw [hv])
     go_ret
     exact ⟨by rw [E.out, F.out]; rfl, rfl⟩
    ·have HV : Hid (Plain.inB (l.getD k 0) 1 4 = true) := hv
     generalize l.getD k 0 = x at f0 hv
     go_wp2_with (go_at_call 69; refine (capOk_any _ _).mono ?_; rintro e w' ⟨rfl, hw⟩; have hw' := hw.symm; clear hw; subst hw'; rw [hv])
     go_round
     case rel =>
      refine ⟨k + 1, by omega, by go_num, ?_⟩
      intro i hi
      by_cases e : i = k
      ·subst e; exact HV.out
      ·exact HD.out i (by omega)
     case measure => simp [intOf]; omega
   ·have : k = l.length := by omega
    subst this
    go_wp2
    go_ret
    exact ⟨by first | (rw [E.out, caps_yes HD.out]; rfl) | (rw [caps_yes HD.out]; rfl), rfl⟩
 ·have hch : Plain.chansB (l.length : Int) = false := by simp [Plain.chansB]; omega
  have E : Hid ((decide (l.length ≤ 3) && capsB l) = false) := by show _ = _; rw [decide_eq_false h3]; simp
  go_enter Tryz.func44, Tryz.ntmps44
  go_wp2_with (go_at_call 68; refine (areChans_is _ false _ hch).mono ?_; rintro e w' ⟨rfl, hw⟩; have hw' := hw.symm; clear hw; subst hw')
  go_ret
  exact ⟨by rw [E.out]; rfl, rfl⟩
theorem prog_caps {p : PD} (h : (decide (p.caps.length ≤ 3) && capsB p.caps) = false) : progB p = false := by
 unfold progB
 cases h1 : capsB p.caps
 ·rfl
 ·rw [h1] at h
  simp at h
  simp [h]
  omega
theorem prog_len {p : PD} (h : ¬ (1 ≤ p.bods.length ∧ p.bods.length ≤ 4)) : progB p = false := by
 have : Plain.inB p.bods.length 1 4 = false := by simp [Plain.inB]; omega
 unfold progB
 rw [this]
 simp
theorem prog_bods {p : PD} (h : bodsB p = false) : progB p = false := by
 unfold progB
 rw [h]
 simp
theorem prog_yes {p : PD} (h1 : (decide (p.caps.length ≤ 3) && capsB p.caps) = true) (h2 : 1 ≤ p.bods.length) (h3 : p.bods.length ≤ 4) (h4 : bodsB p = true) : progB p = true := by
 have : Plain.inB p.bods.length 1 4 = true := by simp [Plain.inB]; omega
 simp only [Bool.and_eq_true, decide_eq_true_eq] at h1
 unfold progB
 rw [this, h4, h1.2, decide_eq_true h1.1]
 rfl
set_option maxRecDepth 100000 in
set_option maxHeartbeats 1000000 in
theorem implProg_any (s s' : Option Addr) (c c' lo hi : Nat) (p : PD) (w : World) (h : ProgR w lo hi s s' p) (hB : hi ≤ w.heap.size) (hf : Fits p) :
  Calls Tryz.prog 23 #[.agg #[.slice s p.caps.length c, .slice s' p.bods.length c']] w fun e w' => e = .returned (.bool (progB p)) ∧ Below w.heap.size w w' := by
 obtain ⟨q1, q2, q3⟩ := hf
 obtain ⟨h1, h2⟩ := h
 have H1 : Hid (IntsR w lo hi s p.caps) := h1
 have H2 : Hid (BodsR w lo hi s' p.bods) := h2
 have Q3 : Hid (∀ i, i < p.bods.length → (p.bods.getD i []).length ≤ 1048576) := q3
 clear h1 h2 q3
 have ka : Below w.heap.size w (w.alloc (.cells #[.slice s p.caps.length c, .slice s' p.bods.length c'] 27)) := (Below.refl _ _).alloc (Nat.le_refl _) _
 have KA : Hid (Below w.heap.size w (w.alloc (.cells #[.slice s p.caps.length c, .slice s' p.bods.length c'] 27))) := ka
 clear ka
 cases hcv : (decide (p.caps.length ≤ 3) && capsB p.caps)
 ·have F : Hid (progB p = false) := prog_caps hcv
  have HV : Hid ((decide (p.caps.length ≤ 3) && capsB p.caps) = false) := hcv
  clear hcv
  go_enter Tryz.func23, Tryz.ntmps23
  go_wp2_with (go_at_call 44; refine (capsOk_any s c lo hi p.caps _ (H1.out.keep (Keep.of_below KA.out hB)) q1).mono ?_; rintro e w' ⟨rfl, hw⟩; have hw' := hw.symm; clear hw; subst hw'; rw [HV.out])
  go_ret
  exact ⟨by rw [F.out]; rfl, KA.out⟩
 ·have HV : Hid ((decide (p.caps.length ≤ 3) && capsB p.caps) = true) := hcv
  clear hcv
  by_cases l1 : 1 ≤ p.bods.length
  ·have l1' : ¬ (p.bods.length : Int) < 1 := by omega
   by_cases l4 : p.bods.length ≤ 4
   ·have l4' : ¬ 4 < (p.bods.length : Int) := by omega
    go_enter Tryz.func23, Tryz.ntmps23
    go_wp2_with (go_at_call 44; refine (capsOk_any s c lo hi p.caps _ (H1.out.keep (Keep.of_below KA.out hB)) q1).mono ?_; rintro e w' ⟨rfl, hw⟩; have hw' := hw.symm; clear hw; subst hw'; rw [HV.out])
    go_loopw [24] (fun i wr => ∃ k : Nat, k ≤ p.bods.length ∧ i = .int .i64 k ∧ Below (w.heap.size + 1) (w.alloc (.cells #[.slice s p.caps.length c, .slice s' p.bods.length c'] 27)) wr ∧ (∀ i, i < k → bodyB (p.bods.getD i []) p.caps.length = true)) (fun i _ => p.bods.length - (intOf i).toNat)
    case atStart => exact ⟨0, Nat.zero_le _, rfl, Below.refl _ _, fun i hi => absurd hi (Nat.not_lt_zero _)⟩
    case round =>
     obtain ⟨k, hk', rfl, hb, hd⟩ := hrel
     have HD : Hid (∀ i, i < k → bodyB (p.bods.getD i []) p.caps.length = true) := hd
     have x0 : wr.cell? ⟨w.heap.size, 0, none⟩ = some (.slice s p.caps.length c) := by rw [hb.cell (by simp)]; simp [go_sem]
     have k1 : Below w.heap.size w wr := KA.out.trans (hb.mono (by omega))
     have hsz : w.heap.size < wr.heap.size := by have := hb.size; simp at this; omega
     have HB : Hid (Below (w.heap.size + 1) (w.alloc (.cells #[.slice s p.caps.length c, .slice s' p.bods.length c'] 27)) wr) := hb
     have K1 : Hid (Below w.heap.size w wr) := k1
     clear hd hb k1
     by_cases hlt' : k < p.bods.length
     ·have b0 : (0 : Int) ≤ (k : Int) := by omega
      have b1 : (k : Int) < (p.bods.length : Int) := by omega
      obtain ⟨g, off, hs, hg, hc⟩ : ∃ g off, s' = some ⟨g, off, none⟩ ∧ g < w.heap.size ∧ BodR wr lo hi g (off + k) (p.bods.getD k []) := by
       rcases H2.out with h | ⟨g, off, a, b, d, e⟩
       ·rw [h] at hlt'; simp at hlt'
       ·exact ⟨g, off, a, by omega, (e k hlt').keep (Keep.of_below K1.out hB) (K1.out.cell (p := ⟨g, off + k, none⟩) (by show g < _; omega))⟩
      subst hs
      obtain ⟨t, tc, f0, hin⟩ := hc
      have hlen := Q3.out k hlt'
      cases hv : bodyB (p.bods.getD k []) p.caps.length
      ·have F : Hid (progB p = false) := prog_bods (bods_no hlt' hv)
       generalize p.bods.getD k [] = x at f0 hv hin hlen
       have HIN : Hid (InsR wr lo hi t x) := hin
       have HVB : Hid (bodyB x p.caps.length = false) := hv
       clear hin hv
       go_wp2_with fail
       refine (implBody_any t tc wr.heap.size x p.caps.length wr (HIN.out.mono (Nat.le_refl _) (by omega)).insB (Nat.le_refl _) hlen).mono ?_
       rintro e w1 ⟨rfl, hb1⟩
       rw [HVB.out]
       go_wp2
       go_ret
       exact ⟨by rw [F.out]; rfl, K1.out.trans (hb1.mono (by omega))⟩
      ·have HVV : Hid (bodyB (p.bods.getD k []) p.caps.length = true) := hv
       generalize p.bods.getD k [] = x at f0 hv hin hlen
       have HIN : Hid (InsR wr lo hi t x) := hin
       have HVB : Hid (bodyB x p.caps.length = true) := hv
       clear hin hv
       go_wp2_with fail
       refine (implBody_any t tc wr.heap.size x p.caps.length wr (HIN.out.mono (Nat.le_refl _) (by omega)).insB (Nat.le_refl _) hlen).mono ?_
       rintro e w1 ⟨rfl, hb1⟩
       rw [HVB.out]
       have HB1 : Hid (Below wr.heap.size wr w1) := hb1
       clear hb1
       go_wp2
       go_roundw
       case rel =>
        refine ⟨k + 1, by omega, by go_num, HB.out.trans (HB1.out.mono (by omega)), ?_⟩
        intro i hi
        by_cases e : i = k
        ·subst e; exact HVV.out
        ·exact HD.out i (by omega)
       case measure => simp [intOf]; omega
     ·have : k = p.bods.length := by omega
      subst this
      go_wp2
      go_ret
      exact ⟨by rw [prog_yes HV.out l1 l4 (bods_yes HD.out)]; rfl, K1.out⟩
   ·have l4' : 4 < (p.bods.length : Int) := by omega
    have F : Hid (progB p = false) := prog_len (by omega)
    go_enter Tryz.func23, Tryz.ntmps23
    go_wp2_with (go_at_call 44; refine (capsOk_any s c lo hi p.caps _ (H1.out.keep (Keep.of_below KA.out hB)) q1).mono ?_; rintro e w' ⟨rfl, hw⟩; have hw' := hw.symm; clear hw; subst hw'; rw [HV.out])
    go_ret
    exact ⟨by rw [F.out]; rfl, KA.out⟩
  ·have l1' : (p.bods.length : Int) < 1 := by omega
   have F : Hid (progB p = false) := prog_len (by omega)
   go_enter Tryz.func23, Tryz.ntmps23
   go_wp2_with (go_at_call 44; refine (capsOk_any s c lo hi p.caps _ (H1.out.keep (Keep.of_below KA.out hB)) q1).mono ?_; rintro e w' ⟨rfl, hw⟩; have hw' := hw.symm; clear hw; subst hw'; rw [HV.out])
   go_ret
   exact ⟨by rw [F.out]; rfl, KA.out⟩
end
section
set_option linter.unusedSimpArgs false
set_option linter.unusedVariables false
set_option maxRecDepth 100000
open Go.RowKit
noncomputable def allB {α : Type} (l : List α) (f : Nat → α → Bool) : Bool := @decide (∀ (i : Nat) (t : α), l[i]? = some t → f i t = true) (Classical.propDecidable _)
theorem all_no {α : Type} {l : List α} {f : Nat → α → Bool} {k : Nat} {t : α} (hk : l[k]? = some t) (h : f k t = false) : allB l f = false := by
 unfold allB
 rw [@decide_eq_false_iff_not _ (Classical.propDecidable _)]
 intro hh
 rw [hh k t hk] at h
 cases h
theorem all_yes {α : Type} {l : List α} {f : Nat → α → Bool} (h : ∀ (i : Nat) (t : α), l[i]? = some t → f i t = true) : allB l f = true := by
 unfold allB
 rw [@decide_eq_true_iff _ (Classical.propDecidable _)]
 exact h
theorem all_get {α : Type} {l : List α} {f : Nat → α → Bool} (h : allB l f = true) : ∀ (i : Nat) (t : α), l[i]? = some t → f i t = true := by
 unfold allB at h
 rw [@decide_eq_true_iff _ (Classical.propDecidable _)] at h
 exact h
def thB (t : TD) (n : Nat) : Bool := decide (t.regs.length = 4) && (Plain.inB t.st 0 2 && Plain.oneB t.pc n)
def chB (c : CD) (cap : Int) : Bool := (Plain.inB c.cap 1 4 && decide ((c.list.length : Int) ≤ c.cap)) && decide (c.cap = cap)
noncomputable def thsB (l : List TD) (bs : List (List I5)) : Bool := decide (l.length = bs.length) && allB l (fun i t => thB t (bs.getD i []).length)
noncomputable def chsB (l : List CD) (cs : List Int) : Bool := decide (l.length = cs.length) && allB l (fun i t => chB t (cs.getD i 0))
noncomputable def trB (l : List ND) (n : Nat) : Bool := decide (l.length ≤ 4000) && allB l (fun _ t => Plain.oneB t.who n)
noncomputable def srcB (p : PD) (d : SD) : Bool := progB p && (thsB d.ths p.bods && (chsB d.chs p.caps && trB d.tr p.bods.length))
theorem isState_any (n : Int) (w : World) : Calls Tryz.prog 72 #[.int .i64 n] w fun e w' => e = .returned (.bool (Plain.inB n 0 2)) ∧ w' = w := by
 by_cases h0 : n = 0
 ·subst h0
  go_enter Tryz.func72, Tryz.ntmps72
  go_wp2
  go_ret
  exact ⟨rfl, rfl⟩
 by_cases h1 : n = 1
 ·subst h1
  go_enter Tryz.func72, Tryz.ntmps72
  go_wp2
  go_ret
  exact ⟨rfl, rfl⟩
 by_cases h2 : n = 2
 ·subst h2
  go_enter Tryz.func72, Tryz.ntmps72
  go_wp2
  go_ret
  exact ⟨rfl, rfl⟩
 ·have e0 : (n == 0) = false := by simpa using h0
  have e1 : (n == 1) = false := by simpa using h1
  have e2 : (n == 2) = false := by simpa using h2
  have F : Hid (Plain.inB n 0 2 = false) := by show _ = _; simp [Plain.inB]; omega
  clear h0 h1 h2
  go_enter Tryz.func72, Tryz.ntmps72
  go_wp2
  go_ret
  exact ⟨by rw [F.out]; rfl, rfl⟩
set_option maxHeartbeats 1000000 in
theorem threadOk_any (pc st : Int) (s s' : Option Addr) (l : List Int) (n c c' : Nat) (w : World) (hl : l.length ≤ 1048576) (hn : n ≤ 1048576) :
  Calls Tryz.prog 46 #[.agg #[.int .i64 pc, .slice s l.length c, .int .i64 st], .slice s' n c'] w fun e w' => e = .returned (.bool (thB ⟨pc, l, st⟩ n)) ∧ Below w.heap.size w w' := by
 by_cases h4 : l.length = 4
 ·have e4 : ((l.length : Int) == 4) = true := by simp; omega
  have E : Hid (thB ⟨pc, l, st⟩ n = (Plain.inB st 0 2 && Plain.oneB pc n)) := by show _ = _; unfold thB; rw [decide_eq_true h4]; rfl
  clear h4
  cases hs : Plain.inB st 0 2
  ·have HS : Hid (Plain.inB st 0 2 = false) := hs
   clear hs
   go_enter Tryz.func46, Tryz.ntmps46
   go_wp2_with (go_at_call 72; refine (isState_any _ _).mono ?_; rintro e w' ⟨rfl, rfl⟩; rw [HS.out])
   go_ret
   exact ⟨by rw [E.out, HS.out]; rfl, (Below.refl _ _).alloc (Nat.le_refl _) _⟩
  ·have HS : Hid (Plain.inB st 0 2 = true) := hs
   clear hs
   go_enter Tryz.func46, Tryz.ntmps46
   go_wp2_with (first | (go_at_call 72; refine (isState_any _ _).mono ?_; rintro e w' ⟨rfl, rfl⟩; rw [HS.out]) | (go_at_call 36; refine (isOneOf_any _ _ _).mono ?_; rintro e w' ⟨rfl, rfl⟩))
   go_ret
   exact ⟨by rw [E.out, HS.out]; rfl, (Below.refl _ _).alloc (Nat.le_refl _) _⟩
 ·have e4 : ((l.length : Int) == 4) = false := by simp; omega
  have E : Hid (thB ⟨pc, l, st⟩ n = false) := by show _ = _; unfold thB; rw [decide_eq_false h4]; rfl
  clear h4
  go_enter Tryz.func46, Tryz.ntmps46
  go_wp2
  go_ret
  exact ⟨by rw [E.out]; rfl, (Below.refl _ _).alloc (Nat.le_refl _) _⟩
set_option maxHeartbeats 1000000 in
theorem chanOk_any (cap : Int) (s : Option Addr) (n c : Nat) (cl : Bool) (w : World) (hn : n ≤ 1048576) : Calls Tryz.prog 47 #[.agg #[.int .i64 cap, .slice s n c, .bool cl]] w fun e w' => e = .returned (.bool (Plain.inB cap 1 4 && decide ((n : Int) ≤ cap))) ∧ Below w.heap.size w w' := by
 cases h1 : Plain.inB cap 1 4
 ·have H1 : Hid (Plain.inB cap 1 4 = false) := h1
  clear h1
  go_enter Tryz.func47, Tryz.ntmps47
  go_wp2_with (go_at_call 69; refine (capOk_any _ _).mono ?_; rintro e w' ⟨rfl, rfl⟩; rw [H1.out])
  go_ret
  exact ⟨rfl, (Below.refl _ _).alloc (Nat.le_refl _) _⟩
 ·have H1 : Hid (Plain.inB cap 1 4 = true) := h1
  clear h1
  by_cases h2 : (n : Int) ≤ cap
  ·have E : Hid (decide ((n : Int) ≤ cap) = true) := decide_eq_true h2
   go_enter Tryz.func47, Tryz.ntmps47
   go_wp2_with (go_at_call 69; refine (capOk_any _ _).mono ?_; rintro e w' ⟨rfl, rfl⟩; rw [H1.out])
   go_ret
   exact ⟨by rw [E.out]; rfl, (Below.refl _ _).alloc (Nat.le_refl _) _⟩
  ·have E : Hid (decide ((n : Int) ≤ cap) = false) := decide_eq_false h2
   go_enter Tryz.func47, Tryz.ntmps47
   go_wp2_with (go_at_call 69; refine (capOk_any _ _).mono ?_; rintro e w' ⟨rfl, rfl⟩; rw [H1.out])
   go_ret
   exact ⟨by rw [E.out]; rfl, (Below.refl _ _).alloc (Nat.le_refl _) _⟩
set_option maxHeartbeats 1000000 in
theorem sChanOk_any (cap : Int) (s : Option Addr) (n c : Nat) (cl : Bool) (w : World) (hn : n ≤ 1048576) : Calls Tryz.prog 28 #[.agg #[.int .i64 cap, .slice s n c, .bool cl]] w fun e w' => e = .returned (.bool (Plain.inB cap 1 4 && decide ((n : Int) ≤ cap))) ∧ Below w.heap.size w w' := by
 cases h1 : Plain.inB cap 1 4
 ·have H1 : Hid (Plain.inB cap 1 4 = false) := h1
  clear h1
  go_enter Tryz.func28, Tryz.ntmps28
  go_wp2_with (go_at_call 19; refine (l1In_any _ _ _ _).mono ?_; rintro e w' ⟨rfl, rfl⟩; rw [H1.out])
  go_ret
  exact ⟨rfl, (Below.refl _ _).alloc (Nat.le_refl _) _⟩
 ·have H1 : Hid (Plain.inB cap 1 4 = true) := h1
  clear h1
  by_cases h2 : (n : Int) ≤ cap
  ·have E : Hid (decide ((n : Int) ≤ cap) = true) := decide_eq_true h2
   go_enter Tryz.func28, Tryz.ntmps28
   go_wp2_with (go_at_call 19; refine (l1In_any _ _ _ _).mono ?_; rintro e w' ⟨rfl, rfl⟩; rw [H1.out])
   go_ret
   exact ⟨by rw [E.out]; rfl, (Below.refl _ _).alloc (Nat.le_refl _) _⟩
  ·have E : Hid (decide ((n : Int) ≤ cap) = false) := decide_eq_false h2
   go_enter Tryz.func28, Tryz.ntmps28
   go_wp2_with (go_at_call 19; refine (l1In_any _ _ _ _).mono ?_; rintro e w' ⟨rfl, rfl⟩; rw [H1.out])
   go_ret
   exact ⟨by rw [E.out]; rfl, (Below.refl _ _).alloc (Nat.le_refl _) _⟩
set_option maxRecDepth 100000 in
set_option maxHeartbeats 2000000 in
theorem threadsOk_any (s s' : Option Addr) (c c' lo hi lo' hi' : Nat) (l : List TD) (bs : List (List I5)) (w : World) (h : RecsR w lo hi s (l.map TD.rec3)) (h' : BodsR w lo' hi' s' bs) (hB : hi ≤ w.heap.size) (hB' : hi' ≤ w.heap.size) (hl : l.length ≤ 1048576) (hls : ∀ (i : Nat) (t : TD), l[i]? = some t → t.regs.length ≤ 1048576) (hm : bs.length ≤ 1048576) (hms : ∀ i, i < bs.length → (bs.getD i []).length ≤ 1048576) :
  Calls Tryz.prog 24 #[.slice s l.length c, .slice s' bs.length c'] w fun e w' => e = .returned (.bool (thsB l bs)) ∧ Below w.heap.size w w' := by
 have H1 : Hid (RecsR w lo hi s (l.map TD.rec3)) := h
 have H2 : Hid (BodsR w lo' hi' s' bs) := h'
 have Q1 : Hid (∀ (i : Nat) (t : TD), l[i]? = some t → t.regs.length ≤ 1048576) := hls
 have Q2 : Hid (∀ i, i < bs.length → (bs.getD i []).length ≤ 1048576) := hms
 clear h h' hls hms
 by_cases hn : l.length = bs.length
 ·have hne : ((l.length : Int) != (bs.length : Int)) = false := by simp; omega
  have E : Hid (thsB l bs = allB l (fun i t => thB t (bs.getD i []).length)) := by show _ = _; unfold thsB; rw [decide_eq_true hn]; rfl
  have HN : Hid (l.length = bs.length) := hn
  clear hn
  go_enter Tryz.func24, Tryz.ntmps24
  go_wp2
  go_loopw [14] (fun i wr => ∃ k : Nat, k ≤ l.length ∧ i = .int .i64 k ∧ Below w.heap.size w wr ∧ (∀ (i : Nat) (t : TD), i < k → l[i]? = some t → thB t (bs.getD i []).length = true)) (fun i _ => l.length - (intOf i).toNat)
  case atStart => exact ⟨0, Nat.zero_le _, rfl, Below.refl _ _, fun i t hi => absurd hi (Nat.not_lt_zero _)⟩
  case round =>
   obtain ⟨k, hk, rfl, hb, hd⟩ := hrel
   have HB : Hid (Below w.heap.size w wr) := hb
   have HD : Hid (∀ (i : Nat) (t : TD), i < k → l[i]? = some t → thB t (bs.getD i []).length = true) := hd
   have hsz := hb.size
   clear hb hd
   by_cases hlt : k < l.length
   ·have hlt' : k < bs.length := by have := HN.out; omega
    obtain ⟨t, ht⟩ : ∃ t, l[k]? = some t := ⟨_, List.getElem?_eq_getElem hlt⟩
    have hm : (l.map TD.rec3)[k]? = some t.rec3 := by rw [List.getElem?_map, ht]; rfl
    obtain ⟨g, off, hs, hg, hc⟩ : ∃ g off, s = some ⟨g, off, none⟩ ∧ g < w.heap.size ∧ RecR wr lo hi g (off + k * 3) t.rec3 := by
     rcases H1.out with h | ⟨g, off, a, b, d, e⟩
     ·rw [h] at hm; simp at hm
     ·exact ⟨g, off, a, by omega, (e k _ hm).keep (Keep.of_below HB.out hB) (fun j => HB.out.cell (p := ⟨g, j, none⟩) (by show g < _; omega))⟩
    obtain ⟨g', off', hs', hg', hc'⟩ : ∃ g off, s' = some ⟨g, off, none⟩ ∧ g < w.heap.size ∧ BodR wr lo' hi' g (off + k) (bs.getD k []) := by
     rcases H2.out with h | ⟨g, off, a, b, d, e⟩
     ·rw [h] at hlt'; simp at hlt'
     ·exact ⟨g, off, a, by omega, (e k hlt').keep (Keep.of_below HB.out hB') (HB.out.cell (p := ⟨g, off + k, none⟩) (by show g < _; omega))⟩
    subst hs
    subst hs'
    have hlen := Q1.out k t ht
    have hlen' := Q2.out k hlt'
    obtain ⟨s1, c1, f0, f1, f2, -⟩ := hc
    obtain ⟨s2, c2, f3, -⟩ := hc'
    have HT : Hid (l[k]? = some t) := ht
    obtain ⟨pc, rg, st⟩ := t
    simp only [TD.rec3] at f0 f1 f2 hlen
    have hgw : g < wr.heap.size := by omega
    have hgw' : g' < wr.heap.size := by omega
    have HXn : Hid (∃ n, (bs.getD k []).length = n) := ⟨_, rfl⟩
    obtain ⟨n, hx⟩ := HXn.out
    rw [hx] at f3 hlen'
    have HX : Hid ((bs.getD k []).length = n) := hx
    clear hx ht hm HXn
    have b0 : (0 : Int) ≤ (k : Int) := by omega
    have b1 : (k : Int) < (l.length : Int) := by omega
    have b2 : (k : Int) < (bs.length : Int) := by omega
    obtain ⟨bv, hv⟩ : ∃ b, thB ⟨pc, rg, st⟩ n = b := ⟨_, rfl⟩
    have HV : Hid (thB ⟨pc, rg, st⟩ n = bv) := hv
    clear hv
    go_wp2_with fail
    obtain ⟨W, hW⟩ : ∃ W, wr.alloc (.cells #[.int .i64 pc, .slice s1 rg.length c1, .int .i64 st] 40) = W := ⟨_, rfl⟩
    have kW : Below wr.heap.size wr W := by rw [← hW]; exact (Below.refl _ _).alloc (Nat.le_refl _) _
    have x0 : W.cell? ⟨wr.heap.size, 0, none⟩ = some (.int .i64 pc) := by rw [← hW]; simp [go_sem]
    have x1 : W.cell? ⟨wr.heap.size, 1, none⟩ = some (.slice s1 rg.length c1) := by rw [← hW]; simp [go_sem]
    have x2 : W.cell? ⟨wr.heap.size, 2, none⟩ = some (.int .i64 st) := by rw [← hW]; simp [go_sem]
    have zW : wr.heap.size < W.heap.size := by rw [← hW]; simp
    have f3' := (kW.cell (p := ⟨g', off' + k, none⟩) hgw').trans f3
    have KW : Hid (Below wr.heap.size wr W) := kW
    rw [hW]
    clear hW kW f0 f1 f2 f3
    cases bv
    ·have F : Hid (thsB l bs = false) := by show _ = _; rw [E.out]; exact all_no HT.out (by rw [HX.out]; exact HV.out)
     first | go_region_with (go_at_call 46; refine (threadOk_any pc st s1 s2 rg n c1 c2 _ hlen hlen').mono ?_; rintro e w1 ⟨rfl, hb1⟩; rw [HV.out]) | fail
     all_goals
      have HB1 : Hid (Below wr.heap.size wr w1) := KW.out.trans (Below.mono (show Below W.heap.size W w1 from ⟨hb1.os, hb1.tape, hb1.output, hb1.size, hb1.block⟩) (by omega))
      clear hb1
      go_wp2
      go_ret
      exact ⟨by rw [F.out]; rfl, HB.out.trans (HB1.out.mono hsz)⟩
    ·first | go_region_with (go_at_call 46; refine (threadOk_any pc st s1 s2 rg n c1 c2 _ hlen hlen').mono ?_; rintro e w1 ⟨rfl, hb1⟩; rw [HV.out]) | fail
     all_goals
      have HB1 : Hid (Below wr.heap.size wr w1) := KW.out.trans (Below.mono (show Below W.heap.size W w1 from ⟨hb1.os, hb1.tape, hb1.output, hb1.size, hb1.block⟩) (by omega))
      clear hb1
      go_wp2
      go_roundw
      case rel =>
       refine ⟨k + 1, by omega, by go_num, HB.out.trans (HB1.out.mono hsz), fun i t hi ht => ?_⟩
       by_cases e : i = k
       ·subst e
        rw [HT.out] at ht
        injection ht with ht
        subst ht
        rw [HX.out]
        exact HV.out
       ·exact HD.out i t (by omega) ht
      case measure => simp [intOf]; omega
   ·go_wp2
    go_ret
    exact ⟨by rw [E.out, all_yes (fun i t ht => HD.out i t (by have := (List.getElem?_eq_some_iff.1 ht).1; omega) ht)]; rfl, HB.out⟩
 ·have hne : ((l.length : Int) != (bs.length : Int)) = true := by simp; omega
  have E : Hid (thsB l bs = false) := by show _ = _; unfold thsB; rw [decide_eq_false hn]; rfl
  clear hn
  go_enter Tryz.func24, Tryz.ntmps24
  go_wp2
  go_ret
  exact ⟨by rw [E.out]; rfl, Below.refl _ _⟩
end
end Go.Proofs.YteefnjngcnebpaaGreat
