/- The body that is asked for: nothing where there is none. Conditions: programs that fit. -/
import Derived.Test.YtplncjlcejaabaaGreatJP11Pure
import Derived.Test.YtplncjlcejaabaaGreatJProgOk2
namespace Go.Proofs.YtplncjlcejaabaaGreat
set_option linter.unusedSimpArgs false
set_option linter.unusedVariables false
set_option maxRecDepth 100000
open Go.RowKit
def bodV (p : PD) (b : Int) : List I5 := if progB p = true ∧ 0 ≤ b ∧ b < p.bods.length then p.bods.getD b.toNat [] else []
theorem bodV_rt (p : PD) (b : Int) : Rt (bodV p b) := by
 unfold bodV
 split
 ·rename_i h
  exact (progB_body h.1 (by omega)).1
 ·exact rt_nil
theorem bodV_no {p : PD} {b : Int} (h : ¬ (progB p = true ∧ 0 ≤ b ∧ b < p.bods.length)) : bodV p b = [] := by unfold bodV; rw [if_neg h]
theorem bodV_yes {p : PD} {b : Int} (h : progB p = true) (h0 : 0 ≤ b) (h1 : b < p.bods.length) : bodV p b = p.bods.getD b.toNat [] := by unfold bodV; rw [if_pos ⟨h, h0, h1⟩]
theorem bods_at {w : World} {lo hi : Nat} {s' : Option Addr} {l : List (List I5)} (h : BodsR w lo hi s' l) {i : Nat} (hi' : i < l.length) : ∃ g off, s' = some ⟨g, off, none⟩ ∧ g < hi ∧ BodR w lo hi g (off + i) (l.getD i []) := by
 rcases h with rfl | ⟨g, off, rfl, _, hg, hc⟩
 ·exact absurd hi' (Nat.not_lt_zero _)
 ·exact ⟨g, off, rfl, hg, hc i hi'⟩
theorem oneOf_is11 (n c : Int) (v : Bool) (w : World) (h : Plain.oneB n c = v) : Calls Tryz.prog 32 #[.int .i64 n, .int .i64 c] w fun e w' => e = .returned (.bool v) ∧ w' = w := by
 subst h
 exact isOneOf_any n c w
set_option maxRecDepth 100000 in
set_option maxHeartbeats 2000000 in
theorem bodyOf_any (s s' : Option Addr) (c c' lo hi : Nat) (p : PD) (b : Int) (w : World) (h : ProgR w lo hi s s' p) (hB : hi ≤ w.heap.size) (hf : Fits p) :
  Calls Tryz.prog 59 #[.agg #[.slice s p.caps.length c, .slice s' p.bods.length c'], .int .i64 b] w fun e w' => (∃ s1 c1, e = .returned (.slice s1 (bodV p b).length c1) ∧ InsR w' lo hi s1 (bodV p b)) ∧ Below w.heap.size w w' := by
 have HP := hidP h
 have HF := hidP hf
 have hfn := hf.2.1
 clear h hf
 obtain ⟨W, hW, bx, kb, zb⟩ := Bo2.new w (.slice s p.caps.length c) (.slice s' p.bods.length c') 39
 have HB2 := hidP bx
 have HK := hidP kb
 obtain ⟨x0, x1⟩ := bx
 clear kb
 go_enter Tryz.func59, Tryz.ntmps59
 go_wp2_with fail
 refine (implProg_any s s' c c' lo hi p W (ProgR.keep' HP.out (Keep.of_below HK.out hB)) (by omega) HF.out).mono ?_
 rintro e w1 ⟨rfl, hb1⟩
 have K1 := hidP (HK.out.trans (hb1.mono (by omega)))
 clear x0 x1
 obtain ⟨x0, x1⟩ := HB2.out.keep (Keep.of_below hb1 (by omega))
 have hz1 := hb1.size
 clear hb1
 cases hp : progB p
 ·have E := hidP (bodV_no (p := p) (b := b) (fun h => by rw [hp] at h; cases h.1))
  clear hp
  go_wp2
  go_ret
  exact ⟨⟨none, 0, by rw [E.out]; rfl, by rw [E.out]; exact .inl rfl⟩, K1.out⟩
 ·have E := hidP hp
  clear hp
  cases hq : Plain.oneB b p.bods.length
  ·have E2 := hidP (bodV_no (p := p) (b := b) (fun h => by simp only [Plain.oneB, decide_eq_false_iff_not] at hq; exact hq h.2))
   have HQ := hidP hq
   clear hq
   go_wp2_with (go_at_call 32; refine (oneOf_is11 _ _ false _ HQ.out).mono ?_; rintro e w2 ⟨rfl, rfl⟩)
   go_ret
   exact ⟨⟨none, 0, by rw [E2.out]; rfl, by rw [E2.out]; exact .inl rfl⟩, K1.out⟩
  ·have HQ := hidP hq
   simp only [Plain.oneB, decide_eq_true_eq] at hq
   obtain ⟨q0, q1⟩ := hq
   obtain ⟨j, rfl⟩ : ∃ j : Nat, b = j := ⟨b.toNat, by omega⟩
   have E2 := hidP (bodV_yes E.out q0 q1)
   obtain ⟨g, off, rfl, hg, s1, c1, hcell, hin⟩ := bods_at ((ProgR.keep' HP.out (Keep.of_below K1.out hB)).2) (i := j) (by omega)
   have HIN := hidP hin
   clear hin
   go_wp2_with (go_at_call 32; refine (oneOf_is11 _ _ true _ HQ.out).mono ?_; rintro e w2 ⟨rfl, rfl⟩)
   go_ret
   refine ⟨⟨s1, c1, by rw [E2.out]; rfl, by rw [E2.out]; exact HIN.out⟩, K1.out⟩
end Go.Proofs.YtplncjlcejaabaaGreat
