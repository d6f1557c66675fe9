/- l4Bit and l4Go of the specification. Conditions: the thread is one of the source's, and runs. -/
import Derived.Test.YtknffngbdakblaaGreatJG00
import Derived.Test.YtknffngbdakblaaGreatJSpecIns
import Derived.Test.YtknffngbdakblaaGreatJG02
import Derived.Test.YtknffngbdakblaaGreatJG01
import Derived.Test.YtknffngbdakblaaGreatJG05
namespace Go.Proofs.YtknffngbdakblaaGreat
set_option linter.unusedSimpArgs false
set_option linter.unusedVariables false
set_option maxRecDepth 100000
open Go.RowKit
theorem l4Bit_any (b : Bool) (w : World) : Calls Tryz.prog 78 #[.bool b] w fun e w' => e = .returned (.int .i64 (bitN b)) ∧ w' = w := by
 cases b
 all_goals
  go_enter Tryz.func78, Tryz.ntmps78
  go_wp2
  go_ret
  exact ⟨rfl, rfl⟩
set_option maxHeartbeats 2000000 in
theorem l4Go_any (p1 p2 : Option Addr) (a1 a2 lo hi base : Nat) (p : PD) (v1 v2 v3 : Value) (L1 L2 : List (Rec × Value)) (d : SD) (k : Nat) (t : TD) (at_ : Int) (w : World) (h : ProgR w lo hi p1 p2 p) (hB : hi ≤ base) (hO : OwnS w base v1 v2 v3 L1 L2 d) (hb : base ≤ w.heap.size) (ht : d.ths[k]? = some t) (hst : t.st = 0) (hk : k < p.bods.length) (hk2 : p.bods.length ≤ 4) (hlb : (bodyOf p k).length ≤ 24) :
  Calls Tryz.prog 80 #[.agg #[.slice p1 p.caps.length a1, .slice p2 p.bods.length a2], .agg #[v1, v2, v3], .int .i64 k, .int .i64 at_] w fun e w' => ∃ L1', e = .returned (.agg #[v1, v2, v3]) ∧ OwnS w' base v1 v2 v3 L1' L2 ⟨d.ths.set k (moveT t (bodyOf p k).length t.regs at_), d.chs, d.tr⟩ ∧ Below base w w' ∧ ∀ b, b < w.heap.size → v1.ownBlock ≠ some b → w'.heap[b]? = w.heap[b]? := by
 obtain ⟨gb, ob, sb, cb, hp2, hgb, fb⟩ : ∃ gb ob sb cb, p2 = some ⟨gb, ob, none⟩ ∧ gb < w.heap.size ∧ w.cell? ⟨gb, ob + k, none⟩ = some (.slice sb (bodyOf p k).length cb) := by
  rcases h.2 with h0 | ⟨g, o, e, a, b, c⟩
  ·rw [h0] at hk; simp at hk
  ·obtain ⟨s, c', h1, h2⟩ := c k hk
   exact ⟨g, o, s, c', e, by omega, h1⟩
 subst hp2
 obtain ⟨g1, c1, x, hv1, hx, ex, hg0, hg1, e0, e1, e2, e3⟩ := hO.thread ht
 subst hv1
 have hkl : k < d.ths.length := (List.getElem?_eq_some_iff.1 ht).1
 have i1 : gb < w.heap.size + 1 := by omega
 have i2 : gb < w.heap.size + 1 + 1 := by omega
 have i3 : g1 < w.heap.size + 1 := by omega
 have i4 : g1 < w.heap.size + 1 + 1 := by omega
 have HO := (show Hid _ from hO)
 have HT := (show Hid (d.ths[k]? = some t) from ht)
 have HST := (show Hid (t.st = 0) from hst)
 have b0 : (0 : Int) ≤ (k : Int) := by omega
 have b1 : (k : Int) < (p.bods.length : Int) := by omega
 have b2 : (k : Int) < (d.ths.length : Int) := by omega
 obtain ⟨s2, c2, hv2⟩ := ownSl hO.c.row
 obtain ⟨s3, c3, hv3⟩ := ownSl hO.n
 subst hv2
 subst hv3
 obtain ⟨nb, hnb⟩ : ∃ nb, (bodyOf p k).length = nb := ⟨_, rfl⟩
 rw [hnb] at fb hlb ⊢
 clear h hO ht hst hx ex hnb
 by_cases hin : 0 ≤ at_ ∧ at_ < nb
 ·have hin1 : Plain.inB at_ 0 ((nb : Int) - 1) = true := by unfold Plain.inB; simp; omega
  have HMV : Hid (moveT t nb t.regs at_ = ⟨at_, t.regs, t.st⟩) := by show _ = _; unfold moveT; rw [if_pos hin, HST.out]
  go_enter Tryz.func80, Tryz.ntmps80
  go_wp2_with (go_at_call 34; refine (l1In_any _ _ _ _).mono ?_; rintro e w' ⟨rfl, hw'⟩; rw [hw', hin1]; clear hw' w')
  obtain ⟨L1', o, -⟩ := (HO.out.setT HT.out at_).1
  have kk : Below base w (w.setCell ⟨g1, k * 3, none⟩ (.int .i64 at_)) := (Below.refl _ _).setCell (p := ⟨g1, k * 3, none⟩) hg0 _
  refine bodyPost_ret (v := .agg #[.slice (some ⟨g1, 0, none⟩) d.ths.length c1, .slice s2 L2.length c2, .slice s3 d.tr.length c3]) (by simp [results, Tryz.results80, go_sem]) rfl ⟨L1', rfl, ?_, ((kk.alloc (by simp; omega) _).alloc (by simp; omega) _).alloc (by simp; omega) _, fun b hb1 hn => ?_⟩
  rotate_left
  ·have ng : b ≠ g1 := fun e => hn (by rw [e]; rfl)
   rw [Below.heap_alloc _ _ _ (by simp; omega), Below.heap_alloc _ _ _ (by simp; omega), Below.heap_alloc _ _ _ (by simp; omega), Below.heap_setCell _ _ _ b ng]
  rw [HMV.out]
  exact o.keep (fun k _ hk => by rw [Below.heap_alloc _ _ _ (by simp at hk ⊢; omega), Below.heap_alloc _ _ _ (by simp at hk ⊢; omega), Below.heap_alloc _ _ _ (by simp at hk ⊢; omega)])
 ·have hin1 : Plain.inB at_ 0 ((nb : Int) - 1) = false := by unfold Plain.inB; simp; omega
  have HMV : Hid (moveT t nb t.regs at_ = ⟨t.pc, t.regs, 2⟩) := by show _ = _; unfold moveT; rw [if_neg hin]
  go_enter Tryz.func80, Tryz.ntmps80
  go_wp2_with (go_at_call 34; refine (l1In_any _ _ _ _).mono ?_; rintro e w' ⟨rfl, hw'⟩; rw [hw', hin1]; clear hw' w')
  obtain ⟨L1', o, -⟩ := (HO.out.setT HT.out 2).2
  have kk : Below base w (w.setCell ⟨g1, k * 3 + 2, none⟩ (.int .i64 2)) := (Below.refl _ _).setCell (p := ⟨g1, k * 3 + 2, none⟩) hg0 _
  refine bodyPost_ret (v := .agg #[.slice (some ⟨g1, 0, none⟩) d.ths.length c1, .slice s2 L2.length c2, .slice s3 d.tr.length c3]) (by simp [results, Tryz.results80, go_sem]) rfl ⟨L1', rfl, ?_, ((kk.alloc (by simp; omega) _).alloc (by simp; omega) _).alloc (by simp; omega) _, fun b hb1 hn => ?_⟩
  rotate_left
  ·have ng : b ≠ g1 := fun e => hn (by rw [e]; rfl)
   rw [Below.heap_alloc _ _ _ (by simp; omega), Below.heap_alloc _ _ _ (by simp; omega), Below.heap_alloc _ _ _ (by simp; omega), Below.heap_setCell _ _ _ b ng]
  rw [HMV.out]
  exact o.keep (fun k _ hk => by rw [Below.heap_alloc _ _ _ (by simp at hk ⊢; omega), Below.heap_alloc _ _ _ (by simp at hk ⊢; omega), Below.heap_alloc _ _ _ (by simp at hk ⊢; omega)])
end Go.Proofs.YtknffngbdakblaaGreat
