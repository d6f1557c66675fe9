/- DrawMachineRun: a machine and picks, as they are read. Conditions: the code's bytes lie in memory. sameInts of the laws, beside Lists. Conditions: rows of at most a thousand million numbers. -/
import Derived.Test.YtepfpbcjklaenaaNDrawMd
import Derived.Test.YtepfpbcjklaenaaNG01
namespace Go.Proofs.Ytepfpbcjklaenaa
section
set_option linter.unusedSimpArgs false
set_option linter.unusedVariables false
set_option maxRecDepth 100000
open Go.RowKit Go.Deep
/- a drawn machine in its box, the box of the answer below -/
structure Dq (w V : World) (p bx : Nat) (s : Option Addr) (n c : Nat) (q : MP) (d : MD) : Prop where
 x : X4 V bx (.slice q.s1 d.codes.length q.c1) (.slice q.s2 d.cores.length q.c2) (.slice q.s3 d.mem.length q.c3) (.slice q.s4 d.tr.length q.c4)
 ma : MaR V (p + 1) bx q.s1 q.s2 q.s3 q.s4 d
 cb : CB V p s n c
 bt : Below w.heap.size w V
 r : X4 V w.heap.size (.slice none 0 0) (.slice none 0 0) (.slice none 0 0) (.slice none 0 0)
 wp : w.heap.size < p
 pb : p < bx
theorem Dq.step {w V V' : World} {p bx n c : Nat} {s : Option Addr} {q : MP} {d : MD} (h : Dq w V p bx s n c q d) (hc : CB V' p s n c) (hb : But p V V') : Dq w V' p bx s n c q d := by
 have h1 := h.wp
 have h2 := h.pb
 have h3 := h.x.x.z
 exact ⟨h.x.but hb (by omega), h.ma.keep (hb.keepG (by omega) (by omega)), hc, h.bt.trans (hb.below (by omega) (by omega)), h.r.but hb (by omega), h1, h2⟩
theorem Dq.new {w A w1 V : World} {p n c : Nat} {s : Option Addr} {q : MP} {d : MD} (hr : X4 A w.heap.size (.slice none 0 0) (.slice none 0 0) (.slice none 0 0) (.slice none 0 0)) (hA : Below w.heap.size w A) (hw : w.heap.size < p) (hp : p < A.heap.size) (hb : But p A w1) (hc : CB w1 p s n c) (ma : MaR w1 (A.heap.size + 1) w1.heap.size q.s1 q.s2 q.s3 q.s4 d) (hV : w1.alloc (.cells #[.slice q.s1 d.codes.length q.c1, .slice q.s2 d.cores.length q.c2, .slice q.s3 d.mem.length q.c3, .slice q.s4 d.tr.length q.c4] 34) = V) : Dq w V p w1.heap.size s n c q d ∧ V.heap.size = w1.heap.size + 1 := by
 obtain ⟨V', hV', x, k, z⟩ := X4.new w1 (.slice q.s1 d.codes.length q.c1) (.slice q.s2 d.cores.length q.c2) (.slice q.s3 d.mem.length q.c3) (.slice q.s4 d.tr.length q.c4) 34
 have e : V' = V := hV'.symm.trans hV
 subst e
 have hs := hb.size
 refine ⟨⟨x, (ma.mono (by omega) (Nat.le_refl _)).keep (Keep.of_below k (Nat.le_refl _)), hc.lowB k (by omega), (hA.trans (hb.below (by omega) (by omega))).trans (k.mono (by omega)), (hr.but hb (by omega)).keep k (by omega), hw, by omega⟩, by rw [← hV']; simp⟩
end
section
set_option linter.unusedSimpArgs false
set_option linter.unusedVariables false
set_option maxRecDepth 100000
open Go.RowKit
set_option maxHeartbeats 400000 in
theorem sameInts_any (s s' : Option Addr) (l l' : List Int) (c c' : Nat) (w : World) (h : Ints w s l) (h' : Ints w s' l') (hb : l.length ≤ 1000000000) :
  Calls Try.prog 17 #[.slice s l.length c, .slice s' l'.length c'] w fun e w' => e = .returned (.bool (decide (l = l'))) ∧ ∃ n, w' = w.drewN n := by
 by_cases hn : l.length = l'.length
 ·have hne : ((l.length : Int) != (l'.length : Int)) = false := by simp; omega
  have HN : Hid (l.length = l'.length) := hn
  rcases h with rfl | ⟨g, o, rfl, hg, hc⟩
  ·have : l' = [] := by cases l' with | nil => rfl | cons a t => simp at hn
   subst this
   clear hn
   go_enter Try.func17, Try.ntmps17
   go_wp2
   go_loop [5] (fun i => i = .int .i64 0) (fun _ => 0)
   case atStart => rfl
   case round =>
    subst hrel
    go_wp2
    go_ret
    exact ⟨by simp, 0, rfl⟩
  ·rcases h' with rfl | ⟨g', o', rfl, hg', hc'⟩
   ·have : l = [] := by cases l with | nil => rfl | cons a t => simp at hn
    subst this
    clear hn
    go_enter Try.func17, Try.ntmps17
    go_wp2
    go_loop [5] (fun i => i = .int .i64 0) (fun _ => 0)
    case atStart => rfl
    case round =>
     subst hrel
     go_wp2
     go_ret
     exact ⟨by simp, 0, rfl⟩
   ·have HC : Hid (∀ i, i < l.length → w.cell? ⟨g, o + i, none⟩ = some (.int .i64 (l.getD i 0))) := hc
    have HC' : Hid (∀ i, i < l'.length → w.cell? ⟨g', o' + i, none⟩ = some (.int .i64 (l'.getD i 0))) := hc'
    clear hn hc hc'
    go_enter Try.func17, Try.ntmps17
    go_wp2
    go_loopw [5] (fun i wr => ∃ k m : Nat, k ≤ l.length ∧ i = .int .i64 k ∧ (∀ j, j < k → l.getD j 0 = l'.getD j 0) ∧ wr = w.drewN m) (fun i _ => l.length - (intOf i).toNat)
    case atStart => exact ⟨0, 0, Nat.zero_le _, rfl, fun j hj => absurd hj (Nat.not_lt_zero _), rfl⟩
    case round =>
     obtain ⟨k, m, hk, rfl, hj, rfl⟩ := hrel
     have HJ : Hid (∀ j, j < k → l.getD j 0 = l'.getD j 0) := hj
     clear hj
     by_cases hlt : k < l.length
     ·have hlt' : k < l'.length := by have := HN.out; omega
      have e1 := HC.out k hlt
      have e2 := HC'.out k hlt'
      generalize hx : l.getD k 0 = x at e1
      generalize hy : l'.getD k 0 = y at e2
      have HX : Hid (l.getD k 0 = x) := hx
      have HY : Hid (l'.getD k 0 = y) := hy
      clear hx hy
      have b0 : (0 : Int) ≤ (k : Int) := by omega
      have b1 : (k : Int) < (l.length : Int) := by omega
      have b2 : (k : Int) < (l'.length : Int) := by omega
      by_cases hxy : x = y
      ·have hd : (x != y) = false := by simp [hxy]
       have HXY : Hid (x = y) := hxy
       clear hxy
       go_wp2_with fail
       go_quiet (fail)
       go_wp2
       go_roundw
       case rel =>
        refine ⟨k + 1, _, by omega, by go_num, ?_, rfl⟩
        intro j hj
        by_cases e : j < k
        ·exact HJ.out j e
        ·have : j = k := by omega
         subst this
         rw [HX.out, HY.out, HXY.out]
       case measure => simp [intOf]; omega
      ·have hd : (x != y) = true := by simp [hxy]
       have HXY : Hid (¬ x = y) := hxy
       clear hxy
       go_wp2_with fail
       go_quiet (fail)
       go_wp2
       go_ret
       refine ⟨ret_bool' ?_, m + nq, World.drewN_drewN _ _ _⟩
       symm
       rw [decide_eq_false_iff_not]
       rintro rfl
       exact HXY.out (HX.out.symm.trans HY.out)
     ·go_wp2
      go_ret
      refine ⟨ret_bool' ?_, _, rfl⟩
      symm
      rw [decide_eq_true_iff]
      exact getD_eq_all l l' HN.out (fun j hj => HJ.out j (by omega))
 ·have hne : ((l.length : Int) != (l'.length : Int)) = true := by simp; omega
  have HN : Hid (¬ l.length = l'.length) := hn
  clear hn
  go_enter Try.func17, Try.ntmps17
  go_wp2
  go_ret
  refine ⟨ret_bool' ?_, 0, rfl⟩
  symm
  rw [decide_eq_false_iff_not]
  rintro rfl
  exact HN.out rfl
end
end Go.Proofs.Ytepfpbcjklaenaa
