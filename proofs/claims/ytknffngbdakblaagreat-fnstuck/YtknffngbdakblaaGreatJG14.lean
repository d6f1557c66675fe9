/- A turn, whoever takes it. Conditions: program and source are right. Who is able, of the program: an iterator over threads, and the two functions that go over it. Conditions: program and source fit. Able and anybodyAble of the program: loops over the iterator. Conditions: program and source fit. Able of the specification, and Stuck of both. Conditions: program and source fit. -/
import Derived.Test.YtknffngbdakblaaGreatJG00
import Derived.Test.YtknffngbdakblaaGreatJG06
import Derived.Test.YtknffngbdakblaaGreatJStepIm9
import Derived.Test.YtknffngbdakblaaGreatJG05
import Derived.Test.YtknffngbdakblaaGreatJG02
import Derived.Test.YtknffngbdakblaaGreatJG01
import Derived.Test.YtknffngbdakblaaGreatJStepIm10
import Derived.Test.YtknffngbdakblaaGreatJG12
import Derived.Test.YtknffngbdakblaaGreatJSrcDup
import Derived.RangeFuncBox
import Derived.RangeFuncNested
import Derived.RangeFuncBound
import Derived.RangeFuncCalls
import Derived.RangeFuncLeaves
import Derived.Shelf.Abstract
import Derived.Shelf.RegionOpen
import Derived.WalkKit
import Derived.OwnWalkIn
import Derived.TacticsInMore
import Derived.LoopNIn
import Derived.LoopIn
import Derived.Maps.AppendAt
import Derived.Test.YtknffngbdakblaaGreatJSrcOkS
import Derived.Test.YtknffngbdakblaaGreatJG09
namespace Go.Proofs.YtknffngbdakblaaGreat
section
set_option linter.unusedSimpArgs false
set_option linter.unusedVariables false
set_option maxRecDepth 100000
open Go.RowKit
theorem turnIn_any (p1 p2 : Option Addr) (a1 a2 lo hi base S : Nat) (p : PD) (v1 v2 v3 : Value) (L1 L2 : List (Rec × Value)) (d : SD) (who : Int) (w : World) (hP : ProgR w lo hi p1 p2 p) (hB : hi ≤ base) (hO : OwnS w base v1 v2 v3 L1 L2 d) (hS : BoF S w v1 v2 v3) (hbs : BxS w S) (hb : base ≤ w.heap.size) (hR : Right p d) (hSb : base ≤ S) :
  Calls Tryz.prog 29 #[.agg #[.slice p1 p.caps.length a1, .slice p2 p.bods.length a2], .pointer (some ⟨S, 0, none⟩), .int .i64 who] w fun e w' => TurnP w S base v1 v2 v3 L1 L2 (stepK p d who) (stepS p d who) e w' := by
 by_cases hw : 0 ≤ who ∧ who < (d.ths.length : Int)
 ·obtain ⟨k, rfl⟩ : ∃ k : Nat, who = (k : Int) := ⟨who.toNat, by omega⟩
  obtain ⟨t, ht⟩ : ∃ t, d.ths[k]? = some t := ⟨_, List.getElem?_eq_getElem (by omega)⟩
  have et : thOf d k = t := by unfold thOf; rw [List.getD_eq_getElem?_getD, ht]; rfl
  by_cases hst : t.st = 0
  ·have e3 : stepK p d k = (outOf p d k).code := by unfold stepK; rw [if_pos hw, Int.toNat_natCast, et, if_pos hst]
   have e4 : stepS p d k = if (outOf p d k).code = 0 then doneS d k (outOf p d k) else d := by unfold stepS; rw [e3, Int.toNat_natCast]
   rw [e3, e4]
   by_cases hfu : (insOf p d k).o = 10 ∧ d.tr.length = 4000
   ·have e5 : (outOf p d k).code = 3 := by unfold outOf stepO; simp [hfu.1, hfu.2]
    rw [e5, if_neg (show ¬ (3 : Int) = 0 by decide)]
    exact turn_full p1 p2 a1 a2 lo hi base S p v1 v2 v3 L1 L2 d k t w hP hB hO hS hbs hb hR hSb ht hst hfu
   ·exact turn_run p1 p2 a1 a2 lo hi base S p v1 v2 v3 L1 L2 d k t w hP hB hO hS hbs hb hR hSb ht hst hfu
  ·have e3 : stepK p d k = 3 := by unfold stepK; rw [if_pos hw, Int.toNat_natCast, et, if_neg hst]
   have e4 : stepS p d k = d := by unfold stepS; rw [e3]; rfl
   rw [e3, e4]
   exact turn_over p1 p2 a1 a2 lo hi base S p v1 v2 v3 L1 L2 d k t w hP hB hO hS hbs hb hR hSb ht hst
 ·have e3 : stepK p d who = 2 := by unfold stepK; rw [if_neg hw]
  have e4 : stepS p d who = d := by unfold stepS; rw [e3]; rfl
  rw [e3, e4]
  exact turn_none p1 p2 a1 a2 lo hi base S p v1 v2 v3 L1 L2 d who w hP hB hO hS hbs hb hR hSb hw
end
section
set_option linter.unusedSimpArgs false
set_option linter.unusedVariables false
set_option maxRecDepth 100000
open Go.RowKit Go.Shelf
/- who of the first k is able -/
def ablN (p : PD) (d : SD) : Nat → List Int
 | 0 => []
 | k + 1 => if stepK p d k = 0 then ablN p d k ++ [(k : Int)] else ablN p d k
noncomputable def ablB (p : PD) (d : SD) : List Int := if srcB p d = true then ablN p d d.ths.length else []
theorem ablN_len (p : PD) (d : SD) : ∀ k, (ablN p d k).length ≤ k
 | 0 => Nat.le_refl _
 | k + 1 => by
  have := ablN_len p d k
  unfold ablN
  split
  ·simp; omega
  ·omega
theorem ablN_pre (p : PD) (d : SD) (k : Nat) : ∀ m, ablN p d k <+: ablN p d (k + m)
 | 0 => List.prefix_refl _
 | m + 1 => by
  refine (ablN_pre p d k m).trans ?_
  show _ <+: ablN p d (k + m + 1)
  conv => rhs; unfold ablN
  split
  ·exact List.prefix_append _ _
  ·exact List.prefix_refl _
set_option maxHeartbeats 2000000 in
theorem goesOn_any (p1 p2 s1 s2 s3 : Option Addr) (a1 a2 c1 c2 c3 lo hi lo' hi' : Nat) (p : PD) (d : SD) (who : Int) (w : World) (h : ProgR w lo hi p1 p2 p) (h' : SrcR w lo' hi' s1 s2 s3 d) (hB : hi ≤ w.heap.size) (hB' : hi' ≤ w.heap.size) (hf' : SFits d) (hy : srcB p d = true) :
  Calls Tryz.prog 57 #[.agg #[.slice p1 p.caps.length a1, .slice p2 p.bods.length a2], .agg #[.slice s1 d.ths.length c1, .slice s2 d.chs.length c2, .slice s3 d.tr.length c3], .int .i64 who] w fun e w' => e = .returned (.bool (stepK p d who == 0)) ∧ Below w.heap.size w w' := by
 obtain ⟨KK, hKK⟩ : ∃ K, stepK p d who = K := ⟨_, rfl⟩
 rw [hKK]
 have HKK := hidW hKK
 have HR := hidW (right_of hy)
 obtain ⟨W, hW⟩ : ∃ W, (w.alloc (.cells #[.slice p1 p.caps.length a1, .slice p2 p.bods.length a2] 27)).alloc (.cells #[.slice s1 d.ths.length c1, .slice s2 d.chs.length c2, .slice s3 d.tr.length c3] 32) = W := ⟨_, rfl⟩
 obtain ⟨ka, z0, z1, ⟨x0, x1⟩, y0, y1, y2⟩ := fiveB hW
 have HW := hidW hW
 have H := hidW h
 have H' := hidW h'
 have HF' := hidW hf'
 have KW := hidW ka
 have zW := ka.size
 clear hW ka h h' hf' hy hKK
 go_enter Tryz.func57, Tryz.ntmps57
 go_wp2_with fail
 rw [HW.out]
 refine (implDup_any s1 s2 s3 c1 c2 c3 lo' hi' d W (H'.out.keep (Keep.of_below KW.out hB')) (by omega) HF'.out).mono ?_
 rintro e w5 ⟨u1, u2, u3, L1, L2, rfl, ho5, hb5⟩
 obtain ⟨t1, e1, t2, e2, t3, e3, rfl, rfl, rfl, -⟩ := ho5.src
 obtain ⟨W6, hW6, b6, k6, z6⟩ := BoF.new w5 (.slice t1 d.ths.length e1) (.slice t2 d.chs.length e2) (.slice t3 d.tr.length e3) 32
 have z5 := hb5.size
 have X0 := (k6.cell (p := ⟨w.heap.size, 0, none⟩) (by show w.heap.size < _; omega)).trans ((hb5.cell (p := ⟨w.heap.size, 0, none⟩) z0).trans x0)
 have X1 := (k6.cell (p := ⟨w.heap.size, 1, none⟩) (by show w.heap.size < _; omega)).trans ((hb5.cell (p := ⟨w.heap.size, 1, none⟩) z0).trans x1)
 have T := hidW (turnIn_any p1 p2 a1 a2 lo hi W.heap.size w5.heap.size p _ _ _ L1 L2 d who W6 ((H.out.keep' (Keep.of_below KW.out hB)).keep' (Keep.of_below (hb5.trans (k6.mono z5)) (by omega))) (by omega) (ho5.keep (fun x _ hx => k6.block x hx)) b6 ⟨_, _, by rw [← hW6]; exact heap_alloc_new _ _⟩ (by omega) HR.out (by omega))
 have HW6 := hidW hW6
 have zp : w.heap.size < W6.heap.size := by omega
 have K6 := hidW (KW.out.trans ((hb5.trans (k6.mono z5)).mono zW))
 clear ho5 hb5 hW6 b6 k6 x0 x1 y0 y1 y2
 go_upto_region 2 with fail
 rw [HW6.out]
 go_wp2_with fail
 refine Calls.mono T.out ?_
 rintro e w7 ⟨rfl, s4, n4, c4, M1, M2, tq⟩
 rw [HKK.out]
 have K7 := hidW (K6.out.trans (tq.b.mono zW))
 clear tq T X0 X1
 go_wp2
 go_ret
 exact ⟨rfl, K7.out⟩
set_option maxHeartbeats 1000000 in
theorem ableOf_any (v1 v2 u1 u2 u3 : Value) (w : World) :
  Calls Tryz.prog 39 #[.agg #[v1, v2], .agg #[u1, u2, u3]] w fun e w' => e = .returned (.func (.func 56) #[] #[.pointer (some ⟨w.heap.size, 0, none⟩), .pointer (some ⟨w.heap.size + 1, 0, none⟩)]) ∧ w' = (w.alloc (.cells #[v1, v2] 27)).alloc (.cells #[u1, u2, u3] 32) := by
 go_enter Tryz.func39, Tryz.ntmps39
 go_wp2
 go_ret
 exact ⟨rfl, rfl⟩
/- all blocks below n0 but B are as they were -/
structure KpB (B n0 : Nat) (W W' : World) : Prop where
 size : W.heap.size ≤ W'.heap.size
 same : ∀ q, q < n0 → q ≠ B → W'.heap[q]? = W.heap[q]?
theorem KpB.refl (B n0 : Nat) (W : World) : KpB B n0 W W := ⟨Nat.le_refl _, fun _ _ _ => rfl⟩
theorem KpB.trans {B n0 : Nat} {X Y Z : World} (h : KpB B n0 X Y) (k : KpB B n0 Y Z) : KpB B n0 X Z := ⟨Nat.le_trans h.size k.size, fun q a b => (k.same q a b).trans (h.same q a b)⟩
theorem KpB.of {B n0 : Nat} {X Y : World} (h : Below X.heap.size X Y) (hn : n0 ≤ X.heap.size) : KpB B n0 X Y := ⟨h.size, fun q a _ => h.block q (by omega)⟩
theorem KpB.put {B n0 : Nat} {w : World} (hn : n0 ≤ w.heap.size) (W : World) (l : Nat) (o o' : Obj) (hl : w.heap.size ≤ l) (_ : W.heap[l]? = some o) (_ : o.isCells = false) (_ : o.isWalk = false) : KpB B n0 W (W.putObj l o') :=
 ⟨by simp, fun q a _ => World.putObj_heap_other (by omega)⟩
theorem KpB.keep {B n0 lo hi : Nat} {X Y : World} (h : KpB B n0 X Y) (h1 : hi ≤ B) (h2 : B ≤ n0) : Keep lo hi X Y := fun k a b => h.same k (by omega) (by omega)
theorem grown_of {X Y : World} (h : Below X.heap.size X Y) : X.grownBy Y none := ⟨h.os, h.tape, h.output, h.size, fun k hk _ => h.block k hk⟩
set_option maxRecDepth 100000 in
set_option maxHeartbeats 4000000 in
theorem able1_in (n : Nat) (hn : 1 ≤ n) (l bp bs B n0 : Nat) (p1 p2 s1 s2 s3 : Option Addr) (a1 a2 c1 c2 c3 lo hi lo' hi' : Nat) (p : PD) (d : SD) (J Jx : List Int → World → Prop)
  (hY : ∀ pre x W1, J pre W1 → pre.length < 4 → YieldAt Fence.wide (n - 1) Tryz.prog l #[.int .i64 x] W1 fun e W' => (e = .returned (.bool true) ∧ J (pre ++ [x]) W' ∧ KpB B n0 W1 W') ∨ (e = .returned (.bool false) ∧ Jx (pre ++ [x]) W'))
  (W : World) (hJ : AbidesFrom W.heap.size J) (hP : ProgR W lo hi p1 p2 p) (hS : SrcR W lo' hi' s1 s2 s3 d) (hB : hi ≤ B) (hB' : hi' ≤ B) (hBn : B < n0) (hn0 : n0 ≤ W.heap.size) (hf : Fits p) (hf' : SFits d)
  (hbp : B < bp) (hbp' : bp < n0) (hbs : B < bs) (hbs' : bs < n0)
  (hx0 : W.cell? ⟨bp, 0, none⟩ = some (.slice p1 p.caps.length a1)) (hx1 : W.cell? ⟨bp, 1, none⟩ = some (.slice p2 p.bods.length a2)) (hy0 : W.cell? ⟨bs, 0, none⟩ = some (.slice s1 d.ths.length c1)) (hy1 : W.cell? ⟨bs, 1, none⟩ = some (.slice s2 d.chs.length c2)) (hy2 : W.cell? ⟨bs, 2, none⟩ = some (.slice s3 d.tr.length c3)) (h0 : J [] W) :
  CallsIn Fence.wide n Tryz.prog 56 #[.func (.yield l) #[] #[], .pointer (some ⟨bp, 0, none⟩), .pointer (some ⟨bs, 0, none⟩)] W fun e W' => (∃ v, e = .returned v) ∧ ((∃ xs, xs = ablB p d ∧ J xs W') ∨ (∃ pre, (pre <+: ablB p d ∧ pre ≠ []) ∧ Jx pre W')) := by
 have H := hidW hP
 have H' := hidW hS
 have HF := hidW hf
 have HF' := hidW hf'
 have HY := hidW hY
 have HJ := hidW hJ
 have RX : Hid (∀ X, KpB B n0 W X → (X.cell? ⟨bp, 0, none⟩ = some (.slice p1 p.caps.length a1) ∧ X.cell? ⟨bp, 1, none⟩ = some (.slice p2 p.bods.length a2) ∧ X.cell? ⟨bs, 0, none⟩ = some (.slice s1 d.ths.length c1) ∧ X.cell? ⟨bs, 1, none⟩ = some (.slice s2 d.chs.length c2) ∧ X.cell? ⟨bs, 2, none⟩ = some (.slice s3 d.tr.length c3))) := fun X hX =>
  ⟨(World.cell?_of_block (w := W) (a := ⟨bp, 0, none⟩) (hX.same bp hbp' (by omega))).trans hx0, (World.cell?_of_block (w := W) (a := ⟨bp, 1, none⟩) (hX.same bp hbp' (by omega))).trans hx1, (World.cell?_of_block (w := W) (a := ⟨bs, 0, none⟩) (hX.same bs hbs' (by omega))).trans hy0, (World.cell?_of_block (w := W) (a := ⟨bs, 1, none⟩) (hX.same bs hbs' (by omega))).trans hy1, (World.cell?_of_block (w := W) (a := ⟨bs, 2, none⟩) (hX.same bs hbs' (by omega))).trans hy2⟩
 clear hP hS hf hf' hY hJ
 refine callsIn_of_wp Tryz.func56 rfl trivial ?_ rfl
 simp only [Tryz.ntmps56, List.size_toArray, List.length_cons, List.length_nil, Nat.reduceAdd, Nat.reduceSub, Array.replicate_succ, Array.replicate_zero, List.push_toArray, List.append_toArray, List.nil_append, List.cons_append]
 have HC := hidW (implSource_any p1 p2 s1 s2 s3 a1 a2 c1 c2 c3 lo hi lo' hi' p d W H.out H'.out (by omega) (by omega) HF.out HF'.out)
 have EB := hidW (show ablB p d = if srcB p d = true then ablN p d d.ths.length else [] from rfl)
 cases hy : srcB p d with
 | false =>
  rw [hy] at HC EB
  gi_wp2_with (refine ⟨trivial, ?_⟩; gi_at_call 28; refine (callsIn_wide.2 HC.out).mono ?_; rintro e w1 ⟨rfl, hb1⟩; have J1 := hidW (HJ.out [] W w1 none h0 (grown_of hb1) (fun r e => by cases e)); clear hb1)
  refine bodyPost_ret (results_none rfl _ _ _) rfl ?_
  exact ⟨⟨_, rfl⟩, .inl ⟨[], EB.out.symm, J1.out⟩⟩
 | true =>
  rw [hy] at HC EB
  have HYS := hidW hy
  have hl4 : d.ths.length ≤ 4 := by have := srcB_ths hy; omega
  clear hy hx0 hx1 hy0 hy1 hy2
  obtain ⟨x0, x1, y0, y1, y2⟩ := RX.out W (KpB.refl _ _ _)
  gi_wp2_with (refine ⟨trivial, ?_⟩; gi_at_call 28; refine (callsIn_wide.2 HC.out).mono ?_; rintro e w1 ⟨rfl, hb1⟩; have J1 := hidW (HJ.out [] W w1 none h0 (grown_of hb1) (fun r e => by cases e)); have K1 := hidW (KpB.of (B := B) hb1 hn0); obtain ⟨x0', x1', y0', y1', y2'⟩ := RX.out w1 K1.out; clear hb1 x0 x1 y0 y1 y2)
  have EB2 := hidW (show ablB p d = ablN p d d.ths.length from EB.out)
  clear EB HC x0' x1' y0' y1' y2'
  gi_loopw [12] (fun i wr => ∃ k : Nat, k ≤ d.ths.length ∧ i = .int .i64 k ∧ J (ablN p d k) wr ∧ KpB B n0 W wr) (fun i _ => d.ths.length - (intOf i).toNat)
  case atStart => exact ⟨0, Nat.zero_le _, rfl, J1.out, K1.out⟩
  case round =>
   obtain ⟨k, hk, rfl, hj, hkp⟩ := hrel
   obtain ⟨x0, x1, y0, y1, y2⟩ := RX.out wr hkp
   have zr := hkp.size
   by_cases hlt : k < d.ths.length
   ·have hki : (k : Int) < (d.ths.length : Int) := by omega
    have G := hidW (goesOn_any p1 p2 s1 s2 s3 a1 a2 c1 c2 c3 lo hi lo' hi' p d k wr (H.out.keep' (hkp.keep hB (by omega))) (H'.out.keep (hkp.keep hB' (by omega))) (by omega) (by omega) HF'.out HYS.out)
    have KP := hidW hkp
    have HJJ := hidW hj
    have hal := ablN_len p d k
    have hal4 : (ablN p d k).length < 4 := by omega
    have PRE := hidW (show ablN p d (k + 1) <+: ablB p d from by
     rw [EB2.out]
     have := ablN_pre p d (k + 1) (d.ths.length - (k + 1))
     rw [show k + 1 + (d.ths.length - (k + 1)) = d.ths.length by omega] at this
     exact this)
    have EN := hidW (show ablN p d (k + 1) = if stepK p d k = 0 then ablN p d k ++ [(k : Int)] else ablN p d k from rfl)
    clear hj hkp hal
    by_cases hK : stepK p d k = 0
    ·rw [if_pos hK] at EN
     rw [show (stepK p d k == 0) = true by rw [hK]; rfl] at G
     clear hK
     generalize ablN p d k = A at HJJ hal4 EN
     gi_wp2_with (refine ⟨trivial, ?_⟩; gi_at_call 57; refine (callsIn_wide.2 G.out).mono ?_; rintro e w7 ⟨rfl, hb7⟩; have J7 := hidW (HJ.out _ wr w7 none HJJ.out (grown_of hb7) (fun r e => by cases e)); have K7 := hidW (KP.out.trans (KpB.of (B := B) hb7 (by omega))); obtain ⟨fn, tmps, assign, body, hy, hR⟩ := HY.out A (k : Int) w7 J7.out hal4; clear hb7 x0 x1 y0 y1 y2)
     refine hR.mono ?_
     rintro e W3 (⟨rfl, hJ3, hk3⟩ | ⟨rfl, hJx3⟩)
     ·gi_wp2
      go_roundw
      case rel => exact ⟨k + 1, by omega, by go_num, by rw [EN.out]; exact hJ3, K7.out.trans hk3⟩
      case measure => simp [intOf]; omega
     ·gi_wp2
      refine bodyPost_ret (results_none rfl _ _ _) rfl ?_
      exact ⟨⟨_, rfl⟩, .inr ⟨A ++ [(k : Int)], ⟨by rw [← EN.out]; exact PRE.out, by simp⟩, hJx3⟩⟩
    ·rw [if_neg hK] at EN
     rw [show (stepK p d k == 0) = false by simp [hK]] at G
     clear hK
     gi_wp2_with (refine ⟨trivial, ?_⟩; gi_at_call 57; refine (callsIn_wide.2 G.out).mono ?_; rintro e w7 ⟨rfl, hb7⟩; have J7 := hidW (HJ.out _ wr w7 none HJJ.out (grown_of hb7) (fun r e => by cases e)); have K7 := hidW (KP.out.trans (KpB.of (B := B) hb7 (by omega))); clear hb7 x0 x1 y0 y1 y2)
     refine ⟨fun _ h => (by cases h), ?_⟩
     gi_wp2
     go_roundw
     case rel => exact ⟨k + 1, by omega, by go_num, by rw [EN.out]; exact J7.out, K7.out⟩
     case measure => simp [intOf]; omega
   ·have ek : k = d.ths.length := by omega
    have JE := hidW (show J (ablB p d) wr from by rw [EB2.out, ← ek]; exact hj)
    clear ek hj hkp x0 x1 y1 y2
    gi_wp2
    go_end0
    exact ⟨⟨_, rfl⟩, .inl ⟨_, rfl, JE.out⟩⟩
end
section
set_option linter.unusedSimpArgs false
set_option linter.unusedVariables false
set_option maxRecDepth 100000
open Go.RowKit Go.Shelf
attribute [local go_sem] Oper.semAt_some
theorem infoIntA : (Tryz.prog.info? 3).map (fun i => (i.zero, i.size, i.bytes)) = some (some (.int .i64 0), 1, 8) := by kernel_rfl
/- the five boxes ahead of the loop -/
structure Ab5 (w W : World) (v1 v2 u1 u2 u3 : Value) : Prop where
 k : Below (w.heap.size + 3) W W
 b : Below w.heap.size w W
 z : W.heap.size = w.heap.size + 5
 x0 : W.cell? ⟨w.heap.size + 1 + 1 + 1, 0, none⟩ = some v1
 x1 : W.cell? ⟨w.heap.size + 1 + 1 + 1, 1, none⟩ = some v2
 y0 : W.cell? ⟨w.heap.size + 1 + 1 + 1 + 1, 0, none⟩ = some u1
 y1 : W.cell? ⟨w.heap.size + 1 + 1 + 1 + 1, 1, none⟩ = some u2
 y2 : W.cell? ⟨w.heap.size + 1 + 1 + 1 + 1, 2, none⟩ = some u3
theorem ab5_new {w W : World} {v1 v2 u1 u2 u3 x : Value} {T0 T1 T2 T3 T4 : TypeId} (hW : ((((w.alloc (.cells #[v1, v2] T0)).alloc (.cells #[u1, u2, u3] T1)).alloc (.cells #[x] T2)).alloc (.cells #[v1, v2] T3)).alloc (.cells #[u1, u2, u3] T4) = W) : Ab5 w W v1 v2 u1 u2 u3 ∧ Boxed W (w.heap.size + 1 + 1) T2 x := by
 subst hW
 refine ⟨⟨Below.refl _ _, ?_, by simp, by simp [go_sem], by simp [go_sem], by simp [go_sem], by simp [go_sem], by simp [go_sem]⟩, ?_⟩
 ·exact (((((Below.refl _ w).alloc (Nat.le_refl _) _).alloc (by simp) _).alloc (by simp; omega) _).alloc (by simp; omega) _).alloc (by simp; omega) _
 ·have := Boxed.new ((w.alloc (.cells #[v1, v2] T0)).alloc (.cells #[u1, u2, u3] T1)) T2 x
  simp only [World.size_alloc] at this
  exact (this.alloc _).alloc _
theorem able_stops (n : Nat) (hn : 1 ≤ n) (p1 p2 s1 s2 s3 : Option Addr) (a1 a2 c1 c2 c3 lo hi lo' hi' : Nat) (p : PD) (d : SD) (w W : World) (hP : ProgR w lo hi p1 p2 p) (hS : SrcR w lo' hi' s1 s2 s3 d) (hB : hi ≤ w.heap.size) (hB' : hi' ≤ w.heap.size) (hf : Fits p) (hf' : SFits d) (h5 : Ab5 w W (.slice p1 p.caps.length a1) (.slice p2 p.bods.length a2) (.slice s1 d.ths.length c1) (.slice s2 d.chs.length c2) (.slice s3 d.tr.length c3)) :
  SeqStopsK Fence.wide n Tryz.prog 56 #[.pointer (some ⟨w.heap.size + 1 + 1 + 1, 0, none⟩), .pointer (some ⟨w.heap.size + 1 + 1 + 1 + 1, 0, none⟩)] (fun x : Int => #[Value.int .i64 x]) (KpB (w.heap.size + 1 + 1) (w.heap.size + 5)) (fun ys => ys = ablB p d) (fun pre => pre <+: ablB p d ∧ pre ≠ []) 4 W := fun l J Jx V hV hJ _ hY h0 => by
 have hz := h5.z
 have c : ∀ b o v, b < W.heap.size → W.cell? ⟨b, o, none⟩ = some v → V.cell? ⟨b, o, none⟩ = some v := fun b o v hb hc => (hV.cell (p := ⟨b, o, none⟩) hb).trans hc
 have kv : Below w.heap.size w V := h5.b.trans (hV.mono h5.b.size)
 exact able1_in n hn l _ _ (w.heap.size + 1 + 1) (w.heap.size + 5) p1 p2 s1 s2 s3 a1 a2 c1 c2 c3 lo hi lo' hi' p d J Jx hY V hJ (hP.keep' (Keep.of_below kv hB)) (hS.keep (Keep.of_below kv hB')) (by omega) (by omega) (by omega) (by have := hV.size; omega) hf hf' (by omega) (by omega) (by omega) (by omega) (c _ _ _ (by omega) h5.x0) (c _ _ _ (by omega) h5.x1) (c _ _ _ (by omega) h5.y0) (c _ _ _ (by omega) h5.y1) (c _ _ _ (by omega) h5.y2) h0
set_option maxRecDepth 100000 in
set_option maxHeartbeats 4000000 in
theorem implAble_any (p1 p2 s1 s2 s3 : Option Addr) (a1 a2 c1 c2 c3 lo hi lo' hi' : Nat) (p : PD) (d : SD) (w : World) (hP : ProgR w lo hi p1 p2 p) (hS : SrcR w lo' hi' s1 s2 s3 d) (hB : hi ≤ w.heap.size) (hB' : hi' ≤ w.heap.size) (hf : Fits p) (hf' : SFits d) :
  Calls Tryz.prog 18 #[.agg #[.slice p1 p.caps.length a1, .slice p2 p.bods.length a2], .agg #[.slice s1 d.ths.length c1, .slice s2 d.chs.length c2, .slice s3 d.tr.length c3]] w fun e w' => ∃ v, e = .returned v ∧ OwnN w' w.heap.size v (ablB p d) ∧ Below w.heap.size w w' := by
 refine (callsIn_wide (n := 4)).1 ?_
 obtain ⟨i0, hi0, hz0, hz1, hz2⟩ := info_parts infoIntA
 refine callsIn_of_wp_marks Tryz.func18 rfl trivial ?_ rfl
 simp only [Tryz.ntmps18, List.size_toArray, List.length_cons, List.length_nil, Nat.reduceAdd, Nat.reduceSub, Array.replicate_succ, Array.replicate_zero, List.push_toArray, List.append_toArray, List.nil_append, List.cons_append]
 gi_wp2_with (refine ⟨trivial, ?_⟩; gi_at_call 39; refine (callsIn_wide.2 (ableOf_any _ _ _ _ _ _)).mono ?_; rintro e w' ⟨rfl, rfl⟩)
 obtain ⟨W, hW⟩ : ∃ W, ((((w.alloc (.cells #[.slice p1 p.caps.length a1, .slice p2 p.bods.length a2] 27)).alloc (.cells #[.slice s1 d.ths.length c1, .slice s2 d.chs.length c2, .slice s3 d.tr.length c3] 32)).alloc (.cells #[.slice none 0 0] 24)).alloc (.cells #[.slice p1 p.caps.length a1, .slice p2 p.bods.length a2] 27)).alloc (.cells #[.slice s1 d.ths.length c1, .slice s2 d.chs.length c2, .slice s3 d.tr.length c3] 32) = W := ⟨_, rfl⟩
 obtain ⟨h5, hbx⟩ := ab5_new hW
 rw [hW]
 have hzW := h5.z
 have zlt : w.heap.size ≤ W.heap.size := by omega
 refine wpIn_rangeFunc_ownG rfl (by omega) (gf := 56) (lb := #[.pointer (some ⟨w.heap.size + 1 + 1 + 1, 0, none⟩), .pointer (some ⟨w.heap.size + 1 + 1 + 1 + 1, 0, none⟩)]) (by simp [go_sem]) trivial (enters_of Tryz.func56 (by kernel_rfl) rfl)
  (able_stops _ (by omega) p1 p2 s1 s2 s3 a1 a2 c1 c2 c3 lo hi lo' hi' p d w W hP hS hB hB' hf hf' h5) KpB.trans (KpB.put (by omega)) (Below.refl _ _) (fun _ => rfl)
  (fun pre V => (∃ v, Boxed V (w.heap.size + 1 + 1) 24 v ∧ V.ownsRow (w.heap.size + 5) 3 1 v pre.length (pre.map (Value.int .i64)) ∧ True) ∧ Below w.heap.size W V)
  (fun _ _ _ => False)
  (OwnFrom.and (Own.from (holdsRow_own (w.heap.size + 5) (w.heap.size + 1 + 1) 24 3 1 (fun pre : List Int => pre.length) (fun pre => pre.map (Value.int .i64)) (fun _ _ => True)) _) (ownFrom_below zlt zlt))
  (fun _ _ _ _ _ hs _ _ => hs)
  ⟨⟨_, hbx, World.ownsRow_nil _ _ _ _, trivial⟩, Below.refl _ _⟩
  (fun x => { tmps := #[.agg #[.slice p1 p.caps.length a1, .slice p2 p.bods.length a2], .agg #[.slice s1 d.ths.length c1, .slice s2 d.chs.length c2, .slice s3 d.tr.length c3], .pointer (some ⟨w.heap.size, 0, none⟩), .pointer (some ⟨w.heap.size + 1, 0, none⟩), .slice none 0 0, .pointer (some ⟨w.heap.size + 1 + 1, 0, none⟩), .int .i64 x, .agg #[.slice p1 p.caps.length a1, .slice p2 p.bods.length a2], .agg #[.slice s1 d.ths.length c1, .slice s2 d.chs.length c2, .slice s3 d.tr.length c3], .func (.func 56) #[] #[.pointer (some ⟨w.heap.size + 1 + 1 + 1, 0, none⟩), .pointer (some ⟨w.heap.size + 1 + 1 + 1 + 1, 0, none⟩)], .int .i64 x, undef, undef, undef, undef, undef], defers := [] }) ?assign ?body ?done ?stop
 case assign =>
  intro l x V K hK
  gi_wp2
  exact hK
 case body =>
  rintro l pre x V ⟨⟨v, hv, hrow, -⟩, hBl⟩ hlt
  have hc := hv.cell
  have hzV := hBl.size
  have hbV := hv.lt
  gi_wp2_with (gi_at_builtin; refine wpListIn_append_own _ rfl _ _ 24 rfl (w.heap.size + 5) 3 i0 (.int .i64 0) 1 8 Tryz.underlying24 hi0 hz0 hz1 hz2 rfl (by decide) _ _ _ rfl (hrow.alloc _) ⟨V.heap.size, 0, none⟩ 1 1 [.int .i64 x] rfl rfl (cell_one_new _ _ _) (by simp [Value.oneCell']) (by unfold maxLen; omega) (by omega) (by first | omega | (simp; omega)) ?_; intro v' w1 hown' hgrow _; obtain ⟨g', cap', rfl⟩ := ownsRow_succ hown'; obtain ⟨hv1, hv2, hr2, hk2, hb2⟩ := hv.appended (by decide) (ownLow' hrow (Nat.le_add_right _ 5)) (by omega) (by omega) (ownLow' hown' (Nat.le_add_right _ 5)) hgrow; have hc1 := hv1.cell; have hf1 := hv1.frozen)
  refine ⟨hk2.from _, ⟨hb2.size, fun q hq hne => ?_⟩, ⟨⟨_, hv2, ?_, trivial⟩, hBl.trans hb2⟩⟩
  ·refine (Below.heap_setCell _ _ _ q hne).trans ((hgrow.block q (by simp; omega) (fun e => ?_)).trans (Below.heap_alloc _ _ _ (by omega)))
   have := (World.ownsRow.lt hrow _ e.symm).1
   omega
  ·have q := hown'.kept (grownBy_setCell' w1 (w.heap.size + 1 + 1) (.slice (some ⟨g', 0, none⟩) (pre.length + 1) cap')) (.inr (hv1.not_row (by decide) hown').symm)
   simpa using q
 case done =>
  rintro D ys V hD rfl ⟨⟨v, hv, hrow, -⟩, hBl⟩ hK
  have hc := hv.cell
  gi_wp2
  refine ⟨by simp, .inl ⟨_, _, rfl, run_takeDeferred hK, ?_⟩⟩
  exact ⟨_, results_tmp rfl _ _ _, v, rfl, ownLow' (ownsRow_putObj hrow _ hK rfl) (by omega), (h5.b.trans hBl).trans (belowK_b (w := w) (Nat.le_refl _) V D _ _ (by omega) hK rfl rfl)⟩
 case stop =>
  rintro D c pre V _ _ h _
  exact h.elim
set_option maxRecDepth 100000 in
set_option maxHeartbeats 4000000 in
theorem anyAble_any (p1 p2 s1 s2 s3 : Option Addr) (a1 a2 c1 c2 c3 lo hi lo' hi' : Nat) (p : PD) (d : SD) (w : World) (hP : ProgR w lo hi p1 p2 p) (hS : SrcR w lo' hi' s1 s2 s3 d) (hB : hi ≤ w.heap.size) (hB' : hi' ≤ w.heap.size) (hf : Fits p) (hf' : SFits d) :
  Calls Tryz.prog 38 #[.agg #[.slice p1 p.caps.length a1, .slice p2 p.bods.length a2], .agg #[.slice s1 d.ths.length c1, .slice s2 d.chs.length c2, .slice s3 d.tr.length c3]] w fun e w' => e = .returned (.bool (decide (ablB p d ≠ []))) ∧ Below w.heap.size w w' := by
 refine (callsIn_wide (n := 4)).1 ?_
 refine callsIn_of_wp_marks Tryz.func38 rfl trivial ?_ rfl
 simp only [Tryz.ntmps38, List.size_toArray, List.length_cons, List.length_nil, Nat.reduceAdd, Nat.reduceSub, Array.replicate_succ, Array.replicate_zero, List.push_toArray, List.append_toArray, List.nil_append, List.cons_append]
 gi_wp2_with (refine ⟨trivial, ?_⟩; gi_at_call 39; refine (callsIn_wide.2 (ableOf_any _ _ _ _ _ _)).mono ?_; rintro e w' ⟨rfl, rfl⟩)
 obtain ⟨W, hW⟩ : ∃ W, ((((w.alloc (.cells #[.slice p1 p.caps.length a1, .slice p2 p.bods.length a2] 27)).alloc (.cells #[.slice s1 d.ths.length c1, .slice s2 d.chs.length c2, .slice s3 d.tr.length c3] 32)).alloc (.cells #[.bool false] 4)).alloc (.cells #[.slice p1 p.caps.length a1, .slice p2 p.bods.length a2] 27)).alloc (.cells #[.slice s1 d.ths.length c1, .slice s2 d.chs.length c2, .slice s3 d.tr.length c3] 32) = W := ⟨_, rfl⟩
 obtain ⟨h5, hbx⟩ := ab5_new hW
 rw [hW]
 have hzW := h5.z
 have zlt : w.heap.size ≤ W.heap.size := by omega
 refine wpIn_rangeFunc_ownG rfl (by omega) (gf := 56) (lb := #[.pointer (some ⟨w.heap.size + 1 + 1 + 1, 0, none⟩), .pointer (some ⟨w.heap.size + 1 + 1 + 1 + 1, 0, none⟩)]) (by simp [go_sem]) trivial (enters_of Tryz.func56 (by kernel_rfl) rfl)
  (able_stops _ (by omega) p1 p2 s1 s2 s3 a1 a2 c1 c2 c3 lo hi lo' hi' p d w W hP hS hB hB' hf hf' h5) KpB.trans (KpB.put (by omega)) (Below.refl _ _) (fun _ => rfl)
  (fun pre V => (pre = [] ∧ Boxed V (w.heap.size + 1 + 1) 4 (.bool false)) ∧ Below w.heap.size W V)
  (fun c pre V => (c = .ret ∧ Boxed V (w.heap.size + 1 + 1) 4 (.bool true)) ∧ Below w.heap.size W V)
  (OwnFrom.and (Own.from (fun s A B row hs hg hr => ⟨hs.1, hs.2.kept hg (fun e => by obtain ⟨o, ho, hc⟩ := hr _ e.symm; rw [show A.heap[w.heap.size + 1 + 1]? = _ from hs.2] at ho; cases ho; cases hc)⟩) _) (ownFrom_below zlt zlt))
  (fun c => OwnFrom.and (Own.from (fun s A B row hs hg hr => ⟨hs.1, hs.2.kept hg (fun e => by obtain ⟨o, ho, hc⟩ := hr _ e.symm; rw [show A.heap[w.heap.size + 1 + 1]? = _ from hs.2] at ho; cases ho; cases hc)⟩) _) (ownFrom_below zlt zlt))
  ⟨⟨rfl, hbx⟩, Below.refl _ _⟩
  (fun x => { tmps := #[.agg #[.slice p1 p.caps.length a1, .slice p2 p.bods.length a2], .agg #[.slice s1 d.ths.length c1, .slice s2 d.chs.length c2, .slice s3 d.tr.length c3], .pointer (some ⟨w.heap.size, 0, none⟩), .pointer (some ⟨w.heap.size + 1, 0, none⟩), .pointer (some ⟨w.heap.size + 1 + 1, 0, none⟩), .agg #[.slice p1 p.caps.length a1, .slice p2 p.bods.length a2], .agg #[.slice s1 d.ths.length c1, .slice s2 d.chs.length c2, .slice s3 d.tr.length c3], .func (.func 56) #[] #[.pointer (some ⟨w.heap.size + 1 + 1 + 1, 0, none⟩), .pointer (some ⟨w.heap.size + 1 + 1 + 1 + 1, 0, none⟩)], .int .i64 x], defers := [] }) ?assign ?body ?done ?stop
 case assign =>
  intro l x V K hK
  gi_wp2
  simpa using hK
 case body =>
  rintro l pre x V ⟨⟨he, hv⟩, hBl⟩ hlt
  have hc := hv.cell
  have hfz := hv.frozen
  gi_wp2
  exact ⟨(KeepsOthers.setCell _ _ _).from _, ⟨rfl, hv.set _⟩, hBl.setCell (p := ⟨w.heap.size + 1 + 1, 0, none⟩) (by show w.heap.size ≤ w.heap.size + 1 + 1; omega) _⟩
 case done =>
  rintro D ys V hD rfl ⟨⟨he, hv⟩, hBl⟩ hK
  have hc := hv.cell
  have hfz := hv.frozen
  gi_wp2
  have hK' := (KeepsOthers.setCell V ⟨w.heap.size + 1 + 1, 0, none⟩ (.bool false)).same D _ hK rfl
  refine ⟨by simp, .inl ⟨_, _, rfl, run_takeDeferred hK', ?_⟩⟩
  have hc5 := cell_kept (World.cell?_setCell_same' V ⟨w.heap.size + 1 + 1, 0, none⟩ (.bool false) (by rw [hc]; rfl)) (grownBy_putObj' _ D (.deferred none)) (fun r e => by cases e; exact ⟨_, hK', rfl⟩)
  refine ⟨.bool false, ?_, by simp [he], ((h5.b.trans hBl).setCell (p := ⟨w.heap.size + 1 + 1, 0, none⟩) (by show w.heap.size ≤ w.heap.size + 1 + 1; omega) _).trans (belowK_b (w := w) (Nat.le_refl _) _ D _ _ (by omega) hK' rfl rfl)⟩
  simp [results, Tryz.f38, go_sem, hc5]
 case stop =>
  rintro D c pre V hD hpre ⟨⟨rfl, hv⟩, hBl⟩ hK
  gi_wp2
  refine ⟨by simp, .inl ⟨_, _, rfl, run_takeDeferred hK, ?_⟩⟩
  have hc5 := cell_kept hv.cell (grownBy_putObj' _ D (.deferred none)) (fun r e => by cases e; exact ⟨_, hK, rfl⟩)
  refine ⟨.bool true, ?_, by
   have : ablB p d ≠ [] := fun e => hpre.2 (List.prefix_nil.1 (e ▸ hpre.1))
   simp [this], (h5.b.trans hBl).trans (belowK_b (w := w) (Nat.le_refl _) V D _ _ (by omega) hK rfl rfl)⟩
  simp [results, Tryz.f38, go_sem, hc5]
end
section
set_option linter.unusedSimpArgs false
set_option linter.unusedVariables false
set_option maxRecDepth 100000
open Go.RowKit
/- the two boxes ahead, kept -/
structure B2 (w V : World) (v1 v2 u1 u2 u3 : Value) : Prop where
 x0 : V.cell? ⟨w.heap.size, 0, none⟩ = some v1
 x1 : V.cell? ⟨w.heap.size, 1, none⟩ = some v2
 y0 : V.cell? ⟨w.heap.size + 1, 0, none⟩ = some u1
 y1 : V.cell? ⟨w.heap.size + 1, 1, none⟩ = some u2
 y2 : V.cell? ⟨w.heap.size + 1, 2, none⟩ = some u3
 k : Below w.heap.size w V
 z : w.heap.size + 1 + 1 ≤ V.heap.size
theorem b2_new {w W : World} {a b c d e : Value} {T T' : TypeId} (hW : (w.alloc (.cells #[a, b] T)).alloc (.cells #[c, d, e] T') = W) : B2 w W a b c d e := by
 obtain ⟨ka, z0, z1, ⟨x0, x1⟩, y0, y1, y2⟩ := fiveB hW
 exact ⟨x0, x1, y0, y1, y2, ka, z1⟩
theorem B2.below {w V V' : World} {a b c d e : Value} {B : Nat} (h : B2 w V a b c d e) (hb : Below B V V') (hB : w.heap.size + 1 + 1 ≤ B) : B2 w V' a b c d e :=
 ⟨(hb.cell (p := ⟨w.heap.size, 0, none⟩) (by show w.heap.size < B; omega)).trans h.x0, (hb.cell (p := ⟨w.heap.size, 1, none⟩) (by show w.heap.size < B; omega)).trans h.x1, (hb.cell (p := ⟨w.heap.size + 1, 0, none⟩) (by show w.heap.size + 1 < B; omega)).trans h.y0, (hb.cell (p := ⟨w.heap.size + 1, 1, none⟩) (by show w.heap.size + 1 < B; omega)).trans h.y1, (hb.cell (p := ⟨w.heap.size + 1, 2, none⟩) (by show w.heap.size + 1 < B; omega)).trans h.y2, h.k.trans (hb.mono (by omega)), Nat.le_trans h.z hb.size⟩
set_option maxHeartbeats 4000000 in
theorem specAble_any (p1 p2 s1 s2 s3 : Option Addr) (a1 a2 c1 c2 c3 lo hi lo' hi' : Nat) (p : PD) (d : SD) (w : World) (hP : ProgR w lo hi p1 p2 p) (hS : SrcR w lo' hi' s1 s2 s3 d) (hB : hi ≤ w.heap.size) (hB' : hi' ≤ w.heap.size) (hf : Fits p) (hf' : SFits d) :
  Calls Tryz.prog 20 #[.agg #[.slice p1 p.caps.length a1, .slice p2 p.bods.length a2], .agg #[.slice s1 d.ths.length c1, .slice s2 d.chs.length c2, .slice s3 d.tr.length c3]] w fun e w' => ∃ v, e = .returned v ∧ OwnN w' w.heap.size v (ablB p d) ∧ Below w.heap.size w w' := by
 obtain ⟨W, hW⟩ : ∃ W, (w.alloc (.cells #[.slice p1 p.caps.length a1, .slice p2 p.bods.length a2] 27)).alloc (.cells #[.slice s1 d.ths.length c1, .slice s2 d.chs.length c2, .slice s3 d.tr.length c3] 32) = W := ⟨_, rfl⟩
 have b2 := b2_new hW
 have eW : W.heap.size = w.heap.size + 1 + 1 := by rw [← hW]; simp
 obtain ⟨V, hV⟩ : ∃ V, W.alloc (.cells #[] 3) = V := ⟨_, rfl⟩
 have ON := hidW (show OwnN V (w.heap.size + 1 + 1) (.slice (some ⟨w.heap.size + 1 + 1, 0, none⟩) 0 0) [] from by rw [← hV, ← eW]; exact ownN_empty (Nat.le_refl _))
 have BV := hidW (b2.below (show Below W.heap.size W V from by rw [← hV]; exact (Below.refl _ _).alloc (Nat.le_refl _) _) (by omega))
 have HW := hidW hW
 have HV := hidW hV
 have H := hidW hP
 have H' := hidW hS
 have HF := hidW hf
 have HF' := hidW hf'
 have hl : d.ths.length ≤ 1048576 := hf'.1.1
 obtain ⟨R, hR⟩ : ∃ R, ablB p d = R := ⟨_, rfl⟩
 have ER := hidW hR
 rw [hR]
 clear b2 eW hW hV hP hS hf hf' hR
 go_enter Tryz.func20, Tryz.ntmps20
 go_upto_region 2 with fail
 rw [HW.out, HV.out]
 go_wp2_with fail
 go_loopw [5, 6] (fun u i wr => ∃ k : Nat, k ≤ d.ths.length ∧ i = .int .i64 k ∧ OwnN wr (w.heap.size + 1 + 1) u (ablN p d k) ∧ B2 w wr (.slice p1 p.caps.length a1) (.slice p2 p.bods.length a2) (.slice s1 d.ths.length c1) (.slice s2 d.chs.length c2) (.slice s3 d.tr.length c3) ∧ (srcB p d = true ∨ k = 0)) (fun _ i _ => d.ths.length - (intOf i).toNat)
 case atStart => exact ⟨0, Nat.zero_le _, rfl, ON.out, BV.out, .inr rfl⟩
 case round =>
  obtain ⟨k, hk, rfl, on, bb, hor⟩ := hrel
  have ONk := hidW on
  have BBk := hidW bb
  obtain ⟨su, cu, eu⟩ := on.sl
  subst eu
  have zr := bb.z
  obtain ⟨x0, x1, y0, y1, y2, kb, -⟩ := bb
  have KB := hidW kb
  have HOR := hidW hor
  clear on kb hor
  by_cases hlt : k < d.ths.length
  ·have hki : (k : Int) < (d.ths.length : Int) := by omega
   go_wp2_with fail
   refine (specSource_any p1 p2 s1 s2 s3 a1 a2 c1 c2 c3 lo hi lo' hi' p d wr (H.out.keep' (Keep.of_below KB.out hB)) (H'.out.keep (Keep.of_below KB.out hB')) (by omega) (by omega) HF.out HF'.out).mono ?_
   rintro e w1 ⟨rfl, hb1⟩
   have B1 := hidW (BBk.out.below hb1 zr)
   have ON1 := hidW (ONk.out.keep (fun q _ hq => hb1.block q hq))
   have z1 := hb1.size
   clear hb1 x0 x1 y0 y1 y2
   cases hy : srcB p d with
   | false =>
    have E1 := hidW (show ablN p d k = R from by
     rcases HOR.out with h | h
     ·rw [hy] at h; cases h
     ·rw [← ER.out, h]; unfold ablB; rw [hy]; rfl)
    clear hy
    go_wp2
    go_ret
    have o9 := ON1.out
    rw [E1.out] at o9
    rw [E1.out]
    exact ⟨_, rfl, ownLow' o9 (by omega), B1.out.k⟩
   | true =>
    have HY := hidW hy
    clear hy
    obtain ⟨x0, x1, y0, y1, y2, kb1, zb1⟩ := B1.out
    have EN := hidW (show ablN p d (k + 1) = if stepK p d k = 0 then ablN p d k ++ [(k : Int)] else ablN p d k from rfl)
    have HAL := hidW (ablN_len p d k)
    have T := hidW (specStep_any p1 p2 s1 s2 s3 a1 a2 c1 c2 c3 lo hi lo' hi' p d k w1 (H.out.keep' (Keep.of_below kb1 hB)) (H'.out.keep (Keep.of_below kb1 hB')) (by omega) (by omega) HF.out HF'.out)
    obtain ⟨KK, hKK⟩ : ∃ K, stepK p d k = K := ⟨_, rfl⟩
    rw [stepKb_of HY.out, hKK] at T
    rw [hKK] at EN
    obtain ⟨DD, hDD⟩ : ∃ D, stepSb p d k = D := ⟨_, rfl⟩
    rw [hDD] at T
    generalize ablN p d k = A at ONk ON1 EN HAL
    clear hKK hDD kb1
    go_wp2_with fail
    refine Calls.mono T.out ?_
    rintro e w2 ⟨f1, g1, f2, g2, f3, g3, M1, M2, rfl, -, hb2⟩
    have z2 := hb2.size
    obtain ⟨W8, hW8, -, k8, z8⟩ := BoF.new w2 (.slice f1 DD.ths.length g1) (.slice f2 DD.chs.length g2) (.slice f3 DD.tr.length g3) 32
    have B8 := hidW ((B1.out.below hb2 zb1).below k8 (by omega))
    have ON8 := hidW ((ON1.out.keep (fun q _ hq => hb2.block q hq)).keep (fun q _ hq => k8.block q hq))
    have HW8 := hidW hW8
    have z88 : w.heap.size + 1 + 1 ≤ W8.heap.size := by omega
    clear hb2 hW8 k8 z8 T x0 x1 y0 y1 y2
    go_upto_region 6 with fail
    rw [HW8.out]
    by_cases hK : KK = 0
    ·subst hK
     go_wp2_with (at_builtin; refine app_one rfl _ _ rfl W8 (k : Int) (w.heap.size + 1 + 1) (.slice su A.length cu) A rfl ON8.out rfl (by have := HAL.out; omega) z88 ?_; intro g5 cap5 w5 ho5 hb5 hs5; have O5 := hidW ho5; have B5 := hidW (B8.out.below hb5 (Nat.le_refl _)); clear ho5 hb5)
     go_roundw
     case rel => exact ⟨k + 1, by omega, by go_num, by rw [EN.out]; exact O5.out, B5.out, .inl HY.out⟩
     case measure => simp [intOf]; omega
    ·have hK0 : (KK == 0) = false := by simp [hK]
     go_wp2
     go_roundw
     case rel => exact ⟨k + 1, by omega, by go_num, by rw [EN.out, if_neg hK]; exact ON8.out, B8.out, .inl HY.out⟩
     case measure => simp [intOf]; omega
  ·have ek : k = d.ths.length := by omega
   have E1 := hidW (show ablN p d k = R from by
    rw [← ER.out]
    unfold ablB
    by_cases hy : srcB p d = true
    ·rw [if_pos hy, ek]
    ·rw [if_neg hy]
     rcases HOR.out with h | h
     ·exact absurd h hy
     ·rw [h]; rfl)
   clear ek
   go_wp2
   go_ret
   have o9 := ONk.out
   rw [E1.out] at o9
   rw [E1.out]
   exact ⟨_, rfl, ownLow' o9 (by omega), KB.out⟩
/- somebody runs -/
def runsB (l : List TD) : Bool := l.any fun t => t.st == 0
theorem runs_yes {l : List TD} {k : Nat} {t : TD} (h : l[k]? = some t) (h0 : t.st = 0) : runsB l = true := by
 unfold runsB
 rw [List.any_eq_true]
 exact ⟨t, List.mem_of_getElem? h, by simp [h0]⟩
theorem runs_no {l : List TD} (h : ∀ (i : Nat) (t : TD), l[i]? = some t → ¬ t.st = 0) : runsB l = false := by
 unfold runsB
 rw [List.any_eq_false]
 intro t ht
 obtain ⟨i, hi⟩ := List.getElem?_of_mem ht
 simpa using h i t hi
noncomputable def stuB (p : PD) (d : SD) : Bool := srcB p d && (runsB d.ths && decide (ablB p d = []))
set_option maxHeartbeats 2000000 in
theorem anyRuns_any (s : Option Addr) (c lo hi : Nat) (l : List TD) (w : World) (h : RecsR w lo hi s (l.map TD.rec3)) (hB : hi ≤ w.heap.size) (hl : l.length ≤ 1048576) :
  Calls Tryz.prog 37 #[.slice s l.length c] w fun e w' => e = .returned (.bool (runsB l)) ∧ Below w.heap.size w w' := by
 have H := hidW h
 clear h
 obtain ⟨R, hR⟩ : ∃ R, runsB l = R := ⟨_, rfl⟩
 have ER := hidW hR
 rw [hR]
 clear hR
 go_enter Tryz.func37, Tryz.ntmps37
 go_wp2
 go_loopw [7] (fun i wr => ∃ k : Nat, k ≤ l.length ∧ i = .int .i64 k ∧ Below w.heap.size w wr ∧ (∀ (i : Nat) (t : TD), i < k → l[i]? = some t → ¬ t.st = 0)) (fun i _ => l.length - (intOf i).toNat)
 case atStart => exact ⟨0, Nat.zero_le _, rfl, Below.refl _ _, fun i t h => absurd h (Nat.not_lt_zero _)⟩
 case round =>
  obtain ⟨k, hk, rfl, kb, hno⟩ := hrel
  have KB := hidW kb
  have HNO := hidW hno
  have zr := kb.size
  clear hno
  by_cases hlt : k < l.length
  ·have hki : (k : Int) < (l.length : Int) := by omega
   have b0 : (0 : Int) ≤ (k : Int) := by omega
   obtain ⟨t, ht⟩ : ∃ t, l[k]? = some t := ⟨_, List.getElem?_eq_getElem hlt⟩
   obtain ⟨g, o, s', c', es, hg, f0, f1, f2, -⟩ := RecsR.thr H.out hB kb ht
   subst es
   have HT := hidW ht
   clear ht kb
   obtain ⟨tp, tr, ts⟩ := t
   simp only at f0 f1 f2
   by_cases h0 : ts = 0
   ·subst h0
    have E := hidW (show R = true from by rw [← ER.out]; exact runs_yes HT.out rfl)
    go_wp2
    go_ret
    rw [E.out]
    exact ⟨rfl, KB.out.alloc zr _⟩
   ·have h00 : (ts == 0) = false := by simp [h0]
    go_wp2
    go_roundw
    case rel => exact ⟨k + 1, by omega, by go_num, KB.out.alloc zr _, fun i t hi ht => by
     by_cases e : i = k
     ·subst e
      rw [HT.out] at ht
      injection ht with ht
      subst ht
      exact h0
     ·exact HNO.out i t (by omega) ht⟩
    case measure => simp [intOf]; omega
  ·have E := hidW (show R = false from by rw [← ER.out]; exact runs_no (fun i t ht => HNO.out i t (by have := (List.getElem?_eq_some_iff.1 ht).1; omega) ht))
   go_wp2
   go_ret
   rw [E.out]
   exact ⟨rfl, KB.out⟩
end
end Go.Proofs.YtknffngbdakblaaGreat
