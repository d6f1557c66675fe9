/- A turn, whoever takes it. Conditions: program and source are right. SourceStep of the program. Conditions: program and source fit. Reads and Sets, of the program and of the specification, at every Ins, in every world: each hands back, in new memory, the list that the plain law says; it turns nothing. No condition. -/
import Derived.Test.YteefnjngcnebpaaGreatJG00
import Derived.Test.YteefnjngcnebpaaGreatJG07
import Derived.Test.YteefnjngcnebpaaGreatJStepIm9
import Derived.Test.YteefnjngcnebpaaGreatJG06
import Derived.Test.YteefnjngcnebpaaGreatJG08
import Derived.Test.YteefnjngcnebpaaGreatJG02
import Derived.Test.YteefnjngcnebpaaGreatJG01
import Derived.Test.YteefnjngcnebpaaGreatJStepIm10
import Derived.Test.YteefnjngcnebpaaGreatJG10
import Derived.Test.YteefnjngcnebpaaGreatJG05
import Derived.Test.YteefnjngcnebpaaGreatJG14
import Derived.Test.YteefnjngcnebpaaGreatJSrcDup
import Derived.Test.YteefnjngcnebpaaGreatJLeaves
import Derived.Test.YteefnjngcnebpaaGreatJPlaces
import Derived.Test.YteefnjngcnebpaaGreatJG18
namespace Go.Proofs.YteefnjngcnebpaaGreat
section
set_option linter.unusedSimpArgs false
set_option linter.unusedVariables false
set_option maxRecDepth 100000
open Go.RowKit
theorem turnIn_any (p1 p2 : Option Addr) (a1 a2 lo hi base S : Nat) (p : PD) (v1 v2 v3 : Value) (L1 L2 : List (Rec × Value)) (d : SD) (who : Int) (w : World) (hP : ProgR w lo hi p1 p2 p) (hB : hi ≤ base) (hO : OwnS w base v1 v2 v3 L1 L2 d) (hS : BoF S w v1 v2 v3) (hbs : BxS w S) (hb : base ≤ w.heap.size) (hR : Right p d) (hSb : base ≤ S) :
  Calls Tryz.prog 18 #[.agg #[.slice p1 p.caps.length a1, .slice p2 p.bods.length a2], .pointer (some ⟨S, 0, none⟩), .int .i64 who] w fun e w' => TurnP w S base v1 v2 v3 L1 L2 (stepK p d who) (stepS p d who) e w' := by
 by_cases hw : 0 ≤ who ∧ who < (d.ths.length : Int)
 ·obtain ⟨k, rfl⟩ : ∃ k : Nat, who = (k : Int) := ⟨who.toNat, by omega⟩
  obtain ⟨t, ht⟩ : ∃ t, d.ths[k]? = some t := ⟨_, List.getElem?_eq_getElem (by omega)⟩
  have et : thOf d k = t := by unfold thOf; rw [List.getD_eq_getElem?_getD, ht]; rfl
  by_cases hst : t.st = 0
  ·have e3 : stepK p d k = (outOf p d k).code := by unfold stepK; rw [if_pos hw, Int.toNat_natCast, et, if_pos hst]
   have e4 : stepS p d k = if (outOf p d k).code = 0 then doneS d k (outOf p d k) else d := by unfold stepS; rw [e3, Int.toNat_natCast]
   rw [e3, e4]
   by_cases hfu : (insOf p d k).o = 10 ∧ d.tr.length = 4000
   ·have e5 : (outOf p d k).code = 3 := by unfold outOf stepO; simp [hfu.1, hfu.2]
    rw [e5, if_neg (show ¬ (3 : Int) = 0 by decide)]
    exact turn_full p1 p2 a1 a2 lo hi base S p v1 v2 v3 L1 L2 d k t w hP hB hO hS hbs hb hR hSb ht hst hfu
   ·exact turn_run p1 p2 a1 a2 lo hi base S p v1 v2 v3 L1 L2 d k t w hP hB hO hS hbs hb hR hSb ht hst hfu
  ·have e3 : stepK p d k = 3 := by unfold stepK; rw [if_pos hw, Int.toNat_natCast, et, if_neg hst]
   have e4 : stepS p d k = d := by unfold stepS; rw [e3]; rfl
   rw [e3, e4]
   exact turn_over p1 p2 a1 a2 lo hi base S p v1 v2 v3 L1 L2 d k t w hP hB hO hS hbs hb hR hSb ht hst
 ·have e3 : stepK p d who = 2 := by unfold stepK; rw [if_neg hw]
  have e4 : stepS p d who = d := by unfold stepS; rw [e3]; rfl
  rw [e3, e4]
  exact turn_none p1 p2 a1 a2 lo hi base S p v1 v2 v3 L1 L2 d who w hP hB hO hS hbs hb hR hSb hw
end
section
set_option linter.unusedSimpArgs false
set_option linter.unusedVariables false
set_option maxRecDepth 100000
open Go.RowKit
set_option maxHeartbeats 2000000 in
theorem implStep_bad (p1 p2 s1 s2 s3 : Option Addr) (a1 a2 c1 c2 c3 lo hi lo' hi' : Nat) (p : PD) (d : SD) (who : Int) (w : World) (h : ProgR w lo hi p1 p2 p) (h' : SrcR w lo' hi' s1 s2 s3 d) (hB : hi ≤ w.heap.size) (hB' : hi' ≤ w.heap.size) (hf : Fits p) (hf' : SFits d) (hy : srcB p d = false) :
  Calls Tryz.prog 6 #[.agg #[.slice p1 p.caps.length a1, .slice p2 p.bods.length a2], .agg #[.slice s1 d.ths.length c1, .slice s2 d.chs.length c2, .slice s3 d.tr.length c3], .int .i64 who] w (SStepQ w 1 ⟨[], [], []⟩) := by
 have HY := hidW hy
 clear hy
 obtain ⟨W, hW⟩ : ∃ W, ((w.alloc (.cells #[.slice p1 p.caps.length a1, .slice p2 p.bods.length a2] 27)).alloc (.cells #[.slice s1 d.ths.length c1, .slice s2 d.chs.length c2, .slice s3 d.tr.length c3] 32)).alloc (.cells #[.slice none 0 0, .slice none 0 0, .slice none 0 0] 32) = W := ⟨_, rfl⟩
 obtain ⟨bc, kW⟩ := br_new hW
 have HW := hidW hW
 have H := hidW h
 have H' := hidW h'
 have HF := hidW hf
 have HF' := hidW hf'
 have BC0 := hidW bc
 have KW := hidW kW
 have zW := kW.size
 obtain ⟨m0, m1, ⟨v0, v1, v2, fs, zs⟩, ⟨r0, r1, r2, fa, za⟩, ba, zz⟩ := bc
 clear hW kW h h' hf hf'
 go_enter Tryz.func6, Tryz.ntmps6
 go_wp2_with fail
 rw [HW.out]
 refine (implSource_any p1 p2 s1 s2 s3 a1 a2 c1 c2 c3 lo hi lo' hi' p d W (H.out.keep' (Keep.of_below KW.out hB)) (H'.out.keep (Keep.of_below KW.out hB')) (by omega) (by omega) HF.out HF'.out).mono ?_
 rintro e w1 ⟨rfl, hb1⟩
 rw [HY.out]
 have bc1 := BC0.out.below hb1 zz
 have BC := hidW bc1
 have K1 := hidW (KW.out.trans (hb1.mono (by omega)))
 have z1 := hb1.size
 clear hb1 m0 m1 v0 v1 v2 fs zs r0 r1 r2 fa za ba zz
 obtain ⟨m0, m1, ⟨v0, v1, v2, fs, zs⟩, ⟨r0, r1, r2, fa, za⟩, ba, zz⟩ := bc1
 go_wp2
 obtain ⟨Z, hZ, bz, oz, kz⟩ := BC.out.put (.slice none 0 0) (.slice none 0 0) (.slice none 0 0)
 refine bodyPost_ret (v := .tuple #[.agg #[.slice none 0 0, .slice none 0 0, .slice none 0 0], .int .i64 1]) ?_ rfl ?_
 ·rw [hZ]
  simp [results, Tryz.results6, go_sem, bz.c0, bz.c1, bz.c2]
 ·rw [hZ]
  exact ⟨none, 0, none, 0, none, 0, [], [], rfl, oz _ _ _ _ _ _ _ (OwnS.nil _ _), kz _ _ K1.out (by omega)⟩
set_option maxHeartbeats 4000000 in
theorem implStep_go (p1 p2 s1 s2 s3 : Option Addr) (a1 a2 c1 c2 c3 lo hi lo' hi' : Nat) (p : PD) (d : SD) (who : Int) (w : World) (h : ProgR w lo hi p1 p2 p) (h' : SrcR w lo' hi' s1 s2 s3 d) (hB : hi ≤ w.heap.size) (hB' : hi' ≤ w.heap.size) (hf : Fits p) (hf' : SFits d) (hy : srcB p d = true) :
  Calls Tryz.prog 6 #[.agg #[.slice p1 p.caps.length a1, .slice p2 p.bods.length a2], .agg #[.slice s1 d.ths.length c1, .slice s2 d.chs.length c2, .slice s3 d.tr.length c3], .int .i64 who] w (SStepQ w (stepK p d who) (stepS p d who)) := by
 obtain ⟨KK, hKK⟩ : ∃ K, stepK p d who = K := ⟨_, rfl⟩
 obtain ⟨DD, hDD⟩ : ∃ D, stepS p d who = D := ⟨_, rfl⟩
 rw [hKK, hDD]
 have HKK := hidW hKK
 have HDD := hidW hDD
 have HY := hidW hy
 have HR := hidW (right_of hy)
 clear hy hKK hDD
 obtain ⟨W, hW⟩ : ∃ W, ((w.alloc (.cells #[.slice p1 p.caps.length a1, .slice p2 p.bods.length a2] 27)).alloc (.cells #[.slice s1 d.ths.length c1, .slice s2 d.chs.length c2, .slice s3 d.tr.length c3] 32)).alloc (.cells #[.slice none 0 0, .slice none 0 0, .slice none 0 0] 32) = W := ⟨_, rfl⟩
 obtain ⟨bc, kW⟩ := br_new hW
 have HW := hidW hW
 have H := hidW h
 have H' := hidW h'
 have HF := hidW hf
 have HF' := hidW hf'
 have BC0 := hidW bc
 have KW := hidW kW
 have zW := kW.size
 obtain ⟨m0, m1, ⟨v0, v1, v2, fs, zs⟩, ⟨r0, r1, r2, fa, za⟩, ba, zz⟩ := bc
 clear hW kW h h' hf hf'
 go_enter Tryz.func6, Tryz.ntmps6
 go_wp2_with fail
 rw [HW.out]
 refine (implSource_any p1 p2 s1 s2 s3 a1 a2 c1 c2 c3 lo hi lo' hi' p d W (H.out.keep' (Keep.of_below KW.out hB)) (H'.out.keep (Keep.of_below KW.out hB')) (by omega) (by omega) HF.out HF'.out).mono ?_
 rintro e w1 ⟨rfl, hb1⟩
 rw [HY.out]
 have bc1 := BC0.out.below hb1 zz
 have BC := hidW bc1
 have K1 := hidW (KW.out.trans (hb1.mono (by omega)))
 have z1 := hb1.size
 clear hb1 m0 m1 v0 v1 v2 fs zs r0 r1 r2 fa za ba zz
 obtain ⟨m0, m1, ⟨v0, v1, v2, fs, zs⟩, ⟨r0, r1, r2, fa, za⟩, ba, zz⟩ := bc1
 go_wp2_with fail
 refine (implDup_any s1 s2 s3 c1 c2 c3 lo' hi' d w1 (H'.out.keep (Keep.of_below K1.out hB')) (by omega) HF'.out).mono ?_
 rintro e w5 ⟨u1, u2, u3, L1, L2, rfl, ho5, hb5⟩
 obtain ⟨t1, e1, t2, e2, t3, e3, rfl, rfl, rfl, -⟩ := ho5.src
 have O5 := hidW ho5
 have z5 := hb5.size
 obtain ⟨W6, hW6, b6, k6, z6⟩ := BoF.new w5 (.slice t1 d.ths.length e1) (.slice t2 d.chs.length e2) (.slice t3 d.tr.length e3) 32
 have HW6 := hidW hW6
 have HX6 := hidW (show BxS W6 w5.heap.size from ⟨_, _, by rw [← hW6]; exact heap_alloc_new _ _⟩)
 have B6 := hidW b6
 have K56 := hidW k6
 have K16 := hidW (hb5.trans (k6.mono z5))
 have zz1 := zz
 have bc5 := BC.out.below hb5 zz
 clear ho5 hb5 hW6 b6 k6 m0 m1 v0 v1 v2 fs zs r0 r1 r2 fa za ba zz
 obtain ⟨m0, m1, ⟨v0, v1, v2, fs, zs⟩, ⟨r0, r1, r2, fa, za⟩, ba, zz⟩ := bc5
 have zp : w.heap.size < w5.heap.size := by omega
 have zp1 : w.heap.size + 1 < w5.heap.size := by omega
 go_wp2_with fail
 rw [HW6.out]
 refine (turnIn_any p1 p2 a1 a2 lo hi w1.heap.size w5.heap.size p _ _ _ L1 L2 d who W6 (H.out.keep' (Keep.of_below (K1.out.trans (K16.out.mono (by omega))) hB)) (by omega) (O5.out.keep (fun x _ hx => K56.out.block x hx)) B6.out HX6.out (by omega) HR.out (by omega)).mono ?_
 rintro e w7 ⟨rfl, s4, n4, c4, M1, M2, tq⟩
 rw [HDD.out] at tq
 rw [HKK.out]
 obtain ⟨x1, y1, x2, y2, x3, y3, q1, q2, q3, -⟩ := tq.o.src
 have tqs := tq.s
 have tqo := tq.o
 have tqb := tq.b
 rw [q1, q2, q3] at tqs tqo
 have TQO := hidW tqo
 have K17 := hidW (K16.out.trans tqb)
 have K7 := hidW (K1.out.trans (K17.out.mono (by omega)))
 have bc7 := BC.out.below K17.out zz1
 have BC7 := hidW bc7
 have z7 := K17.out.size
 clear tq tqo tqb q1 q2 q3 m0 m1 v0 v1 v2 fs zs r0 r1 r2 fa za ba zz
 obtain ⟨m0, m1, ⟨v0, v1, v2, fs, zs⟩, ⟨r0, r1, r2, fa, za⟩, ba, zz⟩ := bc7
 obtain ⟨o0, o1, o2, of, oz0⟩ := tqs
 go_wp2
 obtain ⟨Z, hZ, bz, oz, kz⟩ := BC7.out.put (.slice x1 DD.ths.length y1) (.slice x2 DD.chs.length y2) (.slice x3 DD.tr.length y3)
 refine bodyPost_ret (v := .tuple #[.agg #[.slice x1 DD.ths.length y1, .slice x2 DD.chs.length y2, .slice x3 DD.tr.length y3], .int .i64 KK]) ?_ rfl ?_
 ·rw [hZ]
  simp [results, Tryz.results6, go_sem, bz.c0, bz.c1, bz.c2]
 ·rw [hZ]
  exact ⟨_, _, _, _, _, _, M1, M2, rfl, oz _ _ _ _ _ _ _ (TQO.out.low (by omega)), kz _ _ K7.out (by omega)⟩
theorem implStep_any (p1 p2 s1 s2 s3 : Option Addr) (a1 a2 c1 c2 c3 lo hi lo' hi' : Nat) (p : PD) (d : SD) (who : Int) (w : World) (h : ProgR w lo hi p1 p2 p) (h' : SrcR w lo' hi' s1 s2 s3 d) (hB : hi ≤ w.heap.size) (hB' : hi' ≤ w.heap.size) (hf : Fits p) (hf' : SFits d) :
  Calls Tryz.prog 6 #[.agg #[.slice p1 p.caps.length a1, .slice p2 p.bods.length a2], .agg #[.slice s1 d.ths.length c1, .slice s2 d.chs.length c2, .slice s3 d.tr.length c3], .int .i64 who] w (SStepQ w (stepKb p d who) (stepSb p d who)) := by
 cases hy : srcB p d with
 | false =>
  have e1 : stepKb p d who = 1 := by unfold stepKb; rw [hy]; rfl
  have e2 : stepSb p d who = ⟨[], [], []⟩ := by unfold stepSb; rw [hy]; rfl
  rw [e1, e2]
  exact implStep_bad p1 p2 s1 s2 s3 a1 a2 c1 c2 c3 lo hi lo' hi' p d who w h h' hB hB' hf hf' hy
 | true =>
  have e1 : stepKb p d who = stepK p d who := by unfold stepKb; rw [hy]; rfl
  have e2 : stepSb p d who = stepS p d who := by unfold stepSb; rw [hy]; rfl
  rw [e1, e2]
  exact implStep_go p1 p2 s1 s2 s3 a1 a2 c1 c2 c3 lo hi lo' hi' p d who w h h' hB hB' hf hf' hy
end
section
set_option linter.unusedSimpArgs false
set_option linter.unusedVariables false
set_option maxRecDepth 100000
open Go.RowKit
def Fresh (w w' : World) (v : Value) (l : List Int) : Prop :=
 ∃ (s : Option Addr) (c : Nat), v = .slice s l.length c ∧ Below w.heap.size w w' ∧ (l = [] ∨ ∃ g, s = some ⟨g, 0, none⟩ ∧ w.heap.size ≤ g ∧ g < w'.heap.size ∧ (∀ i, i < l.length → w'.cell? ⟨g, 0 + i, none⟩ = some (.int .i64 (l.getD i 0))) ∧ (∀ i, i < l.length → w'.frozen? ⟨g, 0 + i, none⟩ = false))
theorem Fresh.from {w w1 w' : World} {v : Value} {l : List Int} (hb : Below w.heap.size w w1) (h : Fresh w1 w' v l) : Fresh w w' v l := by
 obtain ⟨s, c, hv, hb1, h⟩ := h
 have hs := hb.size
 refine ⟨s, c, hv, hb.trans (hb1.mono hs), ?_⟩
 rcases h with h | ⟨g, hg, h1, h2, h3⟩
 ·exact .inl h
 ·exact .inr ⟨g, hg, by omega, h2, h3⟩
theorem fresh2 {w w1 : World} (hb : Below w.heap.size w w1) (g : Nat) (hg : g = w1.heap.size) (a b : Int) (T : TypeId) :
  Fresh w (w1.alloc (.cells #[.int .i64 a, .int .i64 b] T)) (.slice (some ⟨g, 0, none⟩) 2 2) [a, b] := by
 subst hg
 have hs := hb.size
 refine ⟨_, _, rfl, hb.alloc hs _, .inr ⟨_, rfl, hs, by simp, ?_, ?_⟩⟩
 ·intro i hi
  match i, hi with
  | 0, _ => simp [go_sem]
  | 1, _ => simp [go_sem]
 ·intro i hi
  match i, hi with
  | 0, _ => simp [go_sem]
  | 1, _ => simp [go_sem]
theorem fresh1 {w w1 : World} (hb : Below w.heap.size w w1) (g : Nat) (hg : g = w1.heap.size) (a : Int) (T : TypeId) :
  Fresh w (w1.alloc (.cells #[.int .i64 a] T)) (.slice (some ⟨g, 0, none⟩) 1 1) [a] := by
 subst hg
 have hs := hb.size
 refine ⟨_, _, rfl, hb.alloc hs _, .inr ⟨_, rfl, hs, by simp, ?_, ?_⟩⟩
 ·intro i hi
  match i, hi with
  | 0, _ => simp [go_sem]
 ·intro i hi
  match i, hi with
  | 0, _ => simp [go_sem]
theorem fresh0 {w w1 : World} (hb : Below w.heap.size w w1) (s : Option Addr) (c : Nat) : Fresh w w1 (.slice s 0 c) [] := ⟨s, c, rfl, hb, .inl rfl⟩
set_option maxRecDepth 100000 in
theorem regsSet_1 (r n : Int) (w : World) : Calls Tryz.prog 29 #[.iface 96 (.agg #[.int .i64 r, .int .i64 n])] w fun e w' => ∃ v, e = .returned v ∧ Fresh w w' v [r] := by
 have y := fun w => asy_1 (.agg #[.int .i64 r, .int .i64 n]) w
 go_enter Tryz.func29, Tryz.ntmps29
 go_wp2
 go_ret
 exact ⟨_, rfl, fresh1 ((Below.refl _ _).alloc (Nat.le_refl _) _) _ (by simp) r _⟩
set_option maxRecDepth 100000 in
theorem regsSet_2 (r a b : Int) (w : World) : Calls Tryz.prog 29 #[.iface 98 (.agg #[.int .i64 r, .int .i64 a, .int .i64 b])] w fun e w' => ∃ v, e = .returned v ∧ Fresh w w' v [r] := by
 have n1 := fun w => asn_1 98 (.agg #[.int .i64 r, .int .i64 a, .int .i64 b]) w (by decide)
 have y := fun w => asy_2 (.agg #[.int .i64 r, .int .i64 a, .int .i64 b]) w
 go_enter Tryz.func29, Tryz.ntmps29
 go_wp2
 go_ret
 exact ⟨_, rfl, fresh1 ((Below.refl _ _).alloc (Nat.le_refl _) _) _ (by simp) r _⟩
set_option maxRecDepth 100000 in
theorem regsSet_3 (r a b : Int) (w : World) : Calls Tryz.prog 29 #[.iface 99 (.agg #[.int .i64 r, .int .i64 a, .int .i64 b])] w fun e w' => ∃ v, e = .returned v ∧ Fresh w w' v [r] := by
 have n1 := fun w => asn_1 99 (.agg #[.int .i64 r, .int .i64 a, .int .i64 b]) w (by decide)
 have n2 := fun w => asn_2 99 (.agg #[.int .i64 r, .int .i64 a, .int .i64 b]) w (by decide)
 have y := fun w => asy_3 (.agg #[.int .i64 r, .int .i64 a, .int .i64 b]) w
 go_enter Tryz.func29, Tryz.ntmps29
 go_wp2
 go_ret
 exact ⟨_, rfl, fresh1 ((Below.refl _ _).alloc (Nat.le_refl _) _) _ (by simp) r _⟩
set_option maxRecDepth 100000 in
theorem regsSet_4 (r a b : Int) (w : World) : Calls Tryz.prog 29 #[.iface 100 (.agg #[.int .i64 r, .int .i64 a, .int .i64 b])] w fun e w' => ∃ v, e = .returned v ∧ Fresh w w' v [r] := by
 have n1 := fun w => asn_1 100 (.agg #[.int .i64 r, .int .i64 a, .int .i64 b]) w (by decide)
 have n2 := fun w => asn_2 100 (.agg #[.int .i64 r, .int .i64 a, .int .i64 b]) w (by decide)
 have n3 := fun w => asn_3 100 (.agg #[.int .i64 r, .int .i64 a, .int .i64 b]) w (by decide)
 have y := fun w => asy_4 (.agg #[.int .i64 r, .int .i64 a, .int .i64 b]) w
 go_enter Tryz.func29, Tryz.ntmps29
 go_wp2
 go_ret
 exact ⟨_, rfl, fresh1 ((Below.refl _ _).alloc (Nat.le_refl _) _) _ (by simp) r _⟩
set_option maxRecDepth 100000 in
theorem regsSet_5 (a n : Int) (w : World) : Calls Tryz.prog 29 #[.iface 107 (.agg #[.int .i64 a, .int .i64 n])] w fun e w' => ∃ v, e = .returned v ∧ Fresh w w' v [] := by
 have n1 := fun w => asn_1 107 (.agg #[.int .i64 a, .int .i64 n]) w (by decide)
 have n2 := fun w => asn_2 107 (.agg #[.int .i64 a, .int .i64 n]) w (by decide)
 have n3 := fun w => asn_3 107 (.agg #[.int .i64 a, .int .i64 n]) w (by decide)
 have n4 := fun w => asn_4 107 (.agg #[.int .i64 a, .int .i64 n]) w (by decide)
 have n6 := fun w => asn_6 107 (.agg #[.int .i64 a, .int .i64 n]) w (by decide)
 have n7 := fun w => asn_7 107 (.agg #[.int .i64 a, .int .i64 n]) w (by decide)
 have n8 := fun w => asn_8 107 (.agg #[.int .i64 a, .int .i64 n]) w (by decide)
 go_enter Tryz.func29, Tryz.ntmps29
 go_wp2
 go_ret
 exact ⟨_, rfl, fresh0 (by first | exact Below.refl _ _ | exact ((Below.refl _ _).alloc (Nat.le_refl _) _) | exact ((Below.refl _ _).alloc (Nat.le_refl _) _).alloc (by simp) _) _ _⟩
set_option maxRecDepth 100000 in
theorem regsSet_6 (r b n : Int) (w : World) : Calls Tryz.prog 29 #[.iface 102 (.agg #[.int .i64 r, .int .i64 b, .int .i64 n])] w fun e w' => ∃ v, e = .returned v ∧ Fresh w w' v [r, b] := by
 have n1 := fun w => asn_1 102 (.agg #[.int .i64 r, .int .i64 b, .int .i64 n]) w (by decide)
 have n2 := fun w => asn_2 102 (.agg #[.int .i64 r, .int .i64 b, .int .i64 n]) w (by decide)
 have n3 := fun w => asn_3 102 (.agg #[.int .i64 r, .int .i64 b, .int .i64 n]) w (by decide)
 have n4 := fun w => asn_4 102 (.agg #[.int .i64 r, .int .i64 b, .int .i64 n]) w (by decide)
 have y := fun w => asy_6 (.agg #[.int .i64 r, .int .i64 b, .int .i64 n]) w
 go_enter Tryz.func29, Tryz.ntmps29
 go_wp2
 go_ret
 exact ⟨_, rfl, fresh2 ((Below.refl _ _).alloc (Nat.le_refl _) _) _ (by simp) r b _⟩
set_option maxRecDepth 100000 in
theorem regsSet_7 (r a n : Int) (w : World) : Calls Tryz.prog 29 #[.iface 104 (.agg #[.int .i64 r, .int .i64 a, .int .i64 n])] w fun e w' => ∃ v, e = .returned v ∧ Fresh w w' v [r] := by
 have n1 := fun w => asn_1 104 (.agg #[.int .i64 r, .int .i64 a, .int .i64 n]) w (by decide)
 have n2 := fun w => asn_2 104 (.agg #[.int .i64 r, .int .i64 a, .int .i64 n]) w (by decide)
 have n3 := fun w => asn_3 104 (.agg #[.int .i64 r, .int .i64 a, .int .i64 n]) w (by decide)
 have n4 := fun w => asn_4 104 (.agg #[.int .i64 r, .int .i64 a, .int .i64 n]) w (by decide)
 have n6 := fun w => asn_6 104 (.agg #[.int .i64 r, .int .i64 a, .int .i64 n]) w (by decide)
 have y := fun w => asy_7 (.agg #[.int .i64 r, .int .i64 a, .int .i64 n]) w
 go_enter Tryz.func29, Tryz.ntmps29
 go_wp2
 go_ret
 exact ⟨_, rfl, fresh1 ((Below.refl _ _).alloc (Nat.le_refl _) _) _ (by simp) r _⟩
set_option maxRecDepth 100000 in
theorem regsSet_8 (r b n : Int) (w : World) : Calls Tryz.prog 29 #[.iface 105 (.agg #[.int .i64 r, .int .i64 b, .int .i64 n])] w fun e w' => ∃ v, e = .returned v ∧ Fresh w w' v [r, b] := by
 have n1 := fun w => asn_1 105 (.agg #[.int .i64 r, .int .i64 b, .int .i64 n]) w (by decide)
 have n2 := fun w => asn_2 105 (.agg #[.int .i64 r, .int .i64 b, .int .i64 n]) w (by decide)
 have n3 := fun w => asn_3 105 (.agg #[.int .i64 r, .int .i64 b, .int .i64 n]) w (by decide)
 have n4 := fun w => asn_4 105 (.agg #[.int .i64 r, .int .i64 b, .int .i64 n]) w (by decide)
 have n6 := fun w => asn_6 105 (.agg #[.int .i64 r, .int .i64 b, .int .i64 n]) w (by decide)
 have n7 := fun w => asn_7 105 (.agg #[.int .i64 r, .int .i64 b, .int .i64 n]) w (by decide)
 have y := fun w => asy_8 (.agg #[.int .i64 r, .int .i64 b, .int .i64 n]) w
 go_enter Tryz.func29, Tryz.ntmps29
 go_wp2
 go_ret
 exact ⟨_, rfl, fresh2 ((Below.refl _ _).alloc (Nat.le_refl _) _) _ (by simp) r b _⟩
set_option maxRecDepth 100000 in
theorem regsSet_9 (n : Int) (w : World) : Calls Tryz.prog 29 #[.iface 109 (.agg #[.int .i64 n])] w fun e w' => ∃ v, e = .returned v ∧ Fresh w w' v [] := by
 have n1 := fun w => asn_1 109 (.agg #[.int .i64 n]) w (by decide)
 have n2 := fun w => asn_2 109 (.agg #[.int .i64 n]) w (by decide)
 have n3 := fun w => asn_3 109 (.agg #[.int .i64 n]) w (by decide)
 have n4 := fun w => asn_4 109 (.agg #[.int .i64 n]) w (by decide)
 have n6 := fun w => asn_6 109 (.agg #[.int .i64 n]) w (by decide)
 have n7 := fun w => asn_7 109 (.agg #[.int .i64 n]) w (by decide)
 have n8 := fun w => asn_8 109 (.agg #[.int .i64 n]) w (by decide)
 go_enter Tryz.func29, Tryz.ntmps29
 go_wp2
 go_ret
 exact ⟨_, rfl, fresh0 (by first | exact Below.refl _ _ | exact ((Below.refl _ _).alloc (Nat.le_refl _) _) | exact ((Below.refl _ _).alloc (Nat.le_refl _) _).alloc (by simp) _) _ _⟩
set_option maxRecDepth 100000 in
theorem regsSet_10 (a : Int) (w : World) : Calls Tryz.prog 29 #[.iface 111 (.agg #[.int .i64 a])] w fun e w' => ∃ v, e = .returned v ∧ Fresh w w' v [] := by
 have n1 := fun w => asn_1 111 (.agg #[.int .i64 a]) w (by decide)
 have n2 := fun w => asn_2 111 (.agg #[.int .i64 a]) w (by decide)
 have n3 := fun w => asn_3 111 (.agg #[.int .i64 a]) w (by decide)
 have n4 := fun w => asn_4 111 (.agg #[.int .i64 a]) w (by decide)
 have n6 := fun w => asn_6 111 (.agg #[.int .i64 a]) w (by decide)
 have n7 := fun w => asn_7 111 (.agg #[.int .i64 a]) w (by decide)
 have n8 := fun w => asn_8 111 (.agg #[.int .i64 a]) w (by decide)
 go_enter Tryz.func29, Tryz.ntmps29
 go_wp2
 go_ret
 exact ⟨_, rfl, fresh0 (by first | exact Below.refl _ _ | exact ((Below.refl _ _).alloc (Nat.le_refl _) _) | exact ((Below.refl _ _).alloc (Nat.le_refl _) _).alloc (by simp) _) _ _⟩
set_option maxRecDepth 100000 in
theorem regsSet_11 (n : Int) (w : World) : Calls Tryz.prog 29 #[.iface 112 (.agg #[.int .i64 n])] w fun e w' => ∃ v, e = .returned v ∧ Fresh w w' v [] := by
 have n1 := fun w => asn_1 112 (.agg #[.int .i64 n]) w (by decide)
 have n2 := fun w => asn_2 112 (.agg #[.int .i64 n]) w (by decide)
 have n3 := fun w => asn_3 112 (.agg #[.int .i64 n]) w (by decide)
 have n4 := fun w => asn_4 112 (.agg #[.int .i64 n]) w (by decide)
 have n6 := fun w => asn_6 112 (.agg #[.int .i64 n]) w (by decide)
 have n7 := fun w => asn_7 112 (.agg #[.int .i64 n]) w (by decide)
 have n8 := fun w => asn_8 112 (.agg #[.int .i64 n]) w (by decide)
 go_enter Tryz.func29, Tryz.ntmps29
 go_wp2
 go_ret
 exact ⟨_, rfl, fresh0 (by first | exact Below.refl _ _ | exact ((Below.refl _ _).alloc (Nat.le_refl _) _) | exact ((Below.refl _ _).alloc (Nat.le_refl _) _).alloc (by simp) _) _ _⟩
set_option maxRecDepth 100000 in
theorem regsSet_12 (a n : Int) (w : World) : Calls Tryz.prog 29 #[.iface 113 (.agg #[.int .i64 a, .int .i64 n])] w fun e w' => ∃ v, e = .returned v ∧ Fresh w w' v [] := by
 have n1 := fun w => asn_1 113 (.agg #[.int .i64 a, .int .i64 n]) w (by decide)
 have n2 := fun w => asn_2 113 (.agg #[.int .i64 a, .int .i64 n]) w (by decide)
 have n3 := fun w => asn_3 113 (.agg #[.int .i64 a, .int .i64 n]) w (by decide)
 have n4 := fun w => asn_4 113 (.agg #[.int .i64 a, .int .i64 n]) w (by decide)
 have n6 := fun w => asn_6 113 (.agg #[.int .i64 a, .int .i64 n]) w (by decide)
 have n7 := fun w => asn_7 113 (.agg #[.int .i64 a, .int .i64 n]) w (by decide)
 have n8 := fun w => asn_8 113 (.agg #[.int .i64 a, .int .i64 n]) w (by decide)
 go_enter Tryz.func29, Tryz.ntmps29
 go_wp2
 go_ret
 exact ⟨_, rfl, fresh0 (by first | exact Below.refl _ _ | exact ((Below.refl _ _).alloc (Nat.le_refl _) _) | exact ((Below.refl _ _).alloc (Nat.le_refl _) _).alloc (by simp) _) _ _⟩
set_option maxRecDepth 100000 in
theorem regsSet_13 (w : World) : Calls Tryz.prog 29 #[.iface 115 (.agg #[])] w fun e w' => ∃ v, e = .returned v ∧ Fresh w w' v [] := by
 have n1 := fun w => asn_1 115 (.agg #[]) w (by decide)
 have n2 := fun w => asn_2 115 (.agg #[]) w (by decide)
 have n3 := fun w => asn_3 115 (.agg #[]) w (by decide)
 have n4 := fun w => asn_4 115 (.agg #[]) w (by decide)
 have n6 := fun w => asn_6 115 (.agg #[]) w (by decide)
 have n7 := fun w => asn_7 115 (.agg #[]) w (by decide)
 have n8 := fun w => asn_8 115 (.agg #[]) w (by decide)
 go_enter Tryz.func29, Tryz.ntmps29
 go_wp2
 go_ret
 exact ⟨_, rfl, fresh0 (by first | exact Below.refl _ _ | exact ((Below.refl _ _).alloc (Nat.le_refl _) _) | exact ((Below.refl _ _).alloc (Nat.le_refl _) _).alloc (by simp) _) _ _⟩
theorem asnil_2 (w : World) : (Instr.typeAssert .nilIface 68 98 true).run Tryz.prog w = .ok (.tuple #[.agg #[.int .i64 0, .int .i64 0, .int .i64 0], .bool false]) w := by kernel_rfl
theorem asnil_4 (w : World) : (Instr.typeAssert .nilIface 68 100 true).run Tryz.prog w = .ok (.tuple #[.agg #[.int .i64 0, .int .i64 0, .int .i64 0], .bool false]) w := by kernel_rfl
theorem asnil_1 (w : World) : (Instr.typeAssert .nilIface 68 96 true).run Tryz.prog w = .ok (.tuple #[.agg #[.int .i64 0, .int .i64 0], .bool false]) w := by kernel_rfl
theorem asnil_3 (w : World) : (Instr.typeAssert .nilIface 68 99 true).run Tryz.prog w = .ok (.tuple #[.agg #[.int .i64 0, .int .i64 0, .int .i64 0], .bool false]) w := by kernel_rfl
theorem asnil_6 (w : World) : (Instr.typeAssert .nilIface 68 102 true).run Tryz.prog w = .ok (.tuple #[.agg #[.int .i64 0, .int .i64 0, .int .i64 0], .bool false]) w := by kernel_rfl
theorem asnil_7 (w : World) : (Instr.typeAssert .nilIface 68 104 true).run Tryz.prog w = .ok (.tuple #[.agg #[.int .i64 0, .int .i64 0, .int .i64 0], .bool false]) w := by kernel_rfl
theorem asnil_8 (w : World) : (Instr.typeAssert .nilIface 68 105 true).run Tryz.prog w = .ok (.tuple #[.agg #[.int .i64 0, .int .i64 0, .int .i64 0], .bool false]) w := by kernel_rfl
set_option maxRecDepth 100000 in
theorem regsSet_0 (w : World) : Calls Tryz.prog 29 #[.nilIface] w fun e w' => ∃ v, e = .returned v ∧ Fresh w w' v [] := by
 have n1 := asnil_1
 have n2 := asnil_2
 have n3 := asnil_3
 have n4 := asnil_4
 have n6 := asnil_6
 have n7 := asnil_7
 have n8 := asnil_8
 go_enter Tryz.func29, Tryz.ntmps29
 go_wp2
 go_ret
 exact ⟨_, rfl, fresh0 (Below.refl _ _) _ _⟩
theorem implSets_1 (r a b n : Int) (w : World) : Calls Tryz.prog 12 #[.agg #[.int .i64 1, .int .i64 r, .int .i64 a, .int .i64 b, .int .i64 n]] w fun e w' => ∃ v, e = .returned v ∧ Fresh w w' v (Plain.setsL 1 r b) := by
 go_enter Tryz.func12, Tryz.ntmps12
 go_wp2_with fail
 refine (placeOf_1 _ _ _ _ _).mono ?_
 rintro e w1 ⟨rfl, hb1⟩
 go_wp2_with fail
 refine (regsSet_1 _ _ _).mono ?_
 rintro e w2 ⟨v, rfl, hv⟩
 go_wp2
 go_ret
 exact ⟨_, rfl, hv.from (((Below.refl _ _).alloc (Nat.le_refl _) _).trans (hb1.mono (by simp)))⟩
theorem implSets_2 (r a b n : Int) (w : World) : Calls Tryz.prog 12 #[.agg #[.int .i64 2, .int .i64 r, .int .i64 a, .int .i64 b, .int .i64 n]] w fun e w' => ∃ v, e = .returned v ∧ Fresh w w' v (Plain.setsL 2 r b) := by
 go_enter Tryz.func12, Tryz.ntmps12
 go_wp2_with fail
 refine (placeOf_2 _ _ _ _ _).mono ?_
 rintro e w1 ⟨rfl, hb1⟩
 go_wp2_with fail
 refine (regsSet_2 _ _ _ _).mono ?_
 rintro e w2 ⟨v, rfl, hv⟩
 go_wp2
 go_ret
 exact ⟨_, rfl, hv.from (((Below.refl _ _).alloc (Nat.le_refl _) _).trans (hb1.mono (by simp)))⟩
theorem implSets_3 (r a b n : Int) (w : World) : Calls Tryz.prog 12 #[.agg #[.int .i64 3, .int .i64 r, .int .i64 a, .int .i64 b, .int .i64 n]] w fun e w' => ∃ v, e = .returned v ∧ Fresh w w' v (Plain.setsL 3 r b) := by
 go_enter Tryz.func12, Tryz.ntmps12
 go_wp2_with fail
 refine (placeOf_3 _ _ _ _ _).mono ?_
 rintro e w1 ⟨rfl, hb1⟩
 go_wp2_with fail
 refine (regsSet_3 _ _ _ _).mono ?_
 rintro e w2 ⟨v, rfl, hv⟩
 go_wp2
 go_ret
 exact ⟨_, rfl, hv.from (((Below.refl _ _).alloc (Nat.le_refl _) _).trans (hb1.mono (by simp)))⟩
theorem implSets_4 (r a b n : Int) (w : World) : Calls Tryz.prog 12 #[.agg #[.int .i64 4, .int .i64 r, .int .i64 a, .int .i64 b, .int .i64 n]] w fun e w' => ∃ v, e = .returned v ∧ Fresh w w' v (Plain.setsL 4 r b) := by
 go_enter Tryz.func12, Tryz.ntmps12
 go_wp2_with fail
 refine (placeOf_4 _ _ _ _ _).mono ?_
 rintro e w1 ⟨rfl, hb1⟩
 go_wp2_with fail
 refine (regsSet_4 _ _ _ _).mono ?_
 rintro e w2 ⟨v, rfl, hv⟩
 go_wp2
 go_ret
 exact ⟨_, rfl, hv.from (((Below.refl _ _).alloc (Nat.le_refl _) _).trans (hb1.mono (by simp)))⟩
theorem implSets_5 (r a b n : Int) (w : World) : Calls Tryz.prog 12 #[.agg #[.int .i64 5, .int .i64 r, .int .i64 a, .int .i64 b, .int .i64 n]] w fun e w' => ∃ v, e = .returned v ∧ Fresh w w' v (Plain.setsL 5 r b) := by
 go_enter Tryz.func12, Tryz.ntmps12
 go_wp2_with fail
 refine (placeOf_5 _ _ _ _ _).mono ?_
 rintro e w1 ⟨rfl, hb1⟩
 go_wp2_with fail
 refine (regsSet_5 _ _ _).mono ?_
 rintro e w2 ⟨v, rfl, hv⟩
 go_wp2
 go_ret
 exact ⟨_, rfl, hv.from (((Below.refl _ _).alloc (Nat.le_refl _) _).trans (hb1.mono (by simp)))⟩
theorem implSets_6 (r a b n : Int) (w : World) : Calls Tryz.prog 12 #[.agg #[.int .i64 6, .int .i64 r, .int .i64 a, .int .i64 b, .int .i64 n]] w fun e w' => ∃ v, e = .returned v ∧ Fresh w w' v (Plain.setsL 6 r b) := by
 go_enter Tryz.func12, Tryz.ntmps12
 go_wp2_with fail
 refine (placeOf_6 _ _ _ _ _).mono ?_
 rintro e w1 ⟨rfl, hb1⟩
 go_wp2_with fail
 refine (regsSet_6 _ _ _ _).mono ?_
 rintro e w2 ⟨v, rfl, hv⟩
 go_wp2
 go_ret
 exact ⟨_, rfl, hv.from (((Below.refl _ _).alloc (Nat.le_refl _) _).trans (hb1.mono (by simp)))⟩
theorem implSets_7 (r a b n : Int) (w : World) : Calls Tryz.prog 12 #[.agg #[.int .i64 7, .int .i64 r, .int .i64 a, .int .i64 b, .int .i64 n]] w fun e w' => ∃ v, e = .returned v ∧ Fresh w w' v (Plain.setsL 7 r b) := by
 go_enter Tryz.func12, Tryz.ntmps12
 go_wp2_with fail
 refine (placeOf_7 _ _ _ _ _).mono ?_
 rintro e w1 ⟨rfl, hb1⟩
 go_wp2_with fail
 refine (regsSet_7 _ _ _ _).mono ?_
 rintro e w2 ⟨v, rfl, hv⟩
 go_wp2
 go_ret
 exact ⟨_, rfl, hv.from (((Below.refl _ _).alloc (Nat.le_refl _) _).trans (hb1.mono (by simp)))⟩
theorem implSets_8 (r a b n : Int) (w : World) : Calls Tryz.prog 12 #[.agg #[.int .i64 8, .int .i64 r, .int .i64 a, .int .i64 b, .int .i64 n]] w fun e w' => ∃ v, e = .returned v ∧ Fresh w w' v (Plain.setsL 8 r b) := by
 go_enter Tryz.func12, Tryz.ntmps12
 go_wp2_with fail
 refine (placeOf_8 _ _ _ _ _).mono ?_
 rintro e w1 ⟨rfl, hb1⟩
 go_wp2_with fail
 refine (regsSet_8 _ _ _ _).mono ?_
 rintro e w2 ⟨v, rfl, hv⟩
 go_wp2
 go_ret
 exact ⟨_, rfl, hv.from (((Below.refl _ _).alloc (Nat.le_refl _) _).trans (hb1.mono (by simp)))⟩
theorem implSets_9 (r a b n : Int) (w : World) : Calls Tryz.prog 12 #[.agg #[.int .i64 9, .int .i64 r, .int .i64 a, .int .i64 b, .int .i64 n]] w fun e w' => ∃ v, e = .returned v ∧ Fresh w w' v (Plain.setsL 9 r b) := by
 go_enter Tryz.func12, Tryz.ntmps12
 go_wp2_with fail
 refine (placeOf_9 _ _ _ _ _).mono ?_
 rintro e w1 ⟨rfl, hb1⟩
 go_wp2_with fail
 refine (regsSet_9 _ _).mono ?_
 rintro e w2 ⟨v, rfl, hv⟩
 go_wp2
 go_ret
 exact ⟨_, rfl, hv.from (((Below.refl _ _).alloc (Nat.le_refl _) _).trans (hb1.mono (by simp)))⟩
theorem implSets_10 (r a b n : Int) (w : World) : Calls Tryz.prog 12 #[.agg #[.int .i64 10, .int .i64 r, .int .i64 a, .int .i64 b, .int .i64 n]] w fun e w' => ∃ v, e = .returned v ∧ Fresh w w' v (Plain.setsL 10 r b) := by
 go_enter Tryz.func12, Tryz.ntmps12
 go_wp2_with fail
 refine (placeOf_10 _ _ _ _ _).mono ?_
 rintro e w1 ⟨rfl, hb1⟩
 go_wp2_with fail
 refine (regsSet_10 _ _).mono ?_
 rintro e w2 ⟨v, rfl, hv⟩
 go_wp2
 go_ret
 exact ⟨_, rfl, hv.from (((Below.refl _ _).alloc (Nat.le_refl _) _).trans (hb1.mono (by simp)))⟩
theorem implSets_11 (r a b n : Int) (w : World) : Calls Tryz.prog 12 #[.agg #[.int .i64 11, .int .i64 r, .int .i64 a, .int .i64 b, .int .i64 n]] w fun e w' => ∃ v, e = .returned v ∧ Fresh w w' v (Plain.setsL 11 r b) := by
 go_enter Tryz.func12, Tryz.ntmps12
 go_wp2_with fail
 refine (placeOf_11 _ _ _ _ _).mono ?_
 rintro e w1 ⟨rfl, hb1⟩
 go_wp2_with fail
 refine (regsSet_11 _ _).mono ?_
 rintro e w2 ⟨v, rfl, hv⟩
 go_wp2
 go_ret
 exact ⟨_, rfl, hv.from (((Below.refl _ _).alloc (Nat.le_refl _) _).trans (hb1.mono (by simp)))⟩
theorem implSets_12 (r a b n : Int) (w : World) : Calls Tryz.prog 12 #[.agg #[.int .i64 12, .int .i64 r, .int .i64 a, .int .i64 b, .int .i64 n]] w fun e w' => ∃ v, e = .returned v ∧ Fresh w w' v (Plain.setsL 12 r b) := by
 go_enter Tryz.func12, Tryz.ntmps12
 go_wp2_with fail
 refine (placeOf_12 _ _ _ _ _).mono ?_
 rintro e w1 ⟨rfl, hb1⟩
 go_wp2_with fail
 refine (regsSet_12 _ _ _).mono ?_
 rintro e w2 ⟨v, rfl, hv⟩
 go_wp2
 go_ret
 exact ⟨_, rfl, hv.from (((Below.refl _ _).alloc (Nat.le_refl _) _).trans (hb1.mono (by simp)))⟩
theorem implSets_13 (r a b n : Int) (w : World) : Calls Tryz.prog 12 #[.agg #[.int .i64 13, .int .i64 r, .int .i64 a, .int .i64 b, .int .i64 n]] w fun e w' => ∃ v, e = .returned v ∧ Fresh w w' v (Plain.setsL 13 r b) := by
 go_enter Tryz.func12, Tryz.ntmps12
 go_wp2_with fail
 refine (placeOf_13 _ _ _ _ _).mono ?_
 rintro e w1 ⟨rfl, hb1⟩
 go_wp2_with fail
 refine (regsSet_13  _).mono ?_
 rintro e w2 ⟨v, rfl, hv⟩
 go_wp2
 go_ret
 exact ⟨_, rfl, hv.from (((Below.refl _ _).alloc (Nat.le_refl _) _).trans (hb1.mono (by simp)))⟩
theorem implSets_any (op r a b n : Int) (w : World) : Calls Tryz.prog 12 #[.agg #[.int .i64 op, .int .i64 r, .int .i64 a, .int .i64 b, .int .i64 n]] w fun e w' => ∃ v, e = .returned v ∧ Fresh w w' v (Plain.setsL op r b) := by
 by_cases e1 : op = 1
 ·subst e1; exact implSets_1 r a b n w
 by_cases e2 : op = 2
 ·subst e2; exact implSets_2 r a b n w
 by_cases e3 : op = 3
 ·subst e3; exact implSets_3 r a b n w
 by_cases e4 : op = 4
 ·subst e4; exact implSets_4 r a b n w
 by_cases e5 : op = 5
 ·subst e5; exact implSets_5 r a b n w
 by_cases e6 : op = 6
 ·subst e6; exact implSets_6 r a b n w
 by_cases e7 : op = 7
 ·subst e7; exact implSets_7 r a b n w
 by_cases e8 : op = 8
 ·subst e8; exact implSets_8 r a b n w
 by_cases e9 : op = 9
 ·subst e9; exact implSets_9 r a b n w
 by_cases e10 : op = 10
 ·subst e10; exact implSets_10 r a b n w
 by_cases e11 : op = 11
 ·subst e11; exact implSets_11 r a b n w
 by_cases e12 : op = 12
 ·subst e12; exact implSets_12 r a b n w
 by_cases e13 : op = 13
 ·subst e13; exact implSets_13 r a b n w
 have h1 : (op == 1) = false := by simpa using e1
 have h2 : (op == 2) = false := by simpa using e2
 have h3 : (op == 3) = false := by simpa using e3
 have h4 : (op == 4) = false := by simpa using e4
 have h5 : (op == 5) = false := by simpa using e5
 have h6 : (op == 6) = false := by simpa using e6
 have h7 : (op == 7) = false := by simpa using e7
 have h8 : (op == 8) = false := by simpa using e8
 have h9 : (op == 9) = false := by simpa using e9
 have h10 : (op == 10) = false := by simpa using e10
 have h11 : (op == 11) = false := by simpa using e11
 have h12 : (op == 12) = false := by simpa using e12
 have h13 : (op == 13) = false := by simpa using e13
 have hl : Plain.setsL op r b = [] := by simp [Plain.setsL, e1, e2, e3, e4, e5, e6, e7, e8, e9, e10, e11, e12, e13]
 rw [hl]
 clear hl e1 e2 e3 e4 e5 e6 e7 e8 e9 e10 e11 e12 e13
 go_enter Tryz.func12, Tryz.ntmps12
 go_wp2_with fail
 refine (placeOf_0 _ _ _ _ _ _ h1 h2 h3 h4 h5 h6 h7 h8 h9 h10 h11 h12 h13).mono ?_
 rintro e w1 ⟨rfl, hb1⟩
 go_wp2_with fail
 refine (regsSet_0 _).mono ?_
 rintro e w2 ⟨v, rfl, hv⟩
 go_wp2
 go_ret
 exact ⟨_, rfl, hv.from (((Below.refl _ _).alloc (Nat.le_refl _) _).trans (hb1.mono (by simp)))⟩
end
end Go.Proofs.YteefnjngcnebpaaGreat
