/- SourceRun of the program. Conditions: program, source and picks fit. -/
import Derived.Test.YtfokbjkgdiploaaGreatJRunCod
import Derived.Test.YtfokbjkgdiploaaGreatJG13
import Derived.Test.YtfokbjkgdiploaaGreatJSrcDup
namespace Go.Proofs.YtfokbjkgdiploaaGreat
set_option linter.unusedSimpArgs false
set_option linter.unusedVariables false
set_option maxRecDepth 100000
open Go.RowKit
set_option maxHeartbeats 4000000 in
theorem implRun_any (p1 p2 s1 s2 s3 s4 : Option Addr) (a1 a2 c1 c2 c3 c4 lo hi lo' hi' lo2 hi2 : Nat) (p : PD) (d : SD) (ks : List Int) (w : World) (h : ProgR w lo hi p1 p2 p) (h' : SrcR w lo' hi' s1 s2 s3 d) (h2 : IntsR w lo2 hi2 s4 ks) (hB : hi ≤ w.heap.size) (hB' : hi' ≤ w.heap.size) (hB2 : hi2 ≤ w.heap.size) (hf : Fits p) (hf' : SFits d) (hks : ks.length ≤ 1048576) :
  Calls Tryz.prog 13 #[.agg #[.slice p1 p.caps.length a1, .slice p2 p.bods.length a2], .agg #[.slice s1 d.ths.length c1, .slice s2 d.chs.length c2, .slice s3 d.tr.length c3], .slice s4 ks.length c4] w (SRunQ w (runSb p d ks) (runCb p d ks)) := by
 obtain ⟨W, hW⟩ : ∃ W, ((w.alloc (.cells #[.slice p1 p.caps.length a1, .slice p2 p.bods.length a2] 42)).alloc (.cells #[.slice s1 d.ths.length c1, .slice s2 d.chs.length c2, .slice s3 d.tr.length c3] 37)).alloc (.cells #[.slice none 0 0, .slice none 0 0, .slice none 0 0] 37) = W := ⟨_, rfl⟩
 obtain ⟨bc, kW⟩ := br_new hW
 have HW := hidW hW
 have H := hidW h
 have H' := hidW h'
 have H2 := hidW h2
 have HF := hidW hf
 have HF' := hidW hf'
 have BC0 := hidW bc
 have KW := hidW kW
 have zW := kW.size
 obtain ⟨RS, hRS⟩ : ∃ R, runSb p d ks = R := ⟨_, rfl⟩
 obtain ⟨RC, hRC⟩ : ∃ R, runCb p d ks = R := ⟨_, rfl⟩
 have ES := hidW hRS
 have EC := hidW hRC
 rw [hRS, hRC]
 clear hRS hRC
 obtain ⟨m0, m1, ⟨v0, v1, v2, fs, zs⟩, ⟨r0, r1, r2, fa, za⟩, ba, zz⟩ := bc
 clear hW kW h h' h2 hf hf'
 go_enter Tryz.func13, Tryz.ntmps13
 go_wp2_with fail
 rw [HW.out]
 refine (implDup_any s1 s2 s3 c1 c2 c3 lo' hi' d W (H'.out.keep (Keep.of_below KW.out hB')) (by omega) HF'.out).mono ?_
 rintro e w5 ⟨u1, u2, u3, L1, L2, rfl, ho5, hb5⟩
 obtain ⟨t1, e1, t2, e2, t3, e3, rfl, rfl, rfl, -⟩ := ho5.src
 obtain ⟨W6, hW6, b6, k6, z6⟩ := BoF.new w5 (.slice t1 d.ths.length e1) (.slice t2 d.chs.length e2) (.slice t3 d.tr.length e3) 37
 have z5 := hb5.size
 obtain ⟨S, hS, hSb, zS⟩ : ∃ S, w5.heap.size = S ∧ W.heap.size ≤ S ∧ S < W6.heap.size := ⟨_, rfl, z5, by omega⟩
 have RI := hidW (show RunI w W6 W.heap.size S (.slice p1 p.caps.length a1) (.slice p2 p.bods.length a2) (.slice s1 d.ths.length c1) (.slice s2 d.chs.length c2) (.slice s3 d.tr.length c3) d from
  ⟨(BC0.out.below hb5 zz).below k6 (by omega), (KW.out.trans (hb5.mono (by omega))).trans (k6.mono (by omega)), ⟨_, _, _, L1, L2, ho5.keep (fun q _ hq => k6.block q hq), hS ▸ b6, ⟨_, _, by rw [← hW6, ← hS]; exact heap_alloc_new _ _⟩⟩, by omega⟩)
 have HW6 := hidW hW6
 have HS6 := hidW hS
 have zz1 := zz
 clear ho5 hb5 hW6 b6 k6 z6 z5 hS m0 m1 v0 v1 v2 fs zs r0 r1 r2 fa za ba zz
 go_upto_region 2 with fail
 rw [HW6.out, HS6.out]
 by_cases hl : 4000 < ks.length
 ·have hli : (4000 : Int) < (ks.length : Int) := by omega
  have E1 := hidW (show RS = d from by rw [← ES.out]; unfold runSb; rw [if_neg (by omega)])
  have E2 := hidW (show RC = [] from by rw [← EC.out]; unfold runCb; rw [if_neg (by omega)])
  obtain ⟨b1, b2, ⟨v1, v2, v3, M1, M2, o1, o2, o3⟩, b4⟩ := RI.out
  obtain ⟨x1, y1, x2, y2, x3, y3, rfl, rfl, rfl, -⟩ := o1.src
  have BB := hidW b1
  have O1 := hidW o1
  have z6' := b2.size
  obtain ⟨m0, m1, ⟨v0, v1, v2, fs, zs⟩, ⟨r0, r1, r2, fa, za⟩, ba, zz⟩ := b1
  obtain ⟨o20, o21, o22, o23, o24⟩ := o2
  clear b2 o1 o3 b4
  go_wp2
  obtain ⟨Z, hZ, bz, oz, kz⟩ := BB.out.put (.slice x1 d.ths.length y1) (.slice x2 d.chs.length y2) (.slice x3 d.tr.length y3)
  refine bodyPost_ret (v := .tuple #[.agg #[.slice x1 d.ths.length y1, .slice x2 d.chs.length y2, .slice x3 d.tr.length y3], .slice none 0 0]) ?_ rfl ?_
  ·rw [hZ]
   simp [results, Tryz.results13, go_sem, bz.c0, bz.c1, bz.c2]
  ·rw [hZ, E1.out, E2.out]
   exact ⟨_, _, _, _, _, _, none, 0, M1, M2, rfl, oz _ _ _ _ _ _ _ (O1.out.low (by omega)), World.ownsRow_nil _ _ _ _, fun q e => (by cases e), kz _ _ RI.out.k (by omega)⟩
 ·have hli : ¬ (4000 : Int) < (ks.length : Int) := by omega
  have m0 := RI.out.b.p0
  have m1 := RI.out.b.p1
  obtain ⟨v0, v1, v2, fs, zs⟩ := RI.out.b.s
  have zp : w.heap.size < W6.heap.size := by omega
  go_wp2_with fail
  refine (implSource_any p1 p2 s1 s2 s3 a1 a2 c1 c2 c3 lo hi lo' hi' p d W6 (H.out.keep' (Keep.of_below RI.out.k hB)) (H'.out.keep (Keep.of_below RI.out.k hB')) (by omega) (by omega) HF.out HF'.out).mono ?_
  rintro e w7 ⟨rfl, hb7⟩
  have R7 := hidW (RI.out.keep hb7)
  have z7 := hb7.size
  have zS7 : S < w7.heap.size := by omega
  clear m0 m1 v0 v1 v2 fs zs zp hb7
  cases hy : srcB p d with
  | false =>
   have E1 := hidW (show RS = d from by rw [← ES.out]; unfold runSb; rw [if_neg (by rw [hy]; simp)])
   have E2 := hidW (show RC = [] from by rw [← EC.out]; unfold runCb; rw [if_neg (by rw [hy]; simp)])
   clear hy
   obtain ⟨b1, b2, ⟨v1, v2, v3, M1, M2, o1, o2, o3⟩, b4⟩ := R7.out
   obtain ⟨x1, y1, x2, y2, x3, y3, rfl, rfl, rfl, -⟩ := o1.src
   have BB := hidW b1
   have O1 := hidW o1
   have z6' := b2.size
   obtain ⟨m0, m1, ⟨v0, v1, v2, fs, zs⟩, ⟨r0, r1, r2, fa, za⟩, ba, zz⟩ := b1
   obtain ⟨o20, o21, o22, o23, o24⟩ := o2
   clear b2 o1 o3 b4
   go_wp2
   obtain ⟨Z, hZ, bz, oz, kz⟩ := BB.out.put (.slice x1 d.ths.length y1) (.slice x2 d.chs.length y2) (.slice x3 d.tr.length y3)
   refine bodyPost_ret (v := .tuple #[.agg #[.slice x1 d.ths.length y1, .slice x2 d.chs.length y2, .slice x3 d.tr.length y3], .slice none 0 0]) ?_ rfl ?_
   ·rw [hZ]
    simp [results, Tryz.results13, go_sem, bz.c0, bz.c1, bz.c2]
   ·rw [hZ, E1.out, E2.out]
    exact ⟨_, _, _, _, _, _, none, 0, M1, M2, rfl, oz _ _ _ _ _ _ _ (O1.out.low (by omega)), World.ownsRow_nil _ _ _ _, fun q e => (by cases e), kz _ _ R7.out.k (by omega)⟩
  | true =>
   have E1 := hidW (show RS = pkD p d ks from by rw [← ES.out]; unfold runSb; rw [if_pos ⟨by omega, hy⟩])
   have E2 := hidW (show RC = pkC p d ks from by rw [← EC.out]; unfold runCb; rw [if_pos ⟨by omega, hy⟩])
   have HY := hidW hy
   have RC0 := hidW (R7.out.cod (u := .slice none 0 0) (World.ownsRow_nil _ _ _ _) (fun q e => (by cases e)))
   clear hy
   go_wp2_with fail
   go_loopw [9, 26] (fun u i wr => ∃ k : Nat, k ≤ ks.length ∧ i = .int .i64 k ∧ RunC w wr W.heap.size S (.slice p1 p.caps.length a1) (.slice p2 p.bods.length a2) (.slice s1 d.ths.length c1) (.slice s2 d.chs.length c2) (.slice s3 d.tr.length c3) (pkD p d (ks.take k)) u (pkC p d (ks.take k))) (fun _ i _ => ks.length - (intOf i).toNat)
   case atStart => exact ⟨0, Nat.zero_le _, rfl, RC0.out⟩
   case round =>
    obtain ⟨k, hk, rfl, rj⟩ := hrel
    have hoj := pkD_ok (ks.take k) HY.out
    have hcl : (pkC p d (ks.take k)).length = k := by rw [pkC_len, List.length_take]; omega
    have EA := hidW (fun (e : k = ks.length) => (show pkD p d (ks.take k) = RS ∧ pkC p d (ks.take k) = RC from by rw [E1.out, E2.out, e, List.take_length]; exact ⟨rfl, rfl⟩))
    by_cases hlt : k < ks.length
    ·have ek : ks[k]? = some (ks.getD k 0) := by rw [List.getD_eq_getElem?_getD, List.getElem?_eq_getElem hlt]; rfl
     have ED := hidW (show pkD p d (ks.take (k + 1)) = stepS p (pkD p d (ks.take k)) (ks.getD k 0) ∧ pkC p d (ks.take (k + 1)) = pkC p d (ks.take k) ++ [stepK p (pkD p d (ks.take k)) (ks.getD k 0)] from by rw [take_one ek]; exact ⟨pkD_snoc p _ _ _, pkC_snoc p _ _ _⟩)
     clear ek
     generalize pkD p d (ks.take k) = Y at rj hoj EA ED
     generalize pkC p d (ks.take k) = C at rj hcl EA ED
     obtain ⟨gk, ok, es4, hgk, hck⟩ := H2.out.get hB2 rj.k hlt
     subst es4
     generalize ks.getD k 0 = kk at hck ED
     have zr := rj.k.size
     have hgk2 : gk < wr.heap.size := by omega
     have b0 : (0 : Int) ≤ (k : Int) := by omega
     have b1' : (k : Int) < (ks.length : Int) := by omega
     have RJ := hidW rj
     obtain ⟨b1, b2, ⟨v1', v2', v3', L1', L2', o1, o2, o3, sep⟩, on, b4⟩ := rj
     have m0 := b1.p0
     have m1 := b1.p1
     have zp : w.heap.size < wr.heap.size := by have := b1.zz; omega
     have T := hidW (turnIn_any p1 p2 a1 a2 lo hi W.heap.size S p v1' v2' v3' L1' L2' Y kk wr (H.out.keep' (Keep.of_below b2 hB)) (by omega) o1 o2 o3 b4 (right_of hoj) hSb)
     have O3 := hidW o3
     have SEP := hidW sep
     have HCL := hidW hcl
     obtain ⟨su, cu, eu⟩ := on.sl
     subst eu
     clear b1 b2 o1 o2 o3 b4 sep on hcl EA
     go_wp2_with fail
     refine Calls.mono T.out ?_
     rintro e w9 ⟨rfl, s4', n4', c4', M1', M2', tq⟩
     have RT := hidW (RJ.out.turn (by omega) SEP.out O3.out tq)
     clear tq T RJ SEP O3
     obtain ⟨KK, hKK⟩ : ∃ K, stepK p Y kk = K := ⟨_, rfl⟩
     rw [hKK] at ED ⊢
     clear hKK m0 m1 hck
     go_wp2_with (at_builtin; refine app_one rfl _ _ rfl w9 KK W.heap.size (.slice su C.length cu) C rfl RT.out.n rfl (by have := HCL.out; omega) RT.out.m ?_; intro g5 cap5 w5' ho5 hb5 hf5; have RA := hidW (RT.out.app (by omega) ho5 hb5 hf5); clear ho5 hb5 hf5)
     go_roundw
     case rel => exact ⟨k + 1, by omega, by go_num, by rw [ED.out.1, ED.out.2]; exact RA.out⟩
     case measure => simp [intOf]; omega
    ·have ek : k = ks.length := by omega
     obtain ⟨e1', e2'⟩ := EA.out ek
     rw [e1', e2'] at rj
     have E3 := hidW e1'
     clear e1' e2' hoj hcl EA ek
     have RJ := hidW rj
     obtain ⟨b1, b2, ⟨v1, v2, v3, M1, M2, o1, o2, o3, sep⟩, on, b4⟩ := rj
     obtain ⟨x1, y1, x2, y2, x3, y3, rfl, rfl, rfl, -⟩ := o1.src
     obtain ⟨su, cu, eu⟩ := on.sl
     subst eu
     have BB := hidW b1
     have O1 := hidW o1
     have ON := hidW on
     have SEP := hidW sep
     have z6' := b2.size
     obtain ⟨m0, m1, ⟨v0, v1, v2, fs, zs⟩, ⟨r0, r1, r2, fa, za⟩, ba, zz⟩ := b1
     have BA := hidW ba
     obtain ⟨o20, o21, o22, o23, o24⟩ := o2
     clear b2 o1 o3 b4 on sep
     go_wp2
     obtain ⟨Z, hZ, bz, oz, kz⟩ := BB.out.put (.slice x1 RS.ths.length y1) (.slice x2 RS.chs.length y2) (.slice x3 RS.tr.length y3)
     refine bodyPost_ret (v := .tuple #[.agg #[.slice x1 RS.ths.length y1, .slice x2 RS.chs.length y2, .slice x3 RS.tr.length y3], .slice su RC.length cu]) ?_ rfl ?_
     ·rw [hZ]
      simp [results, Tryz.results13, go_sem, bz.c0, bz.c1, bz.c2]
     ·have on : OwnN Z W.heap.size (.slice su RC.length cu) RC := by
       rw [← hZ]
       have nS := own_bxS ON.out intNe BA.out
       have st : ∀ (X : World) (j : Nat) (v : Value), OwnN X W.heap.size (.slice su RC.length cu) RC → OwnN (X.setCell ⟨w.heap.size + 1 + 1, j, none⟩ v) W.heap.size (.slice su RC.length cu) RC := fun X j v q => ownKeep' q (fun k e => Below.heap_setCell _ _ _ _ (fun e2 => nS (by rw [e, e2])))
       exact st _ _ _ (st _ _ _ (st _ _ _ ON.out))
      rw [hZ]
      exact ⟨_, _, _, _, _, _, su, cu, M1, M2, rfl, oz _ _ _ _ _ _ _ (O1.out.low (by omega)), ownLow' on (by omega), SEP.out, kz _ _ RJ.out.k (by omega)⟩
end Go.Proofs.YtfokbjkgdiploaaGreat
