/- A step of the specification: channels. No condition. -/
import Derived.Test.YtknffngbdakblaaGreatJG00
import Derived.Test.YtknffngbdakblaaGreatJG06
import Derived.Test.YtknffngbdakblaaGreatJStepGo
import Derived.Test.YtknffngbdakblaaGreatJG05
import Derived.Test.YtknffngbdakblaaGreatJG08
import Derived.Test.YtknffngbdakblaaGreatJG01
import Derived.Test.YtknffngbdakblaaGreatJG04
import Derived.Deep.DeepCutAuto
import Derived.Test.YtknffngbdakblaaGreatJStepSpA
namespace Go.Proofs.YtknffngbdakblaaGreat
set_option linter.unusedSimpArgs false
set_option linter.unusedVariables false
set_option maxRecDepth 100000
open Go.RowKit
set_option maxHeartbeats 4000000 in
theorem sqC (p1 p2 : Option Addr) (a1 a2 lo hi base : Nat) (p : PD) (v1 v2 v3 : Value) (L1 L2 : List (Rec × Value)) (d : SD) (k : Nat) (t : TD) (w : World) (hP : ProgR w lo hi p1 p2 p) (hB : hi ≤ base) (hO : OwnS w base v1 v2 v3 L1 L2 d) (hb : base ≤ w.heap.size) (hR : Right p d) (ht : d.ths[k]? = some t) (hst : t.st = 0) (ho : 5 ≤ (insOf p d k).o ∧ (insOf p d k).o ≤ 9) :
  Calls Tryz.prog 54 #[.agg #[.slice p1 p.caps.length a1, .slice p2 p.bods.length a2], .agg #[v1, v2, v3], .int .i64 k] w fun e w' => StepY w base (HitS v1 v2 v3 L1 L2) (outOf p d k) d k e w' := by
 obtain ⟨q, g1, c1, gr, cr, gb, ob, gi, oi, cb, nb, s2, s3, c2, c3, y, O⟩ := hO.open hP hB hb hR ht
 rw [O.ou]
 have hcl := hR.pc
 have hbl := hR.bd k O.kb
 have hpb := hR.pb
 have hnl := hR.nl
 have HCH := hidW hR.cl
 have HTL := hidW hR.tl
 have HR := hidW hR
 obtain ⟨x, hx⟩ : ∃ x, insOf p d k = x := ⟨_, rfl⟩
 rw [hx] at O ho ⊢
 clear hx
 obtain ⟨e1, e2, e3, ep, hy, y1, y2, hq, nq, kl, kb, hbn, t0, t1, t2, b0, ⟨x0, x1, x2, x3, x4⟩, rr, f1, fr, z1, zr, zb, zi, i1, ir, ib, ii, n1, hok, -, h4⟩ := O
 subst e1 e2 e3 ep
 rw [hbn] at hbl
 have HBN := hidW hbn
 unfold insX Plain.insB at hok
 rw [decide_eq_true_eq] at hok
 obtain ⟨o, r, a, b, n⟩ := x
 simp only at ho hok x0 x1 x2 x3 x4
 obtain ⟨r', hr'⟩ : ∃ r' : Nat, r = r' := ⟨r.toNat, by omega⟩
 subst hr'
 have br0 : (0 : Int) ≤ (r' : Int) := by omega
 have br1 : (r' : Int) < 4 := by omega
 have br2 : r' < 4 := by omega
 obtain ⟨a', ha'⟩ : ∃ a' : Nat, a = a' := ⟨a.toNat, by omega⟩
 subst ha'
 have ba0 : (0 : Int) ≤ (a' : Int) := by omega
 have ba1 : (a' : Int) < 4 := by omega
 have ba2 : a' < 4 := by omega
 obtain ⟨b', hb'⟩ : ∃ b' : Nat, b = b' := ⟨b.toNat, by omega⟩
 subst hb'
 have bb0 : (0 : Int) ≤ (b' : Int) := by omega
 have bb1 : (b' : Int) < 4 := by omega
 have bb2 : b' < 4 := by omega
 obtain ⟨pc, rg, st⟩ := t
 simp only at hq hst h4 rr t0 t2
 subst hq hst
 have i0 : (0 : Int) ≤ (k : Int) := by omega
 have j1 : (k : Int) < (d.ths.length : Int) := by omega
 have j2 : (k : Int) < (p.bods.length : Int) := by omega
 have j3 : (0 : Int) ≤ (q : Int) := by omega
 have j4 : (q : Int) < (nb : Int) := by omega
 have w1 : IntKind.i64.wrap ((q : Int) + 1) = (q : Int) + 1 := Go.IntWalk.i64_in _ (by omega)
 obtain ⟨W, hW⟩ : ∃ W, (((w.alloc (.cells #[.slice p1 p.caps.length a1, .slice (some ⟨gb, ob, none⟩) p.bods.length a2] 27)).alloc (.cells #[.slice (some ⟨g1, 0, none⟩) d.ths.length c1, .slice s2 d.chs.length c2, .slice s3 d.tr.length c3] 32)).alloc (.cells #[.slice none 0 0, .slice none 0 0, .slice none 0 0] 32)) = W := ⟨_, rfl⟩
 obtain ⟨V, hV⟩ : ∃ V, W.alloc (.cells #[.int .i64 o, .int .i64 r', .int .i64 a', .int .i64 b', .int .i64 n] 85) = V := ⟨_, rfl⟩
 obtain ⟨BX, KV⟩ := bq_new hW hV
 have HW := hidW hW
 have HV := hidW hV
 have HBX := hidW BX
 have HKV := hidW KV
 have HO := hidW hO
 have HP := hidW hP
 have HT := hidW ht
 have HY := hidW hy
 have HY2 := hidW y2
 have H4 := hidW h4
 have RR := hidW rr
 have F1 := hidW f1
 have FR := hidW fr
 have HOK := hidW hok
 have y0 : g1 < w.heap.size + 1 := by omega
 have y3 : g1 < w.heap.size + 1 + 1 := by omega
 have y4 : g1 < w.heap.size + 1 + 1 + 1 := by omega
 have y5 : gb < w.heap.size + 1 := by omega
 have y6 : gb < w.heap.size + 1 + 1 := by omega
 have y7 : gi < w.heap.size + 1 := by omega
 have y8 : gi < w.heap.size + 1 + 1 := by omega
 clear hW hV BX KV hO hP ht hy y1 y2 h4 rr f1 fr hok hR hbn
 go_enter Tryz.func54, Tryz.ntmps54
 go_upto_region 14 with fail
 rw [HW.out, HV.out]
 clear x0 x1 x2 x3 x4 t0 t1 t2 b0 y0 y3 y4 y5 y6 y7 y8
 obtain ⟨⟨m0, m1⟩, ⟨v0, v1', v2', fs, zs⟩, ⟨w0, w1', w2', fa, za⟩, x0, x1, x2, x3, x4, bs, ba, zz⟩ := HBX.out
 have zv1 : w.heap.size < V.heap.size := by omega
 have zv2 : g1 < V.heap.size := by omega
 have zv3 : gr < V.heap.size := by omega
 have ng00 : ¬ gr = w.heap.size := by omega
 have nh00 : ¬ w.heap.size = gr := by omega
 have ng01 : ¬ gr = w.heap.size + 1 := by omega
 have nh01 : ¬ w.heap.size + 1 = gr := by omega
 have ng02 : ¬ gr = w.heap.size + 1 + 1 := by omega
 have nh02 : ¬ w.heap.size + 1 + 1 = gr := by omega
 have ng03 : ¬ gr = w.heap.size + 1 + 1 + 1 := by omega
 have nh03 : ¬ w.heap.size + 1 + 1 + 1 = gr := by omega
 have ng10 : ¬ g1 = w.heap.size := by omega
 have nh10 : ¬ w.heap.size = g1 := by omega
 have ng11 : ¬ g1 = w.heap.size + 1 := by omega
 have nh11 : ¬ w.heap.size + 1 = g1 := by omega
 have ng12 : ¬ g1 = w.heap.size + 1 + 1 := by omega
 have nh12 : ¬ w.heap.size + 1 + 1 = g1 := by omega
 have ng13 : ¬ g1 = w.heap.size + 1 + 1 + 1 := by omega
 have nh13 : ¬ w.heap.size + 1 + 1 + 1 = g1 := by omega
 have ff : ∀ j, V.frozen? ⟨gr, j, none⟩ = false := fun j => (HKV.out.frozen (p := ⟨gr, j, none⟩) zr).trans (FR.out j)
 obtain ⟨n', hn'⟩ : ∃ n' : Nat, n = n' := ⟨n.toNat, by have := HOK.out; omega⟩
 subst hn'
 have hnc : n' < d.chs.length := by have := HOK.out; have := HCH.out; omega
 obtain ⟨c, hc⟩ : ∃ c, d.chs[n']? = some c := ⟨_, List.getElem?_eq_getElem hnc⟩
 obtain ⟨hko, hkl⟩ := HR.out.ch n' c hc
 have hop : o = 5 ∨ o = 6 ∨ o = 7 ∨ o = 8 ∨ o = 9 := by omega
 have hrb : o = 6 ∨ o = 8 → r' ≠ b' := by have := HOK.out; omega
 have ST := hidW (stepO_chan nb ⟨q, rg, 0⟩ o r' a' b' n' d.chs d.tr k c hc hko hop)
 have CHN := hidW (l4Chan_any o _ _ _ base L1 L2 d k ⟨q, rg, 0⟩ c r' a' b' n' V (HO.out.keep (fun b _ hb => HKV.out.block b hb)) (by have := HKV.out.size; omega) HT.out H4.out hc br2 ba2 bb2 hkl (by have := HCH.out; omega) (by have := HTL.out; omega) hko hop hrb)
 have THR := hidW (chanH_three hko hop)
 have CRF := hidW (fun (h : o = 5 ∨ o = 7 ∨ o = 9) (h2 : chanH o c = 2) => chanR_fault (rg := rg) (r := r') (b := b') h h2)
 have k1 : (o == 1) = false := by simp; omega
 have k2 : (o == 2) = false := by simp; omega
 have k3 : (o == 3) = false := by simp; omega
 have k4 : (o == 4) = false := by simp; omega
 have k10 : (o == 10) = false := by simp; omega
 have k11 : (o == 11) = false := by simp; omega
 have k12 : (o == 12) = false := by simp; omega
 have k13 : (o == 13) = false := by simp; omega
 clear ho hop hrb hko hkl hc hnc
 simp only at CHN ST
 generalize hcr : chanR o rg c r' b' = cr9 at CHN ST CRF
 generalize hcc : chanC o c (rg.getD a' 0) = cc9 at CHN ST
 generalize hch : chanH o c = hh at CHN ST THR CRF
 clear hcr hcc hch
 go_wp2_with fail
 refine Calls.mono CHN.out ?_
 rintro e w1x ⟨L1', L2', rfl, o1, hb1, hf1⟩
 have O1 := hidW o1
 have B1 := hidW ((HKV.out.mono hb).trans hb1)
 have HB1 := hidW (HBX.out.keep (V' := w1x) (fun b h1 h2 => hf1 b h2 (fun h => by have := (HO.out.hit h).2; omega)) hb1.size)
 have z9 := hb1.size
 have F1x : Hid (∀ b, b < w.heap.size → ¬ HitS (.slice (some ⟨g1, 0, none⟩) d.ths.length c1) (.slice s2 d.chs.length c2) (.slice s3 d.tr.length c3) L1 L2 b → w1x.heap[b]? = w.heap[b]?) := fun b h1 h2 => (hf1 b (by have := HKV.out.size; omega) h2).trans (HKV.out.block b h1)
 have T9 := hidW (show (d.ths.set k ⟨q, cr9, 0⟩)[k]? = some ⟨q, cr9, 0⟩ from List.getElem?_set_self kl)
 clear m0 m1 v0 v1' v2' fs zs w0 w1' w2' fa za x0 x1 x2 x3 x4 bs ba zz zv1 zv2 zv3 ff CHN o1 hb1 hf1 ng00 nh00 ng01 nh01 ng02 nh02 ng03 nh03 ng10 nh10 ng11 nh11 ng12 nh12 ng13 nh13
 obtain ⟨⟨m0, m1⟩, ⟨v0, v1', v2', fs, zs⟩, ⟨w0, w1', w2', fa, za⟩, x0, x1, x2, x3, x4, bs, ba, zz⟩ := HB1.out
 obtain ⟨Y, hY⟩ : ∃ Y, w1x.alloc (.cells #[.slice (some ⟨g1, 0, none⟩) d.ths.length c1, .slice s2 d.chs.length c2, .slice s3 d.tr.length c3] 32) = Y := ⟨_, rfl⟩
 have kY : Below w1x.heap.size w1x Y := by rw [← hY]; exact (Below.refl _ _).alloc (Nat.le_refl _) _
 have HKY := hidW kY
 have FY : Hid (∀ b, b < w.heap.size → ¬ HitS (.slice (some ⟨g1, 0, none⟩) d.ths.length c1) (.slice s2 d.chs.length c2) (.slice s3 d.tr.length c3) L1 L2 b → Y.heap[b]? = w.heap[b]?) := fun b h1 h2 => (kY.block b (by have := HB1.out.zz; omega)).trans (F1x.out b h1 h2)
 have yY0 : Y.cell? ⟨w1x.heap.size, 0, none⟩ = some (.slice (some ⟨g1, 0, none⟩) d.ths.length c1) := by rw [← hY]; simp [go_sem]
 have yY1 : Y.cell? ⟨w1x.heap.size, 1, none⟩ = some (.slice s2 d.chs.length c2) := by rw [← hY]; simp [go_sem]
 have yY2 : Y.cell? ⟨w1x.heap.size, 2, none⟩ = some (.slice s3 d.tr.length c3) := by rw [← hY]; simp [go_sem]
 have yZ : w1x.heap.size < Y.heap.size := by rw [← hY]; simp
 go_upto_region 7 with fail
 have HBY := hidW (HB1.out.keep (V' := Y) (fun b _ h2 => kY.block b h2) kY.size)
 have OY := hidW (O1.out.keep (w' := Y) (fun b _ hb => kY.block b hb))
 clear hY kY m0 m1 v0 v1' v2' fs zs w0 w1' w2' fa za x0 x1 x2 x3 x4 bs ba zz
 obtain ⟨⟨m0, m1⟩, ⟨v0, v1', v2', fs, zs⟩, ⟨w0, w1', w2', fa, za⟩, x0, x1, x2, x3, x4, bs, ba, zz⟩ := HBY.out
 have hz1 := HB1.out.zz
 have BY := hidW (B1.out.trans (HKY.out.mono (by omega)))
 have ny0 : ¬ w1x.heap.size = w.heap.size := by omega
 have ny1 : ¬ w1x.heap.size = w.heap.size + 1 := by omega
 have ny2 : ¬ w1x.heap.size = w.heap.size + 1 + 1 := by omega
 have ny3 : ¬ w.heap.size + 1 = w1x.heap.size := by omega
 have ny4 : ¬ w.heap.size + 1 + 1 = w1x.heap.size := by omega
 rcases THR.out with h0 | h0 | ⟨h0, h5⟩
 ·subst h0
  rw [if_neg (by decide), if_neg (by decide)] at ST
  go_wp2_with fail
  obtain ⟨U, hU⟩ : ∃ U, ((Y.setCell ⟨w.heap.size + 1, 0, none⟩ (.slice (some ⟨g1, 0, none⟩) d.ths.length c1)).setCell ⟨w.heap.size + 1, 1, none⟩ (.slice s2 d.chs.length c2)).setCell ⟨w.heap.size + 1, 2, none⟩ (.slice s3 d.tr.length c3) = U := ⟨_, rfl⟩
  rw [hU]
  have HU := hidW (show Bq U w.heap.size _ _ _ _ _ _ _ _ _ _ from by rw [← hU]; exact HBY.out.put _ _ _)
  have O9 := hidW (show OwnS U base _ _ _ L1' L2' _ from by rw [← hU]; exact ((OY.out.offB bs).offB bs.set).offB bs.set.set)
  have B9 := hidW (show Below base w U from by rw [← hU]; refine Below.setCell (Below.setCell (Below.setCell BY.out ?_ _) ?_ _) ?_ _ <;> (show base ≤ w.heap.size + 1; omega))
  have zU : Y.heap.size ≤ U.heap.size := by rw [← hU]; simp
  have F9 : Hid (∀ b, b < w.heap.size → ¬ HitS (.slice (some ⟨g1, 0, none⟩) d.ths.length c1) (.slice s2 d.chs.length c2) (.slice s3 d.tr.length c3) L1 L2 b → U.heap[b]? = w.heap[b]?) := fun b h1 h2 => by rw [← hU]; exact set3_off (by omega) (FY.out b h1 h2)
  clear hU m0 m1 v0 v1' v2' fs zs w0 w1' w2' fa za x0 x1 x2 x3 x4 bs ba zz yY0 yY1 yY2
  have HBX := HU
  have K9 : Hid (∀ b, w.heap.size ≤ b → b < U.heap.size → U.heap[b]? = U.heap[b]?) := fun b _ _ => rfl
  have Z9 : U.heap.size ≤ U.heap.size := Nat.le_refl _
  have GO := hidW (l4Go_any p1 (some ⟨gb, ob, none⟩) a1 a2 lo hi base p _ _ _ _ _ _ k ⟨q, cr9, 0⟩ (q + 1) _ (ProgR.keep' HP.out (fun b h1 h2 => B9.out.block b (by omega))) hB O9.out (by have := HKV.out.size; omega) T9.out rfl kb hpb (by rw [HBN.out]; exact hbl))
  refine Calls.mono GO.out ?_
  rintro e w2 ⟨L3, rfl, hO2, hb2, hf2⟩
  have O2 := hidW hO2
  have B2 := hidW (B9.out.trans hb2)
  have F2 : Hid (∀ b, b < w.heap.size → ¬ HitS _ _ _ L1 L2 b → w2.heap[b]? = w.heap[b]?) := fun b h1 h2 => (hf2 b (by have := HKV.out.size; omega) (fun e => h2 (.inl (.inl e)))).trans (F9.out b h1 h2)
  have HB2 := hidW (HBX.out.keep (V' := w2) (fun b h1 h2 => (hf2 b (by have := Z9; omega) (fun e => by have e' : g1 = b := Option.some.inj e; omega)).trans (K9.out b h1 h2)) (by have := hb2.size; have := Z9; omega))
  have z2 := hb2.size
  clear GO hO2 hb2 hf2
  obtain ⟨⟨m0, m1⟩, ⟨v0, v1', v2', fs, zs⟩, ⟨w0, w1', w2', fa, za⟩, x0, x1, x2, x3, x4, bs, ba, zz⟩ := HB2.out
  go_wp2
  refine bodyPost_ret (v := .tuple #[.agg #[.slice (some ⟨g1, 0, none⟩) d.ths.length c1, .slice s2 d.chs.length c2, .slice s3 d.tr.length c3], .int .i64 0]) (by simp [results, Tryz.results54, go_sem, w0, w1', w2', fa]) rfl ?_
  rw [ST.out]
  refine ⟨_, _, _, _, _, _, _, _, _, rfl, fun _ => ⟨L3, L2', ?_⟩, ?_, fun b h1 h2 => set3_off (by omega) (F2.out b h1 h2)⟩
  ·have q2 := O2.out
   rw [HBN.out] at q2
   have E : (⟨(d.ths.set k ⟨q, cr9, 0⟩).set k (moveT ⟨q, cr9, 0⟩ nb cr9 (q + 1)), d.chs.set n' cc9, d.tr⟩ : SD) = doneS d k ⟨moveT ⟨q, rg, 0⟩ nb cr9 ((q : Int) + 1), d.chs.set n' cc9, d.tr, 0⟩ := by simp [doneS, moveT, List.set_set]
   rw [E] at q2
   exact ((q2.offB ba).offB ba.set).offB ba.set.set
  ·refine Below.setCell (Below.setCell (Below.setCell B2.out ?_ _) ?_ _) ?_ _ <;> (show base ≤ w.heap.size + 1 + 1; omega)
 ·subst h0
  rw [if_pos rfl] at ST
  go_wp2
  refine bodyPost_ret (v := .tuple #[.agg #[.slice (some ⟨g1, 0, none⟩) d.ths.length c1, .slice s2 d.chs.length c2, .slice s3 d.tr.length c3], .int .i64 4]) (by simp [results, Tryz.results54, go_sem, w0, w1', w2', fa]) rfl ?_
  rw [ST.out]
  refine ⟨_, _, _, _, _, _, _, _, _, rfl, fun h => ?_, ?_, fun b h1 h2 => set3_off (by omega) (FY.out b h1 h2)⟩
  ·simp at h
  ·refine Below.setCell (Below.setCell (Below.setCell BY.out ?_ _) ?_ _) ?_ _ <;> (show base ≤ w.heap.size + 1 + 1; omega)
 ·have EC := CRF.out h5 h0
  subst h0 EC
  rw [if_neg (by decide), if_pos rfl] at ST
  obtain ⟨g9, c9, y9, e9, -, -, -, -, l0, -, l2, f9⟩ := OY.out.thread T9.out
  injection e9 with hh1 hh2 hh3
  injection hh1 with hh1
  injection hh1 with hh1
  subst hh1 hh3
  have q9 : OwnS Y base (.slice (some ⟨g1, 0, none⟩) (⟨d.ths.set k ⟨q, cr9, 0⟩, d.chs.set n' cc9, d.tr⟩ : SD).ths.length c1) (.slice s2 d.chs.length c2) (.slice s3 d.tr.length c3) L1' L2' ⟨d.ths.set k ⟨q, cr9, 0⟩, d.chs.set n' cc9, d.tr⟩ := by simp only [List.length_set]; exact OY.out
  obtain ⟨L9, o9, -⟩ := (q9.setT T9.out 2).2
  simp only [List.length_set, List.set_set] at o9
  have O9 := hidW o9
  clear hh2 o9 l0 h5 q9
  go_wp2
  refine bodyPost_ret (v := .tuple #[.agg #[.slice (some ⟨g1, 0, none⟩) d.ths.length c1, .slice s2 d.chs.length c2, .slice s3 d.tr.length c3], .int .i64 0]) (by simp [results, Tryz.results54, go_sem, w0, w1', w2', fa]) rfl ?_
  rw [ST.out]
  refine ⟨_, _, _, _, _, _, _, _, _, rfl, fun _ => ⟨L9, L2', ?_⟩, ?_, fun b h1 h2 => set3_off (by omega) ((Below.heap_setCell Y ⟨g1, k * 3 + 2, none⟩ _ b (by show b ≠ g1; intro e; subst e; exact h2 (.inl (.inl rfl)))).trans (FY.out b h1 h2))⟩
  ·exact ((O9.out.offB ba.set).offB ba.set.set).offB ba.set.set.set
  ·refine Below.setCell (Below.setCell (Below.setCell (Below.setCell BY.out ?_ _) ?_ _) ?_ _) ?_ _
   ·exact i1
   all_goals (show base ≤ w.heap.size + 1 + 1; omega)
end Go.Proofs.YtknffngbdakblaaGreat
