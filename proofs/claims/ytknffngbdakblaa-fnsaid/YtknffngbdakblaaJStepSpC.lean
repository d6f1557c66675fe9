/- A step of the specification: printing. No condition. -/
import Derived.Test.YtknffngbdakblaaJG00
import Derived.Test.YtknffngbdakblaaJG09
import Derived.Test.YtknffngbdakblaaJStepGo
import Derived.Test.YtknffngbdakblaaJG08
import Derived.Test.YtknffngbdakblaaJG01
import Derived.Test.YtknffngbdakblaaJG02
import Derived.Test.YtknffngbdakblaaJG03
import Derived.Test.YtknffngbdakblaaJG06
import Derived.Deep.DeepCutAuto
import Derived.Test.YtknffngbdakblaaJStepSpA
import Derived.Test.YtknffngbdakblaaJG10
namespace Go.Proofs.Ytknffngbdakblaa
set_option linter.unusedSimpArgs false
set_option linter.unusedVariables false
set_option maxRecDepth 100000
open Go.RowKit
set_option maxHeartbeats 4000000 in
theorem sq10 (p1 p2 : Option Addr) (a1 a2 lo hi base : Nat) (p : PD) (v1 v2 v3 : Value) (L1 L2 : List (Rec × Value)) (d : SD) (k : Nat) (t : TD) (w : World) (hP : ProgR w lo hi p1 p2 p) (hB : hi ≤ base) (hO : OwnS w base v1 v2 v3 L1 L2 d) (hb : base ≤ w.heap.size) (hR : Right p d) (ht : d.ths[k]? = some t) (hst : t.st = 0) (ho : (insOf p d k).o = 10) :
  Calls Try.prog 25 #[.agg #[.slice p1 p.caps.length a1, .slice p2 p.bods.length a2], .agg #[v1, v2, v3], .int .i64 k] w fun e w' => StepY w base (HitS v1 v2 v3 L1 L2) (outOf p d k) d k e w' := by
 obtain ⟨q, g1, c1, gr, cr, gb, ob, gi, oi, cb, nb, s2, s3, c2, c3, y, O⟩ := hO.open hP hB hb hR ht
 rw [O.ou]
 have hcl := hR.pc
 have hbl := hR.bd k O.kb
 have hpb := hR.pb
 have hnl := hR.nl
 have HCH := hidW hR.cl
 have HTL := hidW hR.tl
 have HR := hidW hR
 obtain ⟨x, hx⟩ : ∃ x, insOf p d k = x := ⟨_, rfl⟩
 rw [hx] at O ho ⊢
 clear hx
 obtain ⟨e1, e2, e3, ep, hy, y1, y2, hq, nq, kl, kb, hbn, t0, t1, t2, b0, ⟨x0, x1, x2, x3, x4⟩, rr, f1, fr, z1, zr, zb, zi, i1, ir, ib, ii, n1, hok, -, h4⟩ := O
 subst e1 e2 e3 ep
 rw [hbn] at hbl
 have HBN := hidW hbn
 unfold insX Plain.insB at hok
 rw [decide_eq_true_eq] at hok
 obtain ⟨o, r, a, b, n⟩ := x
 simp only at ho hok x0 x1 x2 x3 x4
 subst ho
 obtain ⟨r', hr'⟩ : ∃ r' : Nat, r = r' := ⟨r.toNat, by omega⟩
 subst hr'
 have br0 : (0 : Int) ≤ (r' : Int) := by omega
 have br1 : (r' : Int) < 4 := by omega
 have br2 : r' < 4 := by omega
 obtain ⟨a', ha'⟩ : ∃ a' : Nat, a = a' := ⟨a.toNat, by omega⟩
 subst ha'
 have ba0 : (0 : Int) ≤ (a' : Int) := by omega
 have ba1 : (a' : Int) < 4 := by omega
 have ba2 : a' < 4 := by omega
 obtain ⟨b', hb'⟩ : ∃ b' : Nat, b = b' := ⟨b.toNat, by omega⟩
 subst hb'
 have bb0 : (0 : Int) ≤ (b' : Int) := by omega
 have bb1 : (b' : Int) < 4 := by omega
 have bb2 : b' < 4 := by omega
 obtain ⟨pc, rg, st⟩ := t
 simp only at hq hst h4 rr t0 t2
 subst hq hst
 have i0 : (0 : Int) ≤ (k : Int) := by omega
 have j1 : (k : Int) < (d.ths.length : Int) := by omega
 have j2 : (k : Int) < (p.bods.length : Int) := by omega
 have j3 : (0 : Int) ≤ (q : Int) := by omega
 have j4 : (q : Int) < (nb : Int) := by omega
 have w1 : IntKind.i64.wrap ((q : Int) + 1) = (q : Int) + 1 := Go.IntWalk.i64_in _ (by omega)
 obtain ⟨W, hW⟩ : ∃ W, (((w.alloc (.cells #[.slice p1 p.caps.length a1, .slice (some ⟨gb, ob, none⟩) p.bods.length a2] 40)).alloc (.cells #[.slice (some ⟨g1, 0, none⟩) d.ths.length c1, .slice s2 d.chs.length c2, .slice s3 d.tr.length c3] 28)).alloc (.cells #[.slice none 0 0, .slice none 0 0, .slice none 0 0] 28)) = W := ⟨_, rfl⟩
 obtain ⟨V, hV⟩ : ∃ V, W.alloc (.cells #[.int .i64 10, .int .i64 r', .int .i64 a', .int .i64 b', .int .i64 n] 57) = V := ⟨_, rfl⟩
 obtain ⟨BX, KV⟩ := bq_new hW hV
 have HW := hidW hW
 have HV := hidW hV
 have HBX := hidW BX
 have HKV := hidW KV
 have HO := hidW hO
 have HP := hidW hP
 have HT := hidW ht
 have HY := hidW hy
 have HY2 := hidW y2
 have H4 := hidW h4
 have RR := hidW rr
 have F1 := hidW f1
 have FR := hidW fr
 have HOK := hidW hok
 have y0 : g1 < w.heap.size + 1 := by omega
 have y3 : g1 < w.heap.size + 1 + 1 := by omega
 have y4 : g1 < w.heap.size + 1 + 1 + 1 := by omega
 have y5 : gb < w.heap.size + 1 := by omega
 have y6 : gb < w.heap.size + 1 + 1 := by omega
 have y7 : gi < w.heap.size + 1 := by omega
 have y8 : gi < w.heap.size + 1 + 1 := by omega
 clear hW hV BX KV hO hP ht hy y1 y2 h4 rr f1 fr hok hR hbn
 go_enter Try.func25, Try.ntmps25
 go_upto_region 14 with fail
 rw [HW.out, HV.out]
 clear x0 x1 x2 x3 x4 t0 t1 t2 b0 y0 y3 y4 y5 y6 y7 y8
 obtain ⟨⟨m0, m1⟩, ⟨v0, v1', v2', fs, zs⟩, ⟨w0, w1', w2', fa, za⟩, x0, x1, x2, x3, x4, bs, ba, zz⟩ := HBX.out
 have zv1 : w.heap.size < V.heap.size := by omega
 have zv2 : g1 < V.heap.size := by omega
 have zv3 : gr < V.heap.size := by omega
 have ng00 : ¬ gr = w.heap.size := by omega
 have nh00 : ¬ w.heap.size = gr := by omega
 have ng01 : ¬ gr = w.heap.size + 1 := by omega
 have nh01 : ¬ w.heap.size + 1 = gr := by omega
 have ng02 : ¬ gr = w.heap.size + 1 + 1 := by omega
 have nh02 : ¬ w.heap.size + 1 + 1 = gr := by omega
 have ng03 : ¬ gr = w.heap.size + 1 + 1 + 1 := by omega
 have nh03 : ¬ w.heap.size + 1 + 1 + 1 = gr := by omega
 have ng10 : ¬ g1 = w.heap.size := by omega
 have nh10 : ¬ w.heap.size = g1 := by omega
 have ng11 : ¬ g1 = w.heap.size + 1 := by omega
 have nh11 : ¬ w.heap.size + 1 = g1 := by omega
 have ng12 : ¬ g1 = w.heap.size + 1 + 1 := by omega
 have nh12 : ¬ w.heap.size + 1 + 1 = g1 := by omega
 have ng13 : ¬ g1 = w.heap.size + 1 + 1 + 1 := by omega
 have nh13 : ¬ w.heap.size + 1 + 1 + 1 = g1 := by omega
 obtain ⟨va, hva⟩ : ∃ v, rg.getD a' 0 = v := ⟨_, rfl⟩
 have HVa := hidW hva
 clear hva
 have la : V.cell? ⟨gr, a', none⟩ = some (.int .i64 va) := by rw [← HVa.out]; exact (HKV.out.cell (p := ⟨gr, a', none⟩) zr).trans (RR.out a' (by omega))
 have ff : ∀ j, V.frozen? ⟨gr, j, none⟩ = false := fun j => (HKV.out.frozen (p := ⟨gr, j, none⟩) zr).trans (FR.out j)
 by_cases hf : d.tr.length = 4000
 ·have hfi : ((d.tr.length : Int) == 4000) = true := by simp; omega
  have HF := hidW hf
  clear hf
  go_wp2
  refine bodyPost_ret (v := .tuple #[.agg #[.slice (some ⟨g1, 0, none⟩) d.ths.length c1, .slice s2 d.chs.length c2, .slice s3 d.tr.length c3], .int .i64 3]) (by simp [results, Try.results25, go_sem, w0, w1', w2', fa]) rfl ?_
  refine ⟨_, _, _, _, _, _, _, _, _, retI (by simp [stepO, HF.out]), fun h => ?_, ?_, fun b h1 _ => set3_off (by omega) (HKV.out.block b h1)⟩
  ·exfalso
   simp [stepO, HF.out] at h
  ·refine Below.setCell (Below.setCell (Below.setCell (HKV.out.mono hb) ?_ _) ?_ _) ?_ _ <;> (show base ≤ w.heap.size + 1 + 1; omega)
 ·have hfi : ((d.tr.length : Int) == 4000) = false := by simp; omega
  have HF := hidW hf
  clear hf
  go_wp2_with fail
  have HTN := hidW HO.out.n
  have TB : Hid (∀ q, (Value.slice s3 d.tr.length c3).ownBlock = some q → q < w.heap.size) := fun q hq => (World.ownsRow.lt HTN.out _ hq).2
  have TN : ∀ q, w.heap.size ≤ q → (Value.slice s3 d.tr.length c3).ownBlock ≠ some q := fun q hq e => by have := TB.out q e; omega
  have TR : (Value.slice s3 d.tr.length c3).ownBlock ≠ some gr := fun e => ownType' HTN.out (HO.out.t.inn k y HY.out) (by decide) e (by rw [HY2.out]; rfl)
  have T1 : (Value.slice s3 d.tr.length c3).ownBlock ≠ some g1 := fun e => ownType' HTN.out HO.out.t.row (by decide) e rfl
  have hne := extN_ne V (Value.slice s3 d.tr.length c3).ownBlock
  have u1 := ExtN.fit x2 zz (TN _ (by omega))
  have u2 := ExtN.fit v2' zs (TN _ (by omega))
  have ua := ExtN.fit la zv3 TR
  refine regionMix V (CN V (Value.slice s3 d.tr.length c3).ownBlock) 9 11 (by kernel_rfl) (by kernel_rfl) (fun _ _ d _ _ h => by cases d <;> exact h) (CN.drew _ _) ?_
  unfold CN
  dsimp only [List.take, List.drop]
  repeat (go_big_quiet_step (fail))
  refine wpQuiet_nil ?_
  clear hne u1 u2 ua
  have OT := hidW (show OwnD (V.drew.alloc (.cells #[.int .i64 k, .int .i64 va] 35)) base (.slice s3 d.tr.length c3) d.tr from ownKeep' HTN.out (fun q hq => by have := TB.out q hq; exact (Below.heap_alloc V.drew _ _ (by show q < V.heap.size; omega)).trans (HKV.out.block q this)))
  have QY := hidW (HO.out.keep (w' := V.drew.alloc (.cells #[.int .i64 k, .int .i64 va] 35)) (fun b _ hb1 => (Below.heap_alloc V.drew _ _ (by show b < V.heap.size; omega)).trans (HKV.out.block b hb1)))
  unfold wpListC
  go_wp2
  refine And.intro (fun _ hc => CN.below hc ((Below.refl _ _).alloc (Nat.le_refl _) _)) ?_
  unfold wpListC
  refine app_note rfl _ _ rfl (V.drew.alloc (.cells #[.int .i64 k, .int .i64 va] 35)) base (.slice s3 d.tr.length c3) d.tr.length (flatN d.tr) rfl OT.out V.heap.size (.int .i64 k) (.int .i64 va) rfl rfl rfl (by simp [go_sem]) (by simp [go_sem]) (by omega) (by simp; show base ≤ V.heap.size + 1; omega) ?_
  intro g6 c6 w6 ho6 hg6 hn6 hl6
  refine And.intro (fun _ hc => CN.grown hc hg6) ?_
  refine listC_late _ _ _ _ (by decide) ?_
  have kb6 : ∀ b, w.heap.size ≤ b → b < V.heap.size → w6.heap[b]? = V.heap[b]? := fun b h1 h2 => (hg6.block b (by simp; show b < V.heap.size + 1; omega) (fun e => TN b h1 e.symm)).trans (Below.heap_alloc V.drew _ _ h2)
  have zs6 : V.heap.size < w6.heap.size := by have := hg6.size; simp at this; have h9 : V.drew.heap.size = V.heap.size := rfl; omega
  have Q6 := hidW (QY.out.note (⟨k, va⟩ : ND) (v4 := .slice (some ⟨g6, 0, none⟩) (d.tr.length + 1) c6) (by
   show w6.ownsRow base 35 2 _ (d.tr ++ [(⟨k, va⟩ : ND)]).length (flatN (d.tr ++ [(⟨k, va⟩ : ND)]))
   rw [flatN_app, List.length_append]
   exact ho6) (fun b h1 h2 => hg6.block b h1 (fun e => h2 e.symm)))
  have K6 := hidW ((HKV.out.mono hb).trans (Below.grown (((Below.drew (Below.refl _ _)).alloc (by show base ≤ V.heap.size; omega) _)) hg6 (by simp; show base ≤ V.heap.size + 1; omega) (fun q hq => (World.ownsRow.lt HTN.out _ hq).1)))
  have HB6 := hidW (HBX.out.keep kb6 (by omega))
  have c6a : Hid (∀ b, b < w.heap.size → (Value.slice s3 d.tr.length c3).ownBlock ≠ some b → w6.heap[b]? = w.heap[b]?) := fun b h1 h2 => (hg6.block b (by simp; show b < V.heap.size + 1; omega) (fun e => h2 e.symm)).trans ((Below.heap_alloc V.drew _ _ (by show b < V.heap.size; omega)).trans (HKV.out.block b h1))
  clear m0 m1 v0 v1' v2' fs zs w0 w1' w2' fa za x0 x1 x2 x3 x4 bs ba zz zv1 zv2 zv3 ff la ng00 nh00 ng01 nh01 ng02 nh02 ng03 nh03 ng10 nh10 ng11 nh11 ng12 nh12 ng13 nh13 ho6 hg6 hn6 hl6 kb6 OT QY HTN TB TN TR
  obtain ⟨⟨m0, m1⟩, ⟨v0, v1', v2', fs, zs⟩, ⟨w0, w1', w2', fa, za⟩, x0, x1, x2, x3, x4, bs, ba, zz⟩ := HB6.out
  have zv1 : w.heap.size < w6.heap.size := by omega
  go_wp2_with fail
  obtain ⟨U, hU⟩ : ∃ U, w6.setCell ⟨w.heap.size + 1, 2, none⟩ (.slice (some ⟨g6, 0, none⟩) (d.tr.length + 1) c6) = U := ⟨_, rfl⟩
  rw [hU]
  have HU := hidW (show Bq U w.heap.size _ _ _ _ _ _ _ _ _ _ from by rw [← hU]; exact HB6.out.put2 _)
  have O9 := hidW (show OwnS U base _ _ _ L1 L2 ⟨d.ths, d.chs, d.tr ++ [⟨k, va⟩]⟩ from by rw [← hU]; exact Q6.out.offB bs)
  have B9 := hidW (show Below base w U from by rw [← hU]; exact Below.setCell K6.out (by show base ≤ w.heap.size + 1; omega) _)
  have zU : w6.heap.size ≤ U.heap.size := by rw [← hU]; simp
  have F9 : Hid (∀ b, b < w.heap.size → ¬ HitS (.slice (some ⟨g1, 0, none⟩) d.ths.length c1) (.slice s2 d.chs.length c2) (.slice s3 d.tr.length c3) L1 L2 b → U.heap[b]? = w.heap[b]?) := fun b h1 h2 => by rw [← hU, Below.heap_setCell _ _ _ b (by show b ≠ w.heap.size + 1; omega)]; exact c6a.out b h1 (fun e => h2 (.inr (.inr e)))
  clear hU m0 m1 v0 v1' v2' fs zs w0 w1' w2' fa za x0 x1 x2 x3 x4 bs ba zz zv1 HB6 Q6 K6
  have HBX := HU
  have T9 := HT
  have K9 : Hid (∀ b, w.heap.size ≤ b → b < U.heap.size → U.heap[b]? = U.heap[b]?) := fun b _ _ => rfl
  have Z9 : U.heap.size ≤ U.heap.size := Nat.le_refl _
  have GO := hidW (l4Go_any p1 (some ⟨gb, ob, none⟩) a1 a2 lo hi base p _ _ _ _ _ _ k ⟨q, rg, 0⟩ (q + 1) _ (ProgR.keep' HP.out (fun b h1 h2 => B9.out.block b (by omega))) hB O9.out (by have := HKV.out.size; omega) T9.out rfl kb hpb (by rw [HBN.out]; exact hbl))
  refine Calls.mono GO.out ?_
  rintro e w2 ⟨L1', rfl, hO2, hb2, hf2⟩
  have O2 := hidW hO2
  have B2 := hidW (B9.out.trans hb2)
  have F2 : Hid (∀ b, b < w.heap.size → ¬ HitS _ _ _ L1 L2 b → w2.heap[b]? = w.heap[b]?) := fun b h1 h2 => (hf2 b (by have := HKV.out.size; omega) (fun e => h2 (.inl (.inl e)))).trans (F9.out b h1 h2)
  have HB2 := hidW (HBX.out.keep (V' := w2) (fun b h1 h2 => (hf2 b (by have := Z9; omega) (fun e => by have e' : g1 = b := Option.some.inj e; omega)).trans (K9.out b h1 h2)) (by have := hb2.size; have := Z9; omega))
  have z2 := hb2.size
  clear GO hO2 hb2 hf2
  obtain ⟨⟨m0, m1⟩, ⟨v0, v1', v2', fs, zs⟩, ⟨w0, w1', w2', fa, za⟩, x0, x1, x2, x3, x4, bs, ba, zz⟩ := HB2.out
  go_wp2
  refine bodyPost_ret (v := .tuple #[.agg #[.slice (some ⟨g1, 0, none⟩) d.ths.length c1, .slice s2 d.chs.length c2, .slice (some ⟨g6, 0, none⟩) (d.tr.length + 1) c6], .int .i64 0]) (by simp [results, Try.results25, go_sem, w0, w1', w2', fa]) rfl ?_
  refine ⟨_, _, _, _, _, _, _, _, _, retI (by simp [stepO, HF.out]), fun _ => ⟨L1', L2, ?_⟩, ?_, fun b h1 h2 => set3_off (by omega) (F2.out b h1 h2)⟩
  ·have q2 := O2.out
   rw [HBN.out] at q2
   have E : (⟨d.ths.set k (moveT ⟨q, rg, 0⟩ nb rg (q + 1)), d.chs, d.tr ++ [⟨k, va⟩]⟩ : SD) = doneS d k (stepO nb ⟨q, rg, 0⟩ ⟨10, r', a', b', n⟩ d.chs d.tr k) := by have h9 := HVa.out; rw [List.getD_eq_getElem?_getD] at h9; simp [doneS, stepO, regN, h9, HF.out]
   rw [E] at q2
   exact ((q2.offB ba).offB ba.set).offB ba.set.set
  ·refine Below.setCell (Below.setCell (Below.setCell B2.out ?_ _) ?_ _) ?_ _ <;> (show base ≤ w.heap.size + 1 + 1; omega)
end Go.Proofs.Ytknffngbdakblaa
