/- The frame of a law over drawn bytes: they are a slice of bytes in memory; laws.big counts them. No condition. A source that goes on from step to step: what stays between two steps. No condition. Fair of the specification. Conditions: program and source fit. The draw of FnStuck: a program, and a source as they are read, perhaps one that ran on. Conditions: the code's bytes lie in memory. Lists of integers as they lie in memory, and what the laws' small functions make of them. Conditions: the lists are of at most a thousand million numbers. -/
import Derived.Test.YtknffngbdakblaaGreatJG00
import Derived.Test.YtknffngbdakblaaGreatRows
import Derived.Test.YtknffngbdakblaaGreatJG10
import Derived.ProofKit
import Derived.OpenShut
import Derived.ShutString
import Derived.ChangeOld
import Derived.ChangeSlices
import Derived.Test.YtknffngbdakblaaGreatJG09
import Derived.Test.YtknffngbdakblaaGreatJStepIm9
import Derived.Test.YtknffngbdakblaaGreatJG06
import Derived.Test.YtknffngbdakblaaGreatJG02
import Derived.Test.YtknffngbdakblaaGreatJG12
import Derived.Test.YtknffngbdakblaaGreatJG14
import Derived.Test.YtknffngbdakblaaGreatJG05
import Derived.Test.YtknffngbdakblaaGreatJG01
import Derived.Test.YtknffngbdakblaaGreatJSrcOkS
import Derived.Test.YtknffngbdakblaaGreatJSrcDup
import Derived.Test.YtknffngbdakblaaGreatJDrawLT
import Derived.Test.YtknffngbdakblaaGreatChecked
import Derived.WalkKit
import Derived.KernelRfl
import Derived.WalkSpells
import Derived.WalkLawsBesides
import Derived.Deep.QuietTactic
import Derived.BigQuiet
namespace Go.Proofs.YtknffngbdakblaaGreat
section
set_option linter.unusedSimpArgs false
set_option linter.unusedVariables false
set_option maxRecDepth 100000
open Go.ChangeShapes Go.WideShapes Go.ChangeAt Go.RowKit
theorem retB {x y : Bool} (h : x = y) : Ending.returned (.bool x) = Ending.returned (.bool y) := by rw [h]
theorem big_any (s : Option Addr) (n c : Nat) (w : World) : Calls Tryz.prog 5 #[.slice s n c] w fun e w' => e = .returned (.bool (decide (1048576 < n))) ∧ w' = w := by
 go_enter Tryz.func5, Tryz.ntmps5
 go_wp2
 go_ret
 refine ⟨retB ?_, rfl⟩
 rw [Bool.eq_iff_iff]
 simp
 omega
theorem ownS : ownKnob Tryz.prog.godebug = none := by kernel_rfl
theorem laidOutS : laidOutB Tryz.prog = true := by kernel_rfl
theorem bytes_read {H : Type} {enc : TypeId × Value → H} {w : World} {base b0 : Nat} {held : Bool} {k : Reach} {v : Value} {d : DataW H} {p : List MemPlace}
  (hv : Value.okWide Tryz.prog w k b0 22 v) (h : DataW.Trod enc Tryz.prog w base (fun _ => true) held 22 v d p) :
  ∃ (s : Option Addr) (n c : Nat), v = .slice s n c ∧ n ≤ maxLen ∧ Bytes w w.heap.size s n := by
 obtain ⟨s, len, cap, rfl⟩ := okWide_slice Tryz.underlying22 hv
 obtain ⟨fuel, hf⟩ := h
 rcases open_ints Tryz.underlying22 Tryz.underlying5 (by kernel_rfl) hf with ⟨hcs, _⟩ | ⟨a, l, c, zs, hcs, _, hl, hm, hz, _, hcell, hwz⟩
 ·simp [Value.cells] at hcs
  obtain ⟨rfl, rfl, rfl⟩ := hcs
  exact ⟨none, 0, 0, rfl, Nat.zero_le _, .inl rfl⟩
 ·simp [Value.cells] at hcs
  obtain ⟨rfl, rfl, rfl⟩ := hcs
  simp at hz
  refine ⟨some a, len, cap, rfl, by omega, ?_⟩
  by_cases h0 : len = 0
  ·exact .inl h0
  ·have c0 := hcell 0 (by omega)
   have c0' : w.cell? a = some (.int .u8 (zs.getD 0 0)) := by simpa [Addr.add] using c0
   have hs := World.cell?_spot c0'
   have hg : a.block < w.heap.size := by
    apply Classical.byContradiction
    intro hn
    have : w.heap[a.block]? = none := by simp; omega
    simp [World.cell?, this] at c0'
   obtain ⟨g, off, spot⟩ := a
   simp at hs
   subst hs
   refine .inr ⟨g, off, rfl, hg, fun i hi => ?_⟩
   have ci := hcell i (by omega)
   have e : (Addr.add ⟨g, off, none⟩ i) = ⟨g, off + i, none⟩ := by
    by_cases h : i = 0
    ·subst h; rfl
    ·simp [Addr.add, h]
   rw [e] at ci
   have hmem : zs.getD i 0 ∈ zs := by
    rw [List.getD_eq_getElem?_getD, List.getElem?_eq_getElem (by omega)]
    exact List.getElem_mem (by omega)
   have hw := bounds_u8 (hwz _ hmem)
   exact ⟨_, ci, by omega, by omega⟩
theorem Bytes.up {w w' : World} {s : Option Addr} {n : Nat} (h : Bytes w w.heap.size s n) (hb : Below w.heap.size w w') : Bytes w' w'.heap.size s n := by
 have hz := hb.size
 rcases h with h | ⟨g, o, hs, hg, hc⟩
 ·exact .inl h
 ·refine .inr ⟨g, o, hs, by omega, fun k hk => ?_⟩
  obtain ⟨b, h1, h2⟩ := hc k hk
  exact ⟨b, (hb.cell (p := ⟨g, o + k, none⟩) hg).trans h1, h2⟩
end
section
set_option linter.unusedSimpArgs false
set_option linter.unusedVariables false
set_option maxRecDepth 100000
open Go.RowKit
structure RunI (w V : World) (base S : Nat) (p0 p1 q1 q2 q3 : Value) (D : SD) : Prop where
 b : Br V w.heap.size p0 p1 q1 q2 q3
 k : Below w.heap.size w V
 o : ∃ v1 v2 v3 L1 L2, OwnS V base v1 v2 v3 L1 L2 D ∧ BoF S V v1 v2 v3 ∧ BxS V S
 m : base ≤ V.heap.size
/- a new world in which nothing has turned -/
theorem RunI.keep {w V V' : World} {base S : Nat} {p0 p1 q1 q2 q3 : Value} {D : SD} (h : RunI w V base S p0 p1 q1 q2 q3 D) (hb : Below V.heap.size V V') : RunI w V' base S p0 p1 q1 q2 q3 D := by
 obtain ⟨v1, v2, v3, L1, L2, o, s, bs⟩ := h.o
 exact ⟨h.b.below hb h.b.zz, h.k.trans (hb.mono h.k.size), ⟨v1, v2, v3, L1, L2, o.keep (fun q _ hq => hb.block q hq), s.below hb s.z, bs.same (hb.block _ s.z)⟩, Nat.le_trans h.m hb.size⟩
/- another source put into the box -/
theorem RunI.put {w V : World} {base S : Nat} {p0 p1 q1 q2 q3 v1 v2 v3 : Value} {L1 L2 : List (Rec × Value)} {D D' : SD} (h : RunI w V base S p0 p1 q1 q2 q3 D) (hz : w.heap.size + 1 + 1 < base) (hS : base ≤ S) (o : OwnS V base v1 v2 v3 L1 L2 D') : RunI w (((V.setCell ⟨S, 0, none⟩ v1).setCell ⟨S, 1, none⟩ v2).setCell ⟨S, 2, none⟩ v3) base S p0 p1 q1 q2 q3 D' := by
 obtain ⟨u1, u2, u3, M1, M2, -, s, bs⟩ := h.o
 have kk : Below base V (((V.setCell ⟨S, 0, none⟩ v1).setCell ⟨S, 1, none⟩ v2).setCell ⟨S, 2, none⟩ v3) := by
  refine Below.setCell (Below.setCell (Below.setCell (Below.refl _ _) ?_ _) ?_ _) ?_ _ <;> exact hS
 exact ⟨h.b.below kk hz, h.k.trans (kk.mono (by omega)), ⟨v1, v2, v3, L1, L2, ((o.offB bs).offB bs.set).offB bs.set.set, ((s.set0 _).set1 _).set2 _, bs.set.set.set⟩, Nat.le_trans h.m kk.size⟩
theorem l1Min_is (a : Int) (w : World) : Calls Tryz.prog 32 #[.int .i64 a, .int .i64 200] w fun e w' => e = .returned (.int .i64 (min a 200)) ∧ w' = w := by
 by_cases h : a < 200
 ·have e : min a 200 = a := by omega
  rw [e]
  go_enter Tryz.func32, Tryz.ntmps32
  go_wp2
  go_ret
  exact ⟨rfl, rfl⟩
 ·have e : min a 200 = 200 := by omega
  rw [e]
  go_enter Tryz.func32, Tryz.ntmps32
  go_wp2
  go_ret
  exact ⟨rfl, rfl⟩
end
section
set_option linter.unusedSimpArgs false
set_option linter.unusedVariables false
set_option maxRecDepth 100000
open Go.RowKit
set_option maxHeartbeats 2000000 in
theorem specFair_bad (p1 p2 s1 s2 s3 : Option Addr) (a1 a2 c1 c2 c3 lo hi lo' hi' : Nat) (p : PD) (d : SD) (rr : Int) (w : World) (h : ProgR w lo hi p1 p2 p) (h' : SrcR w lo' hi' s1 s2 s3 d) (hB : hi ≤ w.heap.size) (hB' : hi' ≤ w.heap.size) (hf : Fits p) (hf' : SFits d) (hy : srcB p d = false) :
  Calls Tryz.prog 12 #[.agg #[.slice p1 p.caps.length a1, .slice p2 p.bods.length a2], .agg #[.slice s1 d.ths.length c1, .slice s2 d.chs.length c2, .slice s3 d.tr.length c3], .int .i64 rr] w (SStepQ w 0 ⟨[], [], []⟩) := by
 have HY := hidW hy
 clear hy
 obtain ⟨W, hW⟩ : ∃ W, ((w.alloc (.cells #[.slice p1 p.caps.length a1, .slice p2 p.bods.length a2] 27)).alloc (.cells #[.slice s1 d.ths.length c1, .slice s2 d.chs.length c2, .slice s3 d.tr.length c3] 32)).alloc (.cells #[.slice none 0 0, .slice none 0 0, .slice none 0 0] 32) = W := ⟨_, rfl⟩
 obtain ⟨bc, kW⟩ := br_new hW
 have HW := hidW hW
 have H := hidW h
 have H' := hidW h'
 have HF := hidW hf
 have HF' := hidW hf'
 have BC0 := hidW bc
 have KW := hidW kW
 have zW := kW.size
 obtain ⟨m0, m1, ⟨v0, v1, v2, fs, zs⟩, ⟨r0, r1, r2, fa, za⟩, ba, zz⟩ := bc
 clear hW kW h h' hf hf'
 go_enter Tryz.func12, Tryz.ntmps12
 go_wp2_with fail
 rw [HW.out]
 refine (specSource_any p1 p2 s1 s2 s3 a1 a2 c1 c2 c3 lo hi lo' hi' p d W (H.out.keep' (Keep.of_below KW.out hB)) (H'.out.keep (Keep.of_below KW.out hB')) (by omega) (by omega) HF.out HF'.out).mono ?_
 rintro e w1 ⟨rfl, hb1⟩
 rw [HY.out]
 have bc1 := BC0.out.below hb1 zz
 have BC := hidW bc1
 have K1 := hidW (KW.out.trans (hb1.mono (by omega)))
 have z1 := hb1.size
 clear hb1 m0 m1 v0 v1 v2 fs zs r0 r1 r2 fa za ba zz
 obtain ⟨m0, m1, ⟨v0, v1, v2, fs, zs⟩, ⟨r0, r1, r2, fa, za⟩, ba, zz⟩ := bc1
 go_wp2
 obtain ⟨Z, hZ, bz, oz, kz⟩ := BC.out.put (.slice none 0 0) (.slice none 0 0) (.slice none 0 0)
 refine bodyPost_ret (v := .tuple #[.agg #[.slice none 0 0, .slice none 0 0, .slice none 0 0], .int .i64 0]) ?_ rfl ?_
 ·rw [hZ]
  simp [results, Tryz.results12, go_sem, bz.c0, bz.c1, bz.c2]
 ·rw [hZ]
  exact ⟨none, 0, none, 0, none, 0, [], [], rfl, oz _ _ _ _ _ _ _ (OwnS.nil _ _), kz _ _ K1.out (by omega)⟩
set_option maxHeartbeats 4000000 in
theorem specFair_go (p1 p2 s1 s2 s3 : Option Addr) (a1 a2 c1 c2 c3 lo hi lo' hi' : Nat) (p : PD) (d : SD) (rr : Int) (w : World) (h : ProgR w lo hi p1 p2 p) (h' : SrcR w lo' hi' s1 s2 s3 d) (hB : hi ≤ w.heap.size) (hB' : hi' ≤ w.heap.size) (hf : Fits p) (hf' : SFits d) (hy : srcB p d = true) :
  Calls Tryz.prog 12 #[.agg #[.slice p1 p.caps.length a1, .slice p2 p.bods.length a2], .agg #[.slice s1 d.ths.length c1, .slice s2 d.chs.length c2, .slice s3 d.tr.length c3], .int .i64 rr] w (SStepQ w ((fairX p d rr).2 : Int) (fairX p d rr).1) := by
 have HX := hidW (show fairX p d rr = rdN p p.bods.length (d, 0) (rounds rr) from rfl)
 obtain ⟨FX, hFX⟩ : ∃ K, fairX p d rr = K := ⟨_, rfl⟩
 rw [hFX] at HX ⊢
 clear hFX
 have HY := hidW hy
 have HR := hidW (right_of hy)
 obtain ⟨n, hn⟩ : ∃ n, p.bods.length = n := ⟨_, rfl⟩
 rw [hn] at HX
 have hn4 : n ≤ 4 := by have := (right_of hy).pb; omega
 have HN := hidW hn
 have HRD := hidW (fun r => rdN_ok (p := p) (n := n) (x := (d, 0)) hy r)
 have HLE := hidW (fun r => rdN_le p n (d, 0) r)
 have HFR := hidW (fun r => rdN_fits (p := p) (n := n) (x := (d, 0)) hy hf' r)
 clear hy hn
 obtain ⟨W, hW⟩ : ∃ W, ((w.alloc (.cells #[.slice p1 p.caps.length a1, .slice p2 p.bods.length a2] 27)).alloc (.cells #[.slice s1 d.ths.length c1, .slice s2 d.chs.length c2, .slice s3 d.tr.length c3] 32)).alloc (.cells #[.slice none 0 0, .slice none 0 0, .slice none 0 0] 32) = W := ⟨_, rfl⟩
 obtain ⟨bc, kW⟩ := br_new hW
 have HW := hidW hW
 have H := hidW h
 have H' := hidW h'
 have HF := hidW hf
 have HF' := hidW hf'
 have BC0 := hidW bc
 have KW := hidW kW
 have zW := kW.size
 obtain ⟨m0, m1, ⟨v0, v1, v2, fs, zs⟩, ⟨r0, r1, r2, fa, za⟩, ba, zz⟩ := bc
 clear hW kW h h' hf hf'
 go_enter Tryz.func12, Tryz.ntmps12
 go_wp2_with fail
 rw [HW.out]
 refine (specSource_any p1 p2 s1 s2 s3 a1 a2 c1 c2 c3 lo hi lo' hi' p d W (H.out.keep' (Keep.of_below KW.out hB)) (H'.out.keep (Keep.of_below KW.out hB')) (by omega) (by omega) HF.out HF'.out).mono ?_
 rintro e w1 ⟨rfl, hb1⟩
 rw [HY.out]
 have bc1 := BC0.out.below hb1 zz
 have BC := hidW bc1
 have K1 := hidW (KW.out.trans (hb1.mono (by omega)))
 have z1 := hb1.size
 clear hb1 m0 m1 v0 v1 v2 fs zs r0 r1 r2 fa za ba zz
 obtain ⟨m0, m1, ⟨v0, v1, v2, fs, zs⟩, ⟨r0, r1, r2, fa, za⟩, ba, zz⟩ := bc1
 go_wp2_with fail
 refine (specDup_any s1 s2 s3 c1 c2 c3 lo' hi' d w1 (H'.out.keep (Keep.of_below K1.out hB')) (by omega) HF'.out).mono ?_
 rintro e w5 ⟨u1, u2, u3, L1, L2, rfl, ho5, hb5⟩
 obtain ⟨t1, e1, t2, e2, t3, e3, rfl, rfl, rfl, -⟩ := ho5.src
 obtain ⟨W6, hW6, b6, k6, z6⟩ := BoF.new w5 (.slice t1 d.ths.length e1) (.slice t2 d.chs.length e2) (.slice t3 d.tr.length e3) 32
 have z5 := hb5.size
 obtain ⟨S, hS, hSb, zS⟩ : ∃ S, w5.heap.size = S ∧ w1.heap.size ≤ S ∧ S < W6.heap.size := ⟨_, rfl, z5, by omega⟩
 have RI := hidW (show RunI w W6 w1.heap.size S (.slice p1 p.caps.length a1) (.slice p2 p.bods.length a2) (.slice s1 d.ths.length c1) (.slice s2 d.chs.length c2) (.slice s3 d.tr.length c3) d from
  ⟨(BC.out.below hb5 zz).below k6 (by omega), (K1.out.trans (hb5.mono (by omega))).trans (k6.mono (by omega)), ⟨_, _, _, L1, L2, ho5.keep (fun q _ hq => k6.block q hq), hS ▸ b6, ⟨_, _, by rw [← hW6, ← hS]; exact heap_alloc_new _ _⟩⟩, by omega⟩)
 have HW6 := hidW hW6
 have HS6 := hidW hS
 have zz1 := zz
 have hlen := (HR.out.tl).trans HN.out
 have HLN := hidW hlen
 clear ho5 hb5 hW6 b6 k6 z6 z5 hS m0 m1 v0 v1 v2 fs zs r0 r1 r2 fa za ba zz hlen
 obtain ⟨M, hM, hM2⟩ : ∃ M : Int, min rr 200 = M ∧ M.toNat = rounds rr := ⟨_, rfl, rfl⟩
 have hR2 : M.toNat ≤ 200 := by rw [hM2]; exact rounds_le rr
 rw [← hM2] at HX
 have HM := hidW hM
 clear hM2 hM
 have HSD := hidW (BC.out)
 go_wp2_with fail
 rw [HW6.out, HS6.out]
 go_loopw [9, 10] (fun c i wr => ∃ r : Nat, r ≤ M.toNat ∧ i = .int .i64 r ∧ c = .int .i64 ((rdN p n (d, 0) r).2 : Int) ∧ RunI w wr w1.heap.size S (.slice p1 p.caps.length a1) (.slice p2 p.bods.length a2) (.slice s1 d.ths.length c1) (.slice s2 d.chs.length c2) (.slice s3 d.tr.length c3) (rdN p n (d, 0) r).1) (fun _ i _ => M.toNat - (intOf i).toNat)
 case atStart => exact ⟨0, Nat.zero_le _, rfl, rfl, RI.out⟩
 case round =>
  obtain ⟨wo, hwo⟩ : ∃ wo : World, wo = wr := ⟨_, rfl⟩
  subst hwo
  obtain ⟨r, hr, rfl, rfl, ri⟩ := hrel
  have hok := HRD.out r
  have hle := HLE.out r
  have hfx := HFR.out r
  have EX := hidW (show goN p (rdN p n (d, 0) r) n = rdN p n (d, 0) (r + 1) from rfl)
  have EE := hidW (fun (e : r = M.toNat) => (show rdN p n (d, 0) r = FX from by rw [HX.out, e]))
  generalize rdN p n (d, 0) r = X at ri hok hle hfx EX EE ⊢
  have hx2 : X.2 ≤ 800 := by
   have h1 : r * n ≤ 200 * 4 := Nat.mul_le_mul (by omega) hn4
   have h2 : X.2 ≤ 0 + r * n := hle
   omega
  have HOK := hidW hok
  have HFX := hidW hfx
  clear hfx
  have eN := (srcB_ths hok).1.trans HN.out
  have RI2 := hidW ri
  obtain ⟨b1, b2, ⟨v1, v2, v3, L1, L2, o1, o2, o3⟩, b4⟩ := ri
  obtain ⟨x1, y1, x2, y2, x3, y3, rfl, rfl, rfl, -⟩ := o1.src
  have O1 := hidW o1
  have BB := hidW b1
  have o2' := o2
  rw [eN] at o2'
  obtain ⟨o20, o21, o22, o23, o24⟩ := o2'
  clear hok hle b1 b2 o1 b4 eN
  by_cases hlt : r < M.toNat
  ·have hrM : (r : Int) < M := by omega
   clear o2 o20 o21 o22 o23 o24
   go_wp2_with fail
   refine (l1Min_is _ _).mono ?_
   rintro e w9 ⟨rfl, hw9⟩
   rw [hw9, HM.out]
   clear hw9 w9
   go_wp2
   go_loopw [9, 11] (fun c i wz => ∃ k : Nat, k ≤ n ∧ i = .int .i64 k ∧ c = .int .i64 ((goN p X k).2 : Int) ∧ RunI w wz w1.heap.size S (.slice p1 p.caps.length a1) (.slice p2 p.bods.length a2) (.slice s1 d.ths.length c1) (.slice s2 d.chs.length c2) (.slice s3 d.tr.length c3) (goN p X k).1) (fun _ i _ => n - (intOf i).toNat)
   case atStart => exact ⟨0, Nat.zero_le _, rfl, rfl, RI2.out⟩
   case round =>
    obtain ⟨wq, hwq⟩ : ∃ wq : World, wq = wr := ⟨_, rfl⟩
    subst hwq
    obtain ⟨k, hk, rfl, rfl, rj⟩ := hrel
    have hoj := goN_ok HOK.out k
    have hlj := goN_le p X k
    have hfj := goN_fits HOK.out HFX.out k
    have EG := hidW (show goN p X (k + 1) = go1 p (goN p X k) k from rfl)
    have EL := hidW (fun (e : k = n) => (show goN p X k = goN p X n from by rw [e]))
    generalize goN p X k = Y at rj hoj hlj hfj EG EL ⊢
    have eD : d.ths.length = n := HLN.out
    by_cases hkn : k < n
    ·have hki : (k : Int) < (n : Int) := by omega
     have RJ := hidW rj
     obtain ⟨b1, b2, ⟨v1', v2', v3', L1', L2', o1, o2, o3⟩, b4⟩ := rj
     obtain ⟨x1, y1, x2, y2, x3, y3, rfl, rfl, rfl, hsr⟩ := o1.src
     have m0 := b1.p0
     have m1 := b1.p1
     have d0 := b1.s.c0
     rw [eD] at d0
     clear eD
     have hzq : wo.heap.size ≤ wo.heap.size := Nat.le_refl _
     have T := hidW (specStep_any p1 p2 x1 x2 x3 a1 a2 y1 y2 y3 lo hi w1.heap.size wq.heap.size p Y.1 k wq (H.out.keep' (Keep.of_below b2 hB)) hsr (by have := b2.size; omega) (Nat.le_refl _) HF.out hfj)
     obtain ⟨q0, q1, q2, q3, q4⟩ := o2
     clear b1 b2 o1 o3 hsr
     go_wp2_with fail
     refine Calls.mono T.out ?_
     rintro e w7 ⟨s4, n4, s5, n5, s6, n6, M1, M2, rfl, ho7, hb7⟩
     rw [stepKb_of hoj, stepSb_of hoj] at *
     have RT := hidW (RJ.out.keep hb7)
     have EG2 := EG.out
     unfold go1 at EG2
     have EG := hidW EG2
     have O7 := hidW (ho7.low b4)
     have NO := hidW (fun (e : ¬ stepK p Y.1 k = 0) => stepS_no e)
     have z7 := hb7.size
     have zS7 : S < w7.heap.size := by omega
     clear T RJ EG2 ho7 hb7 q0 q1 q2 q3 q4
     obtain ⟨KK, hKK⟩ : ∃ K, stepK p Y.1 k = K := ⟨_, rfl⟩
     rw [hKK] at EG NO ⊢
     clear hKK
     obtain ⟨DD, hDD⟩ : ∃ K, stepS p Y.1 k = K := ⟨_, rfl⟩
     rw [hDD] at EG NO O7 ⊢
     clear hDD
     obtain ⟨W8, hW8, b8, k8, z8⟩ := BoF.new w7 (.slice s4 DD.ths.length n4) (.slice s5 DD.chs.length n5) (.slice s6 DD.tr.length n6) 32
     have RT8 := hidW (RT.out.keep k8)
     have O8 := hidW (O7.out.keep (fun q _ hq => k8.block q hq))
     have HW8 := hidW hW8
     obtain ⟨_, _, ⟨g1, g2, g3, _, _, _, o2, _⟩, _⟩ := RT8.out
     obtain ⟨q0, q1, q2, q3, q4⟩ := o2
     obtain ⟨f0, f1, f2, f3, f4⟩ := b8
     have zS8 : S < W8.heap.size := by omega
     clear hW8 k8 RT O7
     by_cases hK : KK = 0
     ·subst hK
      have EG := hidW (show goN p X (k + 1) = (DD, Y.2 + 1) from EG.out)
      go_upto_region 12 with fail
      rw [HW8.out]
      go_wp2
      go_roundw
      case rel => exact ⟨k + 1, by omega, by go_num, by rw [EG.out]; go_num, by rw [EG.out]; exact RT8.out.put (by omega) hSb O8.out⟩
      case measure => simp [intOf]; omega
     ·have EG := hidW (show goN p X (k + 1) = (Y.1, Y.2) from by rw [EG.out, if_neg hK, NO.out hK])
      have hK0 : (KK == 0) = false := by simp [hK]
      go_upto_region 12 with fail
      rw [HW8.out]
      go_wp2
      go_roundw
      case rel => exact ⟨k + 1, by omega, by go_num, by rw [EG.out], by rw [EG.out]; exact RT8.out⟩
      case measure => simp [intOf]; omega
    ·have ek : k = n := by omega
     have RJ := hidW rj
     have EY := hidW ((EL.out ek).trans EX.out)
     have d0 := rj.b.s.c0
     rw [eD] at d0
     clear eD rj
     go_wp2
     go_roundw
     case rel => exact ⟨r + 1, by omega, by go_num, by rw [← EY.out], by rw [← EY.out]; exact RJ.out⟩
     case measure => simp [intOf]; omega
  ·have er : r = M.toNat := by omega
   have hrM : ¬ (r : Int) < M := by omega
   have E9 := hidW (EE.out er)
   clear er
   obtain ⟨r0, r1, r2, fa, za⟩ := BB.out.a
   obtain ⟨o20', o21', o22', -, -⟩ := o2
   clear o20 o21 o22 o23 o24
   go_wp2_with fail
   refine (l1Min_is _ _).mono ?_
   rintro e w9 ⟨rfl, hw9⟩
   rw [hw9, HM.out]
   clear hw9 w9
   go_wp2
   obtain ⟨Z, hZ, bz, oz, kz⟩ := BB.out.put (.slice x1 X.1.ths.length y1) (.slice x2 X.1.chs.length y2) (.slice x3 X.1.tr.length y3)
   refine bodyPost_ret (v := .tuple #[.agg #[.slice x1 X.1.ths.length y1, .slice x2 X.1.chs.length y2, .slice x3 X.1.tr.length y3], .int .i64 (X.2 : Int)]) ?_ rfl ?_
   ·rw [hZ]
    simp [results, Tryz.results12, go_sem, bz.c0, bz.c1, bz.c2]
   ·rw [hZ, ← E9.out]
    exact ⟨_, _, _, _, _, _, L1, L2, rfl, oz _ _ _ _ _ _ _ (O1.out.low (by omega)), kz _ _ RI2.out.k (by omega)⟩
theorem specFair_any (p1 p2 s1 s2 s3 : Option Addr) (a1 a2 c1 c2 c3 lo hi lo' hi' : Nat) (p : PD) (d : SD) (rr : Int) (w : World) (h : ProgR w lo hi p1 p2 p) (h' : SrcR w lo' hi' s1 s2 s3 d) (hB : hi ≤ w.heap.size) (hB' : hi' ≤ w.heap.size) (hf : Fits p) (hf' : SFits d) :
  Calls Tryz.prog 12 #[.agg #[.slice p1 p.caps.length a1, .slice p2 p.bods.length a2], .agg #[.slice s1 d.ths.length c1, .slice s2 d.chs.length c2, .slice s3 d.tr.length c3], .int .i64 rr] w (SStepQ w (fairKb p d rr) (fairSb p d rr)) := by
 unfold fairKb fairSb
 by_cases hy : srcB p d = true
 ·rw [if_pos hy, if_pos hy]
  exact specFair_go p1 p2 s1 s2 s3 a1 a2 c1 c2 c3 lo hi lo' hi' p d rr w h h' hB hB' hf hf' hy
 ·rw [if_neg hy, if_neg hy]
  exact specFair_bad p1 p2 s1 s2 s3 a1 a2 c1 c2 c3 lo hi lo' hi' p d rr w h h' hB hB' hf hf' (by simpa using hy)
end
section
set_option linter.unusedSimpArgs false
set_option linter.unusedVariables false
set_option maxRecDepth 100000
open Go.RowKit Go.Deep
/- a source, as it is read -/
def SrZ (V : World) (lo : Nat) (x1 x2 x3 : Value) : Prop := ∃ (hi : Nat) (s1 s2 s3 : Option Addr) (c1 c2 c3 : Nat) (D : SD), x1 = .slice s1 D.ths.length c1 ∧ x2 = .slice s2 D.chs.length c2 ∧ x3 = .slice s3 D.tr.length c3 ∧ SrcR V lo hi s1 s2 s3 D ∧ SFits D ∧ hi ≤ V.heap.size
/- a box of two cells -/
structure BoP (G : Nat) (W : World) (a b : Value) : Prop where
 c0 : W.cell? ⟨G, 0, none⟩ = some a
 c1 : W.cell? ⟨G, 1, none⟩ = some b
 f : ∀ j, W.frozen? ⟨G, j, none⟩ = false
 z : G < W.heap.size
theorem BoP.keep {G : Nat} {W w1 : World} {a b : Value} (h : BoP G W a b) (hb : w1.heap[G]? = W.heap[G]?) (hs : W.heap.size ≤ w1.heap.size) : BoP G w1 a b :=
 ⟨(World.cell?_of_block hb).trans h.c0, (World.cell?_of_block hb).trans h.c1, fun j => (World.frozen?_of_block hb).trans (h.f j), Nat.lt_of_lt_of_le h.z hs⟩
theorem heap5 (w : World) (A B : Nat) (u0 u1 u2 u3 u4 : Value) (k : Nat) (h1 : k ≠ A) (h2 : k ≠ B) : (((((w.setCell ⟨A, 0, none⟩ u0).setCell ⟨A, 1, none⟩ u1).setCell ⟨B, 0, none⟩ u2).setCell ⟨B, 1, none⟩ u3).setCell ⟨B, 2, none⟩ u4).heap[k]? = w.heap[k]? :=
 (Below.heap_setCell _ ⟨B, 2, none⟩ _ k h2).trans ((Below.heap_setCell _ ⟨B, 1, none⟩ _ k h2).trans ((Below.heap_setCell _ ⟨B, 0, none⟩ _ k h2).trans ((Below.heap_setCell _ ⟨A, 1, none⟩ _ k h1).trans (Below.heap_setCell _ ⟨A, 0, none⟩ _ k h1))))
theorem heap3 (w : World) (B : Nat) (u2 u3 u4 : Value) (k : Nat) (h2 : k ≠ B) : (((w.setCell ⟨B, 0, none⟩ u2).setCell ⟨B, 1, none⟩ u3).setCell ⟨B, 2, none⟩ u4).heap[k]? = w.heap[k]? :=
 (Below.heap_setCell _ ⟨B, 2, none⟩ _ k h2).trans ((Below.heap_setCell _ ⟨B, 1, none⟩ _ k h2).trans (Below.heap_setCell _ ⟨B, 0, none⟩ _ k h2))
/- ahead of the answer: the drawn ones in their boxes, the boxes of the answer -/
structure Fin7 (w : World) (P S lo hi hi' : Nat) (p1 p2 : Option Addr) (a1 a2 : Nat) (pd : PD) (s1 s2 s3 : Option Addr) (c1 c2 c3 : Nat) (D : SD) (Z : World) : Prop where
 pb : BoP P Z (.slice p1 pd.caps.length a1) (.slice p2 pd.bods.length a2)
 sb : BoF S Z (.slice s1 D.ths.length c1) (.slice s2 D.chs.length c2) (.slice s3 D.tr.length c3)
 rp : BoP w.heap.size Z (.slice none 0 0) (.slice none 0 0)
 rs : BoF (w.heap.size + 1) Z (.slice none 0 0) (.slice none 0 0) (.slice none 0 0)
 pg : ProgR Z lo hi p1 p2 pd
 sr : SrcR Z lo hi' s1 s2 s3 D
 h1 : hi ≤ Z.heap.size
 h2 : hi' ≤ Z.heap.size
 lw : w.heap.size + 2 ≤ lo
 bl : Below w.heap.size w Z
theorem Fin7.below {w : World} {P S lo hi hi' : Nat} {p1 p2 : Option Addr} {a1 a2 : Nat} {pd : PD} {s1 s2 s3 : Option Addr} {c1 c2 c3 : Nat} {D : SD} {Z Y : World} (h : Fin7 w P S lo hi hi' p1 p2 a1 a2 pd s1 s2 s3 c1 c2 c3 D Z) (k : Below Z.heap.size Z Y) : Fin7 w P S lo hi hi' p1 p2 a1 a2 pd s1 s2 s3 c1 c2 c3 D Y :=
 ⟨h.pb.keep (k.block _ h.pb.z) k.size, h.sb.below k h.sb.z, h.rp.keep (k.block _ h.rp.z) k.size, h.rs.below k h.rs.z, ProgR.keep' h.pg (Keep.of_below k h.h1), h.sr.keep (Keep.of_below k h.h2), Nat.le_trans h.h1 k.size, Nat.le_trans h.h2 k.size, h.lw, h.bl.trans (k.mono h.bl.size)⟩
theorem Fin7.but {w : World} {P S lo hi hi' cu : Nat} {p1 p2 : Option Addr} {a1 a2 : Nat} {pd : PD} {s1 s2 s3 : Option Addr} {c1 c2 c3 : Nat} {D : SD} {Z Y : World} (h : Fin7 w P S lo hi hi' p1 p2 a1 a2 pd s1 s2 s3 c1 c2 c3 D Z) (k : But cu Z Y) (hc : cu = w.heap.size + 2) (hl : cu < lo) (hP : P ≠ cu) (hS : S ≠ cu) : Fin7 w P S lo hi hi' p1 p2 a1 a2 pd s1 s2 s3 c1 c2 c3 D Y := by
 have hz := h.rs.z
 have hs := h.bl.size
 have h1 := h.h1
 have h2 := h.h2
 have hk : ∀ b, lo ≤ b → b < Z.heap.size → Y.heap[b]? = Z.heap[b]? := fun b a hb => k.block b hb (by omega)
 exact ⟨h.pb.keep (k.block _ h.pb.z hP) k.size, h.sb.keep (k.block _ h.sb.z hS) k.size, h.rp.keep (k.block _ h.rp.z (by omega)) k.size, h.rs.keep (k.block _ hz (by omega)) k.size, ProgR.keep' h.pg (fun b a hb => hk b a (by omega)), h.sr.keep (fun b a hb => hk b a (by omega)), Nat.le_trans h.h1 k.size, Nat.le_trans h.h2 k.size, h.lw, h.bl.trans (k.below (by omega) (by omega))⟩
/- the source of the desk put aside for another -/
theorem Fin7.set {w : World} {P S lo hi hi' : Nat} {p1 p2 : Option Addr} {a1 a2 : Nat} {pd : PD} {s1 s2 s3 : Option Addr} {c1 c2 c3 : Nat} {D : SD} {Z : World} (h : Fin7 w P S lo hi hi' p1 p2 a1 a2 pd s1 s2 s3 c1 c2 c3 D Z) (hPS : P ≠ S) (oS : w.heap.size + 2 ≤ S) {l2 h2 : Nat} {t1 t2 t3 : Option Addr} {e1 e2 e3 : Nat} {D' : SD} (hl2 : S < l2) (hhl : lo ≤ l2) (hh2 : h2 ≤ Z.heap.size) (hhi : hi ≤ S) (hr : SrcR Z l2 h2 t1 t2 t3 D') : Fin7 w P S lo hi h2 p1 p2 a1 a2 pd t1 t2 t3 e1 e2 e3 D' (((Z.setCell ⟨S, 0, none⟩ (.slice t1 D'.ths.length e1)).setCell ⟨S, 1, none⟩ (.slice t2 D'.chs.length e2)).setCell ⟨S, 2, none⟩ (.slice t3 D'.tr.length e3)) := by
 obtain ⟨Y, hY⟩ : ∃ Y, ((Z.setCell ⟨S, 0, none⟩ (.slice t1 D'.ths.length e1)).setCell ⟨S, 1, none⟩ (.slice t2 D'.chs.length e2)).setCell ⟨S, 2, none⟩ (.slice t3 D'.tr.length e3) = Y := ⟨_, rfl⟩
 have hb : ∀ b, b ≠ S → Y.heap[b]? = Z.heap[b]? := fun b a => by rw [← hY]; exact heap3 Z S _ _ _ b a
 have hs : Z.heap.size = Y.heap.size := by rw [← hY]; simp
 have hsb := ((h.sb.set0 (.slice t1 D'.ths.length e1)).set1 (.slice t2 D'.chs.length e2)).set2 (.slice t3 D'.tr.length e3)
 have hbl := ((h.bl.setCell (p := ⟨S, 0, none⟩) (by show w.heap.size ≤ S; omega) (.slice t1 D'.ths.length e1)).setCell (p := ⟨S, 1, none⟩) (by show w.heap.size ≤ S; omega) (.slice t2 D'.chs.length e2)).setCell (p := ⟨S, 2, none⟩) (by show w.heap.size ≤ S; omega) (.slice t3 D'.tr.length e3)
 rw [hY] at hsb hbl ⊢
 have h1 := h.h1
 exact ⟨h.pb.keep (hb _ hPS) (by omega), hsb, h.rp.keep (hb _ (by omega)) (by omega), h.rs.keep (hb _ (by omega)) (by omega), ProgR.keep' h.pg (fun b _ hb' => hb b (by omega)), (hr.keep (fun b a _ => hb b (by omega))).mono hhl (Nat.le_refl _), by omega, by omega, h.lw, hbl⟩
set_option maxRecDepth 100000 in
set_option maxHeartbeats 8000000 in
theorem drawStuck_any (s : Option Addr) (n c : Nat) (w : World) (hb : Bytes w w.heap.size s n) (hn : n ≤ maxLen) :
  Calls Tryz.prog 16 #[.slice s n c] w fun e w' => ∃ (v0 v1 x1 x2 x3 : Value), e = .returned (.tuple #[.agg #[v0, v1], .agg #[x1, x2, x3]]) ∧ PgQ w' w.heap.size v0 v1 ∧ SrZ w' w.heap.size x1 x2 x3 ∧ Below w.heap.size w w' := by
 have HB := hidR hb
 have HN := hidR hn
 clear hb hn
 go_enter Tryz.func16, Tryz.ntmps16
 go_wp2_with fail
 obtain ⟨A, hA⟩ : ∃ A, (w.alloc (.cells #[.slice none 0 0, .slice none 0 0] 27)).alloc (.cells #[.slice none 0 0, .slice none 0 0, .slice none 0 0] 32) = A := ⟨_, rfl⟩
 have kA : Below w.heap.size w A := by subst hA; exact ((Below.refl _ _).alloc (Nat.le_refl _) _).alloc (by simp) _
 have sA : A.heap.size = w.heap.size + 2 := by subst hA; simp
 have rA : BoF (w.heap.size + 1) A (.slice none 0 0) (.slice none 0 0) (.slice none 0 0) := by
  subst hA
  exact ⟨by simp [go_sem], by simp [go_sem], by simp [go_sem], fun j => by simp [go_sem], by simp⟩
 have qA : BoP w.heap.size A (.slice none 0 0) (.slice none 0 0) := by
  subst hA
  exact ⟨by simp [go_sem], by simp [go_sem], fun j => by simp [go_sem], by simp; omega⟩
 rw [hA]
 have SA := hidR sA
 clear hA sA
 refine (new_cb s n c A (HB.out.up kA) HN.out).mono ?_
 rintro e w1 ⟨rfl, hc1, hb1, hs1⟩
 rw [SA.out] at hc1 hs1 hb1 ⊢
 have z1 : w1.heap.size = w.heap.size + 3 := by omega
 have R1 := hidR (rA.keep (hb1.block _ (Nat.lt_succ_self _)) (by rw [SA.out]; omega))
 have Q1 := hidR (qA.keep (hb1.block _ (by omega)) (by rw [SA.out]; omega))
 have K1 := hidR (kA.trans (hb1.mono (by omega)))
 have C1 := hidR hc1
 clear hc1 hb1 hs1 rA qA kA HB HN
 go_wp2_with fail
 refine (drawL_any (w.heap.size + 2) s n c w1 C1.out).mono ?_
 rintro e w2 ⟨v0, v1, x1, x2, x3, rfl, hp, hs, hc2, hb2⟩
 obtain ⟨hi, p1, p2, a1, a2, pd, e0, e1, hp, hfp, hB⟩ := hp
 subst e0 e1
 obtain ⟨hi', s1, s2, s3, c1, c2, c3, D, e2, e3, e4, hs, hfs, -, hB'⟩ := hs
 subst e2 e3 e4
 have FP := hidR hfp
 have FS := hidR hfs
 have z2 := hb2.size
 obtain ⟨V, hV⟩ : ∃ V, (w2.alloc (.cells #[.slice p1 pd.caps.length a1, .slice p2 pd.bods.length a2] 27)).alloc (.cells #[.slice s1 D.ths.length c1, .slice s2 D.chs.length c2, .slice s3 D.tr.length c3] 32) = V := ⟨_, rfl⟩
 have kV : Below w2.heap.size w2 V := by subst hV; exact ((Below.refl _ _).alloc (Nat.le_refl _) _).alloc (by simp) _
 have bV : BoF (w2.heap.size + 1) V (.slice s1 D.ths.length c1) (.slice s2 D.chs.length c2) (.slice s3 D.tr.length c3) := by
  subst hV
  exact ⟨by simp [go_sem], by simp [go_sem], by simp [go_sem], fun j => by simp [go_sem], by simp⟩
 have qV : BoP w2.heap.size V (.slice p1 pd.caps.length a1) (.slice p2 pd.bods.length a2) := by
  subst hV
  exact ⟨by simp [go_sem], by simp [go_sem], fun j => by simp [go_sem], by simp; omega⟩
 have HV := hidR hV
 have F3 : Hid (Fin7 w w2.heap.size (w2.heap.size + 1) (w1.heap.size + 2) hi hi' p1 p2 a1 a2 pd s1 s2 s3 c1 c2 c3 D V) :=
  ⟨qV, bV, (Q1.out.keep (hb2.block _ (by omega) (by omega)) z2).keep (kV.block _ (by omega)) kV.size, (R1.out.keep (hb2.block _ (by omega) (by omega)) z2).keep (kV.block _ (by omega)) kV.size, ProgR.keep' hp (Keep.of_below kV hB), hs.keep (Keep.of_below kV hB'), Nat.le_trans hB kV.size, Nat.le_trans hB' kV.size, by omega, (K1.out.trans (hb2.below (by omega) (by omega))).trans (kV.mono (by omega))⟩
 have C3 := hidR (hc2.keep kV)
 clear kV bV qV hV R1 Q1 K1 hc2 hb2 hs hp hfp hfs
 go_wp2_with fail
 rw [HV.out]
 clear HV
 refine (once_cb (w.heap.size + 2) s n c 2 V C3.out (by omega) (by omega)).mono ?_
 rintro e w4 ⟨b, rfl, hc4, hb4⟩
 have F4 := hidR (F3.out.but hb4 rfl (by omega) (by omega) (by omega))
 clear hc4 hb4 F3 C3
 obtain ⟨k0, k1, kf, kz⟩ := F4.out.pb
 obtain ⟨m0, m1, m2, mf, mz⟩ := F4.out.sb
 cases b
 ·clear k0 k1 kf m0 m1 m2 mf kz mz
  go_wp2_with fail
  obtain ⟨k0, k1, kf, kz⟩ := F4.out.pb
  obtain ⟨m0, m1, m2, mf, mz⟩ := F4.out.sb
  obtain ⟨f0, f1, ff, fz⟩ := F4.out.rp
  obtain ⟨g0, g1, g2, gf, gz⟩ := F4.out.rs
  have n1' : ¬ w2.heap.size = w.heap.size := by omega
  have n2' : ¬ w2.heap.size = w.heap.size + 1 := by omega
  have n3' : ¬ w2.heap.size + 1 = w.heap.size := by omega
  have n4' : ¬ w2.heap.size + 1 = w.heap.size + 1 := by omega
  have n5' : ¬ w.heap.size = w2.heap.size := by omega
  have n6' : ¬ w.heap.size + 1 = w2.heap.size := by omega
  have n7' : ¬ w.heap.size = w2.heap.size + 1 := by omega
  have n8' : ¬ w.heap.size + 1 = w2.heap.size + 1 := by omega
  go_wp2_with fail
  go_region
  all_goals
   have lw := F4.out.lw
   have bl := F4.out.bl
   have u1 := F4.out.h1
   have u2 := F4.out.h2
   obtain ⟨WY, hWY⟩ : ∃ W, (((((w4.setCell ⟨w.heap.size, 0, none⟩ (.slice p1 pd.caps.length a1)).setCell ⟨w.heap.size, 1, none⟩ (.slice p2 pd.bods.length a2)).setCell ⟨w.heap.size + 1, 0, none⟩ (Value.slice s1 D.ths.length c1)).setCell ⟨w.heap.size + 1, 1, none⟩ (Value.slice s2 D.chs.length c2)).setCell ⟨w.heap.size + 1, 2, none⟩ (Value.slice s3 D.tr.length c3)).drew = W := ⟨_, rfl⟩
   have hk6 : ∀ k, w.heap.size + 2 ≤ k → WY.heap[k]? = w4.heap[k]? := fun k a => by rw [← hWY]; exact heap5 w4 _ _ _ _ _ _ _ k (by omega) (by omega)
   have hz6 : w4.heap.size ≤ WY.heap.size := by rw [← hWY]; show _ ≤ (World.setCell _ _ _).heap.size; simp
   have P6 : Hid (PgQ WY w.heap.size (.slice p1 pd.caps.length a1) (.slice p2 pd.bods.length a2)) := ⟨_, p1, p2, a1, a2, pd, rfl, rfl, (fun q : ProgR WY _ _ p1 p2 pd => ⟨q.1.mono (Nat.le_trans (Nat.le_add_right _ 2) lw) (Nat.le_refl _), q.2.mono (Nat.le_trans (Nat.le_add_right _ 2) lw) (Nat.le_refl _)⟩) (ProgR.keep' F4.out.pg (fun k a _ => hk6 k (by omega))), FP.out, by omega⟩
   have S6 : Hid (SrZ WY w.heap.size (Value.slice s1 D.ths.length c1) (Value.slice s2 D.chs.length c2) (Value.slice s3 D.tr.length c3)) := ⟨_, _, _, _, _, _, _, _, rfl, rfl, rfl, (F4.out.sr.keep (fun k a _ => hk6 k (by omega))).mono (by omega) (Nat.le_refl _), FS.out, by omega⟩
   have K6 := hidR (((((bl.setCell (p := ⟨w.heap.size, 0, none⟩) (Nat.le_refl _) (.slice p1 pd.caps.length a1)).setCell (p := ⟨w.heap.size, 1, none⟩) (Nat.le_refl _) (.slice p2 pd.bods.length a2)).setCell (p := ⟨w.heap.size + 1, 0, none⟩) (by show w.heap.size ≤ w.heap.size + 1; omega) (Value.slice s1 D.ths.length c1)).setCell (p := ⟨w.heap.size + 1, 1, none⟩) (by show w.heap.size ≤ w.heap.size + 1; omega) (Value.slice s2 D.chs.length c2)).setCell (p := ⟨w.heap.size + 1, 2, none⟩) (by show w.heap.size ≤ w.heap.size + 1; omega) (Value.slice s3 D.tr.length c3)).drew
   rw [hWY] at K6
   have ee0 : WY.cell? ⟨w.heap.size, 0, none⟩ = some (.slice p1 pd.caps.length a1) := by rw [← hWY]; simp [go_sem, g0, g1, g2, f0, f1]
   have ee1 : WY.cell? ⟨w.heap.size, 1, none⟩ = some (.slice p2 pd.bods.length a2) := by rw [← hWY]; simp [go_sem, g0, g1, g2, f0, f1]
   have ee2 : WY.cell? ⟨w.heap.size + 1, 0, none⟩ = some (Value.slice s1 D.ths.length c1) := by rw [← hWY]; simp [go_sem, g0, g1, g2, f0, f1]
   have ee3 : WY.cell? ⟨w.heap.size + 1, 1, none⟩ = some (Value.slice s2 D.chs.length c2) := by rw [← hWY]; simp [go_sem, g0, g1, g2, f0, f1]
   have ee4 : WY.cell? ⟨w.heap.size + 1, 2, none⟩ = some (Value.slice s3 D.tr.length c3) := by rw [← hWY]; simp [go_sem, g0, g1, g2, f0, f1]
   rw [hWY]
   clear hWY hk6 hz6 u1 u2 m0 m1 m2 mf k0 k1 kf ff gf F4 bl f0 f1 g0 g1 g2
   go_wp2
   refine bodyPost_ret (v := .tuple #[.agg #[.slice p1 pd.caps.length a1, .slice p2 pd.bods.length a2], .agg #[Value.slice s1 D.ths.length c1, Value.slice s2 D.chs.length c2, Value.slice s3 D.tr.length c3]]) (by simp [results, Tryz.results16, go_sem, ee0, ee1, ee2, ee3, ee4]) rfl ⟨_, _, _, _, _, rfl, P6.out, S6.out, K6.out⟩
 ·go_wp2_with fail
  refine (specFair_any p1 p2 s1 s2 s3 a1 a2 c1 c2 c3 _ _ _ _ pd D 40 w4 F4.out.pg F4.out.sr F4.out.h1 F4.out.h2 FP.out FS.out).mono ?_
  have FW := hidR (fairSb_fits (p := pd) FS.out 40)
  generalize fairSb pd D 40 = D' at FW ⊢
  generalize fairKb pd D 40 = K'
  rintro e w5 ⟨t1, e1, t2, e2, t3, e3, L1, L2, rfl, ho5, hb5⟩
  obtain ⟨t1', e1', t2', e2', t3', e3', q1, q2, q3, hr5⟩ := ho5.src
  cases q1; cases q2; cases q3
  have z4 := F4.out.bl.size
  have z5 := hb5.size
  have oz := mz
  obtain ⟨Z, hZ, rZ, kZ, sZ⟩ := BoF.new w5 (.slice t1 D'.ths.length e1) (.slice t2 D'.chs.length e2) (.slice t3 D'.tr.length e3) 32
  have G5 := hidR (F4.out.below hb5)
  have F5 := hidR (G5.out.below kZ)
  have O5 := hidR hr5
  have U5 := hidR (hr5.keep (Keep.of_below kZ (Nat.le_refl _)))
  have HZ := hidR hZ
  have zZ := kZ.size
  have TB := hidR rZ
  clear ho5 hb5 hr5 hZ rZ kZ k0 k1 kf m0 m1 m2 mf kz mz F4 L1 L2
  by_cases hgt : 0 < D'.ths.length
  ·have hg1 : (0 : Int) < (D'.ths.length : Int) := by omega
   have hg0 : ¬ D'.ths = [] := fun e => by rw [e] at hgt; exact absurd hgt (Nat.lt_irrefl _)
   obtain ⟨m0, m1, m2, mf, mz⟩ := G5.out.sb
   have ns : ¬ w2.heap.size + 1 = w5.heap.size := by omega
   have F6 := hidR ((G5.out.set (by omega) (by omega) (t1 := t1) (t2 := t2) (t3 := t3) (e1 := e1) (e2 := e2) (e3 := e3) (D' := D') (l2 := w4.heap.size) (h2 := w5.heap.size) (by omega) (by omega) (Nat.le_refl _) (by omega) O5.out).below (Y := ((((w5.setCell ⟨w2.heap.size + 1, 0, none⟩ (.slice t1 D'.ths.length e1)).setCell ⟨w2.heap.size + 1, 1, none⟩ (.slice t2 D'.chs.length e2)).setCell ⟨w2.heap.size + 1, 2, none⟩ (.slice t3 D'.tr.length e3)).alloc (.cells #[.slice t1 D'.ths.length e1, .slice t2 D'.chs.length e2, .slice t3 D'.tr.length e3] 32))) ((Below.refl _ _).alloc (Nat.le_refl _) _))
   go_wp2_with fail
   obtain ⟨Y, hY⟩ : ∃ Y, ((((w5.setCell ⟨w2.heap.size + 1, 0, none⟩ (.slice t1 D'.ths.length e1)).setCell ⟨w2.heap.size + 1, 1, none⟩ (.slice t2 D'.chs.length e2)).setCell ⟨w2.heap.size + 1, 2, none⟩ (.slice t3 D'.tr.length e3)).alloc (.cells #[.slice t1 D'.ths.length e1, .slice t2 D'.chs.length e2, .slice t3 D'.tr.length e3] 32)) = Y := ⟨_, rfl⟩
   rw [hY] at F6 ⊢
   clear hY m0 m1 m2 mf mz ns F5 G5
   obtain ⟨k0, k1, kf, kz⟩ := F6.out.pb
   obtain ⟨m0, m1, m2, mf, mz⟩ := F6.out.sb
   obtain ⟨f0, f1, ff, fz⟩ := F6.out.rp
   obtain ⟨g0, g1, g2, gf, gz⟩ := F6.out.rs
   have n1' : ¬ w2.heap.size = w.heap.size := by omega
   have n2' : ¬ w2.heap.size = w.heap.size + 1 := by omega
   have n3' : ¬ w2.heap.size + 1 = w.heap.size := by omega
   have n4' : ¬ w2.heap.size + 1 = w.heap.size + 1 := by omega
   have n5' : ¬ w.heap.size = w2.heap.size := by omega
   have n6' : ¬ w.heap.size + 1 = w2.heap.size := by omega
   have n7' : ¬ w.heap.size = w2.heap.size + 1 := by omega
   have n8' : ¬ w.heap.size + 1 = w2.heap.size + 1 := by omega
   go_wp2_with fail
   go_region
   all_goals
    have lw := F6.out.lw
    have bl := F6.out.bl
    have u1 := F6.out.h1
    have u2 := F6.out.h2
    obtain ⟨WY, hWY⟩ : ∃ W, (((((Y.setCell ⟨w.heap.size, 0, none⟩ (.slice p1 pd.caps.length a1)).setCell ⟨w.heap.size, 1, none⟩ (.slice p2 pd.bods.length a2)).setCell ⟨w.heap.size + 1, 0, none⟩ (Value.slice t1 D'.ths.length e1)).setCell ⟨w.heap.size + 1, 1, none⟩ (Value.slice t2 D'.chs.length e2)).setCell ⟨w.heap.size + 1, 2, none⟩ (Value.slice t3 D'.tr.length e3)).drew = W := ⟨_, rfl⟩
    have hk6 : ∀ k, w.heap.size + 2 ≤ k → WY.heap[k]? = Y.heap[k]? := fun k a => by rw [← hWY]; exact heap5 Y _ _ _ _ _ _ _ k (by omega) (by omega)
    have hz6 : Y.heap.size ≤ WY.heap.size := by rw [← hWY]; show _ ≤ (World.setCell _ _ _).heap.size; simp
    have P6 : Hid (PgQ WY w.heap.size (.slice p1 pd.caps.length a1) (.slice p2 pd.bods.length a2)) := ⟨_, p1, p2, a1, a2, pd, rfl, rfl, (fun q : ProgR WY _ _ p1 p2 pd => ⟨q.1.mono (Nat.le_trans (Nat.le_add_right _ 2) lw) (Nat.le_refl _), q.2.mono (Nat.le_trans (Nat.le_add_right _ 2) lw) (Nat.le_refl _)⟩) (ProgR.keep' F6.out.pg (fun k a _ => hk6 k (by omega))), FP.out, by omega⟩
    have S6 : Hid (SrZ WY w.heap.size (Value.slice t1 D'.ths.length e1) (Value.slice t2 D'.chs.length e2) (Value.slice t3 D'.tr.length e3)) := ⟨_, _, _, _, _, _, _, _, rfl, rfl, rfl, (F6.out.sr.keep (fun k a _ => hk6 k (by omega))).mono (by omega) (Nat.le_refl _), FW.out, by omega⟩
    have K6 := hidR (((((bl.setCell (p := ⟨w.heap.size, 0, none⟩) (Nat.le_refl _) (.slice p1 pd.caps.length a1)).setCell (p := ⟨w.heap.size, 1, none⟩) (Nat.le_refl _) (.slice p2 pd.bods.length a2)).setCell (p := ⟨w.heap.size + 1, 0, none⟩) (by show w.heap.size ≤ w.heap.size + 1; omega) (Value.slice t1 D'.ths.length e1)).setCell (p := ⟨w.heap.size + 1, 1, none⟩) (by show w.heap.size ≤ w.heap.size + 1; omega) (Value.slice t2 D'.chs.length e2)).setCell (p := ⟨w.heap.size + 1, 2, none⟩) (by show w.heap.size ≤ w.heap.size + 1; omega) (Value.slice t3 D'.tr.length e3)).drew
    rw [hWY] at K6
    have ee0 : WY.cell? ⟨w.heap.size, 0, none⟩ = some (.slice p1 pd.caps.length a1) := by rw [← hWY]; simp [go_sem, g0, g1, g2, f0, f1]
    have ee1 : WY.cell? ⟨w.heap.size, 1, none⟩ = some (.slice p2 pd.bods.length a2) := by rw [← hWY]; simp [go_sem, g0, g1, g2, f0, f1]
    have ee2 : WY.cell? ⟨w.heap.size + 1, 0, none⟩ = some (Value.slice t1 D'.ths.length e1) := by rw [← hWY]; simp [go_sem, g0, g1, g2, f0, f1]
    have ee3 : WY.cell? ⟨w.heap.size + 1, 1, none⟩ = some (Value.slice t2 D'.chs.length e2) := by rw [← hWY]; simp [go_sem, g0, g1, g2, f0, f1]
    have ee4 : WY.cell? ⟨w.heap.size + 1, 2, none⟩ = some (Value.slice t3 D'.tr.length e3) := by rw [← hWY]; simp [go_sem, g0, g1, g2, f0, f1]
    rw [hWY]
    clear hWY hk6 hz6 u1 u2 m0 m1 m2 mf k0 k1 kf ff gf F6 bl f0 f1 g0 g1 g2
    go_wp2
    refine bodyPost_ret (v := .tuple #[.agg #[.slice p1 pd.caps.length a1, .slice p2 pd.bods.length a2], .agg #[Value.slice t1 D'.ths.length e1, Value.slice t2 D'.chs.length e2, Value.slice t3 D'.tr.length e3]]) (by simp [results, Tryz.results16, go_sem, ee0, ee1, ee2, ee3, ee4]) rfl ⟨_, _, _, _, _, rfl, P6.out, S6.out, K6.out⟩
  ·have hg1 : ¬ (0 : Int) < (D'.ths.length : Int) := by omega
   have hg0 : D'.ths = [] := List.eq_nil_of_length_eq_zero (by omega)
   have hl0 : D'.ths.length = 0 := by omega
   have HZ0 := hidR (show w5.alloc (.cells #[.slice t1 0 e1, .slice t2 D'.chs.length e2, .slice t3 D'.tr.length e3] 32) = Z by have q := HZ.out; rw [hl0] at q; exact q)
   clear hl0 HZ
   go_wp2_with fail
   rw [HZ0.out]
   clear HZ0
   obtain ⟨k0, k1, kf, kz⟩ := F5.out.pb
   obtain ⟨m0, m1, m2, mf, mz⟩ := F5.out.sb
   obtain ⟨f0, f1, ff, fz⟩ := F5.out.rp
   obtain ⟨g0, g1, g2, gf, gz⟩ := F5.out.rs
   have n1' : ¬ w2.heap.size = w.heap.size := by omega
   have n2' : ¬ w2.heap.size = w.heap.size + 1 := by omega
   have n3' : ¬ w2.heap.size + 1 = w.heap.size := by omega
   have n4' : ¬ w2.heap.size + 1 = w.heap.size + 1 := by omega
   have n5' : ¬ w.heap.size = w2.heap.size := by omega
   have n6' : ¬ w.heap.size + 1 = w2.heap.size := by omega
   have n7' : ¬ w.heap.size = w2.heap.size + 1 := by omega
   have n8' : ¬ w.heap.size + 1 = w2.heap.size + 1 := by omega
   go_wp2_with fail
   go_region
   all_goals
    have lw := F5.out.lw
    have bl := F5.out.bl
    have u1 := F5.out.h1
    have u2 := F5.out.h2
    obtain ⟨WY, hWY⟩ : ∃ W, (((((Z.setCell ⟨w.heap.size, 0, none⟩ (.slice p1 pd.caps.length a1)).setCell ⟨w.heap.size, 1, none⟩ (.slice p2 pd.bods.length a2)).setCell ⟨w.heap.size + 1, 0, none⟩ (Value.slice s1 D.ths.length c1)).setCell ⟨w.heap.size + 1, 1, none⟩ (Value.slice s2 D.chs.length c2)).setCell ⟨w.heap.size + 1, 2, none⟩ (Value.slice s3 D.tr.length c3)).drew = W := ⟨_, rfl⟩
    have hk6 : ∀ k, w.heap.size + 2 ≤ k → WY.heap[k]? = Z.heap[k]? := fun k a => by rw [← hWY]; exact heap5 Z _ _ _ _ _ _ _ k (by omega) (by omega)
    have hz6 : Z.heap.size ≤ WY.heap.size := by rw [← hWY]; show _ ≤ (World.setCell _ _ _).heap.size; simp
    have P6 : Hid (PgQ WY w.heap.size (.slice p1 pd.caps.length a1) (.slice p2 pd.bods.length a2)) := ⟨_, p1, p2, a1, a2, pd, rfl, rfl, (fun q : ProgR WY _ _ p1 p2 pd => ⟨q.1.mono (Nat.le_trans (Nat.le_add_right _ 2) lw) (Nat.le_refl _), q.2.mono (Nat.le_trans (Nat.le_add_right _ 2) lw) (Nat.le_refl _)⟩) (ProgR.keep' F5.out.pg (fun k a _ => hk6 k (by omega))), FP.out, by omega⟩
    have S6 : Hid (SrZ WY w.heap.size (Value.slice s1 D.ths.length c1) (Value.slice s2 D.chs.length c2) (Value.slice s3 D.tr.length c3)) := ⟨_, _, _, _, _, _, _, _, rfl, rfl, rfl, (F5.out.sr.keep (fun k a _ => hk6 k (by omega))).mono (by omega) (Nat.le_refl _), FS.out, by omega⟩
    have K6 := hidR (((((bl.setCell (p := ⟨w.heap.size, 0, none⟩) (Nat.le_refl _) (.slice p1 pd.caps.length a1)).setCell (p := ⟨w.heap.size, 1, none⟩) (Nat.le_refl _) (.slice p2 pd.bods.length a2)).setCell (p := ⟨w.heap.size + 1, 0, none⟩) (by show w.heap.size ≤ w.heap.size + 1; omega) (Value.slice s1 D.ths.length c1)).setCell (p := ⟨w.heap.size + 1, 1, none⟩) (by show w.heap.size ≤ w.heap.size + 1; omega) (Value.slice s2 D.chs.length c2)).setCell (p := ⟨w.heap.size + 1, 2, none⟩) (by show w.heap.size ≤ w.heap.size + 1; omega) (Value.slice s3 D.tr.length c3)).drew
    rw [hWY] at K6
    have ee0 : WY.cell? ⟨w.heap.size, 0, none⟩ = some (.slice p1 pd.caps.length a1) := by rw [← hWY]; simp [go_sem, g0, g1, g2, f0, f1]
    have ee1 : WY.cell? ⟨w.heap.size, 1, none⟩ = some (.slice p2 pd.bods.length a2) := by rw [← hWY]; simp [go_sem, g0, g1, g2, f0, f1]
    have ee2 : WY.cell? ⟨w.heap.size + 1, 0, none⟩ = some (Value.slice s1 D.ths.length c1) := by rw [← hWY]; simp [go_sem, g0, g1, g2, f0, f1]
    have ee3 : WY.cell? ⟨w.heap.size + 1, 1, none⟩ = some (Value.slice s2 D.chs.length c2) := by rw [← hWY]; simp [go_sem, g0, g1, g2, f0, f1]
    have ee4 : WY.cell? ⟨w.heap.size + 1, 2, none⟩ = some (Value.slice s3 D.tr.length c3) := by rw [← hWY]; simp [go_sem, g0, g1, g2, f0, f1]
    rw [hWY]
    clear hWY hk6 hz6 u1 u2 m0 m1 m2 mf k0 k1 kf ff gf F5 bl f0 f1 g0 g1 g2
    go_wp2
    refine bodyPost_ret (v := .tuple #[.agg #[.slice p1 pd.caps.length a1, .slice p2 pd.bods.length a2], .agg #[Value.slice s1 D.ths.length c1, Value.slice s2 D.chs.length c2, Value.slice s3 D.tr.length c3]]) (by simp [results, Tryz.results16, go_sem, ee0, ee1, ee2, ee3, ee4]) rfl ⟨_, _, _, _, _, rfl, P6.out, S6.out, K6.out⟩
end
section
set_option linter.unusedSimpArgs false
set_option linter.unusedVariables false
set_option maxRecDepth 100000
open Go.RowKit
set_option maxHeartbeats 400000 in
theorem sameInts_any (s s' : Option Addr) (l l' : List Int) (c c' : Nat) (w : World) (h : Ints w s l) (h' : Ints w s' l') (hb : l.length ≤ 1000000000) :
  Calls Tryz.prog 9 #[.slice s l.length c, .slice s' l'.length c'] w fun e w' => e = .returned (.bool (decide (l = l'))) ∧ ∃ n, w' = w.drewN n := by
 by_cases hn : l.length = l'.length
 ·have hne : ((l.length : Int) != (l'.length : Int)) = false := by simp; omega
  have HN : Hid (l.length = l'.length) := hn
  rcases h with rfl | ⟨g, o, rfl, hg, hc⟩
  ·have : l' = [] := by cases l' with | nil => rfl | cons a t => simp at hn
   subst this
   clear hn
   go_enter Tryz.func9, Tryz.ntmps9
   go_wp2
   go_loop [5] (fun i => i = .int .i64 0) (fun _ => 0)
   case atStart => rfl
   case round =>
    subst hrel
    go_wp2
    go_ret
    exact ⟨by simp, 0, rfl⟩
  ·rcases h' with rfl | ⟨g', o', rfl, hg', hc'⟩
   ·have : l = [] := by cases l with | nil => rfl | cons a t => simp at hn
    subst this
    clear hn
    go_enter Tryz.func9, Tryz.ntmps9
    go_wp2
    go_loop [5] (fun i => i = .int .i64 0) (fun _ => 0)
    case atStart => rfl
    case round =>
     subst hrel
     go_wp2
     go_ret
     exact ⟨by simp, 0, rfl⟩
   ·have HC : Hid (∀ i, i < l.length → w.cell? ⟨g, o + i, none⟩ = some (.int .i64 (l.getD i 0))) := hc
    have HC' : Hid (∀ i, i < l'.length → w.cell? ⟨g', o' + i, none⟩ = some (.int .i64 (l'.getD i 0))) := hc'
    clear hn hc hc'
    go_enter Tryz.func9, Tryz.ntmps9
    go_wp2
    go_loopw [5] (fun i wr => ∃ k m : Nat, k ≤ l.length ∧ i = .int .i64 k ∧ (∀ j, j < k → l.getD j 0 = l'.getD j 0) ∧ wr = w.drewN m) (fun i _ => l.length - (intOf i).toNat)
    case atStart => exact ⟨0, 0, Nat.zero_le _, rfl, fun j hj => absurd hj (Nat.not_lt_zero _), rfl⟩
    case round =>
     obtain ⟨k, m, hk, rfl, hj, rfl⟩ := hrel
     have HJ : Hid (∀ j, j < k → l.getD j 0 = l'.getD j 0) := hj
     clear hj
     by_cases hlt : k < l.length
     ·have hlt' : k < l'.length := by have := HN.out; omega
      have e1 := HC.out k hlt
      have e2 := HC'.out k hlt'
      generalize hx : l.getD k 0 = x at e1
      generalize hy : l'.getD k 0 = y at e2
      have HX : Hid (l.getD k 0 = x) := hx
      have HY : Hid (l'.getD k 0 = y) := hy
      clear hx hy
      have b0 : (0 : Int) ≤ (k : Int) := by omega
      have b1 : (k : Int) < (l.length : Int) := by omega
      have b2 : (k : Int) < (l'.length : Int) := by omega
      by_cases hxy : x = y
      ·have hd : (x != y) = false := by simp [hxy]
       have HXY : Hid (x = y) := hxy
       clear hxy
       go_wp2_with fail
       go_quiet (fail)
       go_wp2
       go_roundw
       case rel =>
        refine ⟨k + 1, _, by omega, by go_num, ?_, rfl⟩
        intro j hj
        by_cases e : j < k
        ·exact HJ.out j e
        ·have : j = k := by omega
         subst this
         rw [HX.out, HY.out, HXY.out]
       case measure => simp [intOf]; omega
      ·have hd : (x != y) = true := by simp [hxy]
       have HXY : Hid (¬ x = y) := hxy
       clear hxy
       go_wp2_with fail
       go_quiet (fail)
       go_wp2
       go_ret
       refine ⟨ret_bool' ?_, m + nq, World.drewN_drewN _ _ _⟩
       symm
       rw [decide_eq_false_iff_not]
       rintro rfl
       exact HXY.out (HX.out.symm.trans HY.out)
     ·go_wp2
      go_ret
      refine ⟨ret_bool' ?_, _, rfl⟩
      symm
      rw [decide_eq_true_iff]
      exact getD_eq_all l l' HN.out (fun j hj => HJ.out j (by omega))
 ·have hne : ((l.length : Int) != (l'.length : Int)) = true := by simp; omega
  have HN : Hid (¬ l.length = l'.length) := hn
  clear hn
  go_enter Tryz.func9, Tryz.ntmps9
  go_wp2
  go_ret
  refine ⟨ret_bool' ?_, 0, rfl⟩
  symm
  rw [decide_eq_false_iff_not]
  rintro rfl
  exact HN.out rfl
end
end Go.Proofs.YtknffngbdakblaaGreat
