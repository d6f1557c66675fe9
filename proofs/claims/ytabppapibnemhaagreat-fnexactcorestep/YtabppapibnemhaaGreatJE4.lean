/- CoreStep of the specification. Conditions: the machine is counted, late is a number of 64 bits. CoreStep of the specification where the core runs. Conditions: the machine is counted, late is a number of 64 bits. How much a step adds to a machine. No condition. -/
import Derived.Test.YtabppapibnemhaaGreatJD7
import Derived.Test.YtabppapibnemhaaGreatJE3
import Derived.Test.YtabppapibnemhaaGreatJKDupS
import Derived.Test.YtabppapibnemhaaGreatJKOkS
import Derived.Deep.RegionHeld3
import Derived.Deep.DeepCutAuto
namespace Go.Proofs.YtabppapibnemhaaGreat
section
set_option linter.unusedSimpArgs false
set_option linter.unusedVariables false
set_option maxRecDepth 100000
open Go.RowKit
theorem stepAt_ref (d : MD) (who : Nat) (late : Int) (k : KD) (n : Nat) (s : I5) (h : ¬ (stepAt d who late k n s).2 = 0) : (stepAt d who late k n s).1 = d := by
 revert h
 unfold stepAt
 by_cases h1 : s.o = 1
 ·rw [if_pos h1]; intro h; exact absurd rfl h
 rw [if_neg h1]
 by_cases h2 : s.o = 2
 ·rw [if_pos h2]; intro h; exact absurd rfl h
 rw [if_neg h2]
 by_cases h3 : s.o = 3
 ·rw [if_pos h3]; intro h; exact absurd rfl h
 rw [if_neg h3]
 by_cases h4 : s.o = 4
 ·rw [if_pos h4]; intro h; exact absurd rfl h
 rw [if_neg h4]
 by_cases h9 : s.o = 9
 ·rw [if_pos h9]
  by_cases ht : d.tr.length = 4000
  ·rw [if_pos ht]; intro _; rfl
  ·rw [if_neg ht]; intro h; exact absurd rfl h
 rw [if_neg h9]
 by_cases h10 : s.o = 10
 ·rw [if_pos h10]; intro h; exact absurd rfl h
 rw [if_neg h10]
 by_cases h11 : s.o = 11
 ·rw [if_pos h11]; intro h; exact absurd rfl h
 rw [if_neg h11]
 by_cases h12 : s.o = 12
 ·rw [if_pos h12]; intro h; exact absurd rfl h
 rw [if_neg h12]
 by_cases h13 : s.o = 13
 ·rw [if_pos h13]; intro h; exact absurd rfl h
 rw [if_neg h13]
 by_cases hc : 0 ≤ cellM k s ∧ cellM k s ≤ 23
 ·rw [if_pos hc]
  by_cases hf : s.o ≠ 5 ∧ (d.mem.getD (cellM k s).toNat []).length = 4000
  ·rw [if_pos hf]; intro _; rfl
  ·rw [if_neg hf]; intro h; exact absurd rfl h
 ·rw [if_neg hc]; intro h; exact absurd rfl h
theorem stepM_ref (d : MD) (who late : Int) (h : ¬ (stepM d who late).2 = 0) : (stepM d who late).1 = d := by
 revert h
 unfold stepM
 by_cases hw : 0 ≤ who ∧ who < (d.cores.length : Int)
 ·rw [if_pos hw]
  cases d.cores[who.toNat]? with
  | none => intro _; rfl
  | some k =>
   cases d.codes[who.toNat]? with
   | none => intro _; rfl
   | some code =>
    simp only
    by_cases hs : k.st = 0
    ·rw [if_pos hs]; exact stepAt_ref _ _ _ _ _ _
    ·rw [if_neg hs]; intro _; rfl
 ·rw [if_neg hw]; intro _; rfl
set_option maxHeartbeats 4000000 in
theorem specCore_no (s1 s2 s3 s4 : Option Addr) (c1 c2 c3 c4 lo hi : Nat) (d : MD) (who late : Int) (w : World) (h : MaR w lo hi s1 s2 s3 s4 d) (hB : hi ≤ w.heap.size) (hf : MaSz d ≤ 1048576) (hy : machB d = false) :
  Calls Tryz.prog 6 #[.agg #[.slice s1 d.codes.length c1, .slice s2 d.cores.length c2, .slice s3 d.mem.length c3, .slice s4 d.tr.length c4], .agg #[.int .i64 who, .int .i64 late]] w (CoreQ w (noMd, 1)) := by
 have HY := hidM1 hy
 have H := hidM1 h
 have HF := hidM1 hf
 go_enter Tryz.func6, Tryz.ntmps6
 go_wp2_with fail
 obtain ⟨W, hW⟩ : ∃ W, ((w.alloc (.cells #[.slice s1 d.codes.length c1, .slice s2 d.cores.length c2, .slice s3 d.mem.length c3, .slice s4 d.tr.length c4] 40)).alloc (.cells #[.int .i64 who, .int .i64 late] 44)).alloc (.cells #[.slice none 0 0, .slice none 0 0, .slice none 0 0, .slice none 0 0] 40) = W := ⟨_, rfl⟩
 obtain ⟨bc, kW⟩ := bc3_new hW
 rw [hW]
 clear hW
 have hz := bc.z
 refine (specMachineOk_any s1 s2 s3 s4 c1 c2 c3 c4 lo hi d W (H.out.keep (Keep.of_below kW hB)) (by omega) (MaFits.of HF.out)).mono ?_
 rintro e w1 ⟨rfl, hb1⟩
 rw [HY.out]
 have bc1 := bc.below hb1 hz
 have BC := hidM1 bc1
 have K1 := hidM1 (kW.trans (hb1.mono (by omega)))
 have z1 := hb1.size
 clear bc kW hb1
 obtain ⟨m0, m1, m2, m3, x0, x1, a0, a1, a2, a3, fa, zz⟩ := bc1
 have y2 : w.heap.size + 1 + 1 < w1.heap.size := by omega
 go_wp2
 obtain ⟨Z, hZ, g0, g1, g2, g3, fz, sz, bz⟩ := BC.out.put (a := .slice none 0 0) (b := .slice none 0 0) (c := .slice none 0 0) (d := .slice none 0 0)
 refine bodyPost_ret (v := .tuple #[.agg #[.slice none 0 0, .slice none 0 0, .slice none 0 0, .slice none 0 0], .int .i64 1]) ?_ rfl ?_
 ·rw [hZ]
  simp [results, Tryz.results6, go_sem, g0, g1, g2, g3]
 ·rw [hZ]
  exact ⟨noMP, rfl, noMa _ _ _, bz _ _ K1.out (by omega)⟩
set_option maxHeartbeats 4000000 in
theorem specCore_none (s1 s2 s3 s4 : Option Addr) (c1 c2 c3 c4 lo hi : Nat) (d : MD) (who late : Int) (w : World) (h : MaR w lo hi s1 s2 s3 s4 d) (hB : hi ≤ w.heap.size) (hf : MaSz d ≤ 1048576) (hy : machB d = true) (hw : ¬ (0 ≤ who ∧ who < (d.cores.length : Int))) :
  Calls Tryz.prog 6 #[.agg #[.slice s1 d.codes.length c1, .slice s2 d.cores.length c2, .slice s3 d.mem.length c3, .slice s4 d.tr.length c4], .agg #[.int .i64 who, .int .i64 late]] w (CoreQ w (d, 2)) := by
 have HY := hidM1 hy
 have HW := hidM1 hw
 clear hw
 have wl : IntKind.i64.wrap ((d.cores.length : Int) - 1) = (d.cores.length : Int) - 1 := Go.IntWalk.i64_in _ (by unfold MaSz at hf; omega)
 have H := hidM1 h
 have HF := hidM1 hf
 go_enter Tryz.func6, Tryz.ntmps6
 go_wp2_with fail
 obtain ⟨W, hW⟩ : ∃ W, ((w.alloc (.cells #[.slice s1 d.codes.length c1, .slice s2 d.cores.length c2, .slice s3 d.mem.length c3, .slice s4 d.tr.length c4] 40)).alloc (.cells #[.int .i64 who, .int .i64 late] 44)).alloc (.cells #[.slice none 0 0, .slice none 0 0, .slice none 0 0, .slice none 0 0] 40) = W := ⟨_, rfl⟩
 obtain ⟨bc, kW⟩ := bc3_new hW
 rw [hW]
 clear hW
 have hz := bc.z
 refine (specMachineOk_any s1 s2 s3 s4 c1 c2 c3 c4 lo hi d W (H.out.keep (Keep.of_below kW hB)) (by omega) (MaFits.of HF.out)).mono ?_
 rintro e w1 ⟨rfl, hb1⟩
 rw [HY.out]
 have bc1 := bc.below hb1 hz
 have BC := hidM1 bc1
 have K1 := hidM1 (kW.trans (hb1.mono (by omega)))
 have z1 := hb1.size
 clear bc kW hb1
 obtain ⟨m0, m1, m2, m3, x0, x1, a0, a1, a2, a3, fa, zz⟩ := bc1
 go_wp2_with fail
 refine (l1In_is _ _ _ false _ (by have := HW.out; unfold Plain.inB; simp; omega)).mono ?_
 rintro e w9 ⟨rfl, hw9⟩
 rw [hw9]
 clear hw9 w9
 go_wp2_with fail
 refine (l8Copy_any _ _ _ _ c1 c2 c3 c4 lo hi d w1 (H.out.keep (Keep.of_below K1.out hB)) (by omega) HF.out).mono ?_
 rintro e w2 ⟨vc, vk, vm, vt, LC, LK, S, rfl, q2, hb2, hz2⟩
 obtain ⟨p, rfl, rfl, rfl, rfl, mo2⟩ := q2.mo
 have bc2 := BC.out.below hb2 zz
 have BC2 := hidM1 bc2
 have MO2 := hidM1 mo2
 have B2 : Hid (Below w.heap.size w w2) := K1.out.trans (hb2.mono (by omega))
 clear q2 hb2 mo2 m0 m1 m2 m3 x0 x1 a0 a1 a2 a3 fa
 obtain ⟨m0, m1, m2, m3, x0, x1, a0, a1, a2, a3, fa, zz2⟩ := bc2
 go_wp2
 obtain ⟨Z, hZ, g0, g1, g2, g3, fz, sz, bz⟩ := BC2.out.put (a := .slice p.s1 d.codes.length p.c1) (b := .slice p.s2 d.cores.length p.c2) (c := .slice p.s3 d.mem.length p.c3) (d := .slice p.s4 d.tr.length p.c4)
 refine bodyPost_ret (v := .tuple #[.agg #[.slice p.s1 d.codes.length p.c1, .slice p.s2 d.cores.length p.c2, .slice p.s3 d.mem.length p.c3, .slice p.s4 d.tr.length p.c4], .int .i64 2]) ?_ rfl ?_
 ·rw [hZ]
  simp [results, Tryz.results6, go_sem, g0, g1, g2, g3]
 ·rw [hZ]
  exact ⟨p, rfl, (MO2.out.keep (fun k h3 h4 => fz k (by omega))).mono (by omega) (by omega), bz _ _ B2.out (by omega)⟩
set_option maxHeartbeats 4000000 in
theorem specCore_over (s1 s2 s3 s4 : Option Addr) (c1 c2 c3 c4 lo hi : Nat) (d : MD) (who : Nat) (late : Int) (w : World) (h : MaR w lo hi s1 s2 s3 s4 d) (hB : hi ≤ w.heap.size) (hf : MaSz d ≤ 1048576) (hy : machB d = true) (k : KD) (code : List I5) (s : I5) (ha : At8 d who k code s) (hst : ¬ k.st = 0) :
  Calls Tryz.prog 6 #[.agg #[.slice s1 d.codes.length c1, .slice s2 d.cores.length c2, .slice s3 d.mem.length c3, .slice s4 d.tr.length c4], .agg #[.int .i64 who, .int .i64 late]] w (CoreQ w (d, 3)) := by
 have HY := hidM1 hy
 have hwl : who < d.cores.length := (List.getElem?_eq_some_iff.1 ha.hk).1
 have wl : IntKind.i64.wrap ((d.cores.length : Int) - 1) = (d.cores.length : Int) - 1 := Go.IntWalk.i64_in _ (by unfold MaSz at hf; omega)
 have b0 : (0 : Int) ≤ (who : Int) := by omega
 have b1 : (who : Int) < (d.cores.length : Int) := by omega
 have H := hidM1 h
 have HF := hidM1 hf
 go_enter Tryz.func6, Tryz.ntmps6
 go_wp2_with fail
 obtain ⟨W, hW⟩ : ∃ W, ((w.alloc (.cells #[.slice s1 d.codes.length c1, .slice s2 d.cores.length c2, .slice s3 d.mem.length c3, .slice s4 d.tr.length c4] 40)).alloc (.cells #[.int .i64 who, .int .i64 late] 44)).alloc (.cells #[.slice none 0 0, .slice none 0 0, .slice none 0 0, .slice none 0 0] 40) = W := ⟨_, rfl⟩
 obtain ⟨bc, kW⟩ := bc3_new hW
 rw [hW]
 clear hW
 have hz := bc.z
 refine (specMachineOk_any s1 s2 s3 s4 c1 c2 c3 c4 lo hi d W (H.out.keep (Keep.of_below kW hB)) (by omega) (MaFits.of HF.out)).mono ?_
 rintro e w1 ⟨rfl, hb1⟩
 rw [HY.out]
 have bc1 := bc.below hb1 hz
 have BC := hidM1 bc1
 have K1 := hidM1 (kW.trans (hb1.mono (by omega)))
 have z1 := hb1.size
 clear bc kW hb1
 obtain ⟨m0, m1, m2, m3, x0, x1, a0, a1, a2, a3, fa, zz⟩ := bc1
 obtain ⟨pc, regs, vw, st⟩ := k
 simp only at hst
 obtain ⟨g, o, t1, e1, t2, e2, es, q1, q2, f0, f1, f2, f3, q5, q6⟩ := (H.out.keep (Keep.of_below K1.out hB)).2.1.at ha.hk
 subst es
 have zg : g < w1.heap.size := by omega
 clear q5 q6
 go_wp2_with fail
 refine (l1In_is _ _ _ true _ (by unfold Plain.inB; simp; omega)).mono ?_
 rintro e w9 ⟨rfl, hw9⟩
 rw [hw9]
 clear hw9 w9
 go_wp2_with fail
 clear f0 f1 f2 f3
 refine (l8Copy_any _ _ _ _ c1 c2 c3 c4 lo hi d w1 (H.out.keep (Keep.of_below K1.out hB)) (by omega) HF.out).mono ?_
 rintro e w2 ⟨vc, vk, vm, vt, LC, LK, S, rfl, q2, hb2, hz2⟩
 obtain ⟨p, rfl, rfl, rfl, rfl, mo2⟩ := q2.mo
 have bc2 := BC.out.below hb2 zz
 have BC2 := hidM1 bc2
 have MO2 := hidM1 mo2
 have B2 : Hid (Below w.heap.size w w2) := K1.out.trans (hb2.mono (by omega))
 clear q2 hb2 mo2 m0 m1 m2 m3 x0 x1 a0 a1 a2 a3 fa
 obtain ⟨m0, m1, m2, m3, x0, x1, a0, a1, a2, a3, fa, zz2⟩ := bc2
 go_wp2
 obtain ⟨Z, hZ, g0, g1, g2, g3, fz, sz, bz⟩ := BC2.out.put (a := .slice p.s1 d.codes.length p.c1) (b := .slice p.s2 d.cores.length p.c2) (c := .slice p.s3 d.mem.length p.c3) (d := .slice p.s4 d.tr.length p.c4)
 refine bodyPost_ret (v := .tuple #[.agg #[.slice p.s1 d.codes.length p.c1, .slice p.s2 d.cores.length p.c2, .slice p.s3 d.mem.length p.c3, .slice p.s4 d.tr.length p.c4], .int .i64 3]) ?_ rfl ?_
 ·rw [hZ]
  simp [results, Tryz.results6, go_sem, g0, g1, g2, g3]
 ·rw [hZ]
  exact ⟨p, rfl, (MO2.out.keep (fun k h3 h4 => fz k (by omega))).mono (by omega) (by omega), bz _ _ B2.out (by omega)⟩
end
section
set_option linter.unusedSimpArgs false
set_option linter.unusedVariables false
set_option maxRecDepth 100000
open Go.RowKit
def CutC (W : World) (X : MD × Int) (s6 s7 : Value) (wc : World) : Prop := ∃ (bo : Nat) (p : MP) (LC : List CV) (LK : List KV) (S : List RS), s6 = .pointer (some ⟨bo, 0, none⟩) ∧ s7 = .int .i64 X.2 ∧ W.heap.size ≤ bo ∧ X4 wc bo (.slice p.s1 X.1.codes.length p.c1) (.slice p.s2 X.1.cores.length p.c2) (.slice p.s3 X.1.mem.length p.c3) (.slice p.s4 X.1.tr.length p.c4) ∧ MQ wc W.heap.size (.slice p.s1 X.1.codes.length p.c1) (.slice p.s2 X.1.cores.length p.c2) (.slice p.s3 X.1.mem.length p.c3) (.slice p.s4 X.1.tr.length p.c4) LC LK S X.1 ∧ Below W.heap.size W wc
theorem cutC_new {W wM : World} {X : MD × Int} {p : MP} {LC : List CV} {LK : List KV} {S : List RS} (q : MQ wM W.heap.size (.slice p.s1 X.1.codes.length p.c1) (.slice p.s2 X.1.cores.length p.c2) (.slice p.s3 X.1.mem.length p.c3) (.slice p.s4 X.1.tr.length p.c4) LC LK S X.1) (k : Below W.heap.size W wM) : CutC W X (.pointer (some ⟨wM.heap.size, 0, none⟩)) (.int .i64 X.2) (wM.alloc (.cells #[.slice p.s1 X.1.codes.length p.c1, .slice p.s2 X.1.cores.length p.c2, .slice p.s3 X.1.mem.length p.c3, .slice p.s4 X.1.tr.length p.c4] 40)) := by
 obtain ⟨Y, hY, x, kY, -⟩ := X4.new wM (.slice p.s1 X.1.codes.length p.c1) (.slice p.s2 X.1.cores.length p.c2) (.slice p.s3 X.1.mem.length p.c3) (.slice p.s4 X.1.tr.length p.c4) 40
 rw [hY]
 exact ⟨wM.heap.size, p, LC, LK, S, rfl, rfl, k.size, x, q.keep (fun b _ h1 => kY.block b h1) kY.size, k.trans (kY.mono k.size)⟩
theorem cutC_set {W wM : World} {X : MD × Int} {p : MP} {LC : List CV} {LK : List KV} {S : List RS} {bo : Nat} (b : X4 wM bo (.slice none 0 0) (.slice none 0 0) (.slice none 0 0) (.slice none 0 0) ∧ BxT wM bo) (hbo : W.heap.size ≤ bo) (q : MQ wM W.heap.size (.slice p.s1 X.1.codes.length p.c1) (.slice p.s2 X.1.cores.length p.c2) (.slice p.s3 X.1.mem.length p.c3) (.slice p.s4 X.1.tr.length p.c4) LC LK S X.1) (k : Below W.heap.size W wM) : CutC W X (.pointer (some ⟨bo, 0, none⟩)) (.int .i64 X.2) ((((wM.setCell ⟨bo, 0, none⟩ (.slice p.s1 X.1.codes.length p.c1)).setCell ⟨bo, 1, none⟩ (.slice p.s2 X.1.cores.length p.c2)).setCell ⟨bo, 2, none⟩ (.slice p.s3 X.1.mem.length p.c3)).setCell ⟨bo, 3, none⟩ (.slice p.s4 X.1.tr.length p.c4)) := by
 have B := b.2
 exact ⟨bo, p, LC, LK, S, rfl, rfl, hbo, b.1.set0.set1.set2.set3, MQ.offB (MQ.offB (MQ.offB (MQ.offB q B) B.set) B.set.set) B.set.set.set, (((k.setCell (p := ⟨bo, _, none⟩) hbo _).setCell (p := ⟨bo, _, none⟩) hbo _).setCell (p := ⟨bo, _, none⟩) hbo _).setCell (p := ⟨bo, _, none⟩) hbo _⟩
theorem boxLt {X : World} {q : Nat} (h : BoxAt X (some q)) : q < X.heap.size := h.2.lt
set_option maxHeartbeats 4000000 in
theorem specCore_run (s1 s2 s3 s4 : Option Addr) (c1 c2 c3 c4 lo hi : Nat) (d : MD) (who : Nat) (late : Int) (w : World) (h : MaR w lo hi s1 s2 s3 s4 d) (hB : hi ≤ w.heap.size) (hf : MaSz d ≤ 1048576) (hy : machB d = true) (k : KD) (code : List I5) (s : I5) (ha : At8 d who k code s) (hst : k.st = 0) (hlate : late ≤ 9223372036854775807) :
  Calls Tryz.prog 6 #[.agg #[.slice s1 d.codes.length c1, .slice s2 d.cores.length c2, .slice s3 d.mem.length c3, .slice s4 d.tr.length c4], .agg #[.int .i64 who, .int .i64 late]] w (CoreQ w (stepM d who late)) := by
 have HY := hidM1 hy
 have hwl : who < d.cores.length := (List.getElem?_eq_some_iff.1 ha.hk).1
 have wl : IntKind.i64.wrap ((d.cores.length : Int) - 1) = (d.cores.length : Int) - 1 := Go.IntWalk.i64_in _ (by unfold MaSz at hf; omega)
 have b0 : (0 : Int) ≤ (who : Int) := by omega
 have b1 : (who : Int) < (d.cores.length : Int) := by omega
 have HA := hidM1 ha
 have HST := hidM1 hst
 have REF := hidM1 (stepM_ref d who late)
 have LS := hidM1 (fun (B : Nat) (vc vk vm vt : Value) (LC : List CV) (LK : List KV) (S : List RS) (V : World) (hq : MQ V B vc vk vm vt LC LK S d) (hb : B ≤ V.heap.size) => l8Step_any B vc vk vm vt LC LK S d who k code s late V hq ha hb hlate hst)
 obtain ⟨X, hX⟩ : ∃ X, stepM d who late = X := ⟨_, rfl⟩
 rw [hX] at LS REF ⊢
 clear hX hst hlate
 have H := hidM1 h
 have HF := hidM1 hf
 go_enter Tryz.func6, Tryz.ntmps6
 go_wp2_with fail
 obtain ⟨W, hW⟩ : ∃ W, ((w.alloc (.cells #[.slice s1 d.codes.length c1, .slice s2 d.cores.length c2, .slice s3 d.mem.length c3, .slice s4 d.tr.length c4] 40)).alloc (.cells #[.int .i64 who, .int .i64 late] 44)).alloc (.cells #[.slice none 0 0, .slice none 0 0, .slice none 0 0, .slice none 0 0] 40) = W := ⟨_, rfl⟩
 obtain ⟨bc, kW⟩ := bc3_new hW
 rw [hW]
 clear hW
 have hz := bc.z
 refine (specMachineOk_any s1 s2 s3 s4 c1 c2 c3 c4 lo hi d W (H.out.keep (Keep.of_below kW hB)) (by omega) (MaFits.of HF.out)).mono ?_
 rintro e w1 ⟨rfl, hb1⟩
 rw [HY.out]
 have bc1 := bc.below hb1 hz
 have BC := hidM1 bc1
 have K1 := hidM1 (kW.trans (hb1.mono (by omega)))
 have z1 := hb1.size
 clear bc kW hb1
 obtain ⟨m0, m1, m2, m3, x0, x1, a0, a1, a2, a3, fa, zz⟩ := bc1
 obtain ⟨g, o, t1, e1, t2, e2, es, q1, q2, f0, f1, f2, f3, q5, q6⟩ := (H.out.keep (Keep.of_below K1.out hB)).2.1.at ha.hk
 have f3' : w1.cell? ⟨g, o + who * 4 + 3, none⟩ = some (.int .i64 0) := by rw [← HST.out]; exact f3
 subst es
 have zg : g < w1.heap.size := by omega
 clear q5 q6 f0 f1 f2 f3 ha
 go_wp2_with fail
 refine (l1In_is _ _ _ true _ (by unfold Plain.inB; simp; omega)).mono ?_
 rintro e w9 ⟨rfl, hw9⟩
 rw [hw9]
 clear hw9 w9
 go_upto_region 7 with fail
 have kD : Below w1.heap.size w1 w1.drew := Below.drew (Below.refl _ _)
 have hdr : ∀ X : World, X.drew.heap.size = X.heap.size := fun _ => rfl
 have RB : Hid (∀ X, Below w1.heap.size w1 X → Bc3 X w.heap.size (.slice s1 d.codes.length c1) (.slice (some ⟨g, o, none⟩) d.cores.length c2) (.slice s3 d.mem.length c3) (.slice s4 d.tr.length c4) who late) := fun X hX => BC.out.below hX zz
 have RR : Hid (∀ X, Below w1.heap.size w1 X → MaR X lo hi s1 (some ⟨g, o, none⟩) s3 s4 d) := fun X hX => (H.out.keep (Keep.of_below K1.out hB)).keep (Keep.of_below hX (by omega))
 have CC : Hid (∀ (X0 : World) (pB : Option Nat), Below w1.heap.size w1 X0 → BoxAt X0 pB → Calls Tryz.prog 28 #[.agg #[.slice s1 d.codes.length c1, .slice (some ⟨g, o, none⟩) d.cores.length c2, .slice s3 d.mem.length c3, .slice s4 d.tr.length c4]] X0 fun e w' => ∃ (B : Nat) (p : MP) (LC : List CV) (LK : List KV) (S : List RS), e = .returned (.agg #[.slice p.s1 d.codes.length p.c1, .slice p.s2 d.cores.length p.c2, .slice p.s3 d.mem.length p.c3, .slice p.s4 d.tr.length p.c4]) ∧ w1.heap.size ≤ B ∧ B ≤ w'.heap.size ∧ Below w1.heap.size w1 w' ∧ Hid (MQ w' B (.slice p.s1 d.codes.length p.c1) (.slice p.s2 d.cores.length p.c2) (.slice p.s3 d.mem.length p.c3) (.slice p.s4 d.tr.length p.c4) LC LK S d) ∧ Hid (BoxAt w' pB) ∧ Hid (∀ q, pB = some q → q < B) ∧ w'.cell? ⟨w.heap.size, 0, none⟩ = some (.slice s1 d.codes.length c1) ∧ w'.cell? ⟨w.heap.size, 1, none⟩ = some (.slice (some ⟨g, o, none⟩) d.cores.length c2) ∧ w'.cell? ⟨w.heap.size, 2, none⟩ = some (.slice s3 d.mem.length c3) ∧ w'.cell? ⟨w.heap.size, 3, none⟩ = some (.slice s4 d.tr.length c4) ∧ w'.cell? ⟨w.heap.size + 1, 0, none⟩ = some (.int .i64 who) ∧ w'.cell? ⟨w.heap.size + 1, 1, none⟩ = some (.int .i64 late)) := fun X0 pB hX hb => (l8Copy_any s1 _ s3 s4 c1 c2 c3 c4 lo hi d X0 (RR.out X0 hX) (by have := hX.size; omega) HF.out).mono fun e w' ⟨vc, vk, vm, vt, LC, LK, S, he, q, hb', hz'⟩ => by
  obtain ⟨p, rfl, rfl, rfl, rfl, -⟩ := q.mo
  have kk : Below w1.heap.size w1 w' := hX.trans (hb'.mono hX.size)
  have x := RB.out _ kk
  exact ⟨X0.heap.size, p, LC, LK, S, he, hX.size, Nat.le_of_lt hz', kk, q, hb.keep hb', fun q hq => by subst hq; exact boxLt hb, x.m0, x.m1, x.m2, x.m3, x.x0, x.x1⟩
 have CS : Hid (∀ (X2 Y : World) (B : Nat) (p : MP) (LC : List CV) (LK : List KV) (S : List RS) (pB : Option Nat), w1.heap.size ≤ B → B ≤ X2.heap.size → Below w1.heap.size w1 Y → MQ X2 B (.slice p.s1 d.codes.length p.c1) (.slice p.s2 d.cores.length p.c2) (.slice p.s3 d.mem.length p.c3) (.slice p.s4 d.tr.length p.c4) LC LK S d → Below X2.heap.size X2 Y → BoxAt Y pB → (∀ q, pB = some q → q < B ∨ X2.heap.size ≤ q) → Calls Tryz.prog 29 #[.agg #[.slice p.s1 d.codes.length p.c1, .slice p.s2 d.cores.length p.c2, .slice p.s3 d.mem.length p.c3, .slice p.s4 d.tr.length p.c4], .agg #[.int .i64 who, .int .i64 late]] Y fun e w' => ∃ (p' : MP) (LC' : List CV) (LK' : List KV) (S' : List RS), e = .returned (.tuple #[.agg #[.slice p'.s1 X.1.codes.length p'.c1, .slice p'.s2 X.1.cores.length p'.c2, .slice p'.s3 X.1.mem.length p'.c3, .slice p'.s4 X.1.tr.length p'.c4], .int .i64 X.2]) ∧ Below w1.heap.size w1 w' ∧ Hid (MQ w' w1.heap.size (.slice p'.s1 X.1.codes.length p'.c1) (.slice p'.s2 X.1.cores.length p'.c2) (.slice p'.s3 X.1.mem.length p'.c3) (.slice p'.s4 X.1.tr.length p'.c4) LC' LK' S' X.1) ∧ Hid (BoxAt w' pB) ∧ w'.cell? ⟨w.heap.size, 0, none⟩ = some (.slice s1 d.codes.length c1) ∧ w'.cell? ⟨w.heap.size, 1, none⟩ = some (.slice (some ⟨g, o, none⟩) d.cores.length c2) ∧ w'.cell? ⟨w.heap.size, 2, none⟩ = some (.slice s3 d.mem.length c3) ∧ w'.cell? ⟨w.heap.size, 3, none⟩ = some (.slice s4 d.tr.length c4) ∧ w'.cell? ⟨w.heap.size + 1, 0, none⟩ = some (.int .i64 who) ∧ w'.cell? ⟨w.heap.size + 1, 1, none⟩ = some (.int .i64 late)) := fun X2 Y B p LC LK S pB h1 h2 hY hq hXY hb hp => (LS.out B _ _ _ _ LC LK S Y (hq.keep (fun b _ hb' => hXY.block b hb') hXY.size) (by have := hXY.size; omega)).mono fun e w' ⟨⟨vc, vk, vm, vt, LC', LK', S', he, q', b'⟩, fr⟩ => by
  obtain ⟨p', rfl, rfl, rfl, rfl, -⟩ := q'.mo
  have kk : Below w1.heap.size w1 w' := hY.trans (b'.mono h1)
  have x := RB.out _ kk
  have bx : BoxAt w' pB := by
   cases pB with
   | none => trivial
   | some q =>
    have e : w'.heap[q]? = Y.heap[q]? := by
     rcases hp q rfl with h9 | h9
     ·exact b'.block q h9
     ·exact fr X2 hq q h9 (boxLt hb)
    exact ⟨hb.1.blk e b'.size, hb.2.same e⟩
  exact ⟨p', LC', LK', S', he, kk, q'.low h1, bx, x.m0, x.m1, x.m2, x.m3, x.x0, x.x1⟩
 have LS' := LS
 clear LS m0 m1 m2 m3 x0 x1 a0 a1 a2 a3 fa f3'
 obtain ⟨m0, m1, m2, m3, x0, x1, a0, a1, a2, a3, fa, -⟩ := BC.out
 go_cut [6, 7] (fun s6 s7 wx => CutC w1 X s6 s7 wx)
 case first =>
  go_region_held3 (fun w' => w'.cell? ⟨w.heap.size, 0, none⟩ = some (.slice s1 d.codes.length c1) ∧ w'.cell? ⟨w.heap.size, 1, none⟩ = some (.slice (some ⟨g, o, none⟩) d.cores.length c2) ∧ w'.cell? ⟨w.heap.size, 2, none⟩ = some (.slice s3 d.mem.length c3) ∧ w'.cell? ⟨w.heap.size, 3, none⟩ = some (.slice s4 d.tr.length c4) ∧ w'.cell? ⟨w.heap.size + 1, 0, none⟩ = some (.int .i64 who) ∧ w'.cell? ⟨w.heap.size + 1, 1, none⟩ = some (.int .i64 late)) (first | exact ⟨(RB.out _ (by repeat' (first | with_reducible exact kD | with_reducible exact kC | with_reducible exact kM | with_reducible exact Below.refl _ _ | with_reducible refine Below.drew ?_ | with_reducible refine Below.alloc ?_ (by first | omega | exact Nat.le_refl _ | (simp [hdr]; done) | (simp [hdr]; omega)) _ | with_reducible refine Below.setCell ?_ (by first | omega | exact Nat.le_refl _ | (simp [hdr]; done) | (simp [hdr]; omega)) _))).m0, (RB.out _ (by repeat' (first | with_reducible exact kD | with_reducible exact kC | with_reducible exact kM | with_reducible exact Below.refl _ _ | with_reducible refine Below.drew ?_ | with_reducible refine Below.alloc ?_ (by first | omega | exact Nat.le_refl _ | (simp [hdr]; done) | (simp [hdr]; omega)) _ | with_reducible refine Below.setCell ?_ (by first | omega | exact Nat.le_refl _ | (simp [hdr]; done) | (simp [hdr]; omega)) _))).m1, (RB.out _ (by repeat' (first | with_reducible exact kD | with_reducible exact kC | with_reducible exact kM | with_reducible exact Below.refl _ _ | with_reducible refine Below.drew ?_ | with_reducible refine Below.alloc ?_ (by first | omega | exact Nat.le_refl _ | (simp [hdr]; done) | (simp [hdr]; omega)) _ | with_reducible refine Below.setCell ?_ (by first | omega | exact Nat.le_refl _ | (simp [hdr]; done) | (simp [hdr]; omega)) _))).m2, (RB.out _ (by repeat' (first | with_reducible exact kD | with_reducible exact kC | with_reducible exact kM | with_reducible exact Below.refl _ _ | with_reducible refine Below.drew ?_ | with_reducible refine Below.alloc ?_ (by first | omega | exact Nat.le_refl _ | (simp [hdr]; done) | (simp [hdr]; omega)) _ | with_reducible refine Below.setCell ?_ (by first | omega | exact Nat.le_refl _ | (simp [hdr]; done) | (simp [hdr]; omega)) _))).m3, (RB.out _ (by repeat' (first | with_reducible exact kD | with_reducible exact kC | with_reducible exact kM | with_reducible exact Below.refl _ _ | with_reducible refine Below.drew ?_ | with_reducible refine Below.alloc ?_ (by first | omega | exact Nat.le_refl _ | (simp [hdr]; done) | (simp [hdr]; omega)) _ | with_reducible refine Below.setCell ?_ (by first | omega | exact Nat.le_refl _ | (simp [hdr]; done) | (simp [hdr]; omega)) _))).x0, (RB.out _ (by repeat' (first | with_reducible exact kD | with_reducible exact kC | with_reducible exact kM | with_reducible exact Below.refl _ _ | with_reducible refine Below.drew ?_ | with_reducible refine Below.alloc ?_ (by first | omega | exact Nat.le_refl _ | (simp [hdr]; done) | (simp [hdr]; omega)) _ | with_reducible refine Below.setCell ?_ (by first | omega | exact Nat.le_refl _ | (simp [hdr]; done) | (simp [hdr]; omega)) _))).x1⟩ | go_keep) (first | (go_at_call 28; with_reducible refine (CC.out _ _ (by repeat' (first | with_reducible exact kD | with_reducible exact kC | with_reducible exact kM | with_reducible exact Below.refl _ _ | with_reducible refine Below.drew ?_ | with_reducible refine Below.alloc ?_ (by first | omega | exact Nat.le_refl _ | (simp [hdr]; done) | (simp [hdr]; omega)) _ | with_reducible refine Below.setCell ?_ (by first | omega | exact Nat.le_refl _ | (simp [hdr]; done) | (simp [hdr]; omega)) _)) (by first | with_reducible exact boxD (boxN0 _) | with_reducible exact boxN0 _ | with_reducible exact boxNo _)).mono ?_; rintro e wC ⟨BB, pC, LC, LK, S, rfl, hB1, hB2, kC, QC, HBC, HPC, yC0, yC1, yC2, yC3, yC4, yC5⟩; have zC := kC.size) | (go_at_call 29; with_reducible refine (CS.out wC _ BB pC LC LK S _ hB1 hB2 (by repeat' (first | with_reducible exact kD | with_reducible exact kC | with_reducible exact kM | with_reducible exact Below.refl _ _ | with_reducible refine Below.drew ?_ | with_reducible refine Below.alloc ?_ (by first | omega | exact Nat.le_refl _ | (simp [hdr]; done) | (simp [hdr]; omega)) _ | with_reducible refine Below.setCell ?_ (by first | omega | exact Nat.le_refl _ | (simp [hdr]; done) | (simp [hdr]; omega)) _)) QC.out (show Below wC.heap.size wC _ from (by repeat' (first | with_reducible exact Below.refl _ _ | with_reducible refine Below.drew ?_ | with_reducible refine Below.alloc ?_ (by first | omega | exact Nat.le_refl _ | (simp [hdr]; done) | (simp [hdr]; omega)) _))) (by first | with_reducible exact boxN0 _ | exact HBC.out.keep (show Below wC.heap.size wC _ from (by repeat' (first | with_reducible exact Below.refl _ _ | with_reducible refine Below.drew ?_ | with_reducible refine Below.alloc ?_ (by first | omega | exact Nat.le_refl _ | (simp [hdr]; done) | (simp [hdr]; omega)) _)))) (by first | exact (fun q hq => .inl (HPC.out q hq)) | (intro q hq; injection hq with hq; exact .inr (by omega)))).mono ?_; rintro e wM ⟨pM, LM, KM, SM, rfl, kM, QM, HBM, yM0, yM1, yM2, yM3, yM4, yM5⟩; have zM := kM.size; (try obtain ⟨⟨⟨b9, b0', b1', b2', b3'⟩, bf'⟩, -⟩ := boxSome HBM.out)) | fail)
  all_goals
   go_wp2_with fail
   go_meet
   first
    | with_reducible exact cutC_new QM.out kM
    | with_reducible exact cutC_set (boxSome HBM.out) (by omega) QM.out kM
 case rest =>
  obtain ⟨bo, p, LC, LK, S, rfl, rfl, hbo, hx, hq, hk⟩ := hcut
  obtain ⟨p3, e1', e2', e3', e4', mo3⟩ := hq.mo
  rw [e1', e2', e3', e4'] at hx
  clear e1' e2' e3' e4' hq CC CS LS' m0 m1 m2 m3 x0 x1 a0 a1 a2 a3 fa kD RB
  have bcc := BC.out.below hk zz
  have BCC := hidM1 bcc
  have MO3 := hidM1 mo3
  have HK := hidM1 hk
  have BW : Hid (Below w.heap.size w wc) := K1.out.trans (hk.mono (by omega))
  have RC := hidM1 (RR.out _ hk)
  obtain ⟨z4, o0, o1, o2, o3⟩ := hx.x
  have zc := hk.size
  clear hx mo3 hk RR
  obtain ⟨m0, m1, m2, m3, x0, x1, a0, a1, a2, a3, fa, zzc⟩ := bcc
  have nb : ¬ bo = w.heap.size + 1 + 1 := by omega
  have nb' : ¬ w.heap.size + 1 + 1 = bo := by omega
  obtain ⟨d', c'⟩ := X
  simp only at REF MO3 o0 o1 o2 o3 ⊢
  by_cases h0 : c' = 0
  ·subst h0
   clear REF
   go_wp2
   obtain ⟨Z, hZ, g0, g1, g2, g3, fz, sz, bz⟩ := BCC.out.put (a := .slice p3.s1 d'.codes.length p3.c1) (b := .slice p3.s2 d'.cores.length p3.c2) (c := .slice p3.s3 d'.mem.length p3.c3) (d := .slice p3.s4 d'.tr.length p3.c4)
   refine bodyPost_ret (v := .tuple #[.agg #[.slice p3.s1 d'.codes.length p3.c1, .slice p3.s2 d'.cores.length p3.c2, .slice p3.s3 d'.mem.length p3.c3, .slice p3.s4 d'.tr.length p3.c4], .int .i64 0]) ?_ rfl ?_
   ·rw [hZ]
    simp [results, Tryz.results6, go_sem, g0, g1, g2, g3]
   ·rw [hZ]
    exact ⟨p3, rfl, (MO3.out.keep (fun k h3 h4 => fz k (by omega))).mono (by omega) (by omega), bz _ _ BW.out (by omega)⟩
  ·have ed := REF.out h0
   subst ed
   clear REF MO3 o0 o1 o2 o3
   have h0' : (c' != 0) = true := by simp [h0]
   go_wp2_with fail
   refine (l8Copy_any _ _ _ _ c1 c2 c3 c4 lo hi d' wc RC.out (by omega) HF.out).mono ?_
   rintro e w2 ⟨vc, vk, vm, vt, LC2, LK2, S2, rfl, q2', hb2, hz2⟩
   obtain ⟨p, rfl, rfl, rfl, rfl, mo2⟩ := q2'.mo
   have bc2 := BCC.out.below hb2 zzc
   have BC2 := hidM1 bc2
   have MO2 := hidM1 mo2
   have B2 : Hid (Below w.heap.size w w2) := BW.out.trans (hb2.mono (by omega))
   clear q2' hb2 mo2 m0 m1 m2 m3 x0 x1 a0 a1 a2 a3 fa
   obtain ⟨m0, m1, m2, m3, x0, x1, a0, a1, a2, a3, fa, zz2⟩ := bc2
   go_wp2
   obtain ⟨Z, hZ, g0, g1, g2, g3, fz, sz, bz⟩ := BC2.out.put (a := .slice p.s1 d'.codes.length p.c1) (b := .slice p.s2 d'.cores.length p.c2) (c := .slice p.s3 d'.mem.length p.c3) (d := .slice p.s4 d'.tr.length p.c4)
   refine bodyPost_ret (v := .tuple #[.agg #[.slice p.s1 d'.codes.length p.c1, .slice p.s2 d'.cores.length p.c2, .slice p.s3 d'.mem.length p.c3, .slice p.s4 d'.tr.length p.c4], .int .i64 c']) ?_ rfl ?_
   ·rw [hZ]
    simp [results, Tryz.results6, go_sem, g0, g1, g2, g3]
   ·rw [hZ]
    exact ⟨p, rfl, (MO2.out.keep (fun k h3 h4 => fz k (by omega))).mono (by omega) (by omega), bz _ _ B2.out (by omega)⟩
theorem specCore_any (s1 s2 s3 s4 : Option Addr) (c1 c2 c3 c4 lo hi : Nat) (d : MD) (who late : Int) (w : World) (h : MaR w lo hi s1 s2 s3 s4 d) (hB : hi ≤ w.heap.size) (hf : MaSz d ≤ 1048576) (hlate : late ≤ 9223372036854775807) :
  Calls Tryz.prog 6 #[.agg #[.slice s1 d.codes.length c1, .slice s2 d.cores.length c2, .slice s3 d.mem.length c3, .slice s4 d.tr.length c4], .agg #[.int .i64 who, .int .i64 late]] w (CoreQ w (coreM d who late)) := by
 unfold coreM
 cases hy : machB d with
 | true =>
  rw [if_pos rfl]
  by_cases hw : 0 ≤ who ∧ who < (d.cores.length : Int)
  ·obtain ⟨n, rfl⟩ : ∃ n : Nat, who = (n : Int) := ⟨who.toNat, by omega⟩
   obtain ⟨k, code, s, ha⟩ := mach_at hy (who := n) (by omega)
   by_cases hst : k.st = 0
   ·exact specCore_run s1 s2 s3 s4 c1 c2 c3 c4 lo hi d n late w h hB hf hy k code s ha hst hlate
   ·rw [stepM_over ha late hst]
    exact specCore_over s1 s2 s3 s4 c1 c2 c3 c4 lo hi d n late w h hB hf hy k code s ha hst
  ·rw [stepM_none late hw]
   exact specCore_none s1 s2 s3 s4 c1 c2 c3 c4 lo hi d who late w h hB hf hy hw
 | false =>
  rw [if_neg (by decide)]
  exact specCore_no s1 s2 s3 s4 c1 c2 c3 c4 lo hi d who late w h hB hf hy
end
section
set_option linter.unusedSimpArgs false
set_option linter.unusedVariables false
set_option maxRecDepth 100000
open Go.RowKit
theorem goM_same (d : MD) (who : Nat) (k : KD) (n : Nat) (p : Int) : (goM d who k n p).mem = d.mem ∧ (goM d who k n p).codes = d.codes := by
 unfold goM
 split
 ·exact ⟨rfl, rfl⟩
 ·exact ⟨rfl, rfl⟩
theorem szV_snoc (x : WD) : ∀ l : List WD, szV (l ++ [x]) = szV l + x.vw.length
 | [] => by simp [szV]
 | y :: r => by simp [szV, szV_snoc x r]; omega
theorem szR_set (x : WD) : ∀ (m : List (List WD)) (c : Nat) (r : List WD), m[c]? = some r → szR (m.set c (r ++ [x])) = szR m + 1 + x.vw.length
 | [], c, r, h => by simp at h
 | y :: t, 0, r, h => by
  simp at h
  subst h
  simp [szR, szV_snoc]
  omega
 | y :: t, c + 1, r, h => by
  have q := szR_set x t c r (by simpa using h)
  simp [szR, q]
  omega
theorem told24 (l : List Int) (k n : Nat) (b : Bool) (hl : l.length = 24) : (toldL l k n b).length = 24 := by
 unfold toldL
 split
 ·rw [List.length_set]; exact hl
 ·rw [List.length_set, List.length_replicate]
theorem stM_sz {m : List (List WD)} {l : List Int} {c : Nat} (z : Int) (b : Bool) (hm : memB m = true) (hc : c < 24) (hl : l.length = 24) : (stM m l c z b).length + szR (stM m l c z b) = m.length + szR m + 25 := by
 obtain ⟨-, r, hr, -⟩ := memB_at hm hc
 have e : m.getD c [] = r := by rw [List.getD_eq_getElem?_getD, hr]; rfl
 unfold stM
 rw [e, szR_set _ m c r hr, List.length_set]
 simp only [told24 _ _ _ _ hl]
 omega
theorem stepAt_sz {d : MD} {who : Nat} {k : KD} {code : List I5} {s : I5} (late : Int) (ha : At8 d who k code s) : (stepAt d who late k code.length s).1.codes = d.codes ∧ (stepAt d who late k code.length s).1.mem.length + szR (stepAt d who late k code.length s).1.mem ≤ d.mem.length + szR d.mem + 25 := by
 have hm := ha.mem
 have hl : k.vw.length = 24 := by
  have q := (viewB_iff.1 ha.vw).1
  have m := (memB_at ha.mem (i := 0) (by omega)).1
  omega
 have go : ∀ (d1 : MD) (k1 : KD) (p : Int), d1.codes = d.codes → d1.mem.length + szR d1.mem ≤ d.mem.length + szR d.mem + 25 → (goM d1 who k1 code.length p, (0 : Int)).1.codes = d.codes ∧ (goM d1 who k1 code.length p, (0 : Int)).1.mem.length + szR (goM d1 who k1 code.length p, (0 : Int)).1.mem ≤ d.mem.length + szR d.mem + 25 := fun d1 k1 p h1 h2 => by
  obtain ⟨e1, e2⟩ := goM_same d1 who k1 code.length p
  simp only [e1, e2]
  exact ⟨h1, h2⟩
 have st : ∀ (k1 : KD) (z : Int), (putK d who k1, z).1.codes = d.codes ∧ (putK d who k1, z).1.mem.length + szR (putK d who k1, z).1.mem ≤ d.mem.length + szR d.mem + 25 := fun k1 z => ⟨rfl, Nat.le_add_right _ _⟩
 have no : ∀ z : Int, (d, z).1.codes = d.codes ∧ (d, z).1.mem.length + szR (d, z).1.mem ≤ d.mem.length + szR d.mem + 25 := fun z => ⟨rfl, Nat.le_add_right _ _⟩
 unfold stepAt
 by_cases e1 : s.o = 1
 ·rw [if_pos e1]; exact go _ _ _ rfl (Nat.le_add_right _ _)
 rw [if_neg e1]
 by_cases e2 : s.o = 2
 ·rw [if_pos e2]; exact go _ _ _ rfl (Nat.le_add_right _ _)
 rw [if_neg e2]
 by_cases e3 : s.o = 3
 ·rw [if_pos e3]; exact go _ _ _ rfl (Nat.le_add_right _ _)
 rw [if_neg e3]
 by_cases e4 : s.o = 4
 ·rw [if_pos e4]; exact go _ _ _ rfl (Nat.le_add_right _ _)
 rw [if_neg e4]
 by_cases e9 : s.o = 9
 ·rw [if_pos e9]
  by_cases hf : d.tr.length = 4000
  ·rw [if_pos hf]; exact no 3
  ·rw [if_neg hf]; exact go _ _ _ rfl (Nat.le_add_right _ _)
 rw [if_neg e9]
 by_cases e10 : s.o = 10
 ·rw [if_pos e10]; exact go _ _ _ rfl (Nat.le_add_right _ _)
 rw [if_neg e10]
 by_cases e11 : s.o = 11
 ·rw [if_pos e11]; exact go _ _ _ rfl (Nat.le_add_right _ _)
 rw [if_neg e11]
 by_cases e12 : s.o = 12
 ·rw [if_pos e12]; exact st _ 0
 rw [if_neg e12]
 by_cases e13 : s.o = 13
 ·rw [if_pos e13]; exact st _ 0
 rw [if_neg e13]
 by_cases hc : 0 ≤ cellM k s ∧ cellM k s ≤ 23
 ·rw [if_pos hc]
  generalize hcc : (cellM k s).toNat = c
  have hc24 : c < 24 := by omega
  by_cases hfull : s.o ≠ 5 ∧ (d.mem.getD c []).length = 4000
  ·rw [if_pos hfull]; exact no 3
  ·rw [if_neg hfull]
   unfold memS
   by_cases e5 : s.o = 5
   ·rw [if_pos e5]; exact go _ _ _ rfl (Nat.le_add_right _ _)
   ·rw [if_neg e5]
    by_cases e8 : s.o = 8
    ·rw [if_pos e8]
     have hw : (ldW d.mem k.vw c 0 true).length = 24 := by
      have q := (viewB_iff.1 (ldW_ok 0 true hm ha.vw hc24)).1
      have := (memB_at hm hc24).1
      omega
     exact go _ _ _ rfl (Nat.le_of_eq (stM_sz _ _ hm hc24 hw))
    ·rw [if_neg e8]
     exact go _ _ _ rfl (Nat.le_of_eq (stM_sz _ _ hm hc24 hl))
 ·rw [if_neg hc]; exact st _ 0
theorem stepM_sz {d : MD} (who late : Int) (h : machB d = true) : (stepM d who late).1.codes = d.codes ∧ (stepM d who late).1.mem.length + szR (stepM d who late).1.mem ≤ d.mem.length + szR d.mem + 25 := by
 by_cases hw : 0 ≤ who ∧ who < (d.cores.length : Int)
 ·obtain ⟨n, rfl⟩ : ∃ n : Nat, who = (n : Int) := ⟨who.toNat, by omega⟩
  obtain ⟨k, code, s, ha⟩ := mach_at h (who := n) (by omega)
  by_cases hr : k.st = 0
  ·rw [stepM_at ha late hr]; exact stepAt_sz late ha
  ·rw [stepM_over ha late hr]; exact ⟨rfl, Nat.le_add_right _ _⟩
 ·rw [stepM_none late hw]; exact ⟨rfl, Nat.le_add_right _ _⟩
theorem szK_all : ∀ (l : List KD), (∀ (i : Nat) (x : KD), l[i]? = some x → x.regs.length = 8 ∧ x.vw.length = 24) → szK l = 32 * l.length
 | [], _ => rfl
 | x :: r, h => by
  have q := szK_all r (fun i y hy => h (i + 1) y (by simpa using hy))
  have a := h 0 x rfl
  simp [szK, q]
  omega
theorem mach_k {d : MD} (h : machB d = true) : d.cores.length + szK d.cores ≤ 132 ∧ d.tr.length ≤ 4000 := by
 have hl := mach_len h
 have hk : szK d.cores = 32 * d.cores.length := szK_all _ fun i x hx => by
  have hi := (List.getElem?_eq_some_iff.1 hx).1
  obtain ⟨k, code, s, ha⟩ := mach_at h (who := i) hi
  have e : k = x := by have q := ha.hk; rw [hx] at q; injection q with q; exact q.symm
  subst e
  have m24 := (memB_at ha.mem (i := 0) (by omega)).1
  have v24 := (viewB_iff.1 ha.vw).1
  exact ⟨ha.regs, by omega⟩
 unfold machB codesB trB at h
 simp only [Bool.and_eq_true, decide_eq_true_eq] at h
 have h1 := h.1.1
 exact ⟨by omega, h.2.2.1.1⟩
theorem fits_of {d d' : MD} {e : Nat} (hm : machB d' = true) (hf : MaSz d ≤ 1048576) (hc : d'.codes = d.codes) (hr : d'.mem.length + szR d'.mem ≤ d.mem.length + szR d.mem + e) (he : e ≤ 900000) : MaFits d' := by
 obtain ⟨h1, h2⟩ := mach_k hm
 unfold MaSz at hf
 refine ⟨by rw [hc]; omega, by omega, by omega, by omega⟩
theorem coreM_fits {d : MD} (who late : Int) (hf : MaSz d ≤ 1048576) : MaFits (coreM d who late).1 := by
 unfold coreM
 cases hy : machB d with
 | true =>
  rw [if_pos rfl]
  obtain ⟨h1, h2⟩ := stepM_sz who late hy
  exact fits_of (stepM_ok who late hy) hf h1 h2 (by omega)
 | false =>
  rw [if_neg (by decide)]
  exact ⟨by simp [noMd, szC], by simp [noMd, szK], by simp [noMd, szR], by simp [noMd]⟩
end
end Go.Proofs.YtabppapibnemhaaGreat
