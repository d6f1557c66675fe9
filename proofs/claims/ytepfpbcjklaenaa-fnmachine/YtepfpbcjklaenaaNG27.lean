/- CoreStep of the specification. Conditions: the machine is counted, late is a number of 64 bits. A step that is done: what it leaves of the cores; a view only learns. No condition. impl.CoreStep. Conditions: the machine lies in memory as the reading says. CoreStep of the specification where the core runs. Conditions: the machine is counted, late is a number of 64 bits. DrawCoreStep: a machine and a pick, as they are read. Conditions: the code's bytes lie in memory. Views: Knows and Join of the program, Knows of the specification. Conditions: at most 2^20 + 1 integers a row. -/
import Derived.Test.YtepfpbcjklaenaaNG16
import Derived.Test.YtepfpbcjklaenaaNG23
import Derived.Test.YtepfpbcjklaenaaNKDupS
import Derived.Test.YtepfpbcjklaenaaNKOkS
import Derived.Test.YtepfpbcjklaenaaNG08
import Derived.Test.YtepfpbcjklaenaaNG21
import Derived.Test.YtepfpbcjklaenaaNG17
import Derived.Test.YtepfpbcjklaenaaNG09
import Derived.Deep.RegionHeld3
import Derived.Deep.DeepCutAuto
import Derived.Test.YtepfpbcjklaenaaNG25
import Derived.Test.YtepfpbcjklaenaaNG00
import Derived.Test.YtepfpbcjklaenaaNG01
namespace Go.Proofs.Ytepfpbcjklaenaa
section
set_option linter.unusedSimpArgs false
set_option linter.unusedVariables false
set_option maxRecDepth 100000
open Go.RowKit
theorem stepAt_ref (d : MD) (who : Nat) (late : Int) (k : KD) (n : Nat) (s : I5) (h : ¬ (stepAt d who late k n s).2 = 0) : (stepAt d who late k n s).1 = d := by
 revert h
 unfold stepAt
 by_cases h1 : s.o = 1
 ·rw [if_pos h1]; intro h; exact absurd rfl h
 rw [if_neg h1]
 by_cases h2 : s.o = 2
 ·rw [if_pos h2]; intro h; exact absurd rfl h
 rw [if_neg h2]
 by_cases h3 : s.o = 3
 ·rw [if_pos h3]; intro h; exact absurd rfl h
 rw [if_neg h3]
 by_cases h4 : s.o = 4
 ·rw [if_pos h4]; intro h; exact absurd rfl h
 rw [if_neg h4]
 by_cases h9 : s.o = 9
 ·rw [if_pos h9]
  by_cases ht : d.tr.length = 4000
  ·rw [if_pos ht]; intro _; rfl
  ·rw [if_neg ht]; intro h; exact absurd rfl h
 rw [if_neg h9]
 by_cases h10 : s.o = 10
 ·rw [if_pos h10]; intro h; exact absurd rfl h
 rw [if_neg h10]
 by_cases h11 : s.o = 11
 ·rw [if_pos h11]; intro h; exact absurd rfl h
 rw [if_neg h11]
 by_cases h12 : s.o = 12
 ·rw [if_pos h12]; intro h; exact absurd rfl h
 rw [if_neg h12]
 by_cases h13 : s.o = 13
 ·rw [if_pos h13]; intro h; exact absurd rfl h
 rw [if_neg h13]
 by_cases hc : 0 ≤ cellM k s ∧ cellM k s ≤ 23
 ·rw [if_pos hc]
  by_cases hf : s.o ≠ 5 ∧ (d.mem.getD (cellM k s).toNat []).length = 4000
  ·rw [if_pos hf]; intro _; rfl
  ·rw [if_neg hf]; intro h; exact absurd rfl h
 ·rw [if_neg hc]; intro h; exact absurd rfl h
theorem stepM_ref (d : MD) (who late : Int) (h : ¬ (stepM d who late).2 = 0) : (stepM d who late).1 = d := by
 revert h
 unfold stepM
 by_cases hw : 0 ≤ who ∧ who < (d.cores.length : Int)
 ·rw [if_pos hw]
  cases d.cores[who.toNat]? with
  | none => intro _; rfl
  | some k =>
   cases d.codes[who.toNat]? with
   | none => intro _; rfl
   | some code =>
    simp only
    by_cases hs : k.st = 0
    ·rw [if_pos hs]; exact stepAt_ref _ _ _ _ _ _
    ·rw [if_neg hs]; intro _; rfl
 ·rw [if_neg hw]; intro _; rfl
set_option maxHeartbeats 4000000 in
theorem specCore_no (s1 s2 s3 s4 : Option Addr) (c1 c2 c3 c4 lo hi : Nat) (d : MD) (who late : Int) (w : World) (h : MaR w lo hi s1 s2 s3 s4 d) (hB : hi ≤ w.heap.size) (hf : MaSz d ≤ 1048576) (hy : machB d = false) :
  Calls Try.prog 13 #[.agg #[.slice s1 d.codes.length c1, .slice s2 d.cores.length c2, .slice s3 d.mem.length c3, .slice s4 d.tr.length c4], .agg #[.int .i64 who, .int .i64 late]] w (CoreQ w (noMd, 1)) := by
 have HY := hidM1 hy
 have H := hidM1 h
 have HF := hidM1 hf
 go_enter Try.func13, Try.ntmps13
 go_wp2_with fail
 obtain ⟨W, hW⟩ : ∃ W, ((w.alloc (.cells #[.slice s1 d.codes.length c1, .slice s2 d.cores.length c2, .slice s3 d.mem.length c3, .slice s4 d.tr.length c4] 34)).alloc (.cells #[.int .i64 who, .int .i64 late] 40)).alloc (.cells #[.slice none 0 0, .slice none 0 0, .slice none 0 0, .slice none 0 0] 34) = W := ⟨_, rfl⟩
 obtain ⟨bc, kW⟩ := bc3_new hW
 rw [hW]
 clear hW
 have hz := bc.z
 refine (specMachineOk_any s1 s2 s3 s4 c1 c2 c3 c4 lo hi d W (H.out.keep (Keep.of_below kW hB)) (by omega) (MaFits.of HF.out)).mono ?_
 rintro e w1 ⟨rfl, hb1⟩
 rw [HY.out]
 have bc1 := bc.below hb1 hz
 have BC := hidM1 bc1
 have K1 := hidM1 (kW.trans (hb1.mono (by omega)))
 have z1 := hb1.size
 clear bc kW hb1
 obtain ⟨m0, m1, m2, m3, x0, x1, a0, a1, a2, a3, fa, zz⟩ := bc1
 have y2 : w.heap.size + 1 + 1 < w1.heap.size := by omega
 go_wp2
 obtain ⟨Z, hZ, g0, g1, g2, g3, fz, sz, bz⟩ := BC.out.put (a := .slice none 0 0) (b := .slice none 0 0) (c := .slice none 0 0) (d := .slice none 0 0)
 refine bodyPost_ret (v := .tuple #[.agg #[.slice none 0 0, .slice none 0 0, .slice none 0 0, .slice none 0 0], .int .i64 1]) ?_ rfl ?_
 ·rw [hZ]
  simp [results, Try.results13, go_sem, g0, g1, g2, g3]
 ·rw [hZ]
  exact ⟨noMP, rfl, noMa _ _ _, bz _ _ K1.out (by omega)⟩
set_option maxHeartbeats 4000000 in
theorem specCore_none (s1 s2 s3 s4 : Option Addr) (c1 c2 c3 c4 lo hi : Nat) (d : MD) (who late : Int) (w : World) (h : MaR w lo hi s1 s2 s3 s4 d) (hB : hi ≤ w.heap.size) (hf : MaSz d ≤ 1048576) (hy : machB d = true) (hw : ¬ (0 ≤ who ∧ who < (d.cores.length : Int))) :
  Calls Try.prog 13 #[.agg #[.slice s1 d.codes.length c1, .slice s2 d.cores.length c2, .slice s3 d.mem.length c3, .slice s4 d.tr.length c4], .agg #[.int .i64 who, .int .i64 late]] w (CoreQ w (d, 2)) := by
 have HY := hidM1 hy
 have HW := hidM1 hw
 clear hw
 have wl : IntKind.i64.wrap ((d.cores.length : Int) - 1) = (d.cores.length : Int) - 1 := Go.IntWalk.i64_in _ (by unfold MaSz at hf; omega)
 have H := hidM1 h
 have HF := hidM1 hf
 go_enter Try.func13, Try.ntmps13
 go_wp2_with fail
 obtain ⟨W, hW⟩ : ∃ W, ((w.alloc (.cells #[.slice s1 d.codes.length c1, .slice s2 d.cores.length c2, .slice s3 d.mem.length c3, .slice s4 d.tr.length c4] 34)).alloc (.cells #[.int .i64 who, .int .i64 late] 40)).alloc (.cells #[.slice none 0 0, .slice none 0 0, .slice none 0 0, .slice none 0 0] 34) = W := ⟨_, rfl⟩
 obtain ⟨bc, kW⟩ := bc3_new hW
 rw [hW]
 clear hW
 have hz := bc.z
 refine (specMachineOk_any s1 s2 s3 s4 c1 c2 c3 c4 lo hi d W (H.out.keep (Keep.of_below kW hB)) (by omega) (MaFits.of HF.out)).mono ?_
 rintro e w1 ⟨rfl, hb1⟩
 rw [HY.out]
 have bc1 := bc.below hb1 hz
 have BC := hidM1 bc1
 have K1 := hidM1 (kW.trans (hb1.mono (by omega)))
 have z1 := hb1.size
 clear bc kW hb1
 obtain ⟨m0, m1, m2, m3, x0, x1, a0, a1, a2, a3, fa, zz⟩ := bc1
 go_wp2_with fail
 refine (l1In_is _ _ _ false _ (by have := HW.out; unfold Plain.inB; simp; omega)).mono ?_
 rintro e w9 ⟨rfl, hw9⟩
 rw [hw9]
 clear hw9 w9
 go_wp2_with fail
 refine (l8Copy_any _ _ _ _ c1 c2 c3 c4 lo hi d w1 (H.out.keep (Keep.of_below K1.out hB)) (by omega) HF.out).mono ?_
 rintro e w2 ⟨vc, vk, vm, vt, LC, LK, S, rfl, q2, hb2, hz2⟩
 obtain ⟨p, rfl, rfl, rfl, rfl, mo2, -⟩ := q2.mo
 have bc2 := BC.out.below hb2 zz
 have BC2 := hidM1 bc2
 have MO2 := hidM1 mo2
 have B2 : Hid (Below w.heap.size w w2) := K1.out.trans (hb2.mono (by omega))
 clear q2 hb2 mo2 m0 m1 m2 m3 x0 x1 a0 a1 a2 a3 fa
 obtain ⟨m0, m1, m2, m3, x0, x1, a0, a1, a2, a3, fa, zz2⟩ := bc2
 go_wp2
 obtain ⟨Z, hZ, g0, g1, g2, g3, fz, sz, bz⟩ := BC2.out.put (a := .slice p.s1 d.codes.length p.c1) (b := .slice p.s2 d.cores.length p.c2) (c := .slice p.s3 d.mem.length p.c3) (d := .slice p.s4 d.tr.length p.c4)
 refine bodyPost_ret (v := .tuple #[.agg #[.slice p.s1 d.codes.length p.c1, .slice p.s2 d.cores.length p.c2, .slice p.s3 d.mem.length p.c3, .slice p.s4 d.tr.length p.c4], .int .i64 2]) ?_ rfl ?_
 ·rw [hZ]
  simp [results, Try.results13, go_sem, g0, g1, g2, g3]
 ·rw [hZ]
  exact ⟨p, rfl, (MO2.out.keep (fun k h3 h4 => fz k (by omega))).mono (by omega) (by omega), bz _ _ B2.out (by omega)⟩
set_option maxHeartbeats 4000000 in
theorem specCore_over (s1 s2 s3 s4 : Option Addr) (c1 c2 c3 c4 lo hi : Nat) (d : MD) (who : Nat) (late : Int) (w : World) (h : MaR w lo hi s1 s2 s3 s4 d) (hB : hi ≤ w.heap.size) (hf : MaSz d ≤ 1048576) (hy : machB d = true) (k : KD) (code : List I5) (s : I5) (ha : At8 d who k code s) (hst : ¬ k.st = 0) :
  Calls Try.prog 13 #[.agg #[.slice s1 d.codes.length c1, .slice s2 d.cores.length c2, .slice s3 d.mem.length c3, .slice s4 d.tr.length c4], .agg #[.int .i64 who, .int .i64 late]] w (CoreQ w (d, 3)) := by
 have HY := hidM1 hy
 have hwl : who < d.cores.length := (List.getElem?_eq_some_iff.1 ha.hk).1
 have wl : IntKind.i64.wrap ((d.cores.length : Int) - 1) = (d.cores.length : Int) - 1 := Go.IntWalk.i64_in _ (by unfold MaSz at hf; omega)
 have b0 : (0 : Int) ≤ (who : Int) := by omega
 have b1 : (who : Int) < (d.cores.length : Int) := by omega
 have H := hidM1 h
 have HF := hidM1 hf
 go_enter Try.func13, Try.ntmps13
 go_wp2_with fail
 obtain ⟨W, hW⟩ : ∃ W, ((w.alloc (.cells #[.slice s1 d.codes.length c1, .slice s2 d.cores.length c2, .slice s3 d.mem.length c3, .slice s4 d.tr.length c4] 34)).alloc (.cells #[.int .i64 who, .int .i64 late] 40)).alloc (.cells #[.slice none 0 0, .slice none 0 0, .slice none 0 0, .slice none 0 0] 34) = W := ⟨_, rfl⟩
 obtain ⟨bc, kW⟩ := bc3_new hW
 rw [hW]
 clear hW
 have hz := bc.z
 refine (specMachineOk_any s1 s2 s3 s4 c1 c2 c3 c4 lo hi d W (H.out.keep (Keep.of_below kW hB)) (by omega) (MaFits.of HF.out)).mono ?_
 rintro e w1 ⟨rfl, hb1⟩
 rw [HY.out]
 have bc1 := bc.below hb1 hz
 have BC := hidM1 bc1
 have K1 := hidM1 (kW.trans (hb1.mono (by omega)))
 have z1 := hb1.size
 clear bc kW hb1
 obtain ⟨m0, m1, m2, m3, x0, x1, a0, a1, a2, a3, fa, zz⟩ := bc1
 obtain ⟨pc, regs, vw, st⟩ := k
 simp only at hst
 obtain ⟨g, o, t1, e1, t2, e2, es, q1, q2, f0, f1, f2, f3, q5, q6⟩ := (H.out.keep (Keep.of_below K1.out hB)).2.1.at ha.hk
 subst es
 have zg : g < w1.heap.size := by omega
 clear q5 q6
 go_wp2_with fail
 refine (l1In_is _ _ _ true _ (by unfold Plain.inB; simp; omega)).mono ?_
 rintro e w9 ⟨rfl, hw9⟩
 rw [hw9]
 clear hw9 w9
 go_wp2_with fail
 clear f0 f1 f2 f3
 refine (l8Copy_any _ _ _ _ c1 c2 c3 c4 lo hi d w1 (H.out.keep (Keep.of_below K1.out hB)) (by omega) HF.out).mono ?_
 rintro e w2 ⟨vc, vk, vm, vt, LC, LK, S, rfl, q2, hb2, hz2⟩
 obtain ⟨p, rfl, rfl, rfl, rfl, mo2, -⟩ := q2.mo
 have bc2 := BC.out.below hb2 zz
 have BC2 := hidM1 bc2
 have MO2 := hidM1 mo2
 have B2 : Hid (Below w.heap.size w w2) := K1.out.trans (hb2.mono (by omega))
 clear q2 hb2 mo2 m0 m1 m2 m3 x0 x1 a0 a1 a2 a3 fa
 obtain ⟨m0, m1, m2, m3, x0, x1, a0, a1, a2, a3, fa, zz2⟩ := bc2
 go_wp2
 obtain ⟨Z, hZ, g0, g1, g2, g3, fz, sz, bz⟩ := BC2.out.put (a := .slice p.s1 d.codes.length p.c1) (b := .slice p.s2 d.cores.length p.c2) (c := .slice p.s3 d.mem.length p.c3) (d := .slice p.s4 d.tr.length p.c4)
 refine bodyPost_ret (v := .tuple #[.agg #[.slice p.s1 d.codes.length p.c1, .slice p.s2 d.cores.length p.c2, .slice p.s3 d.mem.length p.c3, .slice p.s4 d.tr.length p.c4], .int .i64 3]) ?_ rfl ?_
 ·rw [hZ]
  simp [results, Try.results13, go_sem, g0, g1, g2, g3]
 ·rw [hZ]
  exact ⟨p, rfl, (MO2.out.keep (fun k h3 h4 => fz k (by omega))).mono (by omega) (by omega), bz _ _ B2.out (by omega)⟩
end
section
set_option linter.unusedSimpArgs false
set_option linter.unusedVariables false
set_option maxRecDepth 100000
open Go.RowKit
theorem knows_of {a b : List Int} (hl : a.length = b.length) (h : ∀ i, i < a.length → b.getD i 0 ≤ a.getD i 0) : knowsB a b = true := decide_eq_true ⟨hl, h⟩
theorem knows_refl (a : List Int) : knowsB a a = true := knows_of rfl (fun _ _ => Int.le_refl _)
theorem knows_trans {a b c : List Int} (h : knowsB a b = true) (h' : knowsB b c = true) : knowsB a c = true := by
 unfold knowsB at h h'
 rw [decide_eq_true_eq] at h h'
 exact knows_of (h.1.trans h'.1) (fun i hi => Int.le_trans (h'.2 i (by omega)) (h.2 i hi))
theorem knows_set {l : List Int} {c : Nat} {z : Int} (hz : l.getD c 0 ≤ z) : knowsB (l.set c z) l = true := by
 refine knows_of (by simp) (fun i hi => ?_)
 by_cases hc : c < l.length
 ·rw [getD_setI hc]
  split
  ·rename_i e
   subst e
   exact hz
  ·exact Int.le_refl _
 ·rw [List.set_eq_of_length_le (by omega)]
  exact Int.le_refl _
theorem knows_join {a b : List Int} (h : a.length = b.length) : knowsB (joinL a b) a = true := by
 refine knows_of (by unfold joinL; simp; omega) (fun i hi => ?_)
 have hi1 : i < a.length := by unfold joinL at hi; simp at hi; omega
 have hi2 : i < b.length := by omega
 unfold joinL
 rw [List.getD_eq_getElem?_getD, List.getD_eq_getElem?_getD, List.getElem?_zipWith, List.getElem?_eq_getElem hi1, List.getElem?_eq_getElem hi2]
 show a[i] ≤ mx a[i] b[i]
 unfold mx
 split <;> omega
theorem ldW_knows {m : List (List WD)} {l : List Int} {c : Nat} (late : Int) (hold : Bool) (hm : memB m = true) (hv : viewB m l = true) (hc : c < 24) : knowsB (ldW m l c late hold) l = true := by
 have h1 := (ldJ_lt late hm hv hc).2
 have h2 : l.getD c 0 ≤ (ldJ m l c late : Int) := by
  rw [← h1]
  unfold mx
  split <;> omega
 obtain ⟨r, -, -, hx⟩ := ldX_at late hm hv hc
 have e1 := (viewB_iff.1 hv).1
 have e2 := (viewB_iff.1 hx).1
 unfold ldW
 split
 ·exact knows_trans (knows_join (by simp; omega)) (knows_set h2)
 ·exact knows_set h2
theorem stW_knows {m : List (List WD)} {l : List Int} {c : Nat} (hm : memB m = true) (hv : viewB m l = true) (hc : c < 24) : knowsB (stW m l c) l = true := by
 unfold stW
 refine knows_set ?_
 have h24 := (memB_at hm hc).1
 have q := viewB_iff.1 hv
 have := (q.2 c (by omega)).2
 omega
theorem memS_knows {d : MD} {k : KD} {s : I5} {c : Nat} (late : Int) (hm : memB d.mem = true) (hv : viewB d.mem k.vw = true) (hc : c < 24) : (memS d late k s c).1.cores = d.cores ∧ knowsB (memS d late k s c).2.vw k.vw = true := by
 unfold memS
 split
 ·exact ⟨rfl, ldW_knows late false hm hv hc⟩
 ·split
  ·exact ⟨rfl, knows_trans (stW_knows hm (ldW_ok 0 true hm hv hc) hc) (ldW_knows 0 true hm hv hc)⟩
  ·exact ⟨rfl, stW_knows hm hv hc⟩
theorem goM_core (d : MD) (who : Nat) (k : KD) (n : Nat) (p : Int) : ∃ k', (goM d who k n p).cores = d.cores.set who k' ∧ k'.vw = k.vw := by
 unfold goM
 split
 ·exact ⟨{ k with pc := p }, rfl, rfl⟩
 ·exact ⟨{ k with st := 2 }, rfl, rfl⟩
def CoreG (d x : MD) (who : Nat) (k : KD) : Prop := ∃ k' : KD, x.cores = d.cores.set who k' ∧ knowsB k'.vw k.vw = true
theorem goG {d d0 : MD} {who n : Nat} {k k0 : KD} {p : Int} (h : d.cores = d0.cores) (hk : knowsB k.vw k0.vw = true) : CoreG d0 (goM d who k n p) who k0 := by
 obtain ⟨k', h1, h2⟩ := goM_core d who k n p
 exact ⟨k', by rw [h1, h], by rw [h2]; exact hk⟩
theorem stepAt_core {d : MD} {who : Nat} {k : KD} {code : List I5} {s : I5} (late : Int) (ha : At8 d who k code s) : (stepAt d who late k code.length s).2 = 3 ∨ ((stepAt d who late k code.length s).2 = 0 ∧ CoreG d (stepAt d who late k code.length s).1 who k) := by
 have kr := knows_refl k.vw
 unfold stepAt
 by_cases h1 : s.o = 1
 ·rw [if_pos h1]; exact .inr ⟨rfl, goG rfl kr⟩
 rw [if_neg h1]
 by_cases h2 : s.o = 2
 ·rw [if_pos h2]; exact .inr ⟨rfl, goG rfl kr⟩
 rw [if_neg h2]
 by_cases h3 : s.o = 3
 ·rw [if_pos h3]; exact .inr ⟨rfl, goG rfl kr⟩
 rw [if_neg h3]
 by_cases h4 : s.o = 4
 ·rw [if_pos h4]; exact .inr ⟨rfl, goG rfl kr⟩
 rw [if_neg h4]
 by_cases h9 : s.o = 9
 ·rw [if_pos h9]
  by_cases ht : d.tr.length = 4000
  ·rw [if_pos ht]; exact .inl rfl
  ·rw [if_neg ht]; exact .inr ⟨rfl, goG rfl kr⟩
 rw [if_neg h9]
 by_cases h10 : s.o = 10
 ·rw [if_pos h10]; exact .inr ⟨rfl, goG rfl kr⟩
 rw [if_neg h10]
 by_cases h11 : s.o = 11
 ·rw [if_pos h11]; exact .inr ⟨rfl, goG rfl kr⟩
 rw [if_neg h11]
 by_cases h12 : s.o = 12
 ·rw [if_pos h12]; exact .inr ⟨rfl, _, rfl, kr⟩
 rw [if_neg h12]
 by_cases h13 : s.o = 13
 ·rw [if_pos h13]; exact .inr ⟨rfl, _, rfl, kr⟩
 rw [if_neg h13]
 by_cases hc : 0 ≤ cellM k s ∧ cellM k s ≤ 23
 ·rw [if_pos hc]
  by_cases hf : s.o ≠ 5 ∧ (d.mem.getD (cellM k s).toNat []).length = 4000
  ·rw [if_pos hf]; exact .inl rfl
  ·rw [if_neg hf]
   have q := memS_knows (s := s) (k := k) (d := d) (c := (cellM k s).toNat) late ha.mem ha.vw (by omega)
   exact .inr ⟨rfl, goG q.1 q.2⟩
 ·rw [if_neg hc]; exact .inr ⟨rfl, _, rfl, kr⟩
theorem stepM_core {d : MD} (who late : Int) (hm : machB d = true) (h0 : (stepM d who late).2 = 0) : ∃ (n : Nat) (k k' : KD), who = n ∧ d.cores[n]? = some k ∧ (stepM d who late).1.cores = d.cores.set n k' ∧ knowsB k'.vw k.vw = true := by
 by_cases hw : 0 ≤ who ∧ who < (d.cores.length : Int)
 ·obtain ⟨n, rfl⟩ : ∃ n : Nat, who = (n : Int) := ⟨who.toNat, by omega⟩
  obtain ⟨k, code, s, ha⟩ := mach_at hm (who := n) (by omega)
  by_cases hst : k.st = 0
  ·rw [stepM_at ha late hst] at h0 ⊢
   rcases stepAt_core late ha with h3 | ⟨-, k', h1, h2⟩
   ·rw [h3] at h0
    exact absurd h0 (by decide)
   ·exact ⟨n, k, k', rfl, ha.hk, h1, h2⟩
  ·rw [stepM_over ha late hst] at h0
   simp at h0
 ·rw [stepM_none late hw] at h0
  simp at h0
theorem stepM_code {d : MD} (who late : Int) (hm : machB d = true) : (stepM d who late).2 = 0 ∨ (stepM d who late).2 = 2 ∨ (stepM d who late).2 = 3 := by
 by_cases hw : 0 ≤ who ∧ who < (d.cores.length : Int)
 ·obtain ⟨n, rfl⟩ : ∃ n : Nat, who = (n : Int) := ⟨who.toNat, by omega⟩
  obtain ⟨k, code, s, ha⟩ := mach_at hm (who := n) (by omega)
  by_cases hst : k.st = 0
  ·rw [stepM_at ha late hst]
   rcases stepAt_core late ha with h3 | ⟨h3, -⟩
   ·exact .inr (.inr h3)
   ·exact .inl h3
  ·rw [stepM_over ha late hst]
   exact .inr (.inr rfl)
 ·rw [stepM_none late hw]
  exact .inr (.inl rfl)
theorem coreM_ways (d : MD) (who late : Int) : (coreM d who late = (noMd, 1) ∧ machB d = false) ∨ (machB d = true ∧ ¬ (coreM d who late).2 = 0 ∧ ¬ (coreM d who late).2 = 1 ∧ (coreM d who late).1 = d) ∨ (machB d = true ∧ (coreM d who late).2 = 0 ∧ machB (coreM d who late).1 = true ∧ ∃ (n : Nat) (k k' : KD), who = n ∧ d.cores[n]? = some k ∧ (coreM d who late).1.cores = d.cores.set n k' ∧ knowsB k'.vw k.vw = true) := by
 unfold coreM
 cases hy : machB d with
 | false => exact .inl ⟨if_neg (by decide), rfl⟩
 | true =>
  rw [if_pos rfl]
  rcases stepM_code who late hy with h | h
  ·exact .inr (.inr ⟨rfl, h, stepM_ok who late hy, stepM_core who late hy h⟩)
  ·exact .inr (.inl ⟨rfl, by omega, by omega, stepM_ref d who late (by omega)⟩)
theorem coreM_sz (d : MD) (who late : Int) (h : MaSz d ≤ 21000) : MaSz (coreM d who late).1 ≤ 41000 := by
 unfold coreM
 split
 ·rename_i hm
  have ok := stepM_ok who late hm
  obtain ⟨h1, h2⟩ := stepM_sz who late hm
  have h3 := mach_k ok
  unfold MaSz at h ⊢
  rw [h1]
  omega
 ·show MaSz noMd ≤ _
  decide
end
section
set_option linter.unusedSimpArgs false
set_option linter.unusedVariables false
set_option maxRecDepth 100000
open Go.RowKit
set_option maxHeartbeats 1000000 in
theorem implCore_no (s1 s2 s3 s4 : Option Addr) (c1 c2 c3 c4 lo hi : Nat) (d : MD) (who late : Int) (w : World) (h : MaR w lo hi s1 s2 s3 s4 d) (hB : hi ≤ w.heap.size) (hf : MaFits d) (hy : machB d = false) :
  Calls Try.prog 12 #[.agg #[.slice s1 d.codes.length c1, .slice s2 d.cores.length c2, .slice s3 d.mem.length c3, .slice s4 d.tr.length c4], .agg #[.int .i64 who, .int .i64 late]] w (CoreQ w (noMd, 1)) := by
 have H := hidM1 h
 have HY := hidM1 hy
 have HF := hidM1 hf
 clear h hy hf
 go_enter Try.func12, Try.ntmps12
 go_wp2_with fail
 obtain ⟨W, hW⟩ : ∃ W, ((w.alloc (.cells #[.slice s1 d.codes.length c1, .slice s2 d.cores.length c2, .slice s3 d.mem.length c3, .slice s4 d.tr.length c4] 34)).alloc (.cells #[.int .i64 who, .int .i64 late] 40)).alloc (.cells #[.slice none 0 0, .slice none 0 0, .slice none 0 0, .slice none 0 0] 34) = W := ⟨_, rfl⟩
 obtain ⟨bc, kW⟩ := bc3_new hW
 rw [hW]
 clear hW
 have hz := bc.z
 refine (implMachineOk_any s1 s2 s3 s4 c1 c2 c3 c4 lo hi d W (H.out.keep (Keep.of_below kW hB)) (by omega) HF.out).mono ?_
 rintro e w1 ⟨rfl, hb1⟩
 rw [HY.out]
 have BC := hidM1 (bc.below hb1 hz)
 have K1 := hidM1 (kW.trans (hb1.mono (by omega)))
 have z1 := hb1.size
 clear bc kW hb1
 obtain ⟨m0, m1, m2, m3, x0, x1, a0, a1, a2, a3, fa, zz⟩ := BC.out
 have y2 : w.heap.size + 1 + 1 < w1.heap.size := by omega
 go_wp2
 obtain ⟨Z, hZ, g0, g1, g2, g3, fz, sz, bz⟩ := BC.out.put (a := .slice none 0 0) (b := .slice none 0 0) (c := .slice none 0 0) (d := .slice none 0 0)
 refine bodyPost_ret (v := .tuple #[.agg #[.slice none 0 0, .slice none 0 0, .slice none 0 0, .slice none 0 0], .int .i64 1]) ?_ rfl ?_
 ·rw [hZ]
  simp [results, Try.results12, go_sem, g0, g1, g2, g3]
 ·rw [hZ]
  exact ⟨noMP, rfl, noMa _ _ _, bz _ _ K1.out (by omega)⟩
set_option maxHeartbeats 1000000 in
theorem implCore_yes (s1 s2 s3 s4 : Option Addr) (c1 c2 c3 c4 lo hi : Nat) (d : MD) (who late : Int) (w : World) (h : MaR w lo hi s1 s2 s3 s4 d) (hB : hi ≤ w.heap.size) (hf : MaSz d ≤ 1048576) (hy : machB d = true) (hlate : late ≤ 9223372036854775807) :
  Calls Try.prog 12 #[.agg #[.slice s1 d.codes.length c1, .slice s2 d.cores.length c2, .slice s3 d.mem.length c3, .slice s4 d.tr.length c4], .agg #[.int .i64 who, .int .i64 late]] w (CoreQ w (stepM d who late)) := by
 have H := hidM1 h
 have HY := hidM1 hy
 have HF := hidM1 hf
 obtain ⟨X, hX⟩ : ∃ X, stepM d who late = X := ⟨_, rfl⟩
 rw [hX]
 have HX := hidM1 hX
 clear h hy hf hX
 go_enter Try.func12, Try.ntmps12
 go_wp2_with fail
 obtain ⟨W, hW⟩ : ∃ W, ((w.alloc (.cells #[.slice s1 d.codes.length c1, .slice s2 d.cores.length c2, .slice s3 d.mem.length c3, .slice s4 d.tr.length c4] 34)).alloc (.cells #[.int .i64 who, .int .i64 late] 40)).alloc (.cells #[.slice none 0 0, .slice none 0 0, .slice none 0 0, .slice none 0 0] 34) = W := ⟨_, rfl⟩
 obtain ⟨bc, kW⟩ := bc3_new hW
 rw [hW]
 clear hW
 have hz := bc.z
 refine (implMachineOk_any s1 s2 s3 s4 c1 c2 c3 c4 lo hi d W (H.out.keep (Keep.of_below kW hB)) (by omega) (MaFits.of HF.out)).mono ?_
 rintro e w1 ⟨rfl, hb1⟩
 rw [HY.out]
 have bc1 := bc.below hb1 hz
 have BC := hidM1 bc1
 have K1 := hidM1 (kW.trans (hb1.mono (by omega)))
 have z1 := hb1.size
 clear bc kW hb1
 obtain ⟨m0, m1, m2, m3, x0, x1, a0, a1, a2, a3, fa, zz⟩ := bc1
 go_wp2_with fail
 refine (sameMachine_any s1 s2 s3 s4 c1 c2 c3 c4 lo hi d w1 (H.out.keep (Keep.of_below K1.out hB)) (by omega) HF.out).mono ?_
 rintro e w2 ⟨vc, vk, vm, vt, LC, LK, S, rfl, q2, hb2, hz2⟩
 obtain ⟨p, rfl, rfl, rfl, rfl, -⟩ := q2.mo
 have bc2 := BC.out.below hb2 zz
 have BC2 := hidM1 bc2
 have Q2 := hidM1 q2
 have HB2 := hidM1 hb2
 clear q2 hb2 m0 m1 m2 m3 x0 x1 a0 a1 a2 a3 fa
 obtain ⟨m0, m1, m2, m3, x0, x1, a0, a1, a2, a3, fa, zz2⟩ := bc2
 have y1 : w.heap.size + 1 < w2.heap.size := by omega
 go_wp2_with fail
 obtain ⟨Y, hY⟩ : ∃ Y, w2.alloc (.cells #[.slice p.s1 d.codes.length p.c1, .slice p.s2 d.cores.length p.c2, .slice p.s3 d.mem.length p.c3, .slice p.s4 d.tr.length p.c4] 34) = Y := ⟨_, rfl⟩
 have kY : Below w2.heap.size w2 Y := by subst hY; exact (Below.refl _ _).alloc (Nat.le_refl _) _
 have sY : w2.heap.size < Y.heap.size := by subst hY; simp
 have bx : BxT Y w2.heap.size := by subst hY; exact BxT.new _ _
 have g0 : Y.cell? ⟨w2.heap.size, 0, none⟩ = some (.slice p.s1 d.codes.length p.c1) := by subst hY; simp [go_sem]
 have g1 : Y.cell? ⟨w2.heap.size, 1, none⟩ = some (.slice p.s2 d.cores.length p.c2) := by subst hY; simp [go_sem]
 have g2 : Y.cell? ⟨w2.heap.size, 2, none⟩ = some (.slice p.s3 d.mem.length p.c3) := by subst hY; simp [go_sem]
 have g3 : Y.cell? ⟨w2.heap.size, 3, none⟩ = some (.slice p.s4 d.tr.length p.c4) := by subst hY; simp [go_sem]
 have gf : ∀ j, Y.frozen? ⟨w2.heap.size, j, none⟩ = false := by subst hY; intro j; simp [go_sem]
 rw [hY]
 clear hY
 have SI := stepIn_any who late ((Q2.out.toH (by omega)).keep (w' := Y) (fun b _ h1 => kY.block b h1) kY.size) g0 g1 g2 g3 gf bx (by omega) (by omega) HY.out hlate
 rw [HX.out] at SI
 have BCY := BC2.out.below kY zz2
 have HSI := hidM1 SI
 have KY := hidM1 kY
 have HBCY := hidM1 BCY
 have G0 := hidM1 g0
 have G1 := hidM1 g1
 have G2 := hidM1 g2
 clear SI BCY kY bx g0 g1 g2 g3 gf m0 m1 m2 m3 x0 x1 a0 a1 a2 a3 fa
 refine Calls.mono HSI.out ?_
 rintro e w3 ⟨rfl, vt3, LK3, S3, q3, c3, cj, fj, bx3, b3, -⟩
 obtain ⟨p3, e1, e2, e3, e4, mo3, -⟩ := q3.mo
 subst e4
 have z3 := b3.size
 have bc3 := HBCY.out.below b3 (by omega)
 have c0 := (cj 0 (by omega)).trans G0.out
 have c1' := (cj 1 (by omega)).trans G1.out
 have c2' := (cj 2 (by omega)).trans G2.out
 rw [e1] at c0
 rw [e2] at c1'
 rw [e3] at c2'
 have BC3 := hidM1 bc3
 have MO3 := hidM1 mo3
 have B3 : Hid (Below w.heap.size w w3) := (K1.out.trans (HB2.out.mono (by omega))).trans ((KY.out.mono (by omega)).trans (b3.mono (by omega)))
 clear q3 cj fj bx3 b3 mo3
 obtain ⟨m0, m1, m2, m3, x0, x1, a0, a1, a2, a3, fa, zz3⟩ := bc3
 have y5 : w2.heap.size < w3.heap.size := by omega
 have ne : ¬ w2.heap.size = w.heap.size + 1 + 1 := by omega
 have ne' : ¬ w.heap.size + 1 + 1 = w2.heap.size := by omega
 clear e1 e2 e3
 go_wp2
 obtain ⟨Z, hZ, g0, g1, g2, g3, fz, sz, bz⟩ := BC3.out.put (a := .slice p3.s1 X.1.codes.length p3.c1) (b := .slice p3.s2 X.1.cores.length p3.c2) (c := .slice p3.s3 X.1.mem.length p3.c3) (d := .slice p3.s4 X.1.tr.length p3.c4)
 refine bodyPost_ret (v := .tuple #[.agg #[.slice p3.s1 X.1.codes.length p3.c1, .slice p3.s2 X.1.cores.length p3.c2, .slice p3.s3 X.1.mem.length p3.c3, .slice p3.s4 X.1.tr.length p3.c4], .int .i64 X.2]) ?_ rfl ?_
 ·rw [hZ]
  simp [results, Try.results12, go_sem, g0, g1, g2, g3]
 ·rw [hZ]
  exact ⟨p3, rfl, (MO3.out.keep (fun k h3 h4 => fz k (by omega))).mono (by omega) (by omega), bz _ _ B3.out (by omega)⟩
theorem implCore_any (s1 s2 s3 s4 : Option Addr) (c1 c2 c3 c4 lo hi : Nat) (d : MD) (who late : Int) (w : World) (h : MaR w lo hi s1 s2 s3 s4 d) (hB : hi ≤ w.heap.size) (hf : MaSz d ≤ 1048576) (hlate : late ≤ 9223372036854775807) :
  Calls Try.prog 12 #[.agg #[.slice s1 d.codes.length c1, .slice s2 d.cores.length c2, .slice s3 d.mem.length c3, .slice s4 d.tr.length c4], .agg #[.int .i64 who, .int .i64 late]] w (CoreQ w (coreM d who late)) := by
 unfold coreM
 cases hy : machB d with
 | true => exact implCore_yes s1 s2 s3 s4 c1 c2 c3 c4 lo hi d who late w h hB hf hy hlate
 | false => exact implCore_no s1 s2 s3 s4 c1 c2 c3 c4 lo hi d who late w h hB (MaFits.of hf) hy
end
section
set_option linter.unusedSimpArgs false
set_option linter.unusedVariables false
set_option maxRecDepth 100000
open Go.RowKit
def CutC (W : World) (X : MD × Int) (s6 s7 : Value) (wc : World) : Prop := ∃ (bo : Nat) (p : MP) (LC : List CV) (LK : List KV) (S : List RS), s6 = .pointer (some ⟨bo, 0, none⟩) ∧ s7 = .int .i64 X.2 ∧ W.heap.size ≤ bo ∧ X4 wc bo (.slice p.s1 X.1.codes.length p.c1) (.slice p.s2 X.1.cores.length p.c2) (.slice p.s3 X.1.mem.length p.c3) (.slice p.s4 X.1.tr.length p.c4) ∧ MQ0 wc W.heap.size (.slice p.s1 X.1.codes.length p.c1) (.slice p.s2 X.1.cores.length p.c2) (.slice p.s3 X.1.mem.length p.c3) (.slice p.s4 X.1.tr.length p.c4) LC LK S X.1 ∧ Below W.heap.size W wc
theorem cutC_new {W wM : World} {X : MD × Int} {p : MP} {LC : List CV} {LK : List KV} {S : List RS} (q : MQ0 wM W.heap.size (.slice p.s1 X.1.codes.length p.c1) (.slice p.s2 X.1.cores.length p.c2) (.slice p.s3 X.1.mem.length p.c3) (.slice p.s4 X.1.tr.length p.c4) LC LK S X.1) (k : Below W.heap.size W wM) : CutC W X (.pointer (some ⟨wM.heap.size, 0, none⟩)) (.int .i64 X.2) (wM.alloc (.cells #[.slice p.s1 X.1.codes.length p.c1, .slice p.s2 X.1.cores.length p.c2, .slice p.s3 X.1.mem.length p.c3, .slice p.s4 X.1.tr.length p.c4] 34)) := by
 obtain ⟨Y, hY, x, kY, -⟩ := X4.new wM (.slice p.s1 X.1.codes.length p.c1) (.slice p.s2 X.1.cores.length p.c2) (.slice p.s3 X.1.mem.length p.c3) (.slice p.s4 X.1.tr.length p.c4) 34
 rw [hY]
 exact ⟨wM.heap.size, p, LC, LK, S, rfl, rfl, k.size, x, q.keep (fun b _ h1 => kY.block b h1) kY.size, k.trans (kY.mono k.size)⟩
theorem cutC_set {W wM : World} {X : MD × Int} {p : MP} {LC : List CV} {LK : List KV} {S : List RS} {bo : Nat} (b : X4 wM bo (.slice none 0 0) (.slice none 0 0) (.slice none 0 0) (.slice none 0 0) ∧ BxT wM bo) (hbo : W.heap.size ≤ bo) (q : MQ0 wM W.heap.size (.slice p.s1 X.1.codes.length p.c1) (.slice p.s2 X.1.cores.length p.c2) (.slice p.s3 X.1.mem.length p.c3) (.slice p.s4 X.1.tr.length p.c4) LC LK S X.1) (k : Below W.heap.size W wM) : CutC W X (.pointer (some ⟨bo, 0, none⟩)) (.int .i64 X.2) ((((wM.setCell ⟨bo, 0, none⟩ (.slice p.s1 X.1.codes.length p.c1)).setCell ⟨bo, 1, none⟩ (.slice p.s2 X.1.cores.length p.c2)).setCell ⟨bo, 2, none⟩ (.slice p.s3 X.1.mem.length p.c3)).setCell ⟨bo, 3, none⟩ (.slice p.s4 X.1.tr.length p.c4)) := by
 have B := b.2
 exact ⟨bo, p, LC, LK, S, rfl, rfl, hbo, b.1.set0.set1.set2.set3, MQ0.offB (MQ0.offB (MQ0.offB (MQ0.offB q B) B.set) B.set.set) B.set.set.set, (((k.setCell (p := ⟨bo, _, none⟩) hbo _).setCell (p := ⟨bo, _, none⟩) hbo _).setCell (p := ⟨bo, _, none⟩) hbo _).setCell (p := ⟨bo, _, none⟩) hbo _⟩
theorem boxLt {X : World} {q : Nat} (h : BoxAt X (some q)) : q < X.heap.size := h.2.lt
set_option maxHeartbeats 4000000 in
theorem specCore_run (s1 s2 s3 s4 : Option Addr) (c1 c2 c3 c4 lo hi : Nat) (d : MD) (who : Nat) (late : Int) (w : World) (h : MaR w lo hi s1 s2 s3 s4 d) (hB : hi ≤ w.heap.size) (hf : MaSz d ≤ 1048576) (hy : machB d = true) (k : KD) (code : List I5) (s : I5) (ha : At8 d who k code s) (hst : k.st = 0) (hlate : late ≤ 9223372036854775807) :
  Calls Try.prog 13 #[.agg #[.slice s1 d.codes.length c1, .slice s2 d.cores.length c2, .slice s3 d.mem.length c3, .slice s4 d.tr.length c4], .agg #[.int .i64 who, .int .i64 late]] w (CoreQ w (stepM d who late)) := by
 have HY := hidM1 hy
 have hwl : who < d.cores.length := (List.getElem?_eq_some_iff.1 ha.hk).1
 have wl : IntKind.i64.wrap ((d.cores.length : Int) - 1) = (d.cores.length : Int) - 1 := Go.IntWalk.i64_in _ (by unfold MaSz at hf; omega)
 have b0 : (0 : Int) ≤ (who : Int) := by omega
 have b1 : (who : Int) < (d.cores.length : Int) := by omega
 have HA := hidM1 ha
 have HST := hidM1 hst
 have REF := hidM1 (stepM_ref d who late)
 have LS := hidM1 (fun (Hq : Nat → Prop) (B : Nat) (vc vk vm vt : Value) (LC : List CV) (LK : List KV) (S : List RS) (V : World) (hq : MQ V B Hq vc vk vm vt LC LK S d) (hb : B ≤ V.heap.size) => l8Step_any B vc vk vm vt LC LK S d who k code s late V hq ha hb hlate hst)
 obtain ⟨X, hX⟩ : ∃ X, stepM d who late = X := ⟨_, rfl⟩
 rw [hX] at LS REF ⊢
 clear hX hst hlate
 have H := hidM1 h
 have HF := hidM1 hf
 go_enter Try.func13, Try.ntmps13
 go_wp2_with fail
 obtain ⟨W, hW⟩ : ∃ W, ((w.alloc (.cells #[.slice s1 d.codes.length c1, .slice s2 d.cores.length c2, .slice s3 d.mem.length c3, .slice s4 d.tr.length c4] 34)).alloc (.cells #[.int .i64 who, .int .i64 late] 40)).alloc (.cells #[.slice none 0 0, .slice none 0 0, .slice none 0 0, .slice none 0 0] 34) = W := ⟨_, rfl⟩
 obtain ⟨bc, kW⟩ := bc3_new hW
 rw [hW]
 clear hW
 have hz := bc.z
 refine (specMachineOk_any s1 s2 s3 s4 c1 c2 c3 c4 lo hi d W (H.out.keep (Keep.of_below kW hB)) (by omega) (MaFits.of HF.out)).mono ?_
 rintro e w1 ⟨rfl, hb1⟩
 rw [HY.out]
 have bc1 := bc.below hb1 hz
 have BC := hidM1 bc1
 have K1 := hidM1 (kW.trans (hb1.mono (by omega)))
 have z1 := hb1.size
 clear bc kW hb1
 obtain ⟨m0, m1, m2, m3, x0, x1, a0, a1, a2, a3, fa, zz⟩ := bc1
 obtain ⟨g, o, t1, e1, t2, e2, es, q1, q2, f0, f1, f2, f3, q5, q6⟩ := (H.out.keep (Keep.of_below K1.out hB)).2.1.at ha.hk
 have f3' : w1.cell? ⟨g, o + who * 4 + 3, none⟩ = some (.int .i64 0) := by rw [← HST.out]; exact f3
 subst es
 have zg : g < w1.heap.size := by omega
 clear q5 q6 f0 f1 f2 f3 ha
 go_wp2_with fail
 refine (l1In_is _ _ _ true _ (by unfold Plain.inB; simp; omega)).mono ?_
 rintro e w9 ⟨rfl, hw9⟩
 rw [hw9]
 clear hw9 w9
 go_upto_region 7 with fail
 have kD : Below w1.heap.size w1 w1.drew := Below.drew (Below.refl _ _)
 have hdr : ∀ X : World, X.drew.heap.size = X.heap.size := fun _ => rfl
 have RB : Hid (∀ X, Below w1.heap.size w1 X → Bc3 X w.heap.size (.slice s1 d.codes.length c1) (.slice (some ⟨g, o, none⟩) d.cores.length c2) (.slice s3 d.mem.length c3) (.slice s4 d.tr.length c4) who late) := fun X hX => BC.out.below hX zz
 have RR : Hid (∀ X, Below w1.heap.size w1 X → MaR X lo hi s1 (some ⟨g, o, none⟩) s3 s4 d) := fun X hX => (H.out.keep (Keep.of_below K1.out hB)).keep (Keep.of_below hX (by omega))
 have CC : Hid (∀ (X0 : World) (pB : Option Nat), Below w1.heap.size w1 X0 → BoxAt X0 pB → Calls Try.prog 34 #[.agg #[.slice s1 d.codes.length c1, .slice (some ⟨g, o, none⟩) d.cores.length c2, .slice s3 d.mem.length c3, .slice s4 d.tr.length c4]] X0 fun e w' => ∃ (B : Nat) (p : MP) (LC : List CV) (LK : List KV) (S : List RS), e = .returned (.agg #[.slice p.s1 d.codes.length p.c1, .slice p.s2 d.cores.length p.c2, .slice p.s3 d.mem.length p.c3, .slice p.s4 d.tr.length p.c4]) ∧ w1.heap.size ≤ B ∧ B ≤ w'.heap.size ∧ Below w1.heap.size w1 w' ∧ Hid (MQ0 w' B (.slice p.s1 d.codes.length p.c1) (.slice p.s2 d.cores.length p.c2) (.slice p.s3 d.mem.length p.c3) (.slice p.s4 d.tr.length p.c4) LC LK S d) ∧ Hid (BoxAt w' pB) ∧ Hid (∀ q, pB = some q → q < B) ∧ w'.cell? ⟨w.heap.size, 0, none⟩ = some (.slice s1 d.codes.length c1) ∧ w'.cell? ⟨w.heap.size, 1, none⟩ = some (.slice (some ⟨g, o, none⟩) d.cores.length c2) ∧ w'.cell? ⟨w.heap.size, 2, none⟩ = some (.slice s3 d.mem.length c3) ∧ w'.cell? ⟨w.heap.size, 3, none⟩ = some (.slice s4 d.tr.length c4) ∧ w'.cell? ⟨w.heap.size + 1, 0, none⟩ = some (.int .i64 who) ∧ w'.cell? ⟨w.heap.size + 1, 1, none⟩ = some (.int .i64 late)) := fun X0 pB hX hb => (l8Copy_any s1 _ s3 s4 c1 c2 c3 c4 lo hi d X0 (RR.out X0 hX) (by have := hX.size; omega) HF.out).mono fun e w' ⟨vc, vk, vm, vt, LC, LK, S, he, q, hb', hz'⟩ => by
  obtain ⟨p, rfl, rfl, rfl, rfl, -⟩ := q.mo
  have kk : Below w1.heap.size w1 w' := hX.trans (hb'.mono hX.size)
  have x := RB.out _ kk
  exact ⟨X0.heap.size, p, LC, LK, S, he, hX.size, Nat.le_of_lt hz', kk, q, hb.keep hb', fun q hq => by subst hq; exact boxLt hb, x.m0, x.m1, x.m2, x.m3, x.x0, x.x1⟩
 have CS : Hid (∀ (X2 Y : World) (B : Nat) (p : MP) (LC : List CV) (LK : List KV) (S : List RS) (pB : Option Nat), w1.heap.size ≤ B → B ≤ X2.heap.size → Below w1.heap.size w1 Y → MQ0 X2 B (.slice p.s1 d.codes.length p.c1) (.slice p.s2 d.cores.length p.c2) (.slice p.s3 d.mem.length p.c3) (.slice p.s4 d.tr.length p.c4) LC LK S d → Below X2.heap.size X2 Y → BoxAt Y pB → (∀ q, pB = some q → q < B ∨ X2.heap.size ≤ q) → Calls Try.prog 35 #[.agg #[.slice p.s1 d.codes.length p.c1, .slice p.s2 d.cores.length p.c2, .slice p.s3 d.mem.length p.c3, .slice p.s4 d.tr.length p.c4], .agg #[.int .i64 who, .int .i64 late]] Y fun e w' => ∃ (p' : MP) (LC' : List CV) (LK' : List KV) (S' : List RS), e = .returned (.tuple #[.agg #[.slice p'.s1 X.1.codes.length p'.c1, .slice p'.s2 X.1.cores.length p'.c2, .slice p'.s3 X.1.mem.length p'.c3, .slice p'.s4 X.1.tr.length p'.c4], .int .i64 X.2]) ∧ Below w1.heap.size w1 w' ∧ Hid (MQ0 w' w1.heap.size (.slice p'.s1 X.1.codes.length p'.c1) (.slice p'.s2 X.1.cores.length p'.c2) (.slice p'.s3 X.1.mem.length p'.c3) (.slice p'.s4 X.1.tr.length p'.c4) LC' LK' S' X.1) ∧ Hid (BoxAt w' pB) ∧ w'.cell? ⟨w.heap.size, 0, none⟩ = some (.slice s1 d.codes.length c1) ∧ w'.cell? ⟨w.heap.size, 1, none⟩ = some (.slice (some ⟨g, o, none⟩) d.cores.length c2) ∧ w'.cell? ⟨w.heap.size, 2, none⟩ = some (.slice s3 d.mem.length c3) ∧ w'.cell? ⟨w.heap.size, 3, none⟩ = some (.slice s4 d.tr.length c4) ∧ w'.cell? ⟨w.heap.size + 1, 0, none⟩ = some (.int .i64 who) ∧ w'.cell? ⟨w.heap.size + 1, 1, none⟩ = some (.int .i64 late)) := fun X2 Y B p LC LK S pB h1 h2 hY hq hXY hb hp => (LS.out _ B _ _ _ _ LC LK S Y ((hq.toH h2).hop (mach_mem HY.out) (fun k hk _ => hXY.block k hk) hXY.size) (by have := hXY.size; omega)).mono fun e w' ⟨⟨vc, vk, vm, vt, LC', LK', S', he, q', b'⟩, fr⟩ => by
  obtain ⟨p', rfl, rfl, rfl, rfl, -⟩ := q'.mo
  have kk : Below w1.heap.size w1 w' := hY.trans (b'.mono h1)
  have x := RB.out _ kk
  have bx : BoxAt w' pB := by
   cases pB with
   | none => trivial
   | some q =>
    have e : w'.heap[q]? = Y.heap[q]? := by
     rcases hp q rfl with h9 | h9
     ·exact b'.block q h9
     ·exact fr q (fun e => e.elim (fun e => by have := e.1; omega) (fun e => by have := boxLt hb; omega))
    exact ⟨hb.1.blk e b'.size, hb.2.same e⟩
  exact ⟨p', LC', LK', S', he, kk, q'.toMQ0.low h1, bx, x.m0, x.m1, x.m2, x.m3, x.x0, x.x1⟩
 have LS' := LS
 clear LS m0 m1 m2 m3 x0 x1 a0 a1 a2 a3 fa f3'
 obtain ⟨m0, m1, m2, m3, x0, x1, a0, a1, a2, a3, fa, -⟩ := BC.out
 go_cut [6, 7] (fun s6 s7 wx => CutC w1 X s6 s7 wx)
 case first =>
  go_region_held3 (fun w' => w'.cell? ⟨w.heap.size, 0, none⟩ = some (.slice s1 d.codes.length c1) ∧ w'.cell? ⟨w.heap.size, 1, none⟩ = some (.slice (some ⟨g, o, none⟩) d.cores.length c2) ∧ w'.cell? ⟨w.heap.size, 2, none⟩ = some (.slice s3 d.mem.length c3) ∧ w'.cell? ⟨w.heap.size, 3, none⟩ = some (.slice s4 d.tr.length c4) ∧ w'.cell? ⟨w.heap.size + 1, 0, none⟩ = some (.int .i64 who) ∧ w'.cell? ⟨w.heap.size + 1, 1, none⟩ = some (.int .i64 late)) (first | exact ⟨(RB.out _ (by repeat' (first | with_reducible exact kD | with_reducible exact kC | with_reducible exact kM | with_reducible exact Below.refl _ _ | with_reducible refine Below.drew ?_ | with_reducible refine Below.alloc ?_ (by first | omega | exact Nat.le_refl _ | (simp [hdr]; done) | (simp [hdr]; omega)) _ | with_reducible refine Below.setCell ?_ (by first | omega | exact Nat.le_refl _ | (simp [hdr]; done) | (simp [hdr]; omega)) _))).m0, (RB.out _ (by repeat' (first | with_reducible exact kD | with_reducible exact kC | with_reducible exact kM | with_reducible exact Below.refl _ _ | with_reducible refine Below.drew ?_ | with_reducible refine Below.alloc ?_ (by first | omega | exact Nat.le_refl _ | (simp [hdr]; done) | (simp [hdr]; omega)) _ | with_reducible refine Below.setCell ?_ (by first | omega | exact Nat.le_refl _ | (simp [hdr]; done) | (simp [hdr]; omega)) _))).m1, (RB.out _ (by repeat' (first | with_reducible exact kD | with_reducible exact kC | with_reducible exact kM | with_reducible exact Below.refl _ _ | with_reducible refine Below.drew ?_ | with_reducible refine Below.alloc ?_ (by first | omega | exact Nat.le_refl _ | (simp [hdr]; done) | (simp [hdr]; omega)) _ | with_reducible refine Below.setCell ?_ (by first | omega | exact Nat.le_refl _ | (simp [hdr]; done) | (simp [hdr]; omega)) _))).m2, (RB.out _ (by repeat' (first | with_reducible exact kD | with_reducible exact kC | with_reducible exact kM | with_reducible exact Below.refl _ _ | with_reducible refine Below.drew ?_ | with_reducible refine Below.alloc ?_ (by first | omega | exact Nat.le_refl _ | (simp [hdr]; done) | (simp [hdr]; omega)) _ | with_reducible refine Below.setCell ?_ (by first | omega | exact Nat.le_refl _ | (simp [hdr]; done) | (simp [hdr]; omega)) _))).m3, (RB.out _ (by repeat' (first | with_reducible exact kD | with_reducible exact kC | with_reducible exact kM | with_reducible exact Below.refl _ _ | with_reducible refine Below.drew ?_ | with_reducible refine Below.alloc ?_ (by first | omega | exact Nat.le_refl _ | (simp [hdr]; done) | (simp [hdr]; omega)) _ | with_reducible refine Below.setCell ?_ (by first | omega | exact Nat.le_refl _ | (simp [hdr]; done) | (simp [hdr]; omega)) _))).x0, (RB.out _ (by repeat' (first | with_reducible exact kD | with_reducible exact kC | with_reducible exact kM | with_reducible exact Below.refl _ _ | with_reducible refine Below.drew ?_ | with_reducible refine Below.alloc ?_ (by first | omega | exact Nat.le_refl _ | (simp [hdr]; done) | (simp [hdr]; omega)) _ | with_reducible refine Below.setCell ?_ (by first | omega | exact Nat.le_refl _ | (simp [hdr]; done) | (simp [hdr]; omega)) _))).x1⟩ | go_keep) (first | (go_at_call 34; with_reducible refine (CC.out _ _ (by repeat' (first | with_reducible exact kD | with_reducible exact kC | with_reducible exact kM | with_reducible exact Below.refl _ _ | with_reducible refine Below.drew ?_ | with_reducible refine Below.alloc ?_ (by first | omega | exact Nat.le_refl _ | (simp [hdr]; done) | (simp [hdr]; omega)) _ | with_reducible refine Below.setCell ?_ (by first | omega | exact Nat.le_refl _ | (simp [hdr]; done) | (simp [hdr]; omega)) _)) (by first | with_reducible exact boxD (boxN0 _) | with_reducible exact boxN0 _ | with_reducible exact boxNo _)).mono ?_; rintro e wC ⟨BB, pC, LC, LK, S, rfl, hB1, hB2, kC, QC, HBC, HPC, yC0, yC1, yC2, yC3, yC4, yC5⟩; have zC := kC.size) | (go_at_call 35; with_reducible refine (CS.out wC _ BB pC LC LK S _ hB1 hB2 (by repeat' (first | with_reducible exact kD | with_reducible exact kC | with_reducible exact kM | with_reducible exact Below.refl _ _ | with_reducible refine Below.drew ?_ | with_reducible refine Below.alloc ?_ (by first | omega | exact Nat.le_refl _ | (simp [hdr]; done) | (simp [hdr]; omega)) _ | with_reducible refine Below.setCell ?_ (by first | omega | exact Nat.le_refl _ | (simp [hdr]; done) | (simp [hdr]; omega)) _)) QC.out (show Below wC.heap.size wC _ from (by repeat' (first | with_reducible exact Below.refl _ _ | with_reducible refine Below.drew ?_ | with_reducible refine Below.alloc ?_ (by first | omega | exact Nat.le_refl _ | (simp [hdr]; done) | (simp [hdr]; omega)) _))) (by first | with_reducible exact boxN0 _ | exact HBC.out.keep (show Below wC.heap.size wC _ from (by repeat' (first | with_reducible exact Below.refl _ _ | with_reducible refine Below.drew ?_ | with_reducible refine Below.alloc ?_ (by first | omega | exact Nat.le_refl _ | (simp [hdr]; done) | (simp [hdr]; omega)) _)))) (by first | exact (fun q hq => .inl (HPC.out q hq)) | (intro q hq; injection hq with hq; exact .inr (by omega)))).mono ?_; rintro e wM ⟨pM, LM, KM, SM, rfl, kM, QM, HBM, yM0, yM1, yM2, yM3, yM4, yM5⟩; have zM := kM.size; (try obtain ⟨⟨⟨b9, b0', b1', b2', b3'⟩, bf'⟩, -⟩ := boxSome HBM.out)) | fail)
  all_goals
   go_wp2_with fail
   go_meet
   first
    | with_reducible exact cutC_new QM.out kM
    | with_reducible exact cutC_set (boxSome HBM.out) (by omega) QM.out kM
 case rest =>
  obtain ⟨bo, p, LC, LK, S, rfl, rfl, hbo, hx, hq, hk⟩ := hcut
  obtain ⟨p3, e1', e2', e3', e4', mo3, -⟩ := hq.mo
  rw [e1', e2', e3', e4'] at hx
  clear e1' e2' e3' e4' hq CC CS LS' m0 m1 m2 m3 x0 x1 a0 a1 a2 a3 fa kD RB
  have bcc := BC.out.below hk zz
  have BCC := hidM1 bcc
  have MO3 := hidM1 mo3
  have HK := hidM1 hk
  have BW : Hid (Below w.heap.size w wc) := K1.out.trans (hk.mono (by omega))
  have RC := hidM1 (RR.out _ hk)
  obtain ⟨z4, o0, o1, o2, o3⟩ := hx.x
  have zc := hk.size
  clear hx mo3 hk RR
  obtain ⟨m0, m1, m2, m3, x0, x1, a0, a1, a2, a3, fa, zzc⟩ := bcc
  have nb : ¬ bo = w.heap.size + 1 + 1 := by omega
  have nb' : ¬ w.heap.size + 1 + 1 = bo := by omega
  obtain ⟨d', c'⟩ := X
  simp only at REF MO3 o0 o1 o2 o3 ⊢
  by_cases h0 : c' = 0
  ·subst h0
   clear REF
   go_wp2
   obtain ⟨Z, hZ, g0, g1, g2, g3, fz, sz, bz⟩ := BCC.out.put (a := .slice p3.s1 d'.codes.length p3.c1) (b := .slice p3.s2 d'.cores.length p3.c2) (c := .slice p3.s3 d'.mem.length p3.c3) (d := .slice p3.s4 d'.tr.length p3.c4)
   refine bodyPost_ret (v := .tuple #[.agg #[.slice p3.s1 d'.codes.length p3.c1, .slice p3.s2 d'.cores.length p3.c2, .slice p3.s3 d'.mem.length p3.c3, .slice p3.s4 d'.tr.length p3.c4], .int .i64 0]) ?_ rfl ?_
   ·rw [hZ]
    simp [results, Try.results13, go_sem, g0, g1, g2, g3]
   ·rw [hZ]
    exact ⟨p3, rfl, (MO3.out.keep (fun k h3 h4 => fz k (by omega))).mono (by omega) (by omega), bz _ _ BW.out (by omega)⟩
  ·have ed := REF.out h0
   subst ed
   clear REF MO3 o0 o1 o2 o3
   have h0' : (c' != 0) = true := by simp [h0]
   go_wp2_with fail
   refine (l8Copy_any _ _ _ _ c1 c2 c3 c4 lo hi d' wc RC.out (by omega) HF.out).mono ?_
   rintro e w2 ⟨vc, vk, vm, vt, LC2, LK2, S2, rfl, q2', hb2, hz2⟩
   obtain ⟨p, rfl, rfl, rfl, rfl, mo2, -⟩ := q2'.mo
   have bc2 := BCC.out.below hb2 zzc
   have BC2 := hidM1 bc2
   have MO2 := hidM1 mo2
   have B2 : Hid (Below w.heap.size w w2) := BW.out.trans (hb2.mono (by omega))
   clear q2' hb2 mo2 m0 m1 m2 m3 x0 x1 a0 a1 a2 a3 fa
   obtain ⟨m0, m1, m2, m3, x0, x1, a0, a1, a2, a3, fa, zz2⟩ := bc2
   go_wp2
   obtain ⟨Z, hZ, g0, g1, g2, g3, fz, sz, bz⟩ := BC2.out.put (a := .slice p.s1 d'.codes.length p.c1) (b := .slice p.s2 d'.cores.length p.c2) (c := .slice p.s3 d'.mem.length p.c3) (d := .slice p.s4 d'.tr.length p.c4)
   refine bodyPost_ret (v := .tuple #[.agg #[.slice p.s1 d'.codes.length p.c1, .slice p.s2 d'.cores.length p.c2, .slice p.s3 d'.mem.length p.c3, .slice p.s4 d'.tr.length p.c4], .int .i64 c']) ?_ rfl ?_
   ·rw [hZ]
    simp [results, Try.results13, go_sem, g0, g1, g2, g3]
   ·rw [hZ]
    exact ⟨p, rfl, (MO2.out.keep (fun k h3 h4 => fz k (by omega))).mono (by omega) (by omega), bz _ _ B2.out (by omega)⟩
theorem specCore_any (s1 s2 s3 s4 : Option Addr) (c1 c2 c3 c4 lo hi : Nat) (d : MD) (who late : Int) (w : World) (h : MaR w lo hi s1 s2 s3 s4 d) (hB : hi ≤ w.heap.size) (hf : MaSz d ≤ 1048576) (hlate : late ≤ 9223372036854775807) :
  Calls Try.prog 13 #[.agg #[.slice s1 d.codes.length c1, .slice s2 d.cores.length c2, .slice s3 d.mem.length c3, .slice s4 d.tr.length c4], .agg #[.int .i64 who, .int .i64 late]] w (CoreQ w (coreM d who late)) := by
 unfold coreM
 cases hy : machB d with
 | true =>
  rw [if_pos rfl]
  by_cases hw : 0 ≤ who ∧ who < (d.cores.length : Int)
  ·obtain ⟨n, rfl⟩ : ∃ n : Nat, who = (n : Int) := ⟨who.toNat, by omega⟩
   obtain ⟨k, code, s, ha⟩ := mach_at hy (who := n) (by omega)
   by_cases hst : k.st = 0
   ·exact specCore_run s1 s2 s3 s4 c1 c2 c3 c4 lo hi d n late w h hB hf hy k code s ha hst hlate
   ·rw [stepM_over ha late hst]
    exact specCore_over s1 s2 s3 s4 c1 c2 c3 c4 lo hi d n late w h hB hf hy k code s ha hst
  ·rw [stepM_none late hw]
   exact specCore_none s1 s2 s3 s4 c1 c2 c3 c4 lo hi d who late w h hB hf hy hw
 | false =>
  rw [if_neg (by decide)]
  exact specCore_no s1 s2 s3 s4 c1 c2 c3 c4 lo hi d who late w h hB hf hy
end
section
set_option linter.unusedSimpArgs false
set_option linter.unusedVariables false
set_option maxRecDepth 100000
open Go.RowKit Go.Deep
/- the box of the pick, and that of the machine -/
structure Dc (w V : World) (p bx : Nat) (s : Option Addr) (n c : Nat) (q : MP) (d : MD) : Prop where
 dq : Dq w V p bx s n c q d
 c0 : V.cell? ⟨w.heap.size + 1, 0, none⟩ = some (.int .i64 0)
 c1 : V.cell? ⟨w.heap.size + 1, 1, none⟩ = some (.int .i64 0)
 f : ∀ j, V.frozen? ⟨w.heap.size + 1, j, none⟩ = false
 p1 : w.heap.size + 1 < p
theorem Dc.step {w V V' : World} {p bx n c : Nat} {s : Option Addr} {q : MP} {d : MD} (h : Dc w V p bx s n c q d) (hc : CB V' p s n c) (hb : But p V V') : Dc w V' p bx s n c q d := by
 have h1 := h.p1
 have h2 := h.dq.pb
 have h3 := h.dq.x.x.z
 exact ⟨h.dq.step hc hb, (hb.cell (p := ⟨w.heap.size + 1, 0, none⟩) (by show w.heap.size + 1 < _; omega) (by show w.heap.size + 1 ≠ p; omega)).trans h.c0, (hb.cell (p := ⟨w.heap.size + 1, 1, none⟩) (by show w.heap.size + 1 < _; omega) (by show w.heap.size + 1 ≠ p; omega)).trans h.c1, fun j => (hb.frozen (p := ⟨w.heap.size + 1, j, none⟩) (by show w.heap.size + 1 < _; omega) (by show w.heap.size + 1 ≠ p; omega)).trans (h.f j), h1⟩
theorem Dc.low {w V V' : World} {p bx n c : Nat} {s : Option Addr} {q : MP} {d : MD} (h : Dc w V p bx s n c q d) (hb : Below V.heap.size V V') : Dc w V' p bx s n c q d :=
 h.step (h.dq.cb.lowB hb (by have := h.dq.pb; have := h.dq.x.x.z; omega)) (But.of_below hb)
structure CL6 (X : World) (g p : Nat) : Prop where
 c : ∀ i, i < 6 → X.cell? ⟨g, 0 + i, none⟩ = some (.int .i64 ([0, 1, 2, 3, -1, 9223372036854775807].getD i 0))
 z : g < X.heap.size
 n : g ≠ p
theorem CL6.but {X Y : World} {g p : Nat} (h : CL6 X g p) (hb : But p X Y) : CL6 Y g p :=
 ⟨fun i hi => (hb.cell (p := ⟨g, 0 + i, none⟩) h.z h.n).trans (h.c i hi), Nat.lt_of_lt_of_le h.z hb.size, h.n⟩
theorem CL6.new (X : World) (p : Nat) (hp : p < X.heap.size) : CL6 (X.alloc (.cells #[.int .i64 0, .int .i64 1, .int .i64 2, .int .i64 3, .int .i64 (-1), .int .i64 9223372036854775807] 3)) X.heap.size p :=
 ⟨fun i hi => by match i, hi with | 0, _ => simp [go_sem] | 1, _ => simp [go_sem] | 2, _ => simp [go_sem] | 3, _ => simp [go_sem] | 4, _ => simp [go_sem] | 5, _ => simp [go_sem], by simp, by omega⟩
theorem Dc.below {w X : World} {p bx n c : Nat} {s : Option Addr} {q : MP} {d : MD} (h : Dc w X p bx s n c q d) (m : Int) (h0 : 0 < m) (h1 : m ≤ 256) :
  Calls Try.prog 31 #[.pointer (some ⟨p, 0, none⟩), .int .i64 m] X fun e w' => ∃ y : Int, e = .returned (.int .i64 y) ∧ Hid (0 ≤ y ∧ y < m) ∧ Hid (Dc w w' p bx s n c q d) ∧ Hid (But p X w') := by
 refine (below_cb p s n c m X h.dq.cb h0 h1).mono ?_
 rintro e w' ⟨y, he, y0, y1, hc, hb⟩
 exact ⟨y, he, ⟨y0, y1⟩, h.step hc hb, hb⟩
theorem Dc.pick {w X : World} {p bx n c g : Nat} {s : Option Addr} {q : MP} {d : MD} (h : Dc w X p bx s n c q d) (hl : CL6 X g p) :
  Calls Try.prog 32 #[.pointer (some ⟨p, 0, none⟩), .slice (some ⟨g, 0, none⟩) 6 6] X fun e w' => ∃ y : Int, e = .returned (.int .i64 y) ∧ Hid (y ≤ 9223372036854775807) ∧ Hid (Dc w w' p bx s n c q d) := by
 refine (pick_cb p s n c g 6 [0, 1, 2, 3, -1, 9223372036854775807] X h.dq.cb rfl (by simp) (by simp) hl.z hl.n hl.c).mono ?_
 rintro e w' ⟨y, he, hm, hc, hb⟩
 simp at hm
 exact ⟨y, he, show _ ≤ _ by omega, h.step hc hb⟩
set_option maxRecDepth 100000 in
set_option maxHeartbeats 8000000 in
theorem drawCs_any (s : Option Addr) (n c : Nat) (w : World) (hb : Bytes w w.heap.size s n) (hn : n ≤ maxLen) :
  Calls Try.prog 11 #[.slice s n c] w fun e w' => ∃ (q : MP) (d : MD) (who late : Int), e = .returned (.tuple #[.agg #[.slice q.s1 d.codes.length q.c1, .slice q.s2 d.cores.length q.c2, .slice q.s3 d.mem.length q.c3, .slice q.s4 d.tr.length q.c4], .agg #[.int .i64 who, .int .i64 late]]) ∧ MaR w' w.heap.size w'.heap.size q.s1 q.s2 q.s3 q.s4 d ∧ MaSz d ≤ 21000 ∧ d.cores.length ≤ 4 ∧ late ≤ 9223372036854775807 ∧ Below w.heap.size w w' := by
 have HB := hidM1 hb
 have HN := hidM1 hn
 clear hb hn
 go_enter Try.func11, Try.ntmps11
 obtain ⟨A0, hA0, xA, kA, zA⟩ := X4.new w (.slice none 0 0) (.slice none 0 0) (.slice none 0 0) (.slice none 0 0) 34
 have sA0 : A0.heap.size = w.heap.size + 1 := by rw [← hA0]; simp
 obtain ⟨A, hA⟩ : ∃ A, A0.alloc (.cells #[.int .i64 0, .int .i64 0] 40) = A := ⟨_, rfl⟩
 have sA : A.heap.size = w.heap.size + 2 := by rw [← hA]; simp [sA0]
 have kA1 : Below A0.heap.size A0 A := by rw [← hA]; exact (Below.refl _ _).alloc (Nat.le_refl _) _
 have q0 : A.cell? ⟨w.heap.size + 1, 0, none⟩ = some (.int .i64 0) := by rw [← hA, ← sA0]; simp [go_sem]
 have q1 : A.cell? ⟨w.heap.size + 1, 1, none⟩ = some (.int .i64 0) := by rw [← hA, ← sA0]; simp [go_sem]
 have qf : ∀ j, A.frozen? ⟨w.heap.size + 1, j, none⟩ = false := fun j => by rw [← hA, ← sA0]; simp [go_sem]
 have HA : Hid ((w.alloc (.cells #[.slice none 0 0, .slice none 0 0, .slice none 0 0, .slice none 0 0] 34)).alloc (.cells #[.int .i64 0, .int .i64 0] 40) = A) := by
  show _ = A
  rw [hA0]
  exact hA
 have XA := hidM1 (xA.keep kA1 zA)
 have KA := hidM1 (kA.trans (kA1.mono (by omega)))
 have SA := hidM1 sA
 have Q0 := hidM1 q0
 have Q1 := hidM1 q1
 have QF := hidM1 qf
 clear hA hA0 xA kA zA sA0 kA1 q0 q1 qf sA A0
 go_upto_region 1 with fail
 rw [HA.out]
 clear HA
 go_wp2_with fail
 refine (new_cb s n c A (HB.out.up KA.out) HN.out).mono ?_
 rintro e w1 ⟨rfl, hc1, hb1, hs1⟩
 have HS1 := hidM1 hs1
 have C1 := hidM1 hc1
 have HB1 := hidM1 hb1
 clear hc1 hb1 hs1 HB HN
 go_wp2_with fail
 refine (drawM_any A.heap.size s n c w1 C1.out).mono ?_
 rintro e w2 ⟨q, d, rfl, hma, hsz, hk, hc2, hb2⟩
 have SZ := hidM1 hsz
 have KK := hidM1 hk
 have MA := hidM1 hma
 have C2 := hidM1 hc2
 have B2 := hidM1 hb2
 clear hma hsz hk hc2 hb2 C1
 go_upto_region 3 with fail
 obtain ⟨V, hV⟩ : ∃ V, w2.alloc (.cells #[.slice q.s1 d.codes.length q.c1, .slice q.s2 d.cores.length q.c2, .slice q.s3 d.mem.length q.c3, .slice q.s4 d.tr.length q.c4] 34) = V := ⟨_, rfl⟩
 have dq := Dq.new (w := w) (A := w1) (p := A.heap.size) (XA.out.keep HB1.out (by have := SA.out; omega)) (KA.out.trans (HB1.out.mono (by have := SA.out; omega))) (by have := SA.out; omega) (by have := HS1.out; omega) B2.out C2.out MA.out hV
 rw [hV]
 have kV : But A.heap.size A V := (But.of_below (HB1.out.mono (Nat.le_refl _))).trans (B2.out.trans (But.of_below (by rw [← hV]; exact (Below.refl _ _).alloc (Nat.le_refl _) _)))
 clear hV
 have dc : Dc w V A.heap.size w2.heap.size s n c q d := ⟨dq.1, (kV.cell (p := ⟨w.heap.size + 1, 0, none⟩) (by have := SA.out; show w.heap.size + 1 < _; omega) (by have := SA.out; show w.heap.size + 1 ≠ A.heap.size; omega)).trans Q0.out, (kV.cell (p := ⟨w.heap.size + 1, 1, none⟩) (by have := SA.out; show w.heap.size + 1 < _; omega) (by have := SA.out; show w.heap.size + 1 ≠ A.heap.size; omega)).trans Q1.out, fun j => (kV.frozen (p := ⟨w.heap.size + 1, j, none⟩) (by have := SA.out; show w.heap.size + 1 < _; omega) (by have := SA.out; show w.heap.size + 1 ≠ A.heap.size; omega)).trans (QF.out j), by have := SA.out; omega⟩
 obtain ⟨p, hpp⟩ : ∃ p, A.heap.size = p := ⟨_, rfl⟩
 obtain ⟨bx, hbx⟩ : ∃ p, w2.heap.size = p := ⟨_, rfl⟩
 rw [hpp, hbx] at dc ⊢
 have DC := hidM1 dc
 clear dc dq kV MA C2 B2 XA KA hpp hbx HS1 SA HB1 Q0 Q1 QF
 have hpb := DC.out.dq.pb
 have hwp := DC.out.p1
 have hVz := DC.out.dq.x.x.z
 obtain ⟨⟨xz, xc0, xc1, xc2, xc3⟩, -⟩ := DC.out.dq.x
 have D1 := hidM1 (DC.out.low ((Below.refl _ _).drew))
 have D1a := hidM1 (DC.out.low (((Below.refl _ _).alloc (Nat.le_refl _) (.cells #[.int .i64 0, .int .i64 1, .int .i64 2, .int .i64 3, .int .i64 (-1), .int .i64 9223372036854775807] 3)).drew))
 have CA : Hid (CL6 ((V.alloc (.cells #[.int .i64 0, .int .i64 1, .int .i64 2, .int .i64 3, .int .i64 (-1), .int .i64 9223372036854775807] 3)).drew) V.heap.size p) := ⟨(CL6.new V p (by omega)).c, (CL6.new V p (by omega)).z, (CL6.new V p (by omega)).n⟩
 have nb : ¬ bx = w.heap.size := by omega
 have nb' : ¬ w.heap.size = bx := by omega
 have nc : ¬ bx = w.heap.size + 1 := by omega
 have nc' : ¬ w.heap.size + 1 = bx := by omega
 go_region_held3 (fun w' => w'.cell? ⟨bx, 0, none⟩ = some (.slice q.s1 d.codes.length q.c1) ∧ w'.cell? ⟨bx, 1, none⟩ = some (.slice q.s2 d.cores.length q.c2) ∧ w'.cell? ⟨bx, 2, none⟩ = some (.slice q.s3 d.mem.length q.c3) ∧ w'.cell? ⟨bx, 3, none⟩ = some (.slice q.s4 d.tr.length q.c4)) (go_keep) (first | (go_at_call 32; with_reducible refine (Dc.pick (D6.out) (G2.out)).mono ?_; rintro e w7 ⟨z, rfl, ZB, D7⟩; have x0c := D7.out.dq.x.x.c0; have x1c := D7.out.dq.x.x.c1; have x2c := D7.out.dq.x.x.c2; have x3c := D7.out.dq.x.x.c3; have zxc := D7.out.dq.x.x.z; have r0' := D7.out.dq.r.x.c0; have r1' := D7.out.dq.r.x.c1; have r2' := D7.out.dq.r.x.c2; have r3' := D7.out.dq.r.x.c3; have rf' := D7.out.dq.r.fz; have p0' := D7.out.c0; have p1' := D7.out.c1; have pf' := D7.out.f) | (go_at_call 32; with_reducible refine (Dc.pick (D6a.out) (CA6.out)).mono ?_; rintro e w7 ⟨z, rfl, ZB, D7⟩; have x0c := D7.out.dq.x.x.c0; have x1c := D7.out.dq.x.x.c1; have x2c := D7.out.dq.x.x.c2; have x3c := D7.out.dq.x.x.c3; have zxc := D7.out.dq.x.x.z; have r0' := D7.out.dq.r.x.c0; have r1' := D7.out.dq.r.x.c1; have r2' := D7.out.dq.r.x.c2; have r3' := D7.out.dq.r.x.c3; have rf' := D7.out.dq.r.fz; have p0' := D7.out.c0; have p1' := D7.out.c1; have pf' := D7.out.f) | (go_at_call 31; with_reducible refine (D5.out.below 20 (by omega) (by omega)).mono ?_; rintro e w6 ⟨u, rfl, U6, D6, B6⟩; have G2 := hidM1 (G1.out.but B6.out); have x0b := D6.out.dq.x.x.c0; have x1b := D6.out.dq.x.x.c1; have x2b := D6.out.dq.x.x.c2; have x3b := D6.out.dq.x.x.c3; have zxb := D6.out.dq.x.x.z) | (go_at_call 31; with_reducible refine (D5a.out.below 20 (by omega) (by omega)).mono ?_; rintro e w6 ⟨u, rfl, U6, D6, B6⟩; have G2 := hidM1 (CA5.out.but B6.out); have x0b := D6.out.dq.x.x.c0; have x1b := D6.out.dq.x.x.c1; have x2b := D6.out.dq.x.x.c2; have x3b := D6.out.dq.x.x.c3; have zxb := D6.out.dq.x.x.z) | (go_at_call 31; with_reducible refine (D5.out.below 20 (by omega) (by omega)).mono ?_; rintro e w6 ⟨u, rfl, U6, D6, B6⟩; have D6a := hidM1 (D6.out.low ((Below.refl _ _).alloc (Nat.le_refl _) (.cells #[.int .i64 0, .int .i64 1, .int .i64 2, .int .i64 3, .int .i64 (-1), .int .i64 9223372036854775807] 3))); have CA6 := hidM1 (CL6.new w6 p (by have := D6.out.dq.x.x.z; omega)); have x0b := D6.out.dq.x.x.c0; have x1b := D6.out.dq.x.x.c1; have x2b := D6.out.dq.x.x.c2; have x3b := D6.out.dq.x.x.c3; have zxb := D6.out.dq.x.x.z) | (go_at_call 31; with_reducible refine (D1a.out.below 4 (by omega) (by omega)).mono ?_; rintro e w5 ⟨y, rfl, Y5, D5, B5⟩; have G1 := hidM1 (CA.out.but B5.out); have x0a := D5.out.dq.x.x.c0; have x1a := D5.out.dq.x.x.c1; have x2a := D5.out.dq.x.x.c2; have x3a := D5.out.dq.x.x.c3; have zxa := D5.out.dq.x.x.z) | (go_at_call 31; with_reducible refine (D1.out.below 4 (by omega) (by omega)).mono ?_; rintro e w5 ⟨y, rfl, Y5, D5, B5⟩; have D5a := hidM1 (D5.out.low ((Below.refl _ _).alloc (Nat.le_refl _) (.cells #[.int .i64 0, .int .i64 1, .int .i64 2, .int .i64 3, .int .i64 (-1), .int .i64 9223372036854775807] 3))); have CA5 := hidM1 (CL6.new w5 p (by have := D5.out.dq.x.x.z; omega)); have x0a := D5.out.dq.x.x.c0; have x1a := D5.out.dq.x.x.c1; have x2a := D5.out.dq.x.x.c2; have x3a := D5.out.dq.x.x.c3; have zxa := D5.out.dq.x.x.z) | fail)
 all_goals
  clear xz xc0 xc1 xc2 xc3 DC D1 D1a CA D5 D6
  go_wp2
  refine bodyPost_ret (v := .tuple #[.agg #[.slice q.s1 d.codes.length q.c1, .slice q.s2 d.cores.length q.c2, .slice q.s3 d.mem.length q.c3, .slice q.s4 d.tr.length q.c4], .agg #[.int .i64 (IntKind.i64.wrap (y - IntKind.i64.wrap (u.tdiv 19))), .int .i64 z]]) ?_ rfl ⟨q, d, IntKind.i64.wrap (y - IntKind.i64.wrap (u.tdiv 19)), z, rfl, ?_⟩
  ·simp [results, Try.results11, go_sem, r0', r1', r2', r3', p0', p1']
   try rfl
  ·obtain ⟨Y, hY, -, mY, sY, fY, bY⟩ := X4.put4 (.slice q.s1 d.codes.length q.c1) (.slice q.s2 d.cores.length q.c2) (.slice q.s3 d.mem.length q.c3) (.slice q.s4 d.tr.length q.c4) D7.out.dq.r D7.out.dq.ma (by omega)
   rw [hY]
   have kY := bY _ _ D7.out.dq.bt (Nat.le_refl _)
   have hxz := D7.out.dq.x.x.z
   refine ⟨?_, SZ.out, KK.out, ZB.out, (kY.setCell (p := ⟨w.heap.size + 1, 0, none⟩) (by show w.heap.size ≤ w.heap.size + 1; omega) _).setCell (p := ⟨w.heap.size + 1, 1, none⟩) (by show w.heap.size ≤ w.heap.size + 1; omega) _⟩
   refine MaR.mono (MaR.keep mY (w' := _) (fun k h1 h2 => ?_)) (by omega) (by simp; omega)
   exact (Below.heap_setCell _ ⟨w.heap.size + 1, 1, none⟩ _ k (by show k ≠ w.heap.size + 1; omega)).trans (Below.heap_setCell _ ⟨w.heap.size + 1, 0, none⟩ _ k (by show k ≠ w.heap.size + 1; omega))
end
section
set_option linter.unusedSimpArgs false
set_option linter.unusedVariables false
set_option maxRecDepth 100000
open Go.RowKit
set_option maxHeartbeats 1000000 in
theorem implKnowsV_any (s s' : Option Addr) (c c' lo hi lo' hi' : Nat) (l l' : List Int) (w : World) (h : IntsR w lo hi s l) (h' : IntsR w lo' hi' s' l') (hl : l.length ≤ 1048577) (hB : hi ≤ w.heap.size) (hB' : hi' ≤ w.heap.size) :
  Calls Try.prog 43 #[.slice s l.length c, .slice s' l'.length c'] w fun e w' => e = .returned (.bool (knowsB l l')) ∧ w' = w := by
 by_cases hn : l.length = l'.length
 ·have hne : ((l.length : Int) != (l'.length : Int)) = false := by simp; omega
  have HN : Hid (l.length = l'.length) := hn
  have H : Hid (IntsR w lo hi s l) := h
  have H' : Hid (IntsR w lo' hi' s' l') := h'
  clear h h' hn
  go_enter Try.func43, Try.ntmps43
  go_wp2
  go_loopw [5, 6, 14] (fun _ _ i wr => ∃ k : Nat, k ≤ l'.length ∧ i = .int .i64 k ∧ (∀ j, j < k → l'.getD j 0 ≤ l.getD j 0) ∧ wr = w) (fun _ _ i _ => l'.length - (intOf i).toNat)
  case atStart => exact ⟨0, Nat.zero_le _, rfl, fun j hj => absurd hj (Nat.not_lt_zero _), rfl⟩
  case round =>
   obtain ⟨k, hk, rfl, hj, rfl⟩ := hrel
   have HJ : Hid (∀ j, j < k → l'.getD j 0 ≤ l.getD j 0) := hj
   clear hj
   by_cases hlt : k < l'.length
   ·have hlt' : k < l.length := by have := HN.out; omega
    obtain ⟨g, o, e1, a1, a2, a3⟩ := H.out.pos (by omega)
    obtain ⟨g', o', e1', a1', a2', a3'⟩ := H'.out.pos (by omega)
    subst e1 e1'
    have e1 := a3 k hlt'
    have e2 := a3' k hlt
    clear a3 a3'
    generalize hx : l.getD k 0 = x at e1
    generalize hy : l'.getD k 0 = y at e2
    have HX : Hid (l.getD k 0 = x) := hx
    have HY : Hid (l'.getD k 0 = y) := hy
    clear hx hy
    have b0 : (0 : Int) ≤ (k : Int) := by omega
    have b1 : (k : Int) < (l.length : Int) := by omega
    have b2 : (k : Int) < (l'.length : Int) := by omega
    by_cases hxy : x < y
    ·go_wp2
     go_ret
     refine ⟨ret_bool' ?_, rfl⟩
     symm
     refine decide_eq_false (fun h => ?_)
     have := h.2 k hlt'
     rw [HX.out, HY.out] at this
     omega
    ·go_wp2
     go_roundw
     case rel =>
      refine ⟨k + 1, by omega, by go_num, fun j hj => ?_, by first | rfl | trivial⟩
      by_cases e : j < k
      ·exact HJ.out j e
      ·have : j = k := by omega
       subst this
       rw [HX.out, HY.out]
       omega
     case measure => simp [intOf]; omega
   ·go_wp2
    go_ret
    refine ⟨ret_bool' ?_, rfl⟩
    symm
    exact decide_eq_true ⟨HN.out, fun j hj => HJ.out j (by have := HN.out; omega)⟩
 ·have hne : ((l.length : Int) != (l'.length : Int)) = true := by simp; omega
  have HN : Hid (¬ l.length = l'.length) := hn
  clear hn
  go_enter Try.func43, Try.ntmps43
  go_wp2
  go_ret
  refine ⟨ret_bool' ?_, rfl⟩
  symm
  exact decide_eq_false (fun h => HN.out h.1)
theorem implKnows_any (s s' : Option Addr) (c c' lo hi lo' hi' : Nat) (l l' : List Int) (w : World) (h : IntsR w lo hi s l) (h' : IntsR w lo' hi' s' l') (hl : l.length ≤ 1048577) (hB : hi ≤ w.heap.size) (hB' : hi' ≤ w.heap.size) :
  Calls Try.prog 18 #[.slice s l.length c, .slice s' l'.length c'] w fun e w' => e = .returned (.bool (knowsB l l')) ∧ w' = w := by
 have H := implKnowsV_any s s' c c' lo hi lo' hi' l l' w h h' hl hB hB'
 clear h h'
 go_enter Try.func18, Try.ntmps18
 go_wp2_with (go_at_call 43; refine H.mono ?_; rintro e w' ⟨rfl, rfl⟩)
 go_ret
 exact ⟨rfl, rfl⟩
end
end Go.Proofs.Ytepfpbcjklaenaa
