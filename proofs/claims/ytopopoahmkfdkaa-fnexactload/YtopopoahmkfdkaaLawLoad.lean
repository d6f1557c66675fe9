/- The law FnExactLoad of the given statements: at every argument Load of the program answers as the specification's, writes into no argument, its answer owns its memory. No condition. -/
import Derived.Test.YtopopoahmkfdkaaMemFrame
import Derived.Test.YtopopoahmkfdkaaMemSz
import Derived.Test.YtopopoahmkfdkaaMemEq
import Derived.Test.YtopopoahmkfdkaaMemCopy
import Derived.Test.YtopopoahmkfdkaaMemMark
import Derived.Test.YtopopoahmkfdkaaMemLoad
import Derived.Deep.RegionHeld3
namespace Go.Proofs.Ytopopoahmkfdkaa
set_option linter.unusedSimpArgs false
set_option linter.unusedVariables false
set_option maxRecDepth 100000
open Go.ChangeShapes Go.WideShapes Go.ChangeAt Go.RowKit Go.Deep

theorem wf_le {n : Int} (h : (Lit.int .i64 n).wf = true) : n ≤ 9223372036854775807 := by
  have hmax : IntKind.i64.max = 9223372036854775807 := rfl
  simp only [Lit.wf, Bool.and_eq_true, decide_eq_true_eq] at h
  omega
theorem trodAll_five {H : Type} {enc : TypeId × Value → H} {P : Program} {w : World} {base : Nat} {spare : Nat → Bool} {held : Bool} {t0 t1 t2 t3 t4 : TypeId} {args : Array Value} {ds : List (DataW H)} {ps : List MemPlace} (h : DataW.TrodAll enc P w base spare held [t0, t1, t2, t3, t4] args.toList ds ps) :
    ∃ v0 v1 v2 v3 v4 d0 d1 d2 d3 d4 p0 p1 p2 p3 p4, args = #[v0, v1, v2, v3, v4] ∧ ds = [d0, d1, d2, d3, d4] ∧ ps = p0 ++ (p1 ++ (p2 ++ (p3 ++ p4))) ∧ DataW.Trod enc P w base spare held t0 v0 d0 p0 ∧ DataW.Trod enc P w base spare held t1 v1 d1 p1 ∧ DataW.Trod enc P w base spare held t2 v2 d2 p2 ∧ DataW.Trod enc P w base spare held t3 v3 d3 p3 ∧ DataW.Trod enc P w base spare held t4 v4 d4 p4 := by
  obtain ⟨v0, r0, d0, e0, p0, q0, hargs, rfl, rfl, h0, s0⟩ := trodAll_cons h
  obtain ⟨v1, r1, d1, e1, p1, q1, rfl, rfl, rfl, h1, s1⟩ := trodAll_cons s0
  obtain ⟨v2, r2, d2, e2, p2, q2, rfl, rfl, rfl, h2, s2⟩ := trodAll_cons s1
  obtain ⟨v3, r3, d3, e3, p3, q3, rfl, rfl, rfl, h3, s3⟩ := trodAll_cons s2
  obtain ⟨v4, r4, d4, e4, p4, q4, rfl, rfl, rfl, h4, s4⟩ := trodAll_cons s3
  obtain ⟨rfl, rfl, rfl⟩ := trodAll_nil s4
  exact ⟨v0, v1, v2, v3, v4, d0, d1, d2, d3, d4, p0, p1, p2, p3, p4, by cases args; simp_all, rfl, by simp, h0, h1, h2, h3, h4⟩
theorem trodAll_mk5 {H : Type} {enc : TypeId × Value → H} {P : Program} {w : World} {base : Nat} {spare : Nat → Bool} {held : Bool} {t0 t1 t2 t3 t4 : TypeId} {v0 v1 v2 v3 v4 : Value} {d0 d1 d2 d3 d4 : DataW H} {p0 p1 p2 p3 p4 : List MemPlace} (h0 : DataW.Trod enc P w base spare held t0 v0 d0 p0) (h1 : DataW.Trod enc P w base spare held t1 v1 d1 p1) (h2 : DataW.Trod enc P w base spare held t2 v2 d2 p2) (h3 : DataW.Trod enc P w base spare held t3 v3 d3 p3) (h4 : DataW.Trod enc P w base spare held t4 v4 d4 p4) :
    DataW.TrodAll enc P w base spare held [t0, t1, t2, t3, t4] [v0, v1, v2, v3, v4] [d0, d1, d2, d3, d4] (p0 ++ (p1 ++ (p2 ++ (p3 ++ p4)))) := ⟨p0, _, h0, trodAll_mk4 h1 h2 h3 h4, rfl⟩

theorem loadW_len (m : List (List WD)) (l : List Int) (cell late : Int) (hold : Bool) (h : l.length ≤ 1048577) : (loadW m l cell late hold).length ≤ 1048577 := by
  unfold loadW viewAt
  split
  · split
    · rw [join_len, List.length_set]; omega
    · rw [List.length_set]; exact h
  · exact h

set_option maxRecDepth 100000 in
set_option maxHeartbeats 8000000 in
theorem walkExactLoad (s0 : Option Addr) (c0 : Nat) (l0 : List (List WD)) (s1 : Option Addr) (c1 : Nat) (l1 : List Int) (l2 : Int) (l3 : Int) (l4 : Bool) (w : World) (h0 : MemR w 0 w.heap.size s0 l0) (m0 : MLens l0) (h1 : IntsR w 0 w.heap.size s1 l1) (m1 : l1.length ≤ maxLen) (hw2 : (Lit.int .i64 l2).wf = true) (hw3 : (Lit.int .i64 l3).wf = true) :
    Calls Try.prog 8 #[.agg #[.slice s0 l0.length c0], .slice s1 l1.length c1, .int .i64 l2, .int .i64 l3, .bool l4] w fun e w' => e = .returned (.bool true) ∧ Below w.heap.size w w' := by
  have HA0 : Hid (MemR w 0 w.heap.size s0 l0) := h0
  have HM0 : Hid (MLens l0) := m0
  clear h0 m0
  have HA1 : Hid (IntsR w 0 w.heap.size s1 l1) := h1
  clear h1
  unfold maxLen at m1
  have hb2 := wf_le hw2
  clear hw2
  have hb3 := wf_le hw3
  clear hw3
  by_cases b1 : (l1.length : Int) > 1048576
  · go_enter Try.func8, Try.ntmps8
    go_wp2
    go_ret
    exact ⟨rfl, by first | exact Below.refl _ _ | exact (Below.refl _ _).alloc (Nat.le_refl _) _⟩
  have n1 : l1.length ≤ 1048576 := by omega
  go_enter Try.func8, Try.ntmps8
  go_wp2_with fail
  have HK : Hid (Below w.heap.size w w) := Below.refl _ _
  obtain ⟨V1, hV1, bx1, kb1, zb1⟩ := Bo1.new w (.slice s0 l0.length c0) 24
  rw [hV1]
  clear hV1
  have JK : Hid (Below w.heap.size w V1) := HK.out.trans (kb1.mono (by omega))
  clear HK
  have HK := JK
  clear JK
  have HA : Hid (Bo1 w.heap.size V1 (.slice s0 l0.length c0)) := bx1
  clear bx1 kb1
  refine (szMemory_any s0 c0 0 w.heap.size l0 V1 (HA0.out.keep (Keep.of_below HK.out (Nat.le_refl _))) (by omega) HM0.out).mono ?_
  rintro e w2 ⟨⟨u, rfl, hu⟩, hb2⟩
  have z2 := hb2.size
  have JK : Hid (Below w.heap.size w w2) := HK.out.trans (hb2.mono (by omega))
  have JA : Hid (Bo1 w.heap.size w2 (.slice s0 l0.length c0)) := HA.out.keep (Keep.of_below hb2 (by omega))
  clear HK
  have HK := JK
  clear JK
  clear HA
  have HA := JA
  clear JA
  clear hb2
  obtain ⟨Ac0⟩ := HA.out
  have Az : w.heap.size < w2.heap.size := by omega
  rcases hu with hu | ⟨hu, hf⟩
  · go_wp2
    go_ret
    exact ⟨rfl, HK.out⟩
  have hun : ¬ u < 0 := by omega
  have FM0 : Hid (MFits l0) := hf
  have F1 : Hid (l0.length + szR l0 ≤ 1048676) := by show l0.length + szR l0 ≤ 1048676; have := hf; unfold MFits at this; omega
  clear hf
  obtain ⟨ll, hll⟩ : ∃ ll, loadW l0 l1 l2 l3 l4 = ll := ⟨_, rfl⟩
  obtain ⟨zz, hzz⟩ : ∃ z, loadV l0 l1 l2 l3 = z := ⟨_, rfl⟩
  have hL : ll.length ≤ 1048577 := by rw [← hll]; exact loadW_len _ _ _ _ _ (by omega)
  have HLL : Hid (loadW l0 l1 l2 l3 l4 = ll) := hll
  have HZV : Hid (loadV l0 l1 l2 l3 = zz) := hzz
  clear hll hzz
  have hzn : (zz != zz) = false := by simp
  have hq1 : ((1 : Int) + (ll.length : Int) != 1 + (ll.length : Int)) = false := by simp
  have hq2 : ¬ ((1 : Int) + (ll.length : Int) < 0) := by omega
  go_wp2_with fail
  refine (toMemory_own s0 c0 0 w.heap.size l0 w2 (HA0.out.keep (Keep.of_below HK.out (Nat.le_refl _))) (by omega) FM0.out).mono ?_
  rintro e w3 ⟨xa, Sa, rfl, ho3, hb3, z3⟩
  clear Ac0 Az
  have JK : Hid (Below w.heap.size w w3) := HK.out.trans (hb3.mono (by omega))
  have JA : Hid (Bo1 w.heap.size w3 (.slice s0 l0.length c0)) := HA.out.keep (Keep.of_below hb3 (by omega))
  clear HK
  have HK := JK
  clear JK
  clear HA
  have HA := JA
  clear JA
  have HRa : Hid (MemR w3 w2.heap.size w3.heap.size (some ⟨xa, 0, none⟩) l0) := ho3.mem
  clear hb3 ho3
  obtain ⟨Ac0⟩ := HA.out
  have Az : w.heap.size < w3.heap.size := by omega
  go_wp2_with fail
  clear Ac0 Az
  refine (toIntS_ex s1 c1 0 w.heap.size l1 w3 (HA1.out.keep (Keep.of_below HK.out (Nat.le_refl _))) (by omega) n1).mono ?_
  rintro e w4 ⟨xb, rfl, ho4, hb4, z4⟩
  have zz4 := hb4.size
  have JK : Hid (Below w.heap.size w w4) := HK.out.trans (hb4.mono (by omega))
  have JA : Hid (Bo1 w.heap.size w4 (.slice s0 l0.length c0)) := HA.out.keep (Keep.of_below hb4 (by omega))
  have JRa : Hid (MemR w4 w2.heap.size w3.heap.size (some ⟨xa, 0, none⟩) l0) := HRa.out.keep (Keep.of_below hb4 (by omega))
  clear HK
  have HK := JK
  clear JK
  clear HA
  have HA := JA
  clear JA
  clear HRa
  have HRa := JRa
  clear JRa
  have HRb : Hid (IntsR w4 w3.heap.size w4.heap.size (some ⟨xb, 0, none⟩) l1) := ownN_intsR ho4
  clear hb4 ho4
  obtain ⟨Ac0⟩ := HA.out
  have Az : w.heap.size < w4.heap.size := by omega
  go_wp2_with fail
  refine (specLoad_any _ _ _ _ _ _ _ _ l0 l1 l2 l3 l4 w4 HRa.out HRb.out (by omega) (by omega) (by omega) F1.out hb3).mono ?_
  rintro e w5 ⟨u5, rfl, ho5, hb5⟩
  rw [HLL.out] at ho5
  rw [HZV.out]
  have z5 := hb5.size
  clear Ac0 Az
  have JK : Hid (Below w.heap.size w w5) := HK.out.trans (hb5.mono (by omega))
  have JA : Hid (Bo1 w.heap.size w5 (.slice s0 l0.length c0)) := HA.out.keep (Keep.of_below hb5 (by omega))
  have JRa : Hid (MemR w5 w2.heap.size w3.heap.size (some ⟨xa, 0, none⟩) l0) := HRa.out.keep (Keep.of_below hb5 (by omega))
  have JRb : Hid (IntsR w5 w3.heap.size w4.heap.size (some ⟨xb, 0, none⟩) l1) := HRb.out.keep (Keep.of_below hb5 (by omega))
  clear HK
  have HK := JK
  clear JK
  clear HA
  have HA := JA
  clear JA
  clear HRa
  have HRa := JRa
  clear JRa
  clear HRb
  have HRb := JRb
  clear JRb
  obtain ⟨sw, cw, rfl, hi5, hn5⟩ := NB.ints ho5
  have HIw : Hid (IntsR w5 w4.heap.size w5.heap.size sw ll) := hi5
  clear hb5 ho5 hi5 hn5
  obtain ⟨Ac0⟩ := HA.out
  have Az : w.heap.size < w5.heap.size := by omega
  go_wp2_with fail
  clear HRa
  clear HRb
  refine (toMemory_own s0 c0 0 w.heap.size l0 w5 (HA0.out.keep (Keep.of_below HK.out (Nat.le_refl _))) (by omega) FM0.out).mono ?_
  rintro e w6 ⟨xx, Sx, rfl, ho6, hb6, z6⟩
  clear Ac0 Az
  have JK : Hid (Below w.heap.size w w6) := HK.out.trans (hb6.mono (by omega))
  have JA : Hid (Bo1 w.heap.size w6 (.slice s0 l0.length c0)) := HA.out.keep (Keep.of_below hb6 (by omega))
  have JIw : Hid (IntsR w6 w4.heap.size w5.heap.size sw ll) := HIw.out.keep (Keep.of_below hb6 (by omega))
  clear HK
  have HK := JK
  clear JK
  clear HA
  have HA := JA
  clear JA
  clear HIw
  have HIw := JIw
  clear JIw
  have HRx : Hid (MemR w6 w5.heap.size w6.heap.size (some ⟨xx, 0, none⟩) l0) := ho6.mem
  have HOx : Hid (MO w6 w5.heap.size w6.heap.size (some ⟨xx, 0, none⟩) Sx l0) := ho6
  clear hb6 ho6
  obtain ⟨Ac0⟩ := HA.out
  have Az : w.heap.size < w6.heap.size := by omega
  go_wp2_with fail
  obtain ⟨V7, hV7, bx7, kb7, zb7⟩ := Bo1.new w6 (.slice (some ⟨xx, 0, none⟩) l0.length l0.length) 30
  rw [hV7]
  clear hV7
  clear Ac0 Az
  have JK : Hid (Below w.heap.size w V7) := HK.out.trans (kb7.mono (by omega))
  have JA : Hid (Bo1 w.heap.size V7 (.slice s0 l0.length c0)) := HA.out.keep (Keep.of_below kb7 (by omega))
  have JIw : Hid (IntsR V7 w4.heap.size w5.heap.size sw ll) := HIw.out.keep (Keep.of_below kb7 (by omega))
  have JRx : Hid (MemR V7 w5.heap.size w6.heap.size (some ⟨xx, 0, none⟩) l0) := HRx.out.keep (Keep.of_below kb7 (by omega))
  have JOx : Hid (MO V7 w5.heap.size w6.heap.size (some ⟨xx, 0, none⟩) Sx l0) := HOx.out.keep (Keep.of_below kb7 (by omega))
  clear HK
  have HK := JK
  clear JK
  clear HA
  have HA := JA
  clear JA
  clear HIw
  have HIw := JIw
  clear JIw
  clear HRx
  have HRx := JRx
  clear JRx
  clear HOx
  have HOx := JOx
  clear JOx
  have HXx : Hid (Bo1 w6.heap.size V7 (.slice (some ⟨xx, 0, none⟩) l0.length l0.length)) := bx7
  clear bx7 kb7
  obtain ⟨Ac0⟩ := HA.out
  have Az : w.heap.size < V7.heap.size := by omega
  obtain ⟨Xxc0⟩ := HXx.out
  have Xxz : w6.heap.size < V7.heap.size := by omega
  clear Ac0 Az
  clear Xxc0 Xxz
  refine (toIntS_ex s1 c1 0 w.heap.size l1 V7 (HA1.out.keep (Keep.of_below HK.out (Nat.le_refl _))) (by omega) n1).mono ?_
  rintro e w8 ⟨xy, rfl, ho8, hb8, z8⟩
  have zz8 := hb8.size
  have JK : Hid (Below w.heap.size w w8) := HK.out.trans (hb8.mono (by omega))
  have JA : Hid (Bo1 w.heap.size w8 (.slice s0 l0.length c0)) := HA.out.keep (Keep.of_below hb8 (by omega))
  have JIw : Hid (IntsR w8 w4.heap.size w5.heap.size sw ll) := HIw.out.keep (Keep.of_below hb8 (by omega))
  have JRx : Hid (MemR w8 w5.heap.size w6.heap.size (some ⟨xx, 0, none⟩) l0) := HRx.out.keep (Keep.of_below hb8 (by omega))
  have JOx : Hid (MO w8 w5.heap.size w6.heap.size (some ⟨xx, 0, none⟩) Sx l0) := HOx.out.keep (Keep.of_below hb8 (by omega))
  have JXx : Hid (Bo1 w6.heap.size w8 (.slice (some ⟨xx, 0, none⟩) l0.length l0.length)) := HXx.out.keep (Keep.of_below hb8 (by omega))
  clear HK
  have HK := JK
  clear JK
  clear HA
  have HA := JA
  clear JA
  clear HIw
  have HIw := JIw
  clear JIw
  clear HRx
  have HRx := JRx
  clear JRx
  clear HOx
  have HOx := JOx
  clear JOx
  clear HXx
  have HXx := JXx
  clear JXx
  have HRy : Hid (IntsR w8 V7.heap.size w8.heap.size (some ⟨xy, 0, none⟩) l1) := ownN_intsR ho8
  have HOy : Hid (NB w8 V7.heap.size w8.heap.size (.slice (some ⟨xy, 0, none⟩) l1.length l1.length) l1) := NB.of ho8
  clear hb8 ho8
  obtain ⟨Ac0⟩ := HA.out
  have Az : w.heap.size < w8.heap.size := by omega
  obtain ⟨Xxc0⟩ := HXx.out
  have Xxz : w6.heap.size < w8.heap.size := by omega
  go_wp2_with fail
  refine (implLoad_any _ _ _ _ _ _ _ _ l0 l1 l2 l3 l4 w8 HRx.out HRy.out (by omega) (by omega) (by omega) F1.out hb3).mono ?_
  rintro e w9 ⟨u9, rfl, ho9, hb9⟩
  rw [HLL.out] at ho9
  rw [HZV.out]
  have z9 := hb9.size
  clear Ac0 Az
  clear Xxc0 Xxz
  have JK : Hid (Below w.heap.size w w9) := HK.out.trans (hb9.mono (by omega))
  have JA : Hid (Bo1 w.heap.size w9 (.slice s0 l0.length c0)) := HA.out.keep (Keep.of_below hb9 (by omega))
  have JIw : Hid (IntsR w9 w4.heap.size w5.heap.size sw ll) := HIw.out.keep (Keep.of_below hb9 (by omega))
  have JRx : Hid (MemR w9 w5.heap.size w6.heap.size (some ⟨xx, 0, none⟩) l0) := HRx.out.keep (Keep.of_below hb9 (by omega))
  have JOx : Hid (MO w9 w5.heap.size w6.heap.size (some ⟨xx, 0, none⟩) Sx l0) := HOx.out.keep (Keep.of_below hb9 (by omega))
  have JXx : Hid (Bo1 w6.heap.size w9 (.slice (some ⟨xx, 0, none⟩) l0.length l0.length)) := HXx.out.keep (Keep.of_below hb9 (by omega))
  have JRy : Hid (IntsR w9 V7.heap.size w8.heap.size (some ⟨xy, 0, none⟩) l1) := HRy.out.keep (Keep.of_below hb9 (by omega))
  have JOy : Hid (NB w9 V7.heap.size w8.heap.size (.slice (some ⟨xy, 0, none⟩) l1.length l1.length) l1) := HOy.out.keep (Keep.of_below hb9 (by omega))
  clear HK
  have HK := JK
  clear JK
  clear HA
  have HA := JA
  clear JA
  clear HIw
  have HIw := JIw
  clear JIw
  clear HRx
  have HRx := JRx
  clear JRx
  clear HOx
  have HOx := JOx
  clear JOx
  clear HXx
  have HXx := JXx
  clear JXx
  clear HRy
  have HRy := JRy
  clear JRy
  clear HOy
  have HOy := JOy
  clear JOy
  obtain ⟨sg, cg, rfl, hi9, hn9⟩ := NB.ints ho9
  have HIg : Hid (IntsR w9 w8.heap.size w9.heap.size sg ll) := hi9
  have HGg : Hid (NB w9 w8.heap.size w9.heap.size (.slice sg ll.length cg) ll) := hn9
  clear hb9 ho9 hi9 hn9
  obtain ⟨Ac0⟩ := HA.out
  have Az : w.heap.size < w9.heap.size := by omega
  obtain ⟨Xxc0⟩ := HXx.out
  have Xxz : w6.heap.size < w9.heap.size := by omega
  go_wp2_with fail
  refine (eqN_true cg cw HIg.out HIw.out (by omega) (by omega) hL).mono ?_
  rintro e w10 ⟨rfl, hb10⟩
  have z10 := hb10.size
  clear Ac0 Az
  clear Xxc0 Xxz
  have JK : Hid (Below w.heap.size w w10) := HK.out.trans (hb10.mono (by omega))
  have JA : Hid (Bo1 w.heap.size w10 (.slice s0 l0.length c0)) := HA.out.keep (Keep.of_below hb10 (by omega))
  have JIw : Hid (IntsR w10 w4.heap.size w5.heap.size sw ll) := HIw.out.keep (Keep.of_below hb10 (by omega))
  have JRx : Hid (MemR w10 w5.heap.size w6.heap.size (some ⟨xx, 0, none⟩) l0) := HRx.out.keep (Keep.of_below hb10 (by omega))
  have JOx : Hid (MO w10 w5.heap.size w6.heap.size (some ⟨xx, 0, none⟩) Sx l0) := HOx.out.keep (Keep.of_below hb10 (by omega))
  have JXx : Hid (Bo1 w6.heap.size w10 (.slice (some ⟨xx, 0, none⟩) l0.length l0.length)) := HXx.out.keep (Keep.of_below hb10 (by omega))
  have JRy : Hid (IntsR w10 V7.heap.size w8.heap.size (some ⟨xy, 0, none⟩) l1) := HRy.out.keep (Keep.of_below hb10 (by omega))
  have JOy : Hid (NB w10 V7.heap.size w8.heap.size (.slice (some ⟨xy, 0, none⟩) l1.length l1.length) l1) := HOy.out.keep (Keep.of_below hb10 (by omega))
  have JIg : Hid (IntsR w10 w8.heap.size w9.heap.size sg ll) := HIg.out.keep (Keep.of_below hb10 (by omega))
  have JGg : Hid (NB w10 w8.heap.size w9.heap.size (.slice sg ll.length cg) ll) := HGg.out.keep (Keep.of_below hb10 (by omega))
  clear HK
  have HK := JK
  clear JK
  clear HA
  have HA := JA
  clear JA
  clear HIw
  have HIw := JIw
  clear JIw
  clear HRx
  have HRx := JRx
  clear JRx
  clear HOx
  have HOx := JOx
  clear JOx
  clear HXx
  have HXx := JXx
  clear JXx
  clear HRy
  have HRy := JRy
  clear JRy
  clear HOy
  have HOy := JOy
  clear JOy
  clear HIg
  have HIg := JIg
  clear JIg
  clear HGg
  have HGg := JGg
  clear JGg
  clear hb10
  obtain ⟨Ac0⟩ := HA.out
  have Az : w.heap.size < w10.heap.size := by omega
  obtain ⟨Xxc0⟩ := HXx.out
  have Xxz : w6.heap.size < w10.heap.size := by omega
  go_wp2_with fail
  go_region_held3 (fun w' => w'.cell? ⟨w6.heap.size, 0, none⟩ = some (.slice (some ⟨xx, 0, none⟩) l0.length l0.length) ∧ w'.cell? ⟨w.heap.size, 0, none⟩ = some (.slice s0 l0.length c0)) (go_keep) (first | (go_at_call 11; refine (toMemory_own s0 c0 0 w.heap.size l0 w10.drew (HA0.out.keep (Keep.of_below HK.out.drew (Nat.le_refl _))) (by show w.heap.size ≤ w10.heap.size; omega) FM0.out).mono ?_; rintro e w11 ⟨xq, Sq, rfl, ho11, hb11, hz11⟩; have kx : Below w10.heap.size w10 w11 := (Below.drew (Below.refl _ _)).trans hb11; have kz := kx.size; have XX := HXx.out.keep (Keep.of_below kx (by omega)); have AA := HA.out.keep (Keep.of_below kx (by omega)); have t0 := XX.c0; have t1 := AA.c0) | (go_at_call 14; refine (eqMemory_alike (some ⟨xx, 0, none⟩) (some ⟨xq, 0, none⟩) _ _ w5.heap.size w6.heap.size w10.heap.size w11.heap.size l0 w11 (HRx.out.keep (Keep.of_below kx (by omega))) (ho11.mem) (by omega) (Nat.le_refl _) F1.out).mono ?_; rintro e w12 ⟨rfl, hb12⟩; have ky : Below w10.heap.size w10 w12 := kx.trans (hb12.mono (by omega)); have XY := XX.keep (Keep.of_below hb12 (by omega)); have AY := AA.keep (Keep.of_below hb12 (by omega)); have u0 := XY.c0; have u1 := AY.c0))
  have z12 := ky.size
  clear t0 t1 u0 u1 XX AA XY AY hb11 hb12 ho11 hz11 kx kz
  clear Ac0 Az
  clear Xxc0 Xxz
  have JK : Hid (Below w.heap.size w w12) := HK.out.trans (ky.mono (by omega))
  have JA : Hid (Bo1 w.heap.size w12 (.slice s0 l0.length c0)) := HA.out.keep (Keep.of_below ky (by omega))
  have JIw : Hid (IntsR w12 w4.heap.size w5.heap.size sw ll) := HIw.out.keep (Keep.of_below ky (by omega))
  have JRx : Hid (MemR w12 w5.heap.size w6.heap.size (some ⟨xx, 0, none⟩) l0) := HRx.out.keep (Keep.of_below ky (by omega))
  have JOx : Hid (MO w12 w5.heap.size w6.heap.size (some ⟨xx, 0, none⟩) Sx l0) := HOx.out.keep (Keep.of_below ky (by omega))
  have JXx : Hid (Bo1 w6.heap.size w12 (.slice (some ⟨xx, 0, none⟩) l0.length l0.length)) := HXx.out.keep (Keep.of_below ky (by omega))
  have JRy : Hid (IntsR w12 V7.heap.size w8.heap.size (some ⟨xy, 0, none⟩) l1) := HRy.out.keep (Keep.of_below ky (by omega))
  have JOy : Hid (NB w12 V7.heap.size w8.heap.size (.slice (some ⟨xy, 0, none⟩) l1.length l1.length) l1) := HOy.out.keep (Keep.of_below ky (by omega))
  have JIg : Hid (IntsR w12 w8.heap.size w9.heap.size sg ll) := HIg.out.keep (Keep.of_below ky (by omega))
  have JGg : Hid (NB w12 w8.heap.size w9.heap.size (.slice sg ll.length cg) ll) := HGg.out.keep (Keep.of_below ky (by omega))
  clear HK
  have HK := JK
  clear JK
  clear HA
  have HA := JA
  clear JA
  clear HIw
  have HIw := JIw
  clear JIw
  clear HRx
  have HRx := JRx
  clear JRx
  clear HOx
  have HOx := JOx
  clear JOx
  clear HXx
  have HXx := JXx
  clear JXx
  clear HRy
  have HRy := JRy
  clear JRy
  clear HOy
  have HOy := JOy
  clear JOy
  clear HIg
  have HIg := JIg
  clear JIg
  clear HGg
  have HGg := JGg
  clear JGg
  clear ky
  obtain ⟨Ac0⟩ := HA.out
  have Az : w.heap.size < w12.heap.size := by omega
  obtain ⟨Xxc0⟩ := HXx.out
  have Xxz : w6.heap.size < w12.heap.size := by omega
  go_wp2_with fail
  clear Ac0 Az
  clear Xxc0 Xxz
  refine (toIntS_ex s1 c1 0 w.heap.size l1 w12 (HA1.out.keep (Keep.of_below HK.out (Nat.le_refl _))) (by omega) n1).mono ?_
  rintro e w13 ⟨xd, rfl, ho13, hb13, z13⟩
  have zz13 := hb13.size
  have JK : Hid (Below w.heap.size w w13) := HK.out.trans (hb13.mono (by omega))
  have JA : Hid (Bo1 w.heap.size w13 (.slice s0 l0.length c0)) := HA.out.keep (Keep.of_below hb13 (by omega))
  have JIw : Hid (IntsR w13 w4.heap.size w5.heap.size sw ll) := HIw.out.keep (Keep.of_below hb13 (by omega))
  have JRx : Hid (MemR w13 w5.heap.size w6.heap.size (some ⟨xx, 0, none⟩) l0) := HRx.out.keep (Keep.of_below hb13 (by omega))
  have JOx : Hid (MO w13 w5.heap.size w6.heap.size (some ⟨xx, 0, none⟩) Sx l0) := HOx.out.keep (Keep.of_below hb13 (by omega))
  have JXx : Hid (Bo1 w6.heap.size w13 (.slice (some ⟨xx, 0, none⟩) l0.length l0.length)) := HXx.out.keep (Keep.of_below hb13 (by omega))
  have JRy : Hid (IntsR w13 V7.heap.size w8.heap.size (some ⟨xy, 0, none⟩) l1) := HRy.out.keep (Keep.of_below hb13 (by omega))
  have JOy : Hid (NB w13 V7.heap.size w8.heap.size (.slice (some ⟨xy, 0, none⟩) l1.length l1.length) l1) := HOy.out.keep (Keep.of_below hb13 (by omega))
  have JIg : Hid (IntsR w13 w8.heap.size w9.heap.size sg ll) := HIg.out.keep (Keep.of_below hb13 (by omega))
  have JGg : Hid (NB w13 w8.heap.size w9.heap.size (.slice sg ll.length cg) ll) := HGg.out.keep (Keep.of_below hb13 (by omega))
  clear HK
  have HK := JK
  clear JK
  clear HA
  have HA := JA
  clear JA
  clear HIw
  have HIw := JIw
  clear JIw
  clear HRx
  have HRx := JRx
  clear JRx
  clear HOx
  have HOx := JOx
  clear JOx
  clear HXx
  have HXx := JXx
  clear JXx
  clear HRy
  have HRy := JRy
  clear JRy
  clear HOy
  have HOy := JOy
  clear JOy
  clear HIg
  have HIg := JIg
  clear JIg
  clear HGg
  have HGg := JGg
  clear JGg
  have HRd : Hid (IntsR w13 w12.heap.size w13.heap.size (some ⟨xd, 0, none⟩) l1) := ownN_intsR ho13
  clear hb13 ho13
  obtain ⟨Ac0⟩ := HA.out
  have Az : w.heap.size < w13.heap.size := by omega
  obtain ⟨Xxc0⟩ := HXx.out
  have Xxz : w6.heap.size < w13.heap.size := by omega
  go_wp2_with fail
  refine (eqN_true _ _ HRy.out HRd.out (by omega) (by omega) (by omega)).mono ?_
  rintro e w14 ⟨rfl, hb14⟩
  have z14 := hb14.size
  clear Ac0 Az
  clear Xxc0 Xxz
  have JK : Hid (Below w.heap.size w w14) := HK.out.trans (hb14.mono (by omega))
  have JA : Hid (Bo1 w.heap.size w14 (.slice s0 l0.length c0)) := HA.out.keep (Keep.of_below hb14 (by omega))
  have JIw : Hid (IntsR w14 w4.heap.size w5.heap.size sw ll) := HIw.out.keep (Keep.of_below hb14 (by omega))
  have JRx : Hid (MemR w14 w5.heap.size w6.heap.size (some ⟨xx, 0, none⟩) l0) := HRx.out.keep (Keep.of_below hb14 (by omega))
  have JOx : Hid (MO w14 w5.heap.size w6.heap.size (some ⟨xx, 0, none⟩) Sx l0) := HOx.out.keep (Keep.of_below hb14 (by omega))
  have JXx : Hid (Bo1 w6.heap.size w14 (.slice (some ⟨xx, 0, none⟩) l0.length l0.length)) := HXx.out.keep (Keep.of_below hb14 (by omega))
  have JRy : Hid (IntsR w14 V7.heap.size w8.heap.size (some ⟨xy, 0, none⟩) l1) := HRy.out.keep (Keep.of_below hb14 (by omega))
  have JOy : Hid (NB w14 V7.heap.size w8.heap.size (.slice (some ⟨xy, 0, none⟩) l1.length l1.length) l1) := HOy.out.keep (Keep.of_below hb14 (by omega))
  have JIg : Hid (IntsR w14 w8.heap.size w9.heap.size sg ll) := HIg.out.keep (Keep.of_below hb14 (by omega))
  have JGg : Hid (NB w14 w8.heap.size w9.heap.size (.slice sg ll.length cg) ll) := HGg.out.keep (Keep.of_below hb14 (by omega))
  have JRd : Hid (IntsR w14 w12.heap.size w13.heap.size (some ⟨xd, 0, none⟩) l1) := HRd.out.keep (Keep.of_below hb14 (by omega))
  clear HK
  have HK := JK
  clear JK
  clear HA
  have HA := JA
  clear JA
  clear HIw
  have HIw := JIw
  clear JIw
  clear HRx
  have HRx := JRx
  clear JRx
  clear HOx
  have HOx := JOx
  clear JOx
  clear HXx
  have HXx := JXx
  clear JXx
  clear HRy
  have HRy := JRy
  clear JRy
  clear HOy
  have HOy := JOy
  clear JOy
  clear HIg
  have HIg := JIg
  clear JIg
  clear HGg
  have HGg := JGg
  clear JGg
  clear HRd
  have HRd := JRd
  clear JRd
  clear hb14
  obtain ⟨Ac0⟩ := HA.out
  have Az : w.heap.size < w14.heap.size := by omega
  obtain ⟨Xxc0⟩ := HXx.out
  have Xxz : w6.heap.size < w14.heap.size := by omega
  go_wp2_with fail
  clear HRd
  refine (markMemory_exc _ Sx l0 _ w5.heap.size w6.heap.size 1 w14 HOx.out (by omega) F1.out (by omega) (by omega)).mono ?_
  rintro e w15 ⟨rfl, -, ex15⟩
  have z15 := ex15.size
  clear Ac0 Az
  clear Xxc0 Xxz
  have JK : Hid (Below w.heap.size w w15) := HK.out.trans (ex15.below (by omega) (by omega))
  have JA : Hid (Bo1 w.heap.size w15 (.slice s0 l0.length c0)) := HA.out.keep (Keep.of_exc ex15 (by omega) (by omega))
  have JIw : Hid (IntsR w15 w4.heap.size w5.heap.size sw ll) := HIw.out.keep (Keep.of_exc ex15 (by omega) (by omega))
  have JXx : Hid (Bo1 w6.heap.size w15 (.slice (some ⟨xx, 0, none⟩) l0.length l0.length)) := HXx.out.keep (Keep.of_exc ex15 (by omega) (by omega))
  have JRy : Hid (IntsR w15 V7.heap.size w8.heap.size (some ⟨xy, 0, none⟩) l1) := HRy.out.keep (Keep.of_exc ex15 (by omega) (by omega))
  have JOy : Hid (NB w15 V7.heap.size w8.heap.size (.slice (some ⟨xy, 0, none⟩) l1.length l1.length) l1) := HOy.out.keep (Keep.of_exc ex15 (by omega) (by omega))
  have JIg : Hid (IntsR w15 w8.heap.size w9.heap.size sg ll) := HIg.out.keep (Keep.of_exc ex15 (by omega) (by omega))
  have JGg : Hid (NB w15 w8.heap.size w9.heap.size (.slice sg ll.length cg) ll) := HGg.out.keep (Keep.of_exc ex15 (by omega) (by omega))
  clear HK
  have HK := JK
  clear JK
  clear HA
  have HA := JA
  clear JA
  clear HIw
  have HIw := JIw
  clear JIw
  clear HRx
  clear HOx
  clear HXx
  have HXx := JXx
  clear JXx
  clear HRy
  have HRy := JRy
  clear JRy
  clear HOy
  have HOy := JOy
  clear JOy
  clear HIg
  have HIg := JIg
  clear JIg
  clear HGg
  have HGg := JGg
  clear JGg
  clear ex15
  obtain ⟨Ac0⟩ := HA.out
  have Az : w.heap.size < w15.heap.size := by omega
  obtain ⟨Xxc0⟩ := HXx.out
  have Xxz : w6.heap.size < w15.heap.size := by omega
  go_wp2_with fail
  refine (markN_exc (1 + (szR l0 : Int)) HOy.out (by omega) (by omega) (by have := F1.out; omega)).mono ?_
  rintro e w16 ⟨rfl, -, ex16⟩
  have z16 := ex16.size
  clear Ac0 Az
  clear Xxc0 Xxz
  have JK : Hid (Below w.heap.size w w16) := HK.out.trans (ex16.below (by omega) (by omega))
  have JA : Hid (Bo1 w.heap.size w16 (.slice s0 l0.length c0)) := HA.out.keep (Keep.of_exc ex16 (by omega) (by omega))
  have JIw : Hid (IntsR w16 w4.heap.size w5.heap.size sw ll) := HIw.out.keep (Keep.of_exc ex16 (by omega) (by omega))
  have JXx : Hid (Bo1 w6.heap.size w16 (.slice (some ⟨xx, 0, none⟩) l0.length l0.length)) := HXx.out.keep (Keep.of_exc ex16 (by omega) (by omega))
  have JIg : Hid (IntsR w16 w8.heap.size w9.heap.size sg ll) := HIg.out.keep (Keep.of_exc ex16 (by omega) (by omega))
  have JGg : Hid (NB w16 w8.heap.size w9.heap.size (.slice sg ll.length cg) ll) := HGg.out.keep (Keep.of_exc ex16 (by omega) (by omega))
  clear HK
  have HK := JK
  clear JK
  clear HA
  have HA := JA
  clear JA
  clear HIw
  have HIw := JIw
  clear JIw
  clear HXx
  have HXx := JXx
  clear JXx
  clear HRy
  clear HOy
  clear HIg
  have HIg := JIg
  clear JIg
  clear HGg
  have HGg := JGg
  clear JGg
  clear ex16
  obtain ⟨Ac0⟩ := HA.out
  have Az : w.heap.size < w16.heap.size := by omega
  obtain ⟨Xxc0⟩ := HXx.out
  have Xxz : w6.heap.size < w16.heap.size := by omega
  have hmk : ¬ (1 : Int) + (szR l0 : Int) + (l1.length : Int) < 0 := by omega
  go_wp2_with fail
  refine (eqN_true cg cw HIg.out HIw.out (by omega) (by omega) hL).mono ?_
  rintro e w17 ⟨rfl, hb17⟩
  have z17 := hb17.size
  clear Ac0 Az
  clear Xxc0 Xxz
  have JK : Hid (Below w.heap.size w w17) := HK.out.trans (hb17.mono (by omega))
  have JA : Hid (Bo1 w.heap.size w17 (.slice s0 l0.length c0)) := HA.out.keep (Keep.of_below hb17 (by omega))
  have JIw : Hid (IntsR w17 w4.heap.size w5.heap.size sw ll) := HIw.out.keep (Keep.of_below hb17 (by omega))
  have JXx : Hid (Bo1 w6.heap.size w17 (.slice (some ⟨xx, 0, none⟩) l0.length l0.length)) := HXx.out.keep (Keep.of_below hb17 (by omega))
  have JIg : Hid (IntsR w17 w8.heap.size w9.heap.size sg ll) := HIg.out.keep (Keep.of_below hb17 (by omega))
  have JGg : Hid (NB w17 w8.heap.size w9.heap.size (.slice sg ll.length cg) ll) := HGg.out.keep (Keep.of_below hb17 (by omega))
  clear HK
  have HK := JK
  clear JK
  clear HA
  have HA := JA
  clear JA
  clear HIw
  have HIw := JIw
  clear JIw
  clear HXx
  have HXx := JXx
  clear JXx
  clear HIg
  have HIg := JIg
  clear JIg
  clear HGg
  have HGg := JGg
  clear JGg
  clear hb17
  obtain ⟨Ac0⟩ := HA.out
  have Az : w.heap.size < w17.heap.size := by omega
  obtain ⟨Xxc0⟩ := HXx.out
  have Xxz : w6.heap.size < w17.heap.size := by omega
  go_wp2_with fail
  refine (markN_exc 1 HGg.out hL (by omega) (by omega)).mono ?_
  rintro e w18 ⟨rfl, hm18, ex18⟩
  have z18 := ex18.size
  clear Ac0 Az
  clear Xxc0 Xxz
  have JK : Hid (Below w.heap.size w w18) := HK.out.trans (ex18.below (by omega) (by omega))
  have JA : Hid (Bo1 w.heap.size w18 (.slice s0 l0.length c0)) := HA.out.keep (Keep.of_exc ex18 (by omega) (by omega))
  have JIw : Hid (IntsR w18 w4.heap.size w5.heap.size sw ll) := HIw.out.keep (Keep.of_exc ex18 (by omega) (by omega))
  have JXx : Hid (Bo1 w6.heap.size w18 (.slice (some ⟨xx, 0, none⟩) l0.length l0.length)) := HXx.out.keep (Keep.of_exc ex18 (by omega) (by omega))
  clear HK
  have HK := JK
  clear JK
  clear HA
  have HA := JA
  clear JA
  clear HIw
  have HIw := JIw
  clear JIw
  clear HXx
  have HXx := JXx
  clear JXx
  clear HIg
  clear HGg
  have HD : Hid (NB w18 w8.heap.size w9.heap.size (.slice sg ll.length cg) (relN 1 ll.length)) := hm18
  clear ex18 hm18
  obtain ⟨Ac0⟩ := HA.out
  have Az : w.heap.size < w18.heap.size := by omega
  obtain ⟨Xxc0⟩ := HXx.out
  have Xxz : w6.heap.size < w18.heap.size := by omega
  go_wp2_with fail
  refine (heldN_any w8.heap.size _ _ 1 w18 HD.out.o hL (by omega) (by omega)).mono ?_
  rintro e w19 ⟨rfl, hw19⟩
  subst w19
  go_wp2_with fail
  refine (toMemory_own s0 c0 0 w.heap.size l0 w18 (HA0.out.keep (Keep.of_below HK.out (Nat.le_refl _))) (by omega) FM0.out).mono ?_
  rintro e w20 ⟨xe, Se, rfl, ho20, hb20, z20⟩
  clear Ac0 Az
  clear Xxc0 Xxz
  have JK : Hid (Below w.heap.size w w20) := HK.out.trans (hb20.mono (by omega))
  have JA : Hid (Bo1 w.heap.size w20 (.slice s0 l0.length c0)) := HA.out.keep (Keep.of_below hb20 (by omega))
  have JIw : Hid (IntsR w20 w4.heap.size w5.heap.size sw ll) := HIw.out.keep (Keep.of_below hb20 (by omega))
  have JXx : Hid (Bo1 w6.heap.size w20 (.slice (some ⟨xx, 0, none⟩) l0.length l0.length)) := HXx.out.keep (Keep.of_below hb20 (by omega))
  have JD : Hid (NB w20 w8.heap.size w9.heap.size (.slice sg ll.length cg) (relN 1 ll.length)) := HD.out.keep (Keep.of_below hb20 (by omega))
  clear HK
  have HK := JK
  clear JK
  clear HA
  have HA := JA
  clear JA
  clear HIw
  have HIw := JIw
  clear JIw
  clear HXx
  have HXx := JXx
  clear JXx
  clear HD
  have HD := JD
  clear JD
  have HRe : Hid (MemR w20 w18.heap.size w20.heap.size (some ⟨xe, 0, none⟩) l0) := ho20.mem
  clear hb20 ho20
  obtain ⟨Ac0⟩ := HA.out
  have Az : w.heap.size < w20.heap.size := by omega
  obtain ⟨Xxc0⟩ := HXx.out
  have Xxz : w6.heap.size < w20.heap.size := by omega
  go_wp2_with fail
  clear Ac0 Az
  clear Xxc0 Xxz
  refine (toIntS_ex s1 c1 0 w.heap.size l1 w20 (HA1.out.keep (Keep.of_below HK.out (Nat.le_refl _))) (by omega) n1).mono ?_
  rintro e w21 ⟨xf, rfl, ho21, hb21, z21⟩
  have zz21 := hb21.size
  have JK : Hid (Below w.heap.size w w21) := HK.out.trans (hb21.mono (by omega))
  have JA : Hid (Bo1 w.heap.size w21 (.slice s0 l0.length c0)) := HA.out.keep (Keep.of_below hb21 (by omega))
  have JIw : Hid (IntsR w21 w4.heap.size w5.heap.size sw ll) := HIw.out.keep (Keep.of_below hb21 (by omega))
  have JXx : Hid (Bo1 w6.heap.size w21 (.slice (some ⟨xx, 0, none⟩) l0.length l0.length)) := HXx.out.keep (Keep.of_below hb21 (by omega))
  have JD : Hid (NB w21 w8.heap.size w9.heap.size (.slice sg ll.length cg) (relN 1 ll.length)) := HD.out.keep (Keep.of_below hb21 (by omega))
  have JRe : Hid (MemR w21 w18.heap.size w20.heap.size (some ⟨xe, 0, none⟩) l0) := HRe.out.keep (Keep.of_below hb21 (by omega))
  clear HK
  have HK := JK
  clear JK
  clear HA
  have HA := JA
  clear JA
  clear HIw
  have HIw := JIw
  clear JIw
  clear HXx
  have HXx := JXx
  clear JXx
  clear HD
  have HD := JD
  clear JD
  clear HRe
  have HRe := JRe
  clear JRe
  have HRf : Hid (IntsR w21 w20.heap.size w21.heap.size (some ⟨xf, 0, none⟩) l1) := ownN_intsR ho21
  clear hb21 ho21
  obtain ⟨Ac0⟩ := HA.out
  have Az : w.heap.size < w21.heap.size := by omega
  obtain ⟨Xxc0⟩ := HXx.out
  have Xxz : w6.heap.size < w21.heap.size := by omega
  go_wp2_with fail
  refine (implLoad_any _ _ _ _ _ _ _ _ l0 l1 l2 l3 l4 w21 HRe.out HRf.out (by omega) (by omega) (by omega) F1.out hb3).mono ?_
  rintro e w22 ⟨u22, rfl, ho22, hb22⟩
  rw [HLL.out] at ho22
  rw [HZV.out]
  have z22 := hb22.size
  clear Ac0 Az
  clear Xxc0 Xxz
  have JK : Hid (Below w.heap.size w w22) := HK.out.trans (hb22.mono (by omega))
  have JA : Hid (Bo1 w.heap.size w22 (.slice s0 l0.length c0)) := HA.out.keep (Keep.of_below hb22 (by omega))
  have JIw : Hid (IntsR w22 w4.heap.size w5.heap.size sw ll) := HIw.out.keep (Keep.of_below hb22 (by omega))
  have JXx : Hid (Bo1 w6.heap.size w22 (.slice (some ⟨xx, 0, none⟩) l0.length l0.length)) := HXx.out.keep (Keep.of_below hb22 (by omega))
  have JD : Hid (NB w22 w8.heap.size w9.heap.size (.slice sg ll.length cg) (relN 1 ll.length)) := HD.out.keep (Keep.of_below hb22 (by omega))
  have JRe : Hid (MemR w22 w18.heap.size w20.heap.size (some ⟨xe, 0, none⟩) l0) := HRe.out.keep (Keep.of_below hb22 (by omega))
  have JRf : Hid (IntsR w22 w20.heap.size w21.heap.size (some ⟨xf, 0, none⟩) l1) := HRf.out.keep (Keep.of_below hb22 (by omega))
  clear HK
  have HK := JK
  clear JK
  clear HA
  have HA := JA
  clear JA
  clear HIw
  have HIw := JIw
  clear JIw
  clear HXx
  have HXx := JXx
  clear JXx
  clear HD
  have HD := JD
  clear JD
  clear HRe
  have HRe := JRe
  clear JRe
  clear HRf
  have HRf := JRf
  clear JRf
  obtain ⟨sh, ch, rfl, hi22, hn22⟩ := NB.ints ho22
  have HIh : Hid (IntsR w22 w21.heap.size w22.heap.size sh ll) := hi22
  clear hb22 ho22 hi22 hn22
  obtain ⟨Ac0⟩ := HA.out
  have Az : w.heap.size < w22.heap.size := by omega
  obtain ⟨Xxc0⟩ := HXx.out
  have Xxz : w6.heap.size < w22.heap.size := by omega
  go_wp2_with fail
  refine (eqN_true ch cw HIh.out HIw.out (by omega) (by omega) hL).mono ?_
  rintro e w23 ⟨rfl, hb23⟩
  have z23 := hb23.size
  clear Ac0 Az
  clear Xxc0 Xxz
  have JK : Hid (Below w.heap.size w w23) := HK.out.trans (hb23.mono (by omega))
  have JA : Hid (Bo1 w.heap.size w23 (.slice s0 l0.length c0)) := HA.out.keep (Keep.of_below hb23 (by omega))
  have JIw : Hid (IntsR w23 w4.heap.size w5.heap.size sw ll) := HIw.out.keep (Keep.of_below hb23 (by omega))
  have JXx : Hid (Bo1 w6.heap.size w23 (.slice (some ⟨xx, 0, none⟩) l0.length l0.length)) := HXx.out.keep (Keep.of_below hb23 (by omega))
  have JD : Hid (NB w23 w8.heap.size w9.heap.size (.slice sg ll.length cg) (relN 1 ll.length)) := HD.out.keep (Keep.of_below hb23 (by omega))
  have JRe : Hid (MemR w23 w18.heap.size w20.heap.size (some ⟨xe, 0, none⟩) l0) := HRe.out.keep (Keep.of_below hb23 (by omega))
  have JRf : Hid (IntsR w23 w20.heap.size w21.heap.size (some ⟨xf, 0, none⟩) l1) := HRf.out.keep (Keep.of_below hb23 (by omega))
  have JIh : Hid (IntsR w23 w21.heap.size w22.heap.size sh ll) := HIh.out.keep (Keep.of_below hb23 (by omega))
  clear HK
  have HK := JK
  clear JK
  clear HA
  have HA := JA
  clear JA
  clear HIw
  have HIw := JIw
  clear JIw
  clear HXx
  have HXx := JXx
  clear JXx
  clear HD
  have HD := JD
  clear JD
  clear HRe
  have HRe := JRe
  clear JRe
  clear HRf
  have HRf := JRf
  clear JRf
  clear HIh
  have HIh := JIh
  clear JIh
  clear hb23
  obtain ⟨Ac0⟩ := HA.out
  have Az : w.heap.size < w23.heap.size := by omega
  obtain ⟨Xxc0⟩ := HXx.out
  have Xxz : w6.heap.size < w23.heap.size := by omega
  go_wp2_with fail
  refine (heldN_any w8.heap.size _ _ 1 w23 HD.out.o hL (by omega) (by omega)).mono ?_
  rintro e w24 ⟨rfl, hw24⟩
  subst w24
  go_wp2
  go_ret
  exact ⟨rfl, HK.out⟩

set_option maxRecDepth 100000 in
theorem liftedExactLoad (os : Os) (started : os.Started) (H : Type) (enc : TypeId × Value → H) :
    ReturnsInHanded {} Try.checked os 8 .any (Rows.fnExactLoadSpec.pre6 enc Try.prog Try.f8 Rows.fnExactLoadRow.domain false) (Rows.fnExactLoadSpec.post enc Try.prog Try.f8 false true false false) := by
  refine returnsInHanded_of_change (C := Try.checked) ownP started (by kernel_rfl) Try.func8
    (ChangeSpec.witness6 (enc := enc) (C := Try.checked) false ⟨#[], #[.agg #[.slice none 0 0], .slice none 0 0, .int .i64 0, .int .i64 0, .bool false], []⟩ 8 (by kernel_rfl) (by kernel_rfl) (by kernel_rfl) (by kernel_rfl)) ?_
  intro W base args ds gs before hval0 hW hcnd _
  have hval : ∀ (j : Nat) t v, Try.f8.params[j]? = some t → args[j]? = some v → Value.okWide Try.prog W .any base t v := hval0
  have hW' := hW
  obtain ⟨p, q, hA0, hV, rfl, hfz, hnd⟩ := hW
  have hA : DataW.TrodAll enc Try.prog W 0 (fun _ => true) true Try.f8.params.toList args.toList ds p := hA0
  rw [Try.params8] at hA hval
  obtain ⟨v0, v1, v2, v3, v4, d0, d1, d2, d3, d4, p0, p1, p2, p3, p4, hargs, rfl, rfl, h0, h1, h2, h3, h4⟩ := trodAll_five hA
  obtain rfl : args = #[v0, v1, v2, v3, v4] := by cases args; simp_all
  obtain ⟨rfl, rfl⟩ := trodVars_none hV
  have k0 := h0
  have lt0 : ∀ x ∈ p0, x.block < W.heap.size := by obtain ⟨m, hm⟩ := k0; exact DataW.trod_lt m _ _ _ hm
  have k1 := h1
  have lt1 : ∀ x ∈ p1, x.block < W.heap.size := by obtain ⟨m, hm⟩ := k1; exact DataW.trod_lt m _ _ _ hm
  have k2 := h2
  have lt2 : ∀ x ∈ p2, x.block < W.heap.size := by obtain ⟨m, hm⟩ := k2; exact DataW.trod_lt m _ _ _ hm
  have k3 := h3
  have lt3 : ∀ x ∈ p3, x.block < W.heap.size := by obtain ⟨m, hm⟩ := k3; exact DataW.trod_lt m _ _ _ hm
  have k4 := h4
  have lt4 : ∀ x ∈ p4, x.block < W.heap.size := by obtain ⟨m, hm⟩ := k4; exact DataW.trod_lt m _ _ _ hm
  obtain ⟨s0, c0, l0, rfl, m0, hR0⟩ := open_mem (hval 0 24 v0 rfl rfl) h0
  obtain ⟨s1, c1, l1, rfl, m1, hR1⟩ := open_intS (hval 1 25 v1 rfl rfl) h1
  obtain ⟨l2, rfl, -, -, hwf2⟩ := open_int Try.underlying3 (hval 2 3 v2 rfl rfl) h2
  obtain ⟨l3, rfl, -, -, hwf3⟩ := open_int Try.underlying3 (hval 3 3 v3 rfl rfl) h3
  obtain ⟨l4, rfl, -, -⟩ := open_bool Try.underlying4 (hval 4 4 v4 rfl rfl) h4
  clear hA0 hval0
  refine (walkExactLoad s0 c0 l0 s1 c1 l1 l2 l3 l4 W hR0 m0 hR1 m1 hwf2 hwf3 ).mono fun e W' ⟨he, bel⟩ => ?_
  subst he
  exact ⟨_, rfl, _, _, _, [], _, [], hW', trodAll_mk1 (shut_bool Try.underlying4 _), trodAll_mk5 (Below.trod laidOutP (by kernel_rfl) (of_decide_eq_true (by kernel_rfl)) k0 bel lt0) (Below.trod laidOutP (by kernel_rfl) (of_decide_eq_true (by kernel_rfl)) k1 bel lt1) (Below.trod laidOutP (by kernel_rfl) (of_decide_eq_true (by kernel_rfl)) k2 bel lt2) (Below.trod laidOutP (by kernel_rfl) (of_decide_eq_true (by kernel_rfl)) k3 bel lt3) (Below.trod laidOutP (by kernel_rfl) (of_decide_eq_true (by kernel_rfl)) k4 bel lt4), rfl, bel.frame _, fun h => by cases h⟩

theorem fnExactLoad_holds : Rows.FnExactLoadSaid :=
  OpenClaim.holds_of_wide 8 Try.f8 rfl rfl rfl rfl rfl rfl rfl ⟨rfl, rfl, rfl, rfl, rfl⟩ rfl rfl rfl rfl rfl (by kernel_rfl) Try.func8 (by kernel_rfl)
    (of_decide_eq_true (by kernel_rfl)) (by unfold Func.isWrapper; first | (rw [if_pos (by decide +kernel)]; kernel_rfl) | (rw [if_neg (by decide +kernel)]; exact ⟨rfl, rfl⟩))
    (fun os started H enc _ => liftedExactLoad os started H enc)
#print axioms fnExactLoad_holds

end Go.Proofs.Ytopopoahmkfdkaa
