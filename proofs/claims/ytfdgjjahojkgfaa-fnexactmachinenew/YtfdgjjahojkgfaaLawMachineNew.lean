/- The law FnExactMachineNew of the given statements: at every argument MachineNew of the program answers as the specification's, writes into no argument and keeps nothing of one; its answer owns its memory. No condition. -/
import Derived.Test.YtfdgjjahojkgfaaKFrame
import Derived.Test.YtfdgjjahojkgfaaKMach
import Derived.Test.YtfdgjjahojkgfaaKEq
import Derived.Test.YtfdgjjahojkgfaaKMark
import Derived.Test.YtfdgjjahojkgfaaKNewI
import Derived.Test.YtfdgjjahojkgfaaKNewS
import Derived.Deep.RegionHeld3
namespace Go.Proofs.Ytfdgjjahojkgfaa
set_option linter.unusedSimpArgs false
set_option linter.unusedVariables false
set_option maxRecDepth 100000
open Go.ChangeShapes Go.WideShapes Go.ChangeAt Go.RowKit Go.Deep

theorem toStepSS_ex (s : Option Addr) (c lo hi : Nat) (m : List (List I5)) (w : World) (h : CsR w lo hi s m) (hB : hi ≤ w.heap.size) (hl : m.length + szC m ≤ 1048576) :
    Calls Try.prog 12 #[.slice s m.length c] w fun e w' => ∃ G R, e = .returned (.slice (some ⟨G, 0, none⟩) m.length m.length) ∧ GO w' w.heap.size w'.heap.size (some ⟨G, 0, none⟩) TC R (m.map codeV) ∧ Below w.heap.size w w' ∧ w.heap.size < w'.heap.size := by
  refine (toStepSS_own s c lo hi m w h hB hl).mono ?_
  rintro e w' ⟨R, rfl, a, b, z⟩
  exact ⟨_, R, rfl, a, b, z⟩
theorem markCodes (so : Option Addr) (R : List (List FS)) (l : List (List I5)) (c lo hi : Nat) (w : World) (h : GO w lo hi so TC R (l.map codeV)) (hl : l.length + szC l ≤ 1048576) :
    Calls Try.prog 15 #[.slice so l.length c, .int .i64 1] w fun e w' => ∃ N : Nat, e = .returned (.int .i64 (1 + N)) ∧ Exc lo hi w w' := by
  have nc : R.length = l.length := by have := h.n; simpa using this
  have sz := cs_sz (w := w) (lo := lo) (hi := hi) (s := so) R l 0 nc h.csAt
  have C := markCs_any so R c lo hi 1 w h.sh (by omega) (by omega) (by omega) (by omega)
  rw [nc] at C
  refine C.mono ?_
  rintro e w' ⟨rfl, hw⟩
  exact ⟨_, rfl, hw.exc (fun a ha => h.blk ha)⟩

set_option maxRecDepth 100000 in
set_option maxHeartbeats 8000000 in
theorem walkExactMachineNew (s1 : Option Addr) (c1 : Nat) (l : List (List I5)) (w : World) (h0 : CsR w 0 w.heap.size s1 l) (m0 : l.length ≤ maxLen) (m1 : ∀ (i : Nat) (x : List I5), l[i]? = some x → x.length ≤ maxLen) :
    Calls Try.prog 4 #[.slice s1 l.length c1] w fun e w' => e = .returned (.bool true) ∧ Below w.heap.size w w' := by
  have HA0 : Hid (CsR w 0 w.heap.size s1 l) := h0
  have HM0 : Hid (l.length ≤ maxLen) := m0
  have HM1 : Hid (∀ (i : Nat) (x : List I5), l[i]? = some x → x.length ≤ maxLen) := m1
  clear h0 m0 m1
  go_enter Try.func4, Try.ntmps4
  go_wp2_with fail
  have HK : Hid (Below w.heap.size w w) := Below.refl _ _
  refine (szStepSS_any s1 c1 0 w.heap.size l 1048576 w HA0.out (Nat.le_refl _) HM0.out HM1.out (by omega) (by omega)).mono ?_
  rintro e w1 ⟨⟨u, rfl, hu⟩, hb1⟩
  have z1 := hb1.size
  have JK : Hid (Below w.heap.size w w1) := HK.out.trans (hb1.mono (by omega))
  clear HK
  have HK := JK
  clear JK
  clear hb1
  rcases hu with hu | ⟨hu, hf⟩
  · go_wp2
    go_ret
    exact ⟨rfl, HK.out⟩
  have hun : ¬ u < 0 := by omega
  have FL : Hid (l.length + szC l ≤ 1048576) := by show _ ≤ _; omega
  clear hf
  obtain ⟨d, hd⟩ : ∃ d, newMa l = d := ⟨_, rfl⟩
  obtain ⟨bb, hbb⟩ : ∃ b, codesB l = b := ⟨_, rfl⟩
  have FF : Hid (MaFits d) := by rw [← hd]; exact fits_newA FL.out
  have CI : Hid (∀ (s : Option Addr) (c lo hi : Nat) (w : World), CsR w lo hi s l → hi ≤ w.heap.size → Calls Try.prog 13 #[.slice s l.length c] w fun e w' => ∃ p : MP, e = .returned (.tuple #[.agg #[.slice p.s1 d.codes.length p.c1, .slice p.s2 d.cores.length p.c2, .slice p.s3 d.mem.length p.c3, .slice p.s4 d.tr.length p.c4], .bool bb]) ∧ MaO w' w.heap.size w'.heap.size p d ∧ Below w.heap.size w w') := fun s c lo hi w h hB => by have q := implMachNew_any s c lo hi l w h hB FL.out; rw [hd, hbb] at q; exact q
  have CS : Hid (∀ (s : Option Addr) (c lo hi : Nat) (w : World), CsR w lo hi s l → hi ≤ w.heap.size → Calls Try.prog 11 #[.slice s l.length c] w fun e w' => ∃ p : MP, e = .returned (.tuple #[.agg #[.slice p.s1 d.codes.length p.c1, .slice p.s2 d.cores.length p.c2, .slice p.s3 d.mem.length p.c3, .slice p.s4 d.tr.length p.c4], .bool bb]) ∧ MaO w' w.heap.size w'.heap.size p d ∧ Below w.heap.size w w') := fun s c lo hi w h hB => by have q := specMachNew_any s c lo hi l w h hB FL.out; rw [hd, hbb] at q; exact q
  have hbn : (bb != bb) = false := by simp
  clear hd hbb
  go_wp2_with fail
  refine (toStepSS_ex s1 c1 0 w.heap.size l w1 (HA0.out.keep (Keep.of_below HK.out (Nat.le_refl _))) (by omega) FL.out).mono ?_
  rintro e w2 ⟨xa, Ra, rfl, ho2, hb2, z2⟩
  have JK : Hid (Below w.heap.size w w2) := HK.out.trans (hb2.mono (by omega))
  clear HK
  have HK := JK
  clear JK
  have HRa : Hid (CsR w2 w1.heap.size w2.heap.size (some ⟨xa, 0, none⟩) l) := ho2.csR
  clear hb2 ho2
  go_wp2_with fail
  refine (CS.out _ _ _ _ w2 HRa.out (by omega)).mono ?_
  rintro e w3 ⟨xw, rfl, ho3, hb3⟩
  have z3 := hb3.size
  have JK : Hid (Below w.heap.size w w3) := HK.out.trans (hb3.mono (by omega))
  have JRa : Hid (CsR w3 w1.heap.size w2.heap.size (some ⟨xa, 0, none⟩) l) := HRa.out.keep (Keep.of_below hb3 (by omega))
  clear HK
  have HK := JK
  clear JK
  clear HRa
  have HRa := JRa
  clear JRa
  have HRw : Hid (MaR w3 w2.heap.size w3.heap.size xw.s1 xw.s2 xw.s3 xw.s4 d) := ho3.ma
  clear hb3 ho3
  go_wp2_with fail
  obtain ⟨V4, hV4, bx4, kb4, zb4⟩ := Bo4.new w3 (.slice xw.s1 d.codes.length xw.c1) (.slice xw.s2 d.cores.length xw.c2) (.slice xw.s3 d.mem.length xw.c3) (.slice xw.s4 d.tr.length xw.c4) 39
  rw [hV4]
  clear hV4
  have JK : Hid (Below w.heap.size w V4) := HK.out.trans (kb4.mono (by omega))
  have JRa : Hid (CsR V4 w1.heap.size w2.heap.size (some ⟨xa, 0, none⟩) l) := HRa.out.keep (Keep.of_below kb4 (by omega))
  have JRw : Hid (MaR V4 w2.heap.size w3.heap.size xw.s1 xw.s2 xw.s3 xw.s4 d) := HRw.out.keep (Keep.of_below kb4 (by omega))
  clear HK
  have HK := JK
  clear JK
  clear HRa
  have HRa := JRa
  clear JRa
  clear HRw
  have HRw := JRw
  clear JRw
  have HXw : Hid (Bo4 w3.heap.size V4 (.slice xw.s1 d.codes.length xw.c1) (.slice xw.s2 d.cores.length xw.c2) (.slice xw.s3 d.mem.length xw.c3) (.slice xw.s4 d.tr.length xw.c4)) := bx4
  clear bx4 kb4
  obtain ⟨Xwc0, Xwc1, Xwc2, Xwc3⟩ := HXw.out
  have Xwz : w3.heap.size < V4.heap.size := by omega
  clear HRa
  refine (toStepSS_ex s1 c1 0 w.heap.size l V4 (HA0.out.keep (Keep.of_below HK.out (Nat.le_refl _))) (by omega) FL.out).mono ?_
  rintro e w5 ⟨xx, Rx, rfl, ho5, hb5, z5⟩
  clear Xwc0 Xwc1 Xwc2 Xwc3 Xwz
  have JK : Hid (Below w.heap.size w w5) := HK.out.trans (hb5.mono (by omega))
  have JRw : Hid (MaR w5 w2.heap.size w3.heap.size xw.s1 xw.s2 xw.s3 xw.s4 d) := HRw.out.keep (Keep.of_below hb5 (by omega))
  have JXw : Hid (Bo4 w3.heap.size w5 (.slice xw.s1 d.codes.length xw.c1) (.slice xw.s2 d.cores.length xw.c2) (.slice xw.s3 d.mem.length xw.c3) (.slice xw.s4 d.tr.length xw.c4)) := HXw.out.keep (Keep.of_below hb5 (by omega))
  clear HK
  have HK := JK
  clear JK
  clear HRw
  have HRw := JRw
  clear JRw
  clear HXw
  have HXw := JXw
  clear JXw
  have HRx : Hid (CsR w5 V4.heap.size w5.heap.size (some ⟨xx, 0, none⟩) l) := ho5.csR
  have HOx : Hid (GO w5 V4.heap.size w5.heap.size (some ⟨xx, 0, none⟩) TC Rx (l.map codeV)) := ho5
  clear hb5 ho5
  obtain ⟨Xwc0, Xwc1, Xwc2, Xwc3⟩ := HXw.out
  have Xwz : w3.heap.size < w5.heap.size := by omega
  go_wp2_with fail
  refine (CI.out _ _ _ _ w5 HRx.out (by omega)).mono ?_
  rintro e w6 ⟨xg, rfl, ho6, hb6⟩
  have z6 := hb6.size
  clear Xwc0 Xwc1 Xwc2 Xwc3 Xwz
  have JK : Hid (Below w.heap.size w w6) := HK.out.trans (hb6.mono (by omega))
  have JRw : Hid (MaR w6 w2.heap.size w3.heap.size xw.s1 xw.s2 xw.s3 xw.s4 d) := HRw.out.keep (Keep.of_below hb6 (by omega))
  have JXw : Hid (Bo4 w3.heap.size w6 (.slice xw.s1 d.codes.length xw.c1) (.slice xw.s2 d.cores.length xw.c2) (.slice xw.s3 d.mem.length xw.c3) (.slice xw.s4 d.tr.length xw.c4)) := HXw.out.keep (Keep.of_below hb6 (by omega))
  have JRx : Hid (CsR w6 V4.heap.size w5.heap.size (some ⟨xx, 0, none⟩) l) := HRx.out.keep (Keep.of_below hb6 (by omega))
  have JOx : Hid (GO w6 V4.heap.size w5.heap.size (some ⟨xx, 0, none⟩) TC Rx (l.map codeV)) := HOx.out.keep (Keep.of_below hb6 (by omega))
  clear HK
  have HK := JK
  clear JK
  clear HRw
  have HRw := JRw
  clear JRw
  clear HXw
  have HXw := JXw
  clear JXw
  clear HRx
  have HRx := JRx
  clear JRx
  clear HOx
  have HOx := JOx
  clear JOx
  have HRg : Hid (MaR w6 w5.heap.size w6.heap.size xg.s1 xg.s2 xg.s3 xg.s4 d) := ho6.ma
  have HOg : Hid (MaSh w6 w5.heap.size w6.heap.size xg d) := ho6.sh
  clear hb6 ho6
  obtain ⟨Xwc0, Xwc1, Xwc2, Xwc3⟩ := HXw.out
  have Xwz : w3.heap.size < w6.heap.size := by omega
  go_wp2_with fail
  obtain ⟨V7, hV7, bx7, kb7, zb7⟩ := Bo4.new w6 (.slice xg.s1 d.codes.length xg.c1) (.slice xg.s2 d.cores.length xg.c2) (.slice xg.s3 d.mem.length xg.c3) (.slice xg.s4 d.tr.length xg.c4) 39
  rw [hV7]
  clear hV7
  clear Xwc0 Xwc1 Xwc2 Xwc3 Xwz
  have JK : Hid (Below w.heap.size w V7) := HK.out.trans (kb7.mono (by omega))
  have JRw : Hid (MaR V7 w2.heap.size w3.heap.size xw.s1 xw.s2 xw.s3 xw.s4 d) := HRw.out.keep (Keep.of_below kb7 (by omega))
  have JXw : Hid (Bo4 w3.heap.size V7 (.slice xw.s1 d.codes.length xw.c1) (.slice xw.s2 d.cores.length xw.c2) (.slice xw.s3 d.mem.length xw.c3) (.slice xw.s4 d.tr.length xw.c4)) := HXw.out.keep (Keep.of_below kb7 (by omega))
  have JRx : Hid (CsR V7 V4.heap.size w5.heap.size (some ⟨xx, 0, none⟩) l) := HRx.out.keep (Keep.of_below kb7 (by omega))
  have JOx : Hid (GO V7 V4.heap.size w5.heap.size (some ⟨xx, 0, none⟩) TC Rx (l.map codeV)) := HOx.out.keep (Keep.of_below kb7 (by omega))
  have JRg : Hid (MaR V7 w5.heap.size w6.heap.size xg.s1 xg.s2 xg.s3 xg.s4 d) := HRg.out.keep (Keep.of_below kb7 (by omega))
  have JOg : Hid (MaSh V7 w5.heap.size w6.heap.size xg d) := HOg.out.keep (Keep.of_below kb7 (by omega))
  clear HK
  have HK := JK
  clear JK
  clear HRw
  have HRw := JRw
  clear JRw
  clear HXw
  have HXw := JXw
  clear JXw
  clear HRx
  have HRx := JRx
  clear JRx
  clear HOx
  have HOx := JOx
  clear JOx
  clear HRg
  have HRg := JRg
  clear JRg
  clear HOg
  have HOg := JOg
  clear JOg
  have HXg : Hid (Bo4 w6.heap.size V7 (.slice xg.s1 d.codes.length xg.c1) (.slice xg.s2 d.cores.length xg.c2) (.slice xg.s3 d.mem.length xg.c3) (.slice xg.s4 d.tr.length xg.c4)) := bx7
  clear bx7 kb7
  obtain ⟨Xwc0, Xwc1, Xwc2, Xwc3⟩ := HXw.out
  have Xwz : w3.heap.size < V7.heap.size := by omega
  obtain ⟨Xgc0, Xgc1, Xgc2, Xgc3⟩ := HXg.out
  have Xgz : w6.heap.size < V7.heap.size := by omega
  refine (eqMachine_alike _ _ _ _ _ _ _ _ _ _ _ _ _ _ _ _ _ _ _ _ d V7 HRg.out HRw.out (by omega) (by omega) FF.out).mono ?_
  rintro e w8 ⟨rfl, hb8⟩
  have z8 := hb8.size
  clear Xwc0 Xwc1 Xwc2 Xwc3 Xwz
  clear Xgc0 Xgc1 Xgc2 Xgc3 Xgz
  have JK : Hid (Below w.heap.size w w8) := HK.out.trans (hb8.mono (by omega))
  have JRw : Hid (MaR w8 w2.heap.size w3.heap.size xw.s1 xw.s2 xw.s3 xw.s4 d) := HRw.out.keep (Keep.of_below hb8 (by omega))
  have JXw : Hid (Bo4 w3.heap.size w8 (.slice xw.s1 d.codes.length xw.c1) (.slice xw.s2 d.cores.length xw.c2) (.slice xw.s3 d.mem.length xw.c3) (.slice xw.s4 d.tr.length xw.c4)) := HXw.out.keep (Keep.of_below hb8 (by omega))
  have JRx : Hid (CsR w8 V4.heap.size w5.heap.size (some ⟨xx, 0, none⟩) l) := HRx.out.keep (Keep.of_below hb8 (by omega))
  have JOx : Hid (GO w8 V4.heap.size w5.heap.size (some ⟨xx, 0, none⟩) TC Rx (l.map codeV)) := HOx.out.keep (Keep.of_below hb8 (by omega))
  have JRg : Hid (MaR w8 w5.heap.size w6.heap.size xg.s1 xg.s2 xg.s3 xg.s4 d) := HRg.out.keep (Keep.of_below hb8 (by omega))
  have JOg : Hid (MaSh w8 w5.heap.size w6.heap.size xg d) := HOg.out.keep (Keep.of_below hb8 (by omega))
  have JXg : Hid (Bo4 w6.heap.size w8 (.slice xg.s1 d.codes.length xg.c1) (.slice xg.s2 d.cores.length xg.c2) (.slice xg.s3 d.mem.length xg.c3) (.slice xg.s4 d.tr.length xg.c4)) := HXg.out.keep (Keep.of_below hb8 (by omega))
  clear HK
  have HK := JK
  clear JK
  clear HRw
  have HRw := JRw
  clear JRw
  clear HXw
  have HXw := JXw
  clear JXw
  clear HRx
  have HRx := JRx
  clear JRx
  clear HOx
  have HOx := JOx
  clear JOx
  clear HRg
  have HRg := JRg
  clear JRg
  clear HOg
  have HOg := JOg
  clear JOg
  clear HXg
  have HXg := JXg
  clear JXg
  clear hb8
  obtain ⟨Xwc0, Xwc1, Xwc2, Xwc3⟩ := HXw.out
  have Xwz : w3.heap.size < w8.heap.size := by omega
  obtain ⟨Xgc0, Xgc1, Xgc2, Xgc3⟩ := HXg.out
  have Xgz : w6.heap.size < w8.heap.size := by omega
  go_wp2_with fail
  refine (toStepSS_ex s1 c1 0 w.heap.size l w8 (HA0.out.keep (Keep.of_below HK.out (Nat.le_refl _))) (by omega) FL.out).mono ?_
  rintro e w9 ⟨xb, Rb, rfl, ho9, hb9, z9⟩
  clear Xwc0 Xwc1 Xwc2 Xwc3 Xwz
  clear Xgc0 Xgc1 Xgc2 Xgc3 Xgz
  have JK : Hid (Below w.heap.size w w9) := HK.out.trans (hb9.mono (by omega))
  have JRw : Hid (MaR w9 w2.heap.size w3.heap.size xw.s1 xw.s2 xw.s3 xw.s4 d) := HRw.out.keep (Keep.of_below hb9 (by omega))
  have JXw : Hid (Bo4 w3.heap.size w9 (.slice xw.s1 d.codes.length xw.c1) (.slice xw.s2 d.cores.length xw.c2) (.slice xw.s3 d.mem.length xw.c3) (.slice xw.s4 d.tr.length xw.c4)) := HXw.out.keep (Keep.of_below hb9 (by omega))
  have JRx : Hid (CsR w9 V4.heap.size w5.heap.size (some ⟨xx, 0, none⟩) l) := HRx.out.keep (Keep.of_below hb9 (by omega))
  have JOx : Hid (GO w9 V4.heap.size w5.heap.size (some ⟨xx, 0, none⟩) TC Rx (l.map codeV)) := HOx.out.keep (Keep.of_below hb9 (by omega))
  have JRg : Hid (MaR w9 w5.heap.size w6.heap.size xg.s1 xg.s2 xg.s3 xg.s4 d) := HRg.out.keep (Keep.of_below hb9 (by omega))
  have JOg : Hid (MaSh w9 w5.heap.size w6.heap.size xg d) := HOg.out.keep (Keep.of_below hb9 (by omega))
  have JXg : Hid (Bo4 w6.heap.size w9 (.slice xg.s1 d.codes.length xg.c1) (.slice xg.s2 d.cores.length xg.c2) (.slice xg.s3 d.mem.length xg.c3) (.slice xg.s4 d.tr.length xg.c4)) := HXg.out.keep (Keep.of_below hb9 (by omega))
  clear HK
  have HK := JK
  clear JK
  clear HRw
  have HRw := JRw
  clear JRw
  clear HXw
  have HXw := JXw
  clear JXw
  clear HRx
  have HRx := JRx
  clear JRx
  clear HOx
  have HOx := JOx
  clear JOx
  clear HRg
  have HRg := JRg
  clear JRg
  clear HOg
  have HOg := JOg
  clear JOg
  clear HXg
  have HXg := JXg
  clear JXg
  have HRb : Hid (CsR w9 w8.heap.size w9.heap.size (some ⟨xb, 0, none⟩) l) := ho9.csR
  clear hb9 ho9
  obtain ⟨Xwc0, Xwc1, Xwc2, Xwc3⟩ := HXw.out
  have Xwz : w3.heap.size < w9.heap.size := by omega
  obtain ⟨Xgc0, Xgc1, Xgc2, Xgc3⟩ := HXg.out
  have Xgz : w6.heap.size < w9.heap.size := by omega
  go_wp2_with fail
  refine (eqStepSS_alike _ _ _ _ _ _ _ _ l w9 HRx.out HRb.out (by omega) (by omega) FL.out).mono ?_
  rintro e w10 ⟨rfl, hb10⟩
  have z10 := hb10.size
  clear Xwc0 Xwc1 Xwc2 Xwc3 Xwz
  clear Xgc0 Xgc1 Xgc2 Xgc3 Xgz
  have JK : Hid (Below w.heap.size w w10) := HK.out.trans (hb10.mono (by omega))
  have JRw : Hid (MaR w10 w2.heap.size w3.heap.size xw.s1 xw.s2 xw.s3 xw.s4 d) := HRw.out.keep (Keep.of_below hb10 (by omega))
  have JXw : Hid (Bo4 w3.heap.size w10 (.slice xw.s1 d.codes.length xw.c1) (.slice xw.s2 d.cores.length xw.c2) (.slice xw.s3 d.mem.length xw.c3) (.slice xw.s4 d.tr.length xw.c4)) := HXw.out.keep (Keep.of_below hb10 (by omega))
  have JRx : Hid (CsR w10 V4.heap.size w5.heap.size (some ⟨xx, 0, none⟩) l) := HRx.out.keep (Keep.of_below hb10 (by omega))
  have JOx : Hid (GO w10 V4.heap.size w5.heap.size (some ⟨xx, 0, none⟩) TC Rx (l.map codeV)) := HOx.out.keep (Keep.of_below hb10 (by omega))
  have JRg : Hid (MaR w10 w5.heap.size w6.heap.size xg.s1 xg.s2 xg.s3 xg.s4 d) := HRg.out.keep (Keep.of_below hb10 (by omega))
  have JOg : Hid (MaSh w10 w5.heap.size w6.heap.size xg d) := HOg.out.keep (Keep.of_below hb10 (by omega))
  have JXg : Hid (Bo4 w6.heap.size w10 (.slice xg.s1 d.codes.length xg.c1) (.slice xg.s2 d.cores.length xg.c2) (.slice xg.s3 d.mem.length xg.c3) (.slice xg.s4 d.tr.length xg.c4)) := HXg.out.keep (Keep.of_below hb10 (by omega))
  have JRb : Hid (CsR w10 w8.heap.size w9.heap.size (some ⟨xb, 0, none⟩) l) := HRb.out.keep (Keep.of_below hb10 (by omega))
  clear HK
  have HK := JK
  clear JK
  clear HRw
  have HRw := JRw
  clear JRw
  clear HXw
  have HXw := JXw
  clear JXw
  clear HRx
  have HRx := JRx
  clear JRx
  clear HOx
  have HOx := JOx
  clear JOx
  clear HRg
  have HRg := JRg
  clear JRg
  clear HOg
  have HOg := JOg
  clear JOg
  clear HXg
  have HXg := JXg
  clear JXg
  clear HRb
  have HRb := JRb
  clear JRb
  clear hb10
  clear HRb
  obtain ⟨Xwc0, Xwc1, Xwc2, Xwc3⟩ := HXw.out
  have Xwz : w3.heap.size < w10.heap.size := by omega
  obtain ⟨Xgc0, Xgc1, Xgc2, Xgc3⟩ := HXg.out
  have Xgz : w6.heap.size < w10.heap.size := by omega
  go_wp2_with fail
  refine (markCodes _ _ l _ _ _ w10 HOx.out FL.out).mono ?_
  rintro e w11 ⟨N, rfl, ex11⟩
  have z11 := ex11.size
  have hN : ¬ 1 + (N : Int) < 0 := by omega
  clear Xwc0 Xwc1 Xwc2 Xwc3 Xwz
  clear Xgc0 Xgc1 Xgc2 Xgc3 Xgz
  have JK : Hid (Below w.heap.size w w11) := HK.out.trans (ex11.below (by omega) (by omega))
  have JRw : Hid (MaR w11 w2.heap.size w3.heap.size xw.s1 xw.s2 xw.s3 xw.s4 d) := HRw.out.keep (Keep.of_exc ex11 (by omega) (by omega))
  have JXw : Hid (Bo4 w3.heap.size w11 (.slice xw.s1 d.codes.length xw.c1) (.slice xw.s2 d.cores.length xw.c2) (.slice xw.s3 d.mem.length xw.c3) (.slice xw.s4 d.tr.length xw.c4)) := HXw.out.keep (Keep.of_exc ex11 (by omega) (by omega))
  have JRg : Hid (MaR w11 w5.heap.size w6.heap.size xg.s1 xg.s2 xg.s3 xg.s4 d) := HRg.out.keep (Keep.of_exc ex11 (by omega) (by omega))
  have JOg : Hid (MaSh w11 w5.heap.size w6.heap.size xg d) := HOg.out.keep (Keep.of_exc ex11 (by omega) (by omega))
  have JXg : Hid (Bo4 w6.heap.size w11 (.slice xg.s1 d.codes.length xg.c1) (.slice xg.s2 d.cores.length xg.c2) (.slice xg.s3 d.mem.length xg.c3) (.slice xg.s4 d.tr.length xg.c4)) := HXg.out.keep (Keep.of_exc ex11 (by omega) (by omega))
  clear HK
  have HK := JK
  clear JK
  clear HRw
  have HRw := JRw
  clear JRw
  clear HXw
  have HXw := JXw
  clear JXw
  clear HRx
  clear HOx
  clear HRg
  have HRg := JRg
  clear JRg
  clear HOg
  have HOg := JOg
  clear JOg
  clear HXg
  have HXg := JXg
  clear JXg
  clear ex11
  obtain ⟨Xwc0, Xwc1, Xwc2, Xwc3⟩ := HXw.out
  have Xwz : w3.heap.size < w11.heap.size := by omega
  obtain ⟨Xgc0, Xgc1, Xgc2, Xgc3⟩ := HXg.out
  have Xgz : w6.heap.size < w11.heap.size := by omega
  go_wp2_with fail
  refine (eqMachine_alike _ _ _ _ _ _ _ _ _ _ _ _ _ _ _ _ _ _ _ _ d w11 HRg.out HRw.out (by omega) (by omega) FF.out).mono ?_
  rintro e w12 ⟨rfl, hb12⟩
  have z12 := hb12.size
  clear Xwc0 Xwc1 Xwc2 Xwc3 Xwz
  clear Xgc0 Xgc1 Xgc2 Xgc3 Xgz
  have JK : Hid (Below w.heap.size w w12) := HK.out.trans (hb12.mono (by omega))
  have JRw : Hid (MaR w12 w2.heap.size w3.heap.size xw.s1 xw.s2 xw.s3 xw.s4 d) := HRw.out.keep (Keep.of_below hb12 (by omega))
  have JXw : Hid (Bo4 w3.heap.size w12 (.slice xw.s1 d.codes.length xw.c1) (.slice xw.s2 d.cores.length xw.c2) (.slice xw.s3 d.mem.length xw.c3) (.slice xw.s4 d.tr.length xw.c4)) := HXw.out.keep (Keep.of_below hb12 (by omega))
  have JRg : Hid (MaR w12 w5.heap.size w6.heap.size xg.s1 xg.s2 xg.s3 xg.s4 d) := HRg.out.keep (Keep.of_below hb12 (by omega))
  have JOg : Hid (MaSh w12 w5.heap.size w6.heap.size xg d) := HOg.out.keep (Keep.of_below hb12 (by omega))
  have JXg : Hid (Bo4 w6.heap.size w12 (.slice xg.s1 d.codes.length xg.c1) (.slice xg.s2 d.cores.length xg.c2) (.slice xg.s3 d.mem.length xg.c3) (.slice xg.s4 d.tr.length xg.c4)) := HXg.out.keep (Keep.of_below hb12 (by omega))
  clear HK
  have HK := JK
  clear JK
  clear HRw
  have HRw := JRw
  clear JRw
  clear HXw
  have HXw := JXw
  clear JXw
  clear HRg
  have HRg := JRg
  clear JRg
  clear HOg
  have HOg := JOg
  clear JOg
  clear HXg
  have HXg := JXg
  clear JXg
  clear hb12
  obtain ⟨Xwc0, Xwc1, Xwc2, Xwc3⟩ := HXw.out
  have Xwz : w3.heap.size < w12.heap.size := by omega
  obtain ⟨Xgc0, Xgc1, Xgc2, Xgc3⟩ := HXg.out
  have Xgz : w6.heap.size < w12.heap.size := by omega
  go_wp2_with fail
  refine (markMachine_any xg d _ _ 1 w12 HOg.out (by omega) FF.out (by omega) (by omega)).mono ?_
  rintro e w13 ⟨rfl, hm13, ex13⟩
  have z13 := ex13.size
  obtain ⟨M, hM⟩ : ∃ n : Nat, xg.len d = n := ⟨_, rfl⟩
  rw [hM]
  have HLM : Hid (xg.len d = M) := hM
  clear hM
  have hM0 : ¬ 1 + (M : Int) < 0 := by omega
  have hMM : ((1 + (M : Int)) != (1 + (M : Int))) = false := by simp
  clear Xwc0 Xwc1 Xwc2 Xwc3 Xwz
  clear Xgc0 Xgc1 Xgc2 Xgc3 Xgz
  have JK : Hid (Below w.heap.size w w13) := HK.out.trans (ex13.below (by omega) (by omega))
  have JRw : Hid (MaR w13 w2.heap.size w3.heap.size xw.s1 xw.s2 xw.s3 xw.s4 d) := HRw.out.keep (Keep.of_exc ex13 (by omega) (by omega))
  have JXw : Hid (Bo4 w3.heap.size w13 (.slice xw.s1 d.codes.length xw.c1) (.slice xw.s2 d.cores.length xw.c2) (.slice xw.s3 d.mem.length xw.c3) (.slice xw.s4 d.tr.length xw.c4)) := HXw.out.keep (Keep.of_exc ex13 (by omega) (by omega))
  have JXg : Hid (Bo4 w6.heap.size w13 (.slice xg.s1 d.codes.length xg.c1) (.slice xg.s2 d.cores.length xg.c2) (.slice xg.s3 d.mem.length xg.c3) (.slice xg.s4 d.tr.length xg.c4)) := HXg.out.keep (Keep.of_exc ex13 (by omega) (by omega))
  clear HK
  have HK := JK
  clear JK
  clear HRw
  have HRw := JRw
  clear JRw
  clear HXw
  have HXw := JXw
  clear JXw
  clear HRg
  clear HOg
  clear HXg
  have HXg := JXg
  clear JXg
  have HD : Hid (MaMk w13 w5.heap.size w6.heap.size xg d 1) := hm13
  clear ex13 hm13
  obtain ⟨Xwc0, Xwc1, Xwc2, Xwc3⟩ := HXw.out
  have Xwz : w3.heap.size < w13.heap.size := by omega
  obtain ⟨Xgc0, Xgc1, Xgc2, Xgc3⟩ := HXg.out
  have Xgz : w6.heap.size < w13.heap.size := by omega
  go_wp2_with fail
  refine (heldMachine_any xg d _ _ 1 w13 HD.out (by omega) FF.out (by omega) (by omega)).mono ?_
  rintro e w14 ⟨rfl, hb14⟩
  have z14 := hb14.size
  clear Xwc0 Xwc1 Xwc2 Xwc3 Xwz
  clear Xgc0 Xgc1 Xgc2 Xgc3 Xgz
  have JK : Hid (Below w.heap.size w w14) := HK.out.trans (hb14.mono (by omega))
  have JRw : Hid (MaR w14 w2.heap.size w3.heap.size xw.s1 xw.s2 xw.s3 xw.s4 d) := HRw.out.keep (Keep.of_below hb14 (by omega))
  have JXw : Hid (Bo4 w3.heap.size w14 (.slice xw.s1 d.codes.length xw.c1) (.slice xw.s2 d.cores.length xw.c2) (.slice xw.s3 d.mem.length xw.c3) (.slice xw.s4 d.tr.length xw.c4)) := HXw.out.keep (Keep.of_below hb14 (by omega))
  have JXg : Hid (Bo4 w6.heap.size w14 (.slice xg.s1 d.codes.length xg.c1) (.slice xg.s2 d.cores.length xg.c2) (.slice xg.s3 d.mem.length xg.c3) (.slice xg.s4 d.tr.length xg.c4)) := HXg.out.keep (Keep.of_below hb14 (by omega))
  have JD : Hid (MaMk w14 w5.heap.size w6.heap.size xg d 1) := HD.out.keep (Keep.of_below hb14 (by omega))
  clear HK
  have HK := JK
  clear JK
  clear HRw
  have HRw := JRw
  clear JRw
  clear HXw
  have HXw := JXw
  clear JXw
  clear HXg
  have HXg := JXg
  clear JXg
  clear HD
  have HD := JD
  clear JD
  clear hb14
  rw [HLM.out]
  obtain ⟨Xwc0, Xwc1, Xwc2, Xwc3⟩ := HXw.out
  have Xwz : w3.heap.size < w14.heap.size := by omega
  obtain ⟨Xgc0, Xgc1, Xgc2, Xgc3⟩ := HXg.out
  have Xgz : w6.heap.size < w14.heap.size := by omega
  go_wp2_with fail
  refine (toStepSS_ex s1 c1 0 w.heap.size l w14 (HA0.out.keep (Keep.of_below HK.out (Nat.le_refl _))) (by omega) FL.out).mono ?_
  rintro e w15 ⟨xc, Rc, rfl, ho15, hb15, z15⟩
  clear Xwc0 Xwc1 Xwc2 Xwc3 Xwz
  clear Xgc0 Xgc1 Xgc2 Xgc3 Xgz
  have JK : Hid (Below w.heap.size w w15) := HK.out.trans (hb15.mono (by omega))
  have JRw : Hid (MaR w15 w2.heap.size w3.heap.size xw.s1 xw.s2 xw.s3 xw.s4 d) := HRw.out.keep (Keep.of_below hb15 (by omega))
  have JXw : Hid (Bo4 w3.heap.size w15 (.slice xw.s1 d.codes.length xw.c1) (.slice xw.s2 d.cores.length xw.c2) (.slice xw.s3 d.mem.length xw.c3) (.slice xw.s4 d.tr.length xw.c4)) := HXw.out.keep (Keep.of_below hb15 (by omega))
  have JXg : Hid (Bo4 w6.heap.size w15 (.slice xg.s1 d.codes.length xg.c1) (.slice xg.s2 d.cores.length xg.c2) (.slice xg.s3 d.mem.length xg.c3) (.slice xg.s4 d.tr.length xg.c4)) := HXg.out.keep (Keep.of_below hb15 (by omega))
  have JD : Hid (MaMk w15 w5.heap.size w6.heap.size xg d 1) := HD.out.keep (Keep.of_below hb15 (by omega))
  clear HK
  have HK := JK
  clear JK
  clear HRw
  have HRw := JRw
  clear JRw
  clear HXw
  have HXw := JXw
  clear JXw
  clear HXg
  have HXg := JXg
  clear JXg
  clear HD
  have HD := JD
  clear JD
  have HRc : Hid (CsR w15 w14.heap.size w15.heap.size (some ⟨xc, 0, none⟩) l) := ho15.csR
  clear hb15 ho15
  obtain ⟨Xwc0, Xwc1, Xwc2, Xwc3⟩ := HXw.out
  have Xwz : w3.heap.size < w15.heap.size := by omega
  obtain ⟨Xgc0, Xgc1, Xgc2, Xgc3⟩ := HXg.out
  have Xgz : w6.heap.size < w15.heap.size := by omega
  go_wp2_with fail
  refine (CI.out _ _ _ _ w15 HRc.out (by omega)).mono ?_
  rintro e w16 ⟨xk, rfl, ho16, hb16⟩
  have z16 := hb16.size
  clear Xwc0 Xwc1 Xwc2 Xwc3 Xwz
  clear Xgc0 Xgc1 Xgc2 Xgc3 Xgz
  have JK : Hid (Below w.heap.size w w16) := HK.out.trans (hb16.mono (by omega))
  have JRw : Hid (MaR w16 w2.heap.size w3.heap.size xw.s1 xw.s2 xw.s3 xw.s4 d) := HRw.out.keep (Keep.of_below hb16 (by omega))
  have JXw : Hid (Bo4 w3.heap.size w16 (.slice xw.s1 d.codes.length xw.c1) (.slice xw.s2 d.cores.length xw.c2) (.slice xw.s3 d.mem.length xw.c3) (.slice xw.s4 d.tr.length xw.c4)) := HXw.out.keep (Keep.of_below hb16 (by omega))
  have JXg : Hid (Bo4 w6.heap.size w16 (.slice xg.s1 d.codes.length xg.c1) (.slice xg.s2 d.cores.length xg.c2) (.slice xg.s3 d.mem.length xg.c3) (.slice xg.s4 d.tr.length xg.c4)) := HXg.out.keep (Keep.of_below hb16 (by omega))
  have JD : Hid (MaMk w16 w5.heap.size w6.heap.size xg d 1) := HD.out.keep (Keep.of_below hb16 (by omega))
  have JRc : Hid (CsR w16 w14.heap.size w15.heap.size (some ⟨xc, 0, none⟩) l) := HRc.out.keep (Keep.of_below hb16 (by omega))
  clear HK
  have HK := JK
  clear JK
  clear HRw
  have HRw := JRw
  clear JRw
  clear HXw
  have HXw := JXw
  clear JXw
  clear HXg
  have HXg := JXg
  clear JXg
  clear HD
  have HD := JD
  clear JD
  clear HRc
  have HRc := JRc
  clear JRc
  have HRk : Hid (MaR w16 w15.heap.size w16.heap.size xk.s1 xk.s2 xk.s3 xk.s4 d) := ho16.ma
  clear hb16 ho16
  obtain ⟨Xwc0, Xwc1, Xwc2, Xwc3⟩ := HXw.out
  have Xwz : w3.heap.size < w16.heap.size := by omega
  obtain ⟨Xgc0, Xgc1, Xgc2, Xgc3⟩ := HXg.out
  have Xgz : w6.heap.size < w16.heap.size := by omega
  go_wp2_with fail
  obtain ⟨V17, hV17, bx17, kb17, zb17⟩ := Bo4.new w16 (.slice xk.s1 d.codes.length xk.c1) (.slice xk.s2 d.cores.length xk.c2) (.slice xk.s3 d.mem.length xk.c3) (.slice xk.s4 d.tr.length xk.c4) 39
  rw [hV17]
  clear hV17
  clear Xwc0 Xwc1 Xwc2 Xwc3 Xwz
  clear Xgc0 Xgc1 Xgc2 Xgc3 Xgz
  have JK : Hid (Below w.heap.size w V17) := HK.out.trans (kb17.mono (by omega))
  have JRw : Hid (MaR V17 w2.heap.size w3.heap.size xw.s1 xw.s2 xw.s3 xw.s4 d) := HRw.out.keep (Keep.of_below kb17 (by omega))
  have JXw : Hid (Bo4 w3.heap.size V17 (.slice xw.s1 d.codes.length xw.c1) (.slice xw.s2 d.cores.length xw.c2) (.slice xw.s3 d.mem.length xw.c3) (.slice xw.s4 d.tr.length xw.c4)) := HXw.out.keep (Keep.of_below kb17 (by omega))
  have JXg : Hid (Bo4 w6.heap.size V17 (.slice xg.s1 d.codes.length xg.c1) (.slice xg.s2 d.cores.length xg.c2) (.slice xg.s3 d.mem.length xg.c3) (.slice xg.s4 d.tr.length xg.c4)) := HXg.out.keep (Keep.of_below kb17 (by omega))
  have JD : Hid (MaMk V17 w5.heap.size w6.heap.size xg d 1) := HD.out.keep (Keep.of_below kb17 (by omega))
  have JRc : Hid (CsR V17 w14.heap.size w15.heap.size (some ⟨xc, 0, none⟩) l) := HRc.out.keep (Keep.of_below kb17 (by omega))
  have JRk : Hid (MaR V17 w15.heap.size w16.heap.size xk.s1 xk.s2 xk.s3 xk.s4 d) := HRk.out.keep (Keep.of_below kb17 (by omega))
  clear HK
  have HK := JK
  clear JK
  clear HRw
  have HRw := JRw
  clear JRw
  clear HXw
  have HXw := JXw
  clear JXw
  clear HXg
  have HXg := JXg
  clear JXg
  clear HD
  have HD := JD
  clear JD
  clear HRc
  have HRc := JRc
  clear JRc
  clear HRk
  have HRk := JRk
  clear JRk
  have HXk : Hid (Bo4 w16.heap.size V17 (.slice xk.s1 d.codes.length xk.c1) (.slice xk.s2 d.cores.length xk.c2) (.slice xk.s3 d.mem.length xk.c3) (.slice xk.s4 d.tr.length xk.c4)) := bx17
  clear bx17 kb17
  obtain ⟨Xwc0, Xwc1, Xwc2, Xwc3⟩ := HXw.out
  have Xwz : w3.heap.size < V17.heap.size := by omega
  obtain ⟨Xgc0, Xgc1, Xgc2, Xgc3⟩ := HXg.out
  have Xgz : w6.heap.size < V17.heap.size := by omega
  obtain ⟨Xkc0, Xkc1, Xkc2, Xkc3⟩ := HXk.out
  have Xkz : w16.heap.size < V17.heap.size := by omega
  refine (eqMachine_alike _ _ _ _ _ _ _ _ _ _ _ _ _ _ _ _ _ _ _ _ d V17 HRk.out HRw.out (by omega) (by omega) FF.out).mono ?_
  rintro e w18 ⟨rfl, hb18⟩
  have z18 := hb18.size
  clear Xwc0 Xwc1 Xwc2 Xwc3 Xwz
  clear Xgc0 Xgc1 Xgc2 Xgc3 Xgz
  clear Xkc0 Xkc1 Xkc2 Xkc3 Xkz
  have JK : Hid (Below w.heap.size w w18) := HK.out.trans (hb18.mono (by omega))
  have JRw : Hid (MaR w18 w2.heap.size w3.heap.size xw.s1 xw.s2 xw.s3 xw.s4 d) := HRw.out.keep (Keep.of_below hb18 (by omega))
  have JXw : Hid (Bo4 w3.heap.size w18 (.slice xw.s1 d.codes.length xw.c1) (.slice xw.s2 d.cores.length xw.c2) (.slice xw.s3 d.mem.length xw.c3) (.slice xw.s4 d.tr.length xw.c4)) := HXw.out.keep (Keep.of_below hb18 (by omega))
  have JXg : Hid (Bo4 w6.heap.size w18 (.slice xg.s1 d.codes.length xg.c1) (.slice xg.s2 d.cores.length xg.c2) (.slice xg.s3 d.mem.length xg.c3) (.slice xg.s4 d.tr.length xg.c4)) := HXg.out.keep (Keep.of_below hb18 (by omega))
  have JD : Hid (MaMk w18 w5.heap.size w6.heap.size xg d 1) := HD.out.keep (Keep.of_below hb18 (by omega))
  have JRc : Hid (CsR w18 w14.heap.size w15.heap.size (some ⟨xc, 0, none⟩) l) := HRc.out.keep (Keep.of_below hb18 (by omega))
  have JRk : Hid (MaR w18 w15.heap.size w16.heap.size xk.s1 xk.s2 xk.s3 xk.s4 d) := HRk.out.keep (Keep.of_below hb18 (by omega))
  have JXk : Hid (Bo4 w16.heap.size w18 (.slice xk.s1 d.codes.length xk.c1) (.slice xk.s2 d.cores.length xk.c2) (.slice xk.s3 d.mem.length xk.c3) (.slice xk.s4 d.tr.length xk.c4)) := HXk.out.keep (Keep.of_below hb18 (by omega))
  clear HK
  have HK := JK
  clear JK
  clear HRw
  have HRw := JRw
  clear JRw
  clear HXw
  have HXw := JXw
  clear JXw
  clear HXg
  have HXg := JXg
  clear JXg
  clear HD
  have HD := JD
  clear JD
  clear HRc
  have HRc := JRc
  clear JRc
  clear HRk
  have HRk := JRk
  clear JRk
  clear HXk
  have HXk := JXk
  clear JXk
  clear hb18
  obtain ⟨Xwc0, Xwc1, Xwc2, Xwc3⟩ := HXw.out
  have Xwz : w3.heap.size < w18.heap.size := by omega
  obtain ⟨Xgc0, Xgc1, Xgc2, Xgc3⟩ := HXg.out
  have Xgz : w6.heap.size < w18.heap.size := by omega
  obtain ⟨Xkc0, Xkc1, Xkc2, Xkc3⟩ := HXk.out
  have Xkz : w16.heap.size < w18.heap.size := by omega
  go_wp2_with fail
  refine (heldMachine_any xg d _ _ 1 w18 HD.out (by omega) FF.out (by omega) (by omega)).mono ?_
  rintro e w19 ⟨rfl, hb19⟩
  have z19 := hb19.size
  clear Xwc0 Xwc1 Xwc2 Xwc3 Xwz
  clear Xgc0 Xgc1 Xgc2 Xgc3 Xgz
  clear Xkc0 Xkc1 Xkc2 Xkc3 Xkz
  have JK : Hid (Below w.heap.size w w19) := HK.out.trans (hb19.mono (by omega))
  have JRw : Hid (MaR w19 w2.heap.size w3.heap.size xw.s1 xw.s2 xw.s3 xw.s4 d) := HRw.out.keep (Keep.of_below hb19 (by omega))
  have JXw : Hid (Bo4 w3.heap.size w19 (.slice xw.s1 d.codes.length xw.c1) (.slice xw.s2 d.cores.length xw.c2) (.slice xw.s3 d.mem.length xw.c3) (.slice xw.s4 d.tr.length xw.c4)) := HXw.out.keep (Keep.of_below hb19 (by omega))
  have JXg : Hid (Bo4 w6.heap.size w19 (.slice xg.s1 d.codes.length xg.c1) (.slice xg.s2 d.cores.length xg.c2) (.slice xg.s3 d.mem.length xg.c3) (.slice xg.s4 d.tr.length xg.c4)) := HXg.out.keep (Keep.of_below hb19 (by omega))
  have JD : Hid (MaMk w19 w5.heap.size w6.heap.size xg d 1) := HD.out.keep (Keep.of_below hb19 (by omega))
  have JRc : Hid (CsR w19 w14.heap.size w15.heap.size (some ⟨xc, 0, none⟩) l) := HRc.out.keep (Keep.of_below hb19 (by omega))
  have JRk : Hid (MaR w19 w15.heap.size w16.heap.size xk.s1 xk.s2 xk.s3 xk.s4 d) := HRk.out.keep (Keep.of_below hb19 (by omega))
  have JXk : Hid (Bo4 w16.heap.size w19 (.slice xk.s1 d.codes.length xk.c1) (.slice xk.s2 d.cores.length xk.c2) (.slice xk.s3 d.mem.length xk.c3) (.slice xk.s4 d.tr.length xk.c4)) := HXk.out.keep (Keep.of_below hb19 (by omega))
  clear HK
  have HK := JK
  clear JK
  clear HRw
  have HRw := JRw
  clear JRw
  clear HXw
  have HXw := JXw
  clear JXw
  clear HXg
  have HXg := JXg
  clear JXg
  clear HD
  have HD := JD
  clear JD
  clear HRc
  have HRc := JRc
  clear JRc
  clear HRk
  have HRk := JRk
  clear JRk
  clear HXk
  have HXk := JXk
  clear JXk
  clear hb19
  rw [HLM.out]
  obtain ⟨Xwc0, Xwc1, Xwc2, Xwc3⟩ := HXw.out
  have Xwz : w3.heap.size < w19.heap.size := by omega
  obtain ⟨Xgc0, Xgc1, Xgc2, Xgc3⟩ := HXg.out
  have Xgz : w6.heap.size < w19.heap.size := by omega
  obtain ⟨Xkc0, Xkc1, Xkc2, Xkc3⟩ := HXk.out
  have Xkz : w16.heap.size < w19.heap.size := by omega
  go_wp2
  go_ret
  exact ⟨rfl, HK.out⟩

set_option maxRecDepth 100000 in
theorem liftedExactMachineNew (os : Os) (started : os.Started) (H : Type) (enc : TypeId × Value → H) :
    ReturnsInHanded {} Try.checked os 4 .any (Rows.fnExactMachineNewSpec.pre6 enc Try.prog Try.f4 Rows.fnExactMachineNewRow.domain false) (Rows.fnExactMachineNewSpec.post enc Try.prog Try.f4 false true false false) := by
  refine returnsInHanded_of_change (C := Try.checked) ownP started (by kernel_rfl) Try.func4
    (ChangeSpec.witness6 (enc := enc) (C := Try.checked) false ⟨#[], #[.slice none 0 0], []⟩ 8 (by kernel_rfl) (by kernel_rfl) (by kernel_rfl) (by kernel_rfl)) ?_
  intro W base args ds gs before hval0 hW hcnd _
  have hval : ∀ (j : Nat) t v, Try.f4.params[j]? = some t → args[j]? = some v → Value.okWide Try.prog W .any base t v := hval0
  have hW' := hW
  obtain ⟨p, q, hA0, hV, rfl, hfz, hnd⟩ := hW
  have hA : DataW.TrodAll enc Try.prog W 0 (fun _ => true) true Try.f4.params.toList args.toList ds p := hA0
  rw [Try.params4] at hA hval
  obtain ⟨v0, d0, hargs, rfl, h0⟩ := trodAll_one hA
  obtain rfl : args = #[v0] := by cases args; simp_all
  obtain ⟨rfl, rfl⟩ := trodVars_none hV
  have k0 := h0
  have lt0 : ∀ x ∈ p, x.block < W.heap.size := by obtain ⟨m, hm⟩ := k0; exact DataW.trod_lt m _ _ _ hm
  obtain ⟨s1, c1, pl, rfl, m0, m1, hR⟩ := open_codes (hval 0 22 v0 rfl rfl) h0
  clear hA0 hval0
  refine (walkExactMachineNew s1 c1 pl W hR m0 m1).mono fun e W' ⟨he, bel⟩ => ?_
  subst he
  exact ⟨_, rfl, _, _, _, [], _, [], hW', trodAll_mk1 (shut_bool Try.underlying4 _), trodAll_mk1 (Below.trod laidOutP (by kernel_rfl) (of_decide_eq_true (by kernel_rfl)) k0 bel lt0), rfl, bel.frame _, fun h => by cases h⟩

theorem fnExactMachineNew_holds : Rows.FnExactMachineNewSaid :=
  OpenClaim.holds_of_wide 4 Try.f4 rfl rfl rfl rfl rfl rfl rfl ⟨rfl, rfl, rfl, rfl, rfl⟩ rfl rfl rfl rfl rfl (by kernel_rfl) Try.func4 (by kernel_rfl)
    (of_decide_eq_true (by kernel_rfl)) (by unfold Func.isWrapper; first | (rw [if_pos (by decide +kernel)]; kernel_rfl) | (rw [if_neg (by decide +kernel)]; exact ⟨rfl, rfl⟩))
    (fun os started H enc _ => liftedExactMachineNew os started H enc)
#print axioms fnExactMachineNew_holds

end Go.Proofs.Ytfdgjjahojkgfaa
