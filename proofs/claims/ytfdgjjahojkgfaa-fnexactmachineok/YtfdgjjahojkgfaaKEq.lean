/- How the laws compare machines. Conditions: they are counted. -/
import Derived.Test.YtfdgjjahojkgfaaKEqA
import Derived.Test.YtfdgjjahojkgfaaKEqB
import Derived.Test.YtfdgjjahojkgfaaMemEq
namespace Go.Proofs.Ytfdgjjahojkgfaa
set_option linter.unusedSimpArgs false
set_option linter.unusedVariables false
set_option maxRecDepth 100000
open Go.RowKit

set_option maxHeartbeats 2000000 in
theorem eqMachine_alike (s1 s2 s3 s4 t1 t2 t3 t4 : Option Addr) (c1 c2 c3 c4 f1 f2 f3 f4 lo hi lo' hi' : Nat) (d : MD) (w : World) (h : MaR w lo hi s1 s2 s3 s4 d) (h' : MaR w lo' hi' t1 t2 t3 t4 d) (hB : hi ≤ w.heap.size) (hB' : hi' ≤ w.heap.size) (hf : MaSz d ≤ 1048576) :
    Calls Try.prog 9 #[.agg #[.slice s1 d.codes.length c1, .slice s2 d.cores.length c2, .slice s3 d.mem.length c3, .slice s4 d.tr.length c4], .agg #[.slice t1 d.codes.length f1, .slice t2 d.cores.length f2, .slice t3 d.mem.length f3, .slice t4 d.tr.length f4]] w fun e w' => e = .returned (.bool true) ∧ Below w.heap.size w w' := by
  have H : Hid (MaR w lo hi s1 s2 s3 s4 d) := h
  have H' : Hid (MaR w lo' hi' t1 t2 t3 t4 d) := h'
  have F1 : d.codes.length + szC d.codes ≤ 1048576 := by unfold MaSz at hf; omega
  have F2 : d.cores.length + szK d.cores ≤ 1048676 := by unfold MaSz at hf; omega
  have F3 : d.mem.length + szR d.mem ≤ 1048676 := by unfold MaSz at hf; omega
  have F4 : d.tr.length ≤ 1048576 := by unfold MaSz at hf; omega
  clear h h' hf
  go_enter Try.func9, Try.ntmps9
  go_wp2_with fail
  obtain ⟨W, hW⟩ : ∃ W, (w.alloc (.cells #[.slice s1 d.codes.length c1, .slice s2 d.cores.length c2, .slice s3 d.mem.length c3, .slice s4 d.tr.length c4] 39)).alloc (.cells #[.slice t1 d.codes.length f1, .slice t2 d.cores.length f2, .slice t3 d.mem.length f3, .slice t4 d.tr.length f4] 39) = W := ⟨_, rfl⟩
  obtain ⟨ka, ba, bb⟩ := two4 hW
  rw [hW]
  clear hW
  have A0 : Hid (B4 W w.heap.size (.slice s1 d.codes.length c1) (.slice s2 d.cores.length c2) (.slice s3 d.mem.length c3) (.slice s4 d.tr.length c4)) := ba
  have B0 : Hid (B4 W (w.heap.size + 1) (.slice t1 d.codes.length f1) (.slice t2 d.cores.length f2) (.slice t3 d.mem.length f3) (.slice t4 d.tr.length f4)) := bb
  have K0 : Hid (Below w.heap.size w W) := ka
  have z0 := ba.z
  clear ka ba bb
  refine (eqStepSS_alike s1 t1 c1 f1 lo hi lo' hi' d.codes W (H.out.keep (Keep.of_below K0.out hB)).1 (H'.out.keep (Keep.of_below K0.out hB')).1 (by omega) (by omega) F1).mono ?_
  rintro e w1 ⟨rfl, hb1⟩
  have A1 : Hid (B4 w1 w.heap.size (.slice s1 d.codes.length c1) (.slice s2 d.cores.length c2) (.slice s3 d.mem.length c3) (.slice s4 d.tr.length c4)) := A0.out.keep (hb1.mono (Nat.le_refl _)) A0.out.z
  have B1 : Hid (B4 w1 (w.heap.size + 1) (.slice t1 d.codes.length f1) (.slice t2 d.cores.length f2) (.slice t3 d.mem.length f3) (.slice t4 d.tr.length f4)) := B0.out.keep (hb1.mono (Nat.le_refl _)) B0.out.z
  have K1 : Hid (Below w.heap.size w w1) := K0.out.trans (hb1.mono (by omega))
  clear hb1
  have a1 := A1.out
  have b1 := B1.out
  obtain ⟨p0, p1, p2, p3, p4⟩ := a1
  obtain ⟨q0, q1, q2, q3, q4⟩ := b1
  go_wp2_with fail
  refine (eqCoreS_alike s2 t2 c2 f2 lo hi lo' hi' d.cores w1 (H.out.keep (Keep.of_below K1.out hB)).2.1 (H'.out.keep (Keep.of_below K1.out hB')).2.1 (by omega) (by omega) F2).mono ?_
  rintro e w2 ⟨rfl, hb2⟩
  have A2 : Hid (B4 w2 w.heap.size (.slice s1 d.codes.length c1) (.slice s2 d.cores.length c2) (.slice s3 d.mem.length c3) (.slice s4 d.tr.length c4)) := A1.out.keep (hb2.mono (Nat.le_refl _)) A1.out.z
  have B2 : Hid (B4 w2 (w.heap.size + 1) (.slice t1 d.codes.length f1) (.slice t2 d.cores.length f2) (.slice t3 d.mem.length f3) (.slice t4 d.tr.length f4)) := B1.out.keep (hb2.mono (Nat.le_refl _)) B1.out.z
  have K2 : Hid (Below w.heap.size w w2) := K1.out.trans (hb2.mono (by omega))
  clear hb2
  have a2 := A2.out
  have b2 := B2.out
  obtain ⟨p0, p1, p2, p3, p4⟩ := a2
  obtain ⟨q0, q1, q2, q3, q4⟩ := b2
  go_wp2_with fail
  refine (eqMemory_alike s3 t3 c3 f3 lo hi lo' hi' d.mem w2 (H.out.keep (Keep.of_below K2.out hB)).2.2.1 (H'.out.keep (Keep.of_below K2.out hB')).2.2.1 (by omega) (by omega) F3).mono ?_
  rintro e w3 ⟨rfl, hb3⟩
  have A3 : Hid (B4 w3 w.heap.size (.slice s1 d.codes.length c1) (.slice s2 d.cores.length c2) (.slice s3 d.mem.length c3) (.slice s4 d.tr.length c4)) := A2.out.keep (hb3.mono (Nat.le_refl _)) A2.out.z
  have B3 : Hid (B4 w3 (w.heap.size + 1) (.slice t1 d.codes.length f1) (.slice t2 d.cores.length f2) (.slice t3 d.mem.length f3) (.slice t4 d.tr.length f4)) := B2.out.keep (hb3.mono (Nat.le_refl _)) B2.out.z
  have K3 : Hid (Below w.heap.size w w3) := K2.out.trans (hb3.mono (by omega))
  clear hb3
  have a3 := A3.out
  have b3 := B3.out
  obtain ⟨p0, p1, p2, p3, p4⟩ := a3
  obtain ⟨q0, q1, q2, q3, q4⟩ := b3
  go_wp2_with fail
  refine (eqNoteS_alike s4 t4 c4 f4 lo hi lo' hi' d.tr w3 (H.out.keep (Keep.of_below K3.out hB)).2.2.2 (H'.out.keep (Keep.of_below K3.out hB')).2.2.2 (by omega) (by omega) F4).mono ?_
  rintro e w4 ⟨rfl, hb4⟩
  have A4 : Hid (B4 w4 w.heap.size (.slice s1 d.codes.length c1) (.slice s2 d.cores.length c2) (.slice s3 d.mem.length c3) (.slice s4 d.tr.length c4)) := A3.out.keep (hb4.mono (Nat.le_refl _)) A3.out.z
  have B4 : Hid (B4 w4 (w.heap.size + 1) (.slice t1 d.codes.length f1) (.slice t2 d.cores.length f2) (.slice t3 d.mem.length f3) (.slice t4 d.tr.length f4)) := B3.out.keep (hb4.mono (Nat.le_refl _)) B3.out.z
  have K4 : Hid (Below w.heap.size w w4) := K3.out.trans (hb4.mono (by omega))
  clear hb4
  have a4 := A4.out
  have b4 := B4.out
  obtain ⟨p0, p1, p2, p3, p4⟩ := a4
  obtain ⟨q0, q1, q2, q3, q4⟩ := b4
  go_wp2
  go_ret
  exact ⟨rfl, K4.out⟩

end Go.Proofs.Ytfdgjjahojkgfaa
