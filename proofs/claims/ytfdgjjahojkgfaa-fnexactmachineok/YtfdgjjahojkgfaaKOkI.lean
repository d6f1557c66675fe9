/- MachineOk of the program. Conditions: the machine is counted. -/
import Derived.Test.YtfdgjjahojkgfaaKOkB
import Derived.Test.YtfdgjjahojkgfaaKSz
import Derived.Deep.RegionWith
namespace Go.Proofs.Ytfdgjjahojkgfaa
set_option linter.unusedSimpArgs false
set_option linter.unusedVariables false
set_option maxRecDepth 100000
open Go.RowKit

set_option maxHeartbeats 2000000 in
theorem implMachineOk_any (s1 s2 s3 s4 : Option Addr) (c1 c2 c3 c4 lo hi : Nat) (d : MD) (w : World) (h : MaR w lo hi s1 s2 s3 s4 d) (hB : hi ≤ w.heap.size) (hf : MaSz d ≤ 1048576) :
    Calls Try.prog 8 #[.agg #[.slice s1 d.codes.length c1, .slice s2 d.cores.length c2, .slice s3 d.mem.length c3, .slice s4 d.tr.length c4]] w fun e w' => e = .returned (.bool (machB d)) ∧ Below w.heap.size w w' := by
  have H : Hid (MaR w lo hi s1 s2 s3 s4 d) := h
  have F1 : d.codes.length + szC d.codes ≤ 1048576 := by unfold MaSz at hf; omega
  have F2 : d.cores.length + szK d.cores ≤ 1048576 := by unfold MaSz at hf; omega
  have F3 : d.mem.length + szR d.mem ≤ 1048676 := by unfold MaSz at hf; omega
  have F4 : d.tr.length ≤ 1048576 := by unfold MaSz at hf; omega
  clear h hf
  go_enter Try.func8, Try.ntmps8
  go_wp2_with fail
  obtain ⟨W, hW, bx, kb, zb⟩ := B4.new w (.slice s1 d.codes.length c1) (.slice s2 d.cores.length c2) (.slice s3 d.mem.length c3) (.slice s4 d.tr.length c4) 39
  rw [hW]
  clear hW
  have A0 : Hid (B4 W w.heap.size (.slice s1 d.codes.length c1) (.slice s2 d.cores.length c2) (.slice s3 d.mem.length c3) (.slice s4 d.tr.length c4)) := bx
  have K0 : Hid (Below w.heap.size w W) := kb
  clear bx kb
  refine (codesOk_any s1 c1 lo hi d.codes W (H.out.keep (Keep.of_below K0.out hB)).1 (by omega) F1).mono ?_
  rintro e w1 ⟨rfl, hb1⟩
  have A1 : Hid (B4 w1 w.heap.size (.slice s1 d.codes.length c1) (.slice s2 d.cores.length c2) (.slice s3 d.mem.length c3) (.slice s4 d.tr.length c4)) := A0.out.keep (hb1.mono (Nat.le_refl _)) A0.out.z
  have K1 : Hid (Below w.heap.size w w1) := K0.out.trans (hb1.mono (by omega))
  obtain ⟨p0, p1, p2, p3, p4⟩ := A1.out
  clear hb1
  cases hc : codesB d.codes
  · have E : Hid (machB d = false) := by show _ = _; unfold machB; rw [hc]; rfl
    clear hc
    go_wp2
    go_ret
    exact ⟨ret_bool' E.out.symm, K1.out⟩
  have HC : Hid (codesB d.codes = true) := hc
  clear hc
  go_wp2_with fail
  have R1 : Hid (MaR w1 lo hi s1 s2 s3 s4 d) := H.out.keep (Keep.of_below K1.out hB)
  refine (coresOk_any s2 s1 s3 c2 c1 c3 lo hi d.cores d.codes d.mem _ R1.out.2.1 R1.out.1 R1.out.2.2.1 (by omega) F2 F1).mono ?_
  rintro e w2 ⟨rfl, hb2⟩
  all_goals
    have hb3 : Below w1.heap.size w1 w2 := ⟨hb2.os, hb2.tape, hb2.output, hb2.size, hb2.block⟩
    have A2 : Hid (B4 w2 w.heap.size (.slice s1 d.codes.length c1) (.slice s2 d.cores.length c2) (.slice s3 d.mem.length c3) (.slice s4 d.tr.length c4)) := A1.out.keep hb3 A1.out.z
    have K2 : Hid (Below w.heap.size w w2) := K1.out.trans (hb3.mono (by omega))
    clear p1 p2 p3 p4 hb2 hb3 R1
    obtain ⟨p0, p1, p2, p3, p4⟩ := A2.out
    cases hc : coresB d.mem d.cores d.codes
    · have E : Hid (machB d = false) := by show _ = _; unfold machB; rw [hc]; simp
      clear hc
      go_wp2
      go_ret
      exact ⟨ret_bool' E.out.symm, K2.out⟩
    have HK : Hid (coresB d.mem d.cores d.codes = true) := hc
    clear hc
    have R2 : Hid (MaR w2 lo hi s1 s2 s3 s4 d) := H.out.keep (Keep.of_below K2.out hB)
    go_wp2_with fail
    refine (traceOk_any s4 c4 lo hi d.cores.length d.tr _ R2.out.2.2.2 (by omega) F4 (by omega)).mono ?_
    rintro e w3 ⟨rfl, hb4⟩
    all_goals
      have hb5 : Below w2.heap.size w2 w3 := ⟨hb4.os, hb4.tape, hb4.output, hb4.size, hb4.block⟩
      have A3 : Hid (B4 w3 w.heap.size (.slice s1 d.codes.length c1) (.slice s2 d.cores.length c2) (.slice s3 d.mem.length c3) (.slice s4 d.tr.length c4)) := A2.out.keep hb5 A2.out.z
      have K3 : Hid (Below w.heap.size w w3) := K2.out.trans (hb5.mono (by omega))
      clear p1 p2 p3 p4 hb4 hb5 R2
      obtain ⟨p0, p1, p2, p3, p4⟩ := A3.out
      cases hc : trB d.tr d.cores.length
      · have E : Hid (machB d = false) := by show _ = _; unfold machB; rw [hc]; simp
        clear hc
        go_wp2
        go_ret
        exact ⟨ret_bool' E.out.symm, K3.out⟩
      have HT : Hid (trB d.tr d.cores.length = true) := hc
      clear hc
      have R3 : Hid (MaR w3 lo hi s1 s2 s3 s4 d) := H.out.keep (Keep.of_below K3.out hB)
      have z3 := K3.out.size
      go_wp2_with fail
      refine (implMemoryOk_any s3 c3 lo hi d.mem _ R3.out.2.2.1 (by omega) F3).mono ?_
      rintro e w4 ⟨rfl, hb6⟩
      have K4 : Hid (Below w.heap.size w w4) := K3.out.trans (hb6.mono (by omega))
      have E : Hid (machB d = memB d.mem) := by show _ = _; unfold machB; rw [HC.out, HK.out, HT.out]; rfl
      clear hb6
      go_wp2
      go_ret
      exact ⟨ret_bool' E.out.symm, K4.out⟩

end Go.Proofs.Ytfdgjjahojkgfaa
