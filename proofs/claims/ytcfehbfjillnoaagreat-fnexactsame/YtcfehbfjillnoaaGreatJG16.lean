/- MachineOk of the program. Conditions: the machine is counted. CodeOk of the specification, at every list of at most 1048576 steps. -/
import Derived.Test.YtcfehbfjillnoaaGreatJG00
import Derived.Test.YtcfehbfjillnoaaGreatJMemOk
import Derived.Test.YtcfehbfjillnoaaGreatJG05
import Derived.Test.YtcfehbfjillnoaaGreatJG12
import Derived.Test.YtcfehbfjillnoaaGreatJKOkB
import Derived.Test.YtcfehbfjillnoaaGreatJKSz
import Derived.Deep.RegionWith
import Derived.Test.YtcfehbfjillnoaaGreatJSpecIns
import Derived.Test.YtcfehbfjillnoaaGreatJG01
import Derived.Test.YtcfehbfjillnoaaGreatJG15
import Derived.Test.YtcfehbfjillnoaaGreatJC7SpA
import Derived.Test.YtcfehbfjillnoaaGreatJC7Plain
namespace Go.Proofs.YtcfehbfjillnoaaGreat
section
set_option linter.unusedSimpArgs false
set_option linter.unusedVariables false
set_option maxRecDepth 100000
open Go.RowKit
set_option maxHeartbeats 2000000 in
theorem implMachineOk_any (s1 s2 s3 s4 : Option Addr) (c1 c2 c3 c4 lo hi : Nat) (d : MD) (w : World) (h : MaR w lo hi s1 s2 s3 s4 d) (hB : hi ≤ w.heap.size) (hf : MaFits d) :
  Calls Tryz.prog 38 #[.agg #[.slice s1 d.codes.length c1, .slice s2 d.cores.length c2, .slice s3 d.mem.length c3, .slice s4 d.tr.length c4]] w fun e w' => e = .returned (.bool (machB d)) ∧ Below w.heap.size w w' := by
 have H : Hid (MaR w lo hi s1 s2 s3 s4 d) := h
 have F1 : d.codes.length + szC d.codes ≤ 1048576 := hf.c
 have F2 : d.cores.length + szK d.cores ≤ 1048576 := by have := hf.k; omega
 have F3 : d.mem.length + szR d.mem ≤ 2000000 := hf.m
 have F4 : d.tr.length ≤ 2000000 := hf.t
 clear h hf
 go_enter Tryz.func38, Tryz.ntmps38
 go_wp2_with fail
 obtain ⟨W, hW, bx, kb, zb⟩ := B4.new w (.slice s1 d.codes.length c1) (.slice s2 d.cores.length c2) (.slice s3 d.mem.length c3) (.slice s4 d.tr.length c4) 53
 rw [hW]
 clear hW
 have A0 : Hid (B4 W w.heap.size (.slice s1 d.codes.length c1) (.slice s2 d.cores.length c2) (.slice s3 d.mem.length c3) (.slice s4 d.tr.length c4)) := bx
 have K0 : Hid (Below w.heap.size w W) := kb
 clear bx kb
 refine (codesOk_any s1 c1 lo hi d.codes W (H.out.keep (Keep.of_below K0.out hB)).1 (by omega) F1).mono ?_
 rintro e w1 ⟨rfl, hb1⟩
 have A1 : Hid (B4 w1 w.heap.size (.slice s1 d.codes.length c1) (.slice s2 d.cores.length c2) (.slice s3 d.mem.length c3) (.slice s4 d.tr.length c4)) := A0.out.keep (hb1.mono (Nat.le_refl _)) A0.out.z
 have K1 : Hid (Below w.heap.size w w1) := K0.out.trans (hb1.mono (by omega))
 obtain ⟨p0, p1, p2, p3, p4⟩ := A1.out
 clear hb1
 cases hc : codesB d.codes
 ·have E : Hid (machB d = false) := by show _ = _; unfold machB; rw [hc]; rfl
  clear hc
  go_wp2
  go_ret
  exact ⟨ret_bool' E.out.symm, K1.out⟩
 have HC : Hid (codesB d.codes = true) := hc
 clear hc
 go_wp2_with fail
 have R1 : Hid (MaR w1 lo hi s1 s2 s3 s4 d) := H.out.keep (Keep.of_below K1.out hB)
 refine (coresOk_any s2 s1 s3 c2 c1 c3 lo hi d.cores d.codes d.mem _ R1.out.2.1 R1.out.1 R1.out.2.2.1 (by omega) F2 F1).mono ?_
 rintro e w2 ⟨rfl, hb2⟩
 all_goals
  have hb3 : Below w1.heap.size w1 w2 := ⟨hb2.os, hb2.tape, hb2.output, hb2.size, hb2.block⟩
  have A2 : Hid (B4 w2 w.heap.size (.slice s1 d.codes.length c1) (.slice s2 d.cores.length c2) (.slice s3 d.mem.length c3) (.slice s4 d.tr.length c4)) := A1.out.keep hb3 A1.out.z
  have K2 : Hid (Below w.heap.size w w2) := K1.out.trans (hb3.mono (by omega))
  clear p1 p2 p3 p4 hb2 hb3 R1
  obtain ⟨p0, p1, p2, p3, p4⟩ := A2.out
  cases hc : coresB d.mem d.cores d.codes
  ·have E : Hid (machB d = false) := by show _ = _; unfold machB; rw [hc]; simp
   clear hc
   go_wp2
   go_ret
   exact ⟨ret_bool' E.out.symm, K2.out⟩
  have HK : Hid (coresB d.mem d.cores d.codes = true) := hc
  clear hc
  have R2 : Hid (MaR w2 lo hi s1 s2 s3 s4 d) := H.out.keep (Keep.of_below K2.out hB)
  go_wp2_with fail
  refine (traceOk_any s4 c4 lo hi d.cores.length d.tr _ R2.out.2.2.2 (by omega) F4 (by omega)).mono ?_
  rintro e w3 ⟨rfl, hb4⟩
  all_goals
   have hb5 : Below w2.heap.size w2 w3 := ⟨hb4.os, hb4.tape, hb4.output, hb4.size, hb4.block⟩
   have A3 : Hid (B4 w3 w.heap.size (.slice s1 d.codes.length c1) (.slice s2 d.cores.length c2) (.slice s3 d.mem.length c3) (.slice s4 d.tr.length c4)) := A2.out.keep hb5 A2.out.z
   have K3 : Hid (Below w.heap.size w w3) := K2.out.trans (hb5.mono (by omega))
   clear p1 p2 p3 p4 hb4 hb5 R2
   obtain ⟨p0, p1, p2, p3, p4⟩ := A3.out
   cases hc : trB d.tr d.cores.length
   ·have E : Hid (machB d = false) := by show _ = _; unfold machB; rw [hc]; simp
    clear hc
    go_wp2
    go_ret
    exact ⟨ret_bool' E.out.symm, K3.out⟩
   have HT : Hid (trB d.tr d.cores.length = true) := hc
   clear hc
   have R3 : Hid (MaR w3 lo hi s1 s2 s3 s4 d) := H.out.keep (Keep.of_below K3.out hB)
   have z3 := K3.out.size
   go_wp2_with fail
   refine (implMemoryOk_any s3 c3 lo hi d.mem _ R3.out.2.2.1 (by omega) F3).mono ?_
   rintro e w4 ⟨rfl, hb6⟩
   have K4 : Hid (Below w.heap.size w w4) := K3.out.trans (hb6.mono (by omega))
   have E : Hid (machB d = memB d.mem) := by show _ = _; unfold machB; rw [HC.out, HK.out, HT.out]; rfl
   clear hb6
   go_wp2
   go_ret
   exact ⟨ret_bool' E.out.symm, K4.out⟩
end
section
set_option linter.unusedSimpArgs false
set_option linter.unusedVariables false
set_option maxRecDepth 100000
open Go.RowKit
set_option maxRecDepth 100000 in
set_option maxHeartbeats 1000000 in
theorem specCode_some (g off c B : Nat) (l : List I5) (w : World) (hg : g < B) (hc : ∀ i, i < l.length → At5 w g (off + i * 5) (l.getD i z5)) (hB : B ≤ w.heap.size) (hl : l.length ≤ 1048576) :
  Calls Tryz.prog 59 #[.slice (some ⟨g, off, none⟩) l.length c] w fun e w' => e = .returned (.bool (codeB l)) ∧ Below w.heap.size w w' := by
 have HC : Hid (∀ i, i < l.length → At5 w g (off + i * 5) (l.getD i z5)) := hc
 clear hc
 go_enter Tryz.func59, Tryz.ntmps59
 cases h1 : Plain.inB (l.length : Int) 1 800
 ·have F : Hid (codeB l = false) := code_short h1
  go_wp2_with (go_at_call 56; refine (l1In_is _ _ _ _ _ h1).mono ?_; rintro e w' ⟨rfl, rfl⟩)
  go_ret
  exact ⟨by rw [F.out]; rfl, Below.refl _ _⟩
 have hlen : 1 ≤ l.length ∧ l.length ≤ 800 := by simp [Plain.inB] at h1; omega
 go_wp2_with (go_at_call 56; refine (l1In_is _ _ _ _ _ h1).mono ?_; rintro e w' ⟨rfl, hw⟩; have hw' := hw.symm; clear hw; subst hw')
 clear h1
 go_loopw [4] (fun i wr => ∃ k : Nat, k ≤ l.length ∧ i = .int .i64 k ∧ Below w.heap.size w wr ∧ (∀ i, i < k → stX (l.getD i z5) l.length = true)) (fun i _ => l.length - (intOf i).toNat)
 case atStart => exact ⟨0, Nat.zero_le _, rfl, Below.refl _ _, fun i hi => absurd hi (Nat.not_lt_zero _)⟩
 case round =>
  obtain ⟨k, hk, rfl, hb, hd⟩ := hrel
  have HB : Hid (Below w.heap.size w wr) := hb
  have HD : Hid (∀ i, i < k → stX (l.getD i z5) l.length = true) := hd
  clear hb hd
  by_cases hlt : k < l.length
  ·obtain ⟨f0, f1, f2, f3, f4⟩ := (HC.out k hlt).keep HB.out (by omega)
   cases hv : stX (l.getD k z5) l.length
   ·have F : Hid (codeB l = false) := code_no hlt hv
    generalize l.getD k z5 = x at f0 f1 f2 f3 f4 hv
    obtain ⟨xo, xr, xa, xb, xn⟩ := x
    have V : Hid (Plain.stepB xo xr xa xb xn l.length = false) := hv
    clear hv
    have b0 : (0 : Int) ≤ (k : Int) := by omega
    have b1 : (k : Int) < (l.length : Int) := by omega
    go_wp2_with fail
    refine (specStepOk_any _ _ _ _ _ _ _).mono ?_
    rintro e w1 ⟨rfl, hb1⟩
    rw [V.out]
    have hs1 := HB.out.size
    go_wp2
    go_ret
    exact ⟨by rw [F.out]; rfl, HB.out.trans (hb1.mono hs1)⟩
   ·have HV : Hid (stX (l.getD k z5) l.length = true) := hv
    generalize l.getD k z5 = x at f0 f1 f2 f3 f4 hv
    obtain ⟨xo, xr, xa, xb, xn⟩ := x
    have V : Hid (Plain.stepB xo xr xa xb xn l.length = true) := hv
    clear hv
    have b0 : (0 : Int) ≤ (k : Int) := by omega
    have b1 : (k : Int) < (l.length : Int) := by omega
    go_wp2_with fail
    refine (specStepOk_any _ _ _ _ _ _ _).mono ?_
    rintro e w1 ⟨rfl, hb1⟩
    rw [V.out]
    have hs1 := HB.out.size
    have HB1 : Hid (Below wr.heap.size wr w1) := hb1
    clear hb1
    go_wp2
    go_roundw
    case rel =>
     refine ⟨k + 1, by omega, by go_num, HB.out.trans (HB1.out.mono hs1), ?_⟩
     intro i hi
     by_cases e : i = k
     ·subst e; exact HV.out
     ·exact HD.out i (by omega)
    case measure => simp [intOf]; omega
  ·have : k = l.length := by omega
   subst this
   have F : Hid (codeB l = lastBx56 l) := by
    show _ = _
    rw [code_all HD.out, decide_eq_true hlen]
    simp
   obtain ⟨f0, -⟩ := (HC.out (l.length - 1) (by omega)).keep HB.out (by omega)
   generalize hx : (l.getD (l.length - 1) z5).o = x at f0
   have FX : Hid (lastBx56 l = Plain.endB x) := by show _ = _; unfold lastBx56; rw [hx]
   clear hx
   have b0 : (1 : Int) ≤ (l.length : Int) := by omega
   have b1 : (l.length : Int) - 1 < (l.length : Int) := by omega
   by_cases x10 : x = 10
   ·subst x10
    go_wp2
    go_ret
    exact ⟨ret_bool (by rw [F.out, FX.out]; rfl), HB.out⟩
   by_cases x12 : x = 12
   ·subst x12
    go_wp2
    go_ret
    exact ⟨ret_bool (by rw [F.out, FX.out]; rfl), HB.out⟩
   have y10 : (x == 10) = false := by simpa using x10
   have y12 : (x == 12) = false := by simpa using x12
   go_wp2
   go_ret
   exact ⟨ret_bool (by rw [F.out, FX.out, Bool.eq_iff_iff]; simp [Plain.endB, x10, x12]), HB.out⟩
theorem specCode_any (s : Option Addr) (c B : Nat) (l : List I5) (w : World) (h : InsB w B s l) (hB : B ≤ w.heap.size) (hl : l.length ≤ 1048576) :
  Calls Tryz.prog 59 #[.slice s l.length c] w fun e w' => e = .returned (.bool (codeB l)) ∧ Below w.heap.size w w' := by
 rcases h with rfl | ⟨g, off, rfl, hg, hc⟩
 ·have h1 : Plain.inB ((0 : Nat) : Int) 1 800 = false := by decide
  have h2 : Plain.inB 0 1 800 = false := by decide
  have F : Hid (codeB [] = false) := code_short (l := []) h1
  clear h1
  go_enter Tryz.func59, Tryz.ntmps59
  go_wp2_with (go_at_call 56; refine (l1In_is _ _ _ _ _ h2).mono ?_; rintro e w' ⟨rfl, rfl⟩)
  go_ret
  exact ⟨by rw [F.out]; rfl, Below.refl _ _⟩
 ·exact specCode_some g off c B l w hg hc hB hl
end
end Go.Proofs.YtcfehbfjillnoaaGreat
