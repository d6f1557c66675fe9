/- SourceOk of the program, whole. Conditions: lists of at most 1048576. -/
import Derived.Test.YtcfehbfjillnoaaGreatJG00
import Derived.Test.YtcfehbfjillnoaaGreatJG14
import Derived.Test.YtcfehbfjillnoaaGreatJG06
import Derived.Test.YtcfehbfjillnoaaGreatJG04
import Derived.Test.YtcfehbfjillnoaaGreatJProgOk
import Derived.Test.YtcfehbfjillnoaaGreatJG01
import Derived.Test.YtcfehbfjillnoaaGreatJKGen
import Derived.Test.YtcfehbfjillnoaaGreatJSrcOk2
namespace Go.Proofs.YtcfehbfjillnoaaGreat
set_option linter.unusedSimpArgs false
set_option linter.unusedVariables false
set_option maxRecDepth 100000
open Go.RowKit
theorem src1 {p : PD} {d : SD} (h : progB p = false) : srcB p d = false := by unfold srcB; rw [h]; rfl
theorem src2 {p : PD} {d : SD} (h : thsB d.ths p.bods = false) : srcB p d = false := by unfold srcB; rw [h]; simp
theorem src3 {p : PD} {d : SD} (h : chsB d.chs p.caps = false) : srcB p d = false := by unfold srcB; rw [h]; simp
theorem src4 {p : PD} {d : SD} (h1 : progB p = true) (h2 : thsB d.ths p.bods = true) (h3 : chsB d.chs p.caps = true) : srcB p d = trBx80 d.tr p.bods.length := by unfold srcB; rw [h1, h2, h3]; rfl
theorem fiveB {w W : World} {a b c d e : Value} {T T' : TypeId} (hW : (w.alloc (.cells #[a, b] T)).alloc (.cells #[c, d, e] T') = W) : Below w.heap.size w W ∧ w.heap.size < W.heap.size ∧ w.heap.size + 1 < W.heap.size ∧ (W.cell? ⟨w.heap.size, 0, none⟩ = some a ∧ W.cell? ⟨w.heap.size, 1, none⟩ = some b) ∧ W.cell? ⟨w.heap.size + 1, 0, none⟩ = some c ∧ W.cell? ⟨w.heap.size + 1, 1, none⟩ = some d ∧ W.cell? ⟨w.heap.size + 1, 2, none⟩ = some e := by
 subst hW
 exact ⟨((Below.refl _ _).alloc (Nat.le_refl _) _).alloc (by simp) _, by simp; omega, by simp, ⟨by simp [go_sem], by simp [go_sem]⟩, by simp [go_sem], by simp [go_sem], by simp [go_sem]⟩
set_option maxRecDepth 100000 in
set_option maxHeartbeats 4000000 in
theorem implSource_any (p1 p2 s1 s2 s3 : Option Addr) (a1 a2 c1 c2 c3 lo hi lo' hi' : Nat) (p : PD) (d : SD) (w : World) (h : ProgR w lo hi p1 p2 p) (h' : SrcR w lo' hi' s1 s2 s3 d) (hB : hi ≤ w.heap.size) (hB' : hi' ≤ w.heap.size) (hf : Fits p) (hf' : SFits d) :
  Calls Tryz.prog 37 #[.agg #[.slice p1 p.caps.length a1, .slice p2 p.bods.length a2], .agg #[.slice s1 d.ths.length c1, .slice s2 d.chs.length c2, .slice s3 d.tr.length c3]] w fun e w' => e = .returned (.bool (srcB p d)) ∧ Below w.heap.size w w' := by
 have H : Hid (ProgR w lo hi p1 p2 p) := h
 have H' : Hid (SrcR w lo' hi' s1 s2 s3 d) := h'
 have FP : Hid (Fits p) := hf
 have FS : Hid (SFits d) := hf'
 have n1 := hf.2.1
 have n2 := hf.1
 have n3 := hf'.2.2
 clear h h' hf hf'
 go_enter Tryz.func37, Tryz.ntmps37
 go_wp2_with fail
 obtain ⟨W, hW⟩ : ∃ W, (w.alloc (.cells #[.slice p1 p.caps.length a1, .slice p2 p.bods.length a2] 44)).alloc (.cells #[.slice s1 d.ths.length c1, .slice s2 d.chs.length c2, .slice s3 d.tr.length c3] 58) = W := ⟨_, rfl⟩
 obtain ⟨ka, z0, z1, ⟨x0, x1⟩, y0, y1, y2⟩ := fiveB hW
 rw [hW]
 clear hW
 have K : Hid (Below w.heap.size w W) := ka
 clear ka
 refine (implProg_any p1 p2 a1 a2 lo hi p W (H.out.keep' (Keep.of_below K.out hB)) (by omega) FP.out).mono ?_
 rintro e w1 ⟨rfl, hb1⟩
 have K1 : Hid (Below w.heap.size w w1) := K.out.trans (hb1.mono (by omega))
 have x0' := (hb1.cell (p := ⟨w.heap.size, 0, none⟩) z0).trans x0
 have x1' := (hb1.cell (p := ⟨w.heap.size, 1, none⟩) z0).trans x1
 have y0' := (hb1.cell (p := ⟨w.heap.size + 1, 0, none⟩) z1).trans y0
 have y1' := (hb1.cell (p := ⟨w.heap.size + 1, 1, none⟩) z1).trans y1
 have y2' := (hb1.cell (p := ⟨w.heap.size + 1, 2, none⟩) z1).trans y2
 have zs := hb1.size
 have z0' : w.heap.size < w1.heap.size := by omega
 have z1' : w.heap.size + 1 < w1.heap.size := by omega
 clear x0 x1 y0 y1 y2 hb1 K z0 z1 zs
 cases hp : progB p
 ·have F : Hid (srcB p d = false) := src1 hp
  clear hp
  go_wp2
  go_ret
  exact ⟨by rw [F.out]; rfl, K1.out⟩
 have HP : Hid (progB p = true) := hp
 clear hp
 go_wp2_with fail
 refine (threadsOk_any s1 p2 c1 a2 lo' hi' lo hi d.ths p.bods w1 (H'.out.keep (Keep.of_below K1.out hB')).1 (H.out.keep' (Keep.of_below K1.out hB)).2 (by omega) (by omega) FS.out.1.1 FS.out.1.2 FP.out.2.1 FP.out.2.2).mono ?_
 rintro e w2 ⟨rfl, hb2⟩
 have K2 : Hid (Below w.heap.size w w2) := K1.out.trans (hb2.mono (by omega))
 have x0 := (hb2.cell (p := ⟨w.heap.size, 0, none⟩) z0').trans x0'
 have x1 := (hb2.cell (p := ⟨w.heap.size, 1, none⟩) z0').trans x1'
 have y1 := (hb2.cell (p := ⟨w.heap.size + 1, 1, none⟩) z1').trans y1'
 have y2 := (hb2.cell (p := ⟨w.heap.size + 1, 2, none⟩) z1').trans y2'
 have zs := hb2.size
 have z0 : w.heap.size < w2.heap.size := by omega
 have z1 : w.heap.size + 1 < w2.heap.size := by omega
 clear x0' x1' y0' y1' y2' hb2 K1 z0' z1' zs
 cases ht : thsB d.ths p.bods
 ·have F : Hid (srcB p d = false) := src2 ht
  clear ht
  go_wp2
  go_ret
  exact ⟨by rw [F.out]; rfl, K2.out⟩
 have HTs : Hid (thsB d.ths p.bods = true) := ht
 clear ht
 go_wp2_with fail
 refine (chansOk_any s2 p1 c2 a1 lo' hi' lo hi d.chs p.caps w2 (H'.out.keep (Keep.of_below K2.out hB')).2.1 (H.out.keep' (Keep.of_below K2.out hB)).1 (by omega) (by omega) FS.out.2.1.1 FS.out.2.1.2 FP.out.1).mono ?_
 rintro e w3 ⟨rfl, hb3⟩
 have K3 : Hid (Below w.heap.size w w3) := K2.out.trans (hb3.mono (by omega))
 have x1' := (hb3.cell (p := ⟨w.heap.size, 1, none⟩) z0).trans x1
 have y2' := (hb3.cell (p := ⟨w.heap.size + 1, 2, none⟩) z1).trans y2
 have zs := hb3.size
 have z0' : w.heap.size < w3.heap.size := by omega
 have z1' : w.heap.size + 1 < w3.heap.size := by omega
 clear x0 x1 y1 y2 hb3 K2 z0 z1 zs
 cases hc : chsB d.chs p.caps
 ·have F : Hid (srcB p d = false) := src3 hc
  clear hc
  go_wp2
  go_ret
  exact ⟨by rw [F.out]; rfl, K3.out⟩
 have F : Hid (srcB p d = trBx80 d.tr p.bods.length) := src4 HP.out HTs.out hc
 clear hc
 go_wp2_with fail
 refine (traceOk_anyx81 s3 c3 lo' hi' p.bods.length d.tr w3 (H'.out.keep (Keep.of_below K3.out hB')).2.2 (by omega) n3 n1).mono ?_
 rintro e w4 ⟨rfl, hb4⟩
 have K4 : Hid (Below w.heap.size w w4) := K3.out.trans (hb4.mono (by omega))
 clear x1' y2' hb4
 go_wp2
 go_ret
 exact ⟨by rw [F.out]; rfl, K4.out⟩
end Go.Proofs.YtcfehbfjillnoaaGreat
