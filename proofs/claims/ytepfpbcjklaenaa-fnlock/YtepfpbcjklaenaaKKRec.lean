/- New cores put behind a row of them, and new machines. Conditions: fewer than 2^30 of them. -/
import Derived.Test.YtepfpbcjklaenaaKG00
import Derived.Test.YtepfpbcjklaenaaKG02
import Derived.Test.YtepfpbcjklaenaaKMemOk
import Derived.Test.YtepfpbcjklaenaaKG06
import Derived.Test.YtepfpbcjklaenaaKG04
import Derived.Test.YtepfpbcjklaenaaKG15
import Derived.Test.YtepfpbcjklaenaaKG05
import Derived.Test.YtepfpbcjklaenaaKG01
import Derived.Test.YtepfpbcjklaenaaKKApp
import Derived.Test.YtepfpbcjklaenaaKKOkB
import Derived.Test.YtepfpbcjklaenaaKMemNew
namespace Go.Proofs.Ytepfpbcjklaenaa
set_option linter.unusedSimpArgs false
set_option linter.unusedVariables false
set_option maxRecDepth 100000
open Go.RowKit
/- new cores -/
def zKD : KD := ⟨0, List.replicate 8 0, List.replicate 24 0, 0⟩
theorem made0 {w : World} {base n : Nat} (hb : base ≤ w.heap.size) (hn : n ≤ 1048576) : OwnN (w.alloc (.cells (madeCells #[.int .i64 0] n) 3)) base (.slice (some ⟨w.heap.size, 0, none⟩) n n) (List.replicate n 0) := by
 have h0 := World.ownsRow_lit (base := base) (e := 3) (size := 1) w (madeCells #[.int .i64 0] n) n hb (by unfold maxLen; omega) (by rw [size_madeCells, Nat.mul_one])
 rw [toList_madeCells_one] at h0
 show World.ownsRow _ _ _ _ _ _ _
 rw [List.length_replicate, List.map_replicate]
 exact h0
def WA (w : World) : World := (w.alloc (.cells (madeCells #[.int .i64 0] 8) 3)).alloc (.cells (madeCells #[.int .i64 0] 24) 3)
def WB (w : World) : World := (w.alloc (.cells (madeCells #[.int .i64 0] 24) 3)).alloc (.cells (madeCells #[.int .i64 0] 8) 3)
def yA (w : World) : KV := ⟨zKD, .slice (some ⟨w.heap.size, 0, none⟩) 8 8, .slice (some ⟨w.heap.size + 1, 0, none⟩) 24 24⟩
def yB (w : World) : KV := ⟨zKD, .slice (some ⟨w.heap.size + 1, 0, none⟩) 8 8, .slice (some ⟨w.heap.size, 0, none⟩) 24 24⟩
theorem WA_below (w : World) : Below w.heap.size w (WA w) := ((Below.refl _ _).alloc (Nat.le_refl _) _).alloc (by simp) _
theorem WB_below (w : World) : Below w.heap.size w (WB w) := ((Below.refl _ _).alloc (Nat.le_refl _) _).alloc (by simp) _
theorem WA_size (w : World) : (WA w).heap.size = w.heap.size + 2 := by simp [WA]
theorem WB_size (w : World) : (WB w).heap.size = w.heap.size + 2 := by simp [WB]
theorem WA_own {w : World} {base : Nat} (hb : base ≤ w.heap.size) : OwnN (WA w) base (yA w).r (yA w).d.regs ∧ OwnN (WA w) base (yA w).v (yA w).d.vw := by
 refine ⟨ownKeep' (made0 (n := 8) hb (by omega)) (fun k hk => Below.heap_alloc _ _ _ ?_), ?_⟩
 ·have hk2 : some w.heap.size = some k := hk
  injection hk2 with hk2
  simp
  omega
 ·have h := made0 (w := w.alloc (.cells (madeCells #[.int .i64 0] 8) 3)) (base := base) (n := 24) (by simp; omega) (by omega)
  rw [World.size_alloc] at h
  exact h
theorem WB_own {w : World} {base : Nat} (hb : base ≤ w.heap.size) : OwnN (WB w) base (yB w).r (yB w).d.regs ∧ OwnN (WB w) base (yB w).v (yB w).d.vw := by
 refine ⟨?_, ownKeep' (made0 (n := 24) hb (by omega)) (fun k hk => Below.heap_alloc _ _ _ ?_)⟩
 ·have h := made0 (w := w.alloc (.cells (madeCells #[.int .i64 0] 24) 3)) (base := base) (n := 8) (by simp; omega) (by omega)
  rw [World.size_alloc] at h
  exact h
 ·have hk2 : some w.heap.size = some k := hk
  injection hk2 with hk2
  simp
  omega
theorem new_sep {w : World} {base : Nat} {v : Value} {L : List KV} (h : OwnK w base v L) {y : KV} (hy : y = yA w ∨ y = yB w) : ∀ (i : Nat) (z : KV) (k : Nat), L[i]? = some z → (y.r.ownBlock = some k ∨ y.v.ownBlock = some k) → ¬ (z.r.ownBlock = some k ∨ z.v.ownBlock = some k) := fun i z k hz hk hk' => by
 have h1 : w.heap.size ≤ k := by
  rcases hy with rfl | rfl <;> rcases hk with hk | hk
  ·have e : some w.heap.size = some k := hk
   injection e with e; omega
  ·have e : some (w.heap.size + 1) = some k := hk
   injection e with e; omega
  ·have e : some (w.heap.size + 1) = some k := hk
   injection e with e; omega
  ·have e : some w.heap.size = some k := hk
   injection e with e; omega
 rcases hk' with hk' | hk'
 ·have := (World.ownsRow.lt (h.inn i z hz).1 _ hk').2
  omega
 ·have := (World.ownsRow.lt (h.inn i z hz).2 _ hk').2
  omega
theorem new_two {w : World} {y : KV} (hy : y = yA w ∨ y = yB w) : ∀ k, y.r.ownBlock = some k → y.v.ownBlock ≠ some k := fun k hk hk' => by
 rcases hy with rfl | rfl
 ·have e : some w.heap.size = some k := hk
  have e' : some (w.heap.size + 1) = some k := hk'
  injection e with e
  injection e' with e'
  omega
 ·have e : some (w.heap.size + 1) = some k := hk
  have e' : some w.heap.size = some k := hk'
  injection e with e
  injection e' with e'
  omega
def newMd (l : List (List I5)) : MD := ⟨l, List.replicate l.length zKD, newM 24, []⟩
def newMa (l : List (List I5)) : MD := if codesB l then newMd l else noMd
theorem view_new : viewB (newM 24) (List.replicate 24 0) = true := by decide +kernel
theorem mem_new : memB (newM 24) = true := by decide +kernel
theorem code_pos {x : List I5} (h : codeB x = true) : 1 ≤ x.length := by
 unfold codeB at h
 simp at h
 omega
theorem mach_new (l : List (List I5)) : machB (newMd l) = codesB l := by
 cases hc : codesB l with
 | false => unfold machB; simp [newMd, hc]
 | true =>
  have ha : l.all codeB = true := by unfold codesB at hc; simp at hc ⊢; exact hc.2
  have hz : coresB (newM 24) (List.replicate l.length zKD) l = true := by
   unfold coresB
   rw [decide_eq_true (by simp)]
   simp only [Bool.true_and]
   refine all_yes (fun i t ht => ?_)
   obtain ⟨h1, h2⟩ := List.getElem?_zip_eq_some.1 ht
   have e1 : t.1 = zKD := by
    rw [List.getElem?_replicate] at h1
    split at h1
    ·injection h1 with h1; exact h1.symm
    ·cases h1
   have hp := code_pos (List.all_eq_true.1 ha t.2 (List.mem_of_getElem? h2))
   unfold coreB
   rw [e1]
   simp only [zKD, List.length_replicate]
   rw [view_new]
   simp [Plain.inB, Plain.oneB]
   omega
  have ht : trB [] (List.replicate l.length zKD).length = true := by simp [trB]
  unfold machB
  simp only [newMd]
  rw [hc, hz, ht, mem_new]
  rfl
theorem szK_new : ∀ n, szK (List.replicate n zKD) = n * 32
 | 0 => rfl
 | n + 1 => by
  rw [List.replicate_succ]
  show zKD.regs.length + zKD.vw.length + szK (List.replicate n zKD) = (n + 1) * 32
  rw [szK_new n]
  show 8 + 24 + n * 32 = (n + 1) * 32
  omega
theorem szR_new : szR (newM 24) = 600 := by decide +kernel
theorem fits_new {l : List (List I5)} (h : l.length + szC l ≤ 1048576) (h4 : l.length ≤ 4) : MaFits (newMd l) := by
 refine ⟨h, ?_, ?_, by simp [newMd]⟩
 ·simp only [newMd, szK_new, List.length_replicate]
  omega
 ·simp only [newMd, szR_new, newM_len]
  omega
theorem MaO.of3 {w : World} {lo hi a1 b1 a2 b2 a3 b3 : Nat} {p : MP} {d : MD} (hc : GO w a1 b1 p.s1 TC p.RC (d.codes.map codeV)) (hm : MO w a2 b2 p.s3 p.S d.mem) (hk : GO w a3 b3 p.s2 TK p.RK (d.cores.map coreV)) (ht : d.tr = []) (l1 : lo ≤ a1) (l2 : b1 ≤ a2) (l3 : b2 ≤ a3) (l4 : b3 ≤ hi) (l5 : a1 ≤ b1 := by omega) (l6 : a2 ≤ b2 := by omega) (l7 : a3 ≤ b3 := by omega) : MaO w lo hi p d := by
 have hv : vAs (p.x4 d) = [] := by simp [MP.x4, VS.wide, vAs, ht]
 refine ⟨hc.mono (by omega) (by omega), hk.mono (by omega) (by omega), hm.mono (by omega) (by omega), ⟨by simp [MP.x4, VS.wide, ht, fl2], .inl (by simp [ht, fl2])⟩, ?_⟩
 unfold MP.as
 rw [hv, List.append_nil]
 refine List.nodup_append.2 ⟨hc.d, List.nodup_append.2 ⟨hk.d, hm.d, fun a ha b hb e => ?_⟩, fun a ha b hb e => ?_⟩
 ·subst e
  have := (hk.blk ha).1
  have := (hm.blk hb).2
  omega
 ·subst e
  have := (hc.blk ha).2
  rcases List.mem_append.1 hb with hb | hb
  ·have := (hk.blk hb).1
   omega
  ·have := (hm.blk hb).1
   omega
end Go.Proofs.Ytepfpbcjklaenaa
