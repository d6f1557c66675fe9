/- A runner of the program does a step that turns registers. No condition. -/
import Derived.Test.YtepfpbcjklaenaaKG00
import Derived.Test.YtepfpbcjklaenaaKG06
import Derived.Test.YtepfpbcjklaenaaKG07
import Derived.Test.YtepfpbcjklaenaaKKMQ
import Derived.Test.YtepfpbcjklaenaaKKIm2
import Derived.Test.YtepfpbcjklaenaaKG08
import Derived.Test.YtepfpbcjklaenaaKG04
import Derived.Test.YtepfpbcjklaenaaKKApp
import Derived.Test.YtepfpbcjklaenaaKKIm11
namespace Go.Proofs.Ytepfpbcjklaenaa
set_option linter.unusedSimpArgs false
set_option linter.unusedVariables false
set_option maxRecDepth 100000
open Go.RowKit
theorem Rn.off {w : World} {R bm gk gc gs gr gv who n cv cr cs g j : Nat} {late : Int} {vc vk vm vt v : Value} {nc cc : Nat} {pc st : Int} (h : Rn w R bm gk gc gs gr gv who n cv cr cs late vc vk vm vt nc cc pc st) (h1 : R ≠ g) (h2 : bm ≠ g) (h3 : gk ≠ g) (h4 : gc ≠ g) : Rn (w.setCell ⟨g, j, none⟩ v) R bm gk gc gs gr gv who n cv cr cs late vc vk vm vt nc cc pc st := by
 obtain ⟨r0, r1, r2, r3, r4, m0, m1, m2, m3, fm, ec, c0, k0, k1, k3, fk, wc, zR, zm, zk, zc, zr⟩ := h
 have kb : ∀ b, b ≠ g → (w.setCell ⟨g, j, none⟩ v).heap[b]? = w.heap[b]? := fun b hb => Below.heap_setCell _ _ _ b hb
 have cR : ∀ i, (w.setCell ⟨g, j, none⟩ v).cell? ⟨R, i, none⟩ = w.cell? ⟨R, i, none⟩ := fun i => World.cell?_of_block (kb R h1)
 have cM : ∀ i, (w.setCell ⟨g, j, none⟩ v).cell? ⟨bm, i, none⟩ = w.cell? ⟨bm, i, none⟩ := fun i => World.cell?_of_block (kb bm h2)
 have cK : ∀ i, (w.setCell ⟨g, j, none⟩ v).cell? ⟨gk, i, none⟩ = w.cell? ⟨gk, i, none⟩ := fun i => World.cell?_of_block (kb gk h3)
 exact ⟨(cR _).trans r0, (cR _).trans r1, (cR _).trans r2, (cR _).trans r3, (cR _).trans r4, (cM _).trans m0, (cM _).trans m1, (cM _).trans m2, (cM _).trans m3, fun i => (World.frozen?_of_block (kb bm h2)).trans (fm i), ec, (World.cell?_of_block (kb gc h4)).trans c0, (cK _).trans k0, (cK _).trans k1, (cK _).trans k3, fun i => (World.frozen?_of_block (kb gk h3)).trans (fk i), wc, by simpa using zR, by simpa using zm, by simpa using zk, by simpa using zc, by simpa using zr⟩
theorem stepAt_reck (d : MD) (who : Nat) (late : Int) (k : KD) (n : Nat) (op : Int) (r' a' b' : Nat) (nn : Int) (hop : op = 1 ∨ op = 2 ∨ op = 3 ∨ op = 4) : stepAt d who late k n ⟨op, r', a', b', nn⟩ = (goM d who { k with regs := k.regs.set r' (reckV op nn (k.regs.getD a' 0) (k.regs.getD b' 0)) } n (k.pc + 1), 0) := by
 rcases hop with rfl | rfl | rfl | rfl
 ·rw [stepAt1 _ _ _ _ _ _ rfl]; rfl
 ·rw [stepAt2 _ _ _ _ _ _ rfl]; rfl
 ·rw [stepAt3 _ _ _ _ _ _ rfl]; rfl
 ·rw [stepAt4 _ _ _ _ _ _ rfl]
  unfold setR regA
  simp [reckV, bitN]
theorem reckon_any {w : World} {R bm gk gc gs gr gv who n cv cr cs : Nat} {late : Int} {vc vk vm vt : Value} {nc cc : Nat} {pc st : Int} (op : Int) (hop : op = 1 ∨ op = 2 ∨ op = 3 ∨ op = 4) (r' a' b' : Nat) (nn va vb v0 : Int) (h : Rn w R bm gk gc gs gr gv who n cv cr cs late vc vk vm vt nc cc pc st) (hr : r' < 8) (ha : a' < 8) (hb : b' < 8) (lr : w.cell? ⟨gr, r', none⟩ = some (.int .i64 v0)) (la : w.cell? ⟨gr, a', none⟩ = some (.int .i64 va)) (lb : w.cell? ⟨gr, b', none⟩ = some (.int .i64 vb)) (fr : ∀ j, w.frozen? ⟨gr, j, none⟩ = false) :
  Calls Try.prog 79 #[.pointer (some ⟨R, 0, none⟩), .agg #[.int .i64 op, .int .i64 r', .int .i64 a', .int .i64 b', .int .i64 nn]] w fun e w' => e = .returned (.tuple #[]) ∧ Below w.heap.size (w.setCell ⟨gr, r', none⟩ (.int .i64 (reckV op nn va vb))) w' := by
 rcases hop with rfl | rfl | rfl | rfl
 ·exact reckon1 r' a' b' nn va vb v0 h hr ha hb lr la lb fr
 ·exact reckon2 r' a' b' nn va vb v0 h hr ha hb lr la lb fr
 ·exact reckon3 r' a' b' nn va vb v0 h hr ha hb lr la lb fr
 ·exact reckon4 r' a' b' nn va vb v0 h hr ha hb lr la lb fr
set_option maxHeartbeats 8000000 in
theorem do14 {Hq : Nat → Prop} {w : World} {B R bm gk gc gs gr gv who n cv cr cs ck N p : Nat} {late : Int} {vc vm vt : Value} {nc cc : Nat} {st : Int} {LC : List CV} {LK : List KV} {S : List RS} {d : MD} {k : KD} (op : Int) (hop : op = 1 ∨ op = 2 ∨ op = 3 ∨ op = 4) (r' a' b' : Nat) (nn : Int) (h : Rn w R bm gk gc gs gr gv who n cv cr cs late vc (.slice (some ⟨gk, 0, none⟩) N ck) vm vt nc cc p st) (hq : MQ w B Hq vc (.slice (some ⟨gk, 0, none⟩) N ck) vm vt LC LK S d) (hN : LK.length = N) (hx : LK[who]? = some ⟨k, .slice (some ⟨gr, 0, none⟩) 8 cr, .slice (some ⟨gv, 0, none⟩) 24 cv⟩) (hp : k.pc = p) (h8 : k.regs.length = 8) (hr : r' < 8) (ha : a' < 8) (hb : b' < 8) (hn8 : n ≤ 800) (hpn : p < n) (hB : B ≤ w.heap.size) (nR2 : R ≠ gr) (nM2 : bm ≠ gr) (nK2 : gk ≠ gr) (nC2 : gc ≠ gr) :
  Calls Try.prog 69 #[.pointer (some ⟨R, 0, none⟩), .agg #[.int .i64 op, .int .i64 r', .int .i64 a', .int .i64 b', .int .i64 nn]] w fun e w' => e = .returned (.int .i64 0) ∧ ∃ LK', MQ w' B Hq vc (.slice (some ⟨gk, 0, none⟩) N ck) vm vt LC LK' S (stepAt d who late k n ⟨op, r', a', b', nn⟩).1 ∧ Below B w w' ∧ ∀ b', b' < w.heap.size → b' ≠ gr → b' ≠ gk → w'.heap[b']? = w.heap[b']? := by
 obtain ⟨V, hV⟩ : ∃ V, w.alloc (.cells #[.int .i64 op, .int .i64 r', .int .i64 a', .int .i64 b', .int .i64 nn] 25) = V := ⟨_, rfl⟩
 have kv : Below w.heap.size w V := by subst hV; exact (Below.refl _ _).alloc (Nat.le_refl _) _
 have zV : w.heap.size < V.heap.size := by subst hV; simp
 have QV := hq.keep (w' := V) (fun b _ h1 => kv.block b h1) kv.size
 have hrn := (QV.k.inn who _ hx).1
 have hrn' : OwnN V B (.slice (some ⟨gr, 0, none⟩) k.regs.length cr) k.regs := by rw [h8]; exact hrn
 have RV := h.below kv
 have bgr : B ≤ gr := (World.ownsRow.lt hrn gr rfl).1
 have bgk : B ≤ gk := (World.ownsRow.lt hq.k.row gk rfl).1
 obtain ⟨z, hz⟩ : ∃ z, reckV op nn (k.regs.getD a' 0) (k.regs.getD b' 0) = z := ⟨_, rfl⟩
 have RK := reckon_any op hop r' a' b' nn _ _ _ RV hr ha hb (hrn'.cell (by omega)) (hrn'.cell (by omega)) (hrn'.cell (by omega)) (fun j => World.ownsRow.frozenAt hrn' j)
 rw [hz] at RK
 have HRK := hidM1 RK
 have Q1 := QV.reg hx h8 r' z
 have R1 := RV.off (g := gr) (j := r') (v := .int .i64 z) nR2 nM2 nK2 nC2
 have HQ1 := hidM1 Q1
 have HR1 := hidM1 R1
 have HX := hidM1 hx
 have KV := hidM1 kv
 have EQ : Hid (stepAt d who late k n ⟨op, r', a', b', nn⟩ = (goM d who { k with regs := k.regs.set r' z } n (p + 1), 0)) := by
  show _ = _
  rw [stepAt_reck d who late k n op r' a' b' nn hop, hz, hp]
 have HV := hidM1 hV
 obtain ⟨r0, r1, r2, r3, r4, m0, m1, m2, m3, fm, ec, c0, k0, k1, k3, fk, wc, zR, zm, zk, zc, zr⟩ := h
 have w1 : IntKind.i64.wrap ((p : Int) + 1) = (p : Int) + 1 := Go.IntWalk.i64_in _ (by omega)
 clear hq hx QV hrn hrn' RV RK Q1 R1 kv hV hz r0 r1 r2 r3 r4 m0 m1 m2 m3 fm c0 k0 k1 k3 fk
 rcases hop with rfl | rfl | rfl | rfl
 all_goals
  go_enter Try.func69, Try.ntmps69
  go_wp2_with fail
  rw [HV.out]
  refine Calls.mono HRK.out ?_
  rintro e w5 ⟨rfl, hb5⟩
  have sz : (V.setCell ⟨gr, r', none⟩ (.int .i64 z)).heap.size = V.heap.size := by simp
  have hb5' : Below (V.setCell ⟨gr, r', none⟩ (.int .i64 z)).heap.size (V.setCell ⟨gr, r', none⟩ (.int .i64 z)) w5 := by rw [sz]; exact hb5
  have R5 := HR1.out.below hb5'
  have Q5 := hidM1 (HQ1.out.keep (w' := w5) (fun b _ h1 => hb5'.block b h1) hb5'.size)
  have HB5 := hidM1 hb5
  have HR5 := hidM1 R5
  obtain ⟨r0, r1, r2, r3, r4, m0, m1, m2, m3, fm, ec', c0, k0, k1, k3, fk, wc', zR', zm', zk', zc', zr'⟩ := R5
  clear hb5 hb5' sz ec'
  by_cases hin : (p : Int) + 1 < (n : Int)
  ·have GT := hidM1 (goTo_yes ((p : Int) + 1) HR5.out (by omega) hin)
   go_wp2_with fail
   refine Calls.mono GT.out ?_
   rintro e w6 ⟨rfl, hb6⟩
   have HB6 := hidM1 hb6
   clear hb6
   go_wp2
   go_ret
   obtain ⟨LK2, q2⟩ := MQ.go (n := n) Q5.out (by rw [List.length_set]; exact hN) (set_at HX.out) (p + 1) hin (F := w6) (fun b hb => HB6.out.block b hb) (by simpa using HB6.out.size)
   rw [goM_put] at q2
   refine ⟨rfl, LK2, by rw [EQ.out]; exact q2, ?_, fun b' h1 h2 h3 => ?_⟩
   ·have s5 := HB5.out.size
    simp at s5
    exact ((((KV.out.mono hB).setCell (p := ⟨gr, r', none⟩) bgr _).trans (HB5.out.mono (by omega))).setCell (p := ⟨gk, who * 4, none⟩) bgk _).trans (HB6.out.mono (by omega))
   ·have s5 := HB5.out.size
    simp at s5
    exact (HB6.out.block b' (by omega)).trans ((Below.heap_setCell _ ⟨gk, _, none⟩ _ b' h3).trans ((HB5.out.block b' (by omega)).trans ((Below.heap_setCell _ ⟨gr, _, none⟩ _ b' h2).trans (KV.out.block b' h1))))
  ·have GT := hidM1 (goTo_no ((p : Int) + 1) HR5.out (by omega))
   go_wp2_with fail
   refine Calls.mono GT.out ?_
   rintro e w6 ⟨rfl, hb6⟩
   have HB6 := hidM1 hb6
   clear hb6
   go_wp2
   go_ret
   obtain ⟨LK2, q2⟩ := MQ.no (n := n) Q5.out (by rw [List.length_set]; exact hN) (set_at HX.out) (p + 1) (by omega) (F := w6) (fun b hb => HB6.out.block b hb) (by simpa using HB6.out.size)
   rw [goM_put] at q2
   refine ⟨rfl, LK2, by rw [EQ.out]; exact q2, ?_, fun b' h1 h2 h3 => ?_⟩
   ·have s5 := HB5.out.size
    simp at s5
    exact ((((KV.out.mono hB).setCell (p := ⟨gr, r', none⟩) bgr _).trans (HB5.out.mono (by omega))).setCell (p := ⟨gk, who * 4 + 3, none⟩) bgk _).trans (HB6.out.mono (by omega))
   ·have s5 := HB5.out.size
    simp at s5
    exact (HB6.out.block b' (by omega)).trans ((Below.heap_setCell _ ⟨gk, _, none⟩ _ b' h3).trans ((HB5.out.block b' (by omega)).trans ((Below.heap_setCell _ ⟨gr, _, none⟩ _ b' h2).trans (KV.out.block b' h1))))
end Go.Proofs.Ytepfpbcjklaenaa
