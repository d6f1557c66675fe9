/- What Load is made of, in the program and in the specification. Conditions: memories that are counted, views of at most 2^20. -/
import Derived.Test.YtepfpbcjklaenaaKG00
import Derived.Test.YtepfpbcjklaenaaKG03
import Derived.Test.YtepfpbcjklaenaaKG02
import Derived.Test.YtepfpbcjklaenaaKG04
import Derived.Test.YtepfpbcjklaenaaKMemOk
namespace Go.Proofs.Ytepfpbcjklaenaa
set_option linter.unusedSimpArgs false
set_option linter.unusedVariables false
set_option maxRecDepth 100000
open Go.RowKit
def rightB (m : List (List WD)) (l : List Int) (cell : Int) : Bool := memB m && viewB m l && decide (0 ≤ cell ∧ cell < 24)
structure Rt (m : List (List WD)) (l : List Int) (k : Nat) (r : List WD) : Prop where
 hk : k < 24
 hr : m[k]? = some r
 n1 : 1 ≤ r.length
 n2 : r.length ≤ 4000
 hl : l.length = 24
 hm : m.length = 24
 v0 : 0 ≤ l.getD k 0
 v1 : l.getD k 0 < (r.length : Int)
 hw : ∀ (i : Nat) (x : WD), r[i]? = some x → x.vw.length = 24
theorem right_of {m : List (List WD)} {l : List Int} {cell : Int} (h : rightB m l cell = true) : ∃ (k : Nat) (r : List WD), cell = k ∧ Rt m l k r := by
 unfold rightB at h
 rw [Bool.and_eq_true, Bool.and_eq_true, decide_eq_true_eq] at h
 obtain ⟨⟨h1, h2⟩, h3⟩ := h
 unfold memB at h1
 rw [Bool.and_eq_true, decide_eq_true_eq, List.all_eq_true] at h1
 unfold viewB at h2
 rw [decide_eq_true_eq] at h2
 obtain ⟨k, rfl⟩ : ∃ k : Nat, cell = k := ⟨cell.toNat, by omega⟩
 have hk : k < 24 := by omega
 obtain ⟨r, hr⟩ : ∃ r, m[k]? = some r := ⟨_, List.getElem?_eq_getElem (by omega)⟩
 have h4 := h1.2 r (List.mem_of_getElem? hr)
 unfold rowB at h4
 rw [Bool.and_eq_true, decide_eq_true_eq, List.all_eq_true] at h4
 have h5 := h2.2 k (by omega)
 have e : m.getD k [] = r := by rw [List.getD_eq_getElem?_getD, hr]; rfl
 rw [e] at h5
 refine ⟨k, r, rfl, hk, hr, h4.1.1, h4.1.2, by omega, h1.1, h5.1, h5.2, fun i x hx => ?_⟩
 have h6 := h4.2 x (List.mem_of_getElem? hx)
 unfold viewB at h6
 rw [decide_eq_true_eq] at h6
 omega
/- what a memory reads does not lie in block g -/
def MemAv (w : World) (s : Option Addr) (m : List (List WD)) (g : Nat) : Prop :=
 ∀ gm om, s = some ⟨gm, om, none⟩ → gm ≠ g ∧ ∀ k gr or_ n1 c1, k < m.length → w.cell? ⟨gm, om + k, none⟩ = some (.slice (some ⟨gr, or_, none⟩) n1 c1) → 0 < n1 → gr ≠ g ∧ ∀ j g2 o2 n2 c2, j < n1 → w.cell? ⟨gr, or_ + j * 2 + 1, none⟩ = some (.slice (some ⟨g2, o2, none⟩) n2 c2) → 0 < n2 → g2 ≠ g
theorem IntsR.off {w w' : World} {lo hi : Nat} {s : Option Addr} {l : List Int} (h : IntsR w lo hi s l) (hb : ∀ g' o', s = some ⟨g', o', none⟩ → 0 < l.length → w'.heap[g']? = w.heap[g']?) : IntsR w' lo hi s l := by
 rcases h with h | ⟨g, o, hs, h1, h2, hc⟩
 ·exact .inl h
 ·refine .inr ⟨g, o, hs, h1, h2, fun i hi => ?_⟩
  exact (World.cell?_of_block (w := w) (hb g o hs (by omega))).trans (hc i hi)
set_option maxHeartbeats 2000000 in
theorem load_any (s : Option Addr) (c lo hi base g cap : Nat) (m : List (List WD)) (l : List Int) (k : Nat) (r : List WD) (late : Int) (hold : Bool) (j : Nat) (x : WD) (w : World) (h : MemR w lo hi s m) (ho : OwnN w base (.slice (some ⟨g, 0, none⟩) l.length cap) l) (hB : hi ≤ w.heap.size) (hav : MemAv w s m g) (hr : Rt m l k r)
  (hlate : late ≤ 9223372036854775807) (hj : mx (l.getD k 0) ((r.length : Int) - 1 - mx late 0) = j) (hx : r[j]? = some x) :
  Calls Try.prog 93 #[.slice (some ⟨g, 0, none⟩) l.length cap, .agg #[.slice s m.length c], .int .i64 k, .int .i64 late, .bool hold] w fun e w' => e = .returned (.int .i64 x.v) ∧ OwnN w' base (.slice (some ⟨g, 0, none⟩) l.length cap) (if hold = true then joinL (l.set k j) x.vw else l.set k j) ∧ Exc g (g + 1) w w' := by
 have hg := (World.ownsRow.lt ho g rfl).2
 obtain ⟨gm, om, s1, c1, es, a1, a2, a3, a4⟩ := h.row hr.hr
 subst es
 obtain ⟨gr, or_, s2, c2, es, b1, b2, b3, b4, b5⟩ := a4.at hx
 subst es
 obtain ⟨av1, av2⟩ := hav gm om rfl
 obtain ⟨av3, av4⟩ := av2 k _ _ _ _ (by have := hr.hk; have := hr.hm; omega) a3 (by have := (List.getElem?_eq_some_iff.1 hx).1; omega)
 have av5 : ∀ g' o', s2 = some ⟨g', o', none⟩ → 0 < x.vw.length → g' ≠ g := fun g' o' e hp => by subst e; exact av4 j g' o' _ _ (List.getElem?_eq_some_iff.1 hx).1 b4 hp
 have HAV : Hid (∀ g' o', s2 = some ⟨g', o', none⟩ → 0 < x.vw.length → g' ≠ g) := av5
 clear av2 av4 av5
 have hk := hr.hk
 have hll := hr.hl
 have hml := hr.hm
 have hn1 := hr.n1
 have hn2 := hr.n2
 have hjr := (List.getElem?_eq_some_iff.1 hx).1
 have e1 : w.cell? ⟨g, k, none⟩ = some (.int .i64 (l.getD k 0)) := ho.cell (by omega)
 have hfz : ∀ i, w.frozen? ⟨g, i, none⟩ = false := fun i => World.ownsRow.frozenAt ho i
 have hv0 := hr.v0
 have hv1 := hr.v1
 have HO := (show Hid (OwnN w base (.slice (some ⟨g, 0, none⟩) l.length cap) l) from ho)
 have HI : Hid (IntsR w lo hi s2 x.vw) := b5
 have hxl := hr.hw j x hx
 have HXL : Hid (x.vw.length = 24) := hxl
 generalize l.getD k 0 = y at e1 hv0 hv1 hj
 obtain ⟨q, hq⟩ : ∃ q : Int, mx late 0 = q := ⟨_, rfl⟩
 have hq0 : 0 ≤ q ∧ q ≤ 9223372036854775807 := by subst hq; unfold mx; split <;> omega
 rw [hq] at hj
 have hq1 : (if 0 > late then 0 else late) = q := by rw [← hq]; unfold mx; rfl
 have hw1 : IntKind.i64.wrap ((r.length : Int) - 1 - q) = (r.length : Int) - 1 - q := Go.IntWalk.i64_in _ (by omega)
 have hj1 : (if (r.length : Int) - 1 - q > y then (r.length : Int) - 1 - q else y) = (j : Int) := hj
 have HJ := (show Hid (mx y ((r.length : Int) - 1 - q) = j) from hj)
 have B0 : (0 : Int) ≤ (k : Int) := by omega
 have B1 : (k : Int) < (l.length : Int) := by omega
 have B2 : (k : Int) < (m.length : Int) := by omega
 have B3 : (0 : Int) ≤ (j : Int) := by omega
 have B4 : (j : Int) < (r.length : Int) := by omega
 have G1 : gm < w.heap.size := by omega
 have G2 : gr < w.heap.size := by omega
 have HLL : Hid (l.length = 24) := hll
 have hl2 : l.length ≤ 1048577 := by omega
 clear h a4 b5 hx hj hr ho hq hll hml hxl
 go_enter Try.func93, Try.ntmps93
 go_wp2_with fail
 obtain ⟨W, hW⟩ : ∃ W, (w.setCell ⟨g, k, none⟩ (.int .i64 j)).alloc (.cells #[.slice (some ⟨gm, om, none⟩) m.length c] 31) = W := ⟨_, rfl⟩
 have k0 : W.cell? ⟨w.heap.size, 0, none⟩ = some (.slice (some ⟨gm, om, none⟩) m.length c) := by subst hW; simp [go_sem]
 have kW : ∀ b, b < w.heap.size → b ≠ g → W.heap[b]? = w.heap[b]? := fun b h1 h2 => by subst hW; rw [Below.heap_alloc _ _ _ (by simpa using h1), Below.heap_setCell _ _ _ b h2]
 have k2 : W.cell? ⟨gm, om + k, none⟩ = some (.slice (some ⟨gr, or_, none⟩) r.length c1) := (World.cell?_of_block (w := w) (kW gm (by omega) av1)).trans a3
 have k3 : W.cell? ⟨gr, or_ + j * 2, none⟩ = some (.int .i64 x.v) := (World.cell?_of_block (w := w) (kW gr (by omega) av3)).trans b3
 have k4 : W.cell? ⟨gr, or_ + j * 2 + 1, none⟩ = some (.slice s2 x.vw.length c2) := (World.cell?_of_block (w := w) (kW gr (by omega) av3)).trans b4
 have OW : Hid (OwnN W base (.slice (some ⟨g, 0, none⟩) l.length cap) (l.set k j)) := by
  subst hW
  have p5 := (World.ownsRow.stored HO.out k (.int .i64 j)).1
  show OwnN _ _ _ _
  refine OwnN.alloc ?_ _
  unfold OwnN
  rw [List.map_set, List.length_set]
  exact p5
 have k1 : W.cell? ⟨g, k, none⟩ = some (.int .i64 j) := by
  have h1 : OwnN W base (.slice (some ⟨g, 0, none⟩) (l.set k j).length cap) (l.set k (j : Int)) := by rw [List.length_set]; exact OW.out
  rw [h1.cell (i := k) (by rw [List.length_set]; omega)]
  simp [List.getD_eq_getElem?_getD, show k < l.length by omega]
 have EW : Hid (Exc g (g + 1) w W) := by
  subst hW
  exact ⟨rfl, rfl, rfl, by simp, fun b h1 h2 => by rw [Below.heap_alloc _ _ _ (by simpa using h1), Below.heap_setCell _ _ _ b (by show b ≠ g; omega)]⟩
 have zW : w.heap.size < W.heap.size := by subst hW; simp
 have IW : Hid (IntsR W lo hi s2 x.vw) := HI.out.off (fun g' o' e hp => kW g' (by rcases HI.out with q | ⟨g2, o2, e2, q1, q2, -⟩; (rw [q] at hp; simp at hp); (rw [e] at e2; injection e2 with e2; injection e2 with e2; omega)) (HAV.out g' o' e hp))
 rw [hW]
 clear hW kW
 have z1 : g < W.heap.size := by omega
 have z2 : gm < W.heap.size := by omega
 have z3 : gr < W.heap.size := by omega
 go_region
 obtain ⟨X, hX⟩ : ∃ X, (W.alloc (.cells #[.int .i64 x.v, .slice s2 x.vw.length c2] 48)).drew = X := ⟨_, rfl⟩
 have x0 : X.cell? ⟨W.heap.size, 0, none⟩ = some (.int .i64 x.v) := by subst hX; simp [go_sem]
 have x1 : X.cell? ⟨W.heap.size, 1, none⟩ = some (.slice s2 x.vw.length c2) := by subst hX; simp [go_sem]
 have kX : Below W.heap.size W X := by subst hX; exact Below.drew ((Below.refl _ _).alloc (Nat.le_refl _) _)
 have zX : W.heap.size < X.heap.size := by subst hX; show W.heap.size < (W.alloc _).heap.size; simp
 rw [hX]
 clear hX k0 k1 k2 k3 k4 a3 b3 b4 e1 hfz
 have OX : Hid (OwnN X base (.slice (some ⟨g, 0, none⟩) l.length cap) (l.set k j)) := ownKeep' OW.out (fun b hb => by have hb2 : some g = some b := hb; injection hb2 with hb2; exact kX.block b (by omega))
 have IX : Hid (IntsR X lo hi s2 x.vw) := IW.out.keep (Keep.of_below kX (by omega))
 have EX : Hid (Exc g (g + 1) w X) := by
  obtain ⟨p1, p2, p3, p4, p5⟩ := EW.out
  exact ⟨kX.os.trans p1, kX.tape.trans p2, kX.output.trans p3, by omega, fun b h1 h2 => (kX.block b (by omega)).trans (p5 b h1 h2)⟩
 clear kX
 cases hold
 ·go_wp2
  go_ret
  exact ⟨rfl, OX.out, EX.out⟩
 ·have le := learn_any base g cap (l.set k j) s2 c2 lo hi x.vw X (by rw [List.length_set]; exact OX.out) IX.out (by omega) HAV.out (by rw [List.length_set]; omega) (by have := HXL.out; omega)
  rw [List.length_set] at le
  have HT : Hid (learnL (l.set k (j : Int)) x.vw = joinL (l.set k (j : Int)) x.vw) := learn_join _ _ (by rw [List.length_set, HLL.out, HXL.out]; exact Nat.le_refl _)
  go_wp2_with fail
  refine le.mono ?_
  rintro e w3 ⟨rfl, ho3, hx3, hz3⟩
  have y0 : w3.cell? ⟨W.heap.size, 0, none⟩ = some (.int .i64 x.v) := (World.cell?_of_block (w := X) (hx3.blk W.heap.size zX (.inr (by omega)))).trans x0
  have y1 : w3.cell? ⟨W.heap.size, 1, none⟩ = some (.slice s2 x.vw.length c2) := (World.cell?_of_block (w := X) (hx3.blk W.heap.size zX (.inr (by omega)))).trans x1
  have HO3 := (show Hid (OwnN w3 base (.slice (some ⟨g, 0, none⟩) l.length cap) (learnL (l.set k (j : Int)) x.vw)) from ho3)
  have HX3 : Hid (Exc g (g + 1) w w3) := by
   obtain ⟨p1, p2, p3, p4, p5⟩ := EX.out
   exact ⟨hx3.os.trans p1, hx3.tape.trans p2, hx3.out.trans p3, by have := hx3.size; omega, fun b h1 h2 => (hx3.blk b (by omega) h2).trans (p5 b h1 h2)⟩
  have zz : W.heap.size < w3.heap.size := by omega
  clear ho3 hx3 hz3 le
  go_wp2
  go_ret
  refine ⟨rfl, ?_, HX3.out⟩
  have := HO3.out
  rw [HT.out] at this
  exact this
end Go.Proofs.Ytepfpbcjklaenaa
