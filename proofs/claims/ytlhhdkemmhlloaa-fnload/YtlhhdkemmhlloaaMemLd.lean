/- What Load is made of, in the program and in the specification. Conditions: memories that are counted, views of at most 2^20. -/
import Derived.Test.YtlhhdkemmhlloaaMemOk
namespace Go.Proofs.Ytlhhdkemmhlloaa
set_option linter.unusedSimpArgs false
set_option linter.unusedVariables false
set_option maxRecDepth 100000
open Go.RowKit

def rightB (m : List (List WD)) (l : List Int) (cell : Int) : Bool := memB m && viewB m l && decide (0 ≤ cell ∧ cell < 24)
def rowAt (m : List (List WD)) (cell : Int) : List WD := m.getD cell.toNat []
def atL (m : List (List WD)) (l : List Int) (cell late : Int) : Int := mx (l.getD cell.toNat 0) (((rowAt m cell).length : Int) - 1 - mx late 0)
def wrAt (m : List (List WD)) (cell at_ : Int) : WD := (rowAt m cell).getD at_.toNat ⟨0, []⟩
def viewAt (m : List (List WD)) (l : List Int) (cell late : Int) (hold : Bool) : List Int :=
  if hold = true then joinL (l.set cell.toNat (atL m l cell late)) (wrAt m cell (atL m l cell late)).vw else l.set cell.toNat (atL m l cell late)
def loadV (m : List (List WD)) (l : List Int) (cell late : Int) : Int := if rightB m l cell = true then (wrAt m cell (atL m l cell late)).v else 0
def loadW (m : List (List WD)) (l : List Int) (cell late : Int) (hold : Bool) : List Int := if rightB m l cell = true then viewAt m l cell late hold else l
theorem mx_comm (a b : Int) : mx a b = mx b a := by unfold mx; split <;> split <;> omega
structure Rt (m : List (List WD)) (l : List Int) (k : Nat) (r : List WD) : Prop where
  hk : k < 24
  hr : m[k]? = some r
  n1 : 1 ≤ r.length
  n2 : r.length ≤ 4000
  hl : l.length = 24
  hm : m.length = 24
  v0 : 0 ≤ l.getD k 0
  v1 : l.getD k 0 < (r.length : Int)
  hw : ∀ (i : Nat) (x : WD), r[i]? = some x → x.vw.length = 24
theorem right_of {m : List (List WD)} {l : List Int} {cell : Int} (h : rightB m l cell = true) : ∃ (k : Nat) (r : List WD), cell = k ∧ Rt m l k r := by
  unfold rightB at h
  rw [Bool.and_eq_true, Bool.and_eq_true, decide_eq_true_eq] at h
  obtain ⟨⟨h1, h2⟩, h3⟩ := h
  unfold memB at h1
  rw [Bool.and_eq_true, decide_eq_true_eq, List.all_eq_true] at h1
  unfold viewB at h2
  rw [decide_eq_true_eq] at h2
  obtain ⟨k, rfl⟩ : ∃ k : Nat, cell = k := ⟨cell.toNat, by omega⟩
  have hk : k < 24 := by omega
  obtain ⟨r, hr⟩ : ∃ r, m[k]? = some r := ⟨_, List.getElem?_eq_getElem (by omega)⟩
  have h4 := h1.2 r (List.mem_of_getElem? hr)
  unfold rowB at h4
  rw [Bool.and_eq_true, decide_eq_true_eq, List.all_eq_true] at h4
  have h5 := h2.2 k (by omega)
  have e : m.getD k [] = r := by rw [List.getD_eq_getElem?_getD, hr]; rfl
  rw [e] at h5
  refine ⟨k, r, rfl, hk, hr, h4.1.1, h4.1.2, by omega, h1.1, h5.1, h5.2, fun i x hx => ?_⟩
  have h6 := h4.2 x (List.mem_of_getElem? hx)
  unfold viewB at h6
  rw [decide_eq_true_eq] at h6
  omega
theorem Rt.row {m : List (List WD)} {l : List Int} {k : Nat} {r : List WD} (h : Rt m l k r) : rowAt m (k : Int) = r := by
  unfold rowAt
  rw [Int.toNat_natCast, List.getD_eq_getElem?_getD, h.hr]
  rfl
theorem Rt.at' {m : List (List WD)} {l : List Int} {k : Nat} {r : List WD} (h : Rt m l k r) (late : Int) : ∃ (j : Nat) (x : WD), atL m l k late = j ∧ j < r.length ∧ r[j]? = some x ∧ wrAt m k (atL m l k late) = x ∧ mx (l.getD k 0) ((r.length : Int) - 1 - mx late 0) = j := by
  have h1 := h.v0
  have h2 := h.v1
  have h3 := h.n1
  have e : atL m l k late = mx (l.getD k 0) ((r.length : Int) - 1 - mx late 0) := by unfold atL; rw [h.row, Int.toNat_natCast]
  have hb : 0 ≤ mx (l.getD k 0) ((r.length : Int) - 1 - mx late 0) ∧ mx (l.getD k 0) ((r.length : Int) - 1 - mx late 0) < r.length := by
    unfold mx
    split <;> split <;> omega
  obtain ⟨j, hj⟩ : ∃ j : Nat, mx (l.getD k 0) ((r.length : Int) - 1 - mx late 0) = j := ⟨Int.toNat _, (Int.toNat_of_nonneg hb.1).symm⟩
  rw [hj] at hb e
  have hjr : j < r.length := by omega
  refine ⟨j, r[j], e, hjr, List.getElem?_eq_getElem hjr, ?_, hj⟩
  unfold wrAt
  rw [h.row, e, Int.toNat_natCast, List.getD_eq_getElem?_getD, List.getElem?_eq_getElem hjr]
  rfl
theorem loadV_yes {m : List (List WD)} {l : List Int} {k : Nat} {late : Int} {j : Nat} {x : WD} (h : rightB m l k = true) (hw : wrAt m k (atL m l k late) = x) : loadV m l k late = x.v := by unfold loadV; rw [if_pos h, hw]
theorem loadW_yes {m : List (List WD)} {l : List Int} {k : Nat} {late : Int} {hold : Bool} {j : Nat} {x : WD} (h : rightB m l k = true) (he : atL m l k late = j) (hw : wrAt m k (atL m l k late) = x) : loadW m l k late hold = if hold = true then joinL (l.set k j) x.vw else l.set k j := by
  unfold loadW viewAt
  rw [if_pos h, hw, he, Int.toNat_natCast]


set_option maxHeartbeats 2000000 in
theorem reaches_any (s s' : Option Addr) (c c' lo hi lo' hi' : Nat) (m : List (List WD)) (l : List Int) (cell : Int) (w : World) (h : MemR w lo hi s m) (h' : IntsR w lo' hi' s' l) (hB : hi ≤ w.heap.size) (hB' : hi' ≤ w.heap.size) (hl : l.length ≤ 1048676) (hm : m.length + szR m ≤ 1048676) :
    Calls Try.prog 27 #[.agg #[.slice s m.length c], .slice s' l.length c', .int .i64 cell] w fun e w' => e = .returned (.bool (rightB m l cell)) ∧ Below w.heap.size w w' := by
  have H : Hid (MemR w lo hi s m) := h
  have H' : Hid (IntsR w lo' hi' s' l) := h'
  have HM : Hid (m.length + szR m ≤ 1048676) := hm
  clear h h' hm
  go_enter Try.func27, Try.ntmps27
  go_wp2_with fail
  obtain ⟨W, hW, bx, kb, zb⟩ := Bo1.new w (.slice s m.length c) 26
  rw [hW]
  clear hW
  have c0 := bx.c0
  have HKB : Hid (Below w.heap.size w W) := kb
  have z0 : w.heap.size < W.heap.size := by omega
  have z9 : hi ≤ W.heap.size := by omega
  have z8 : hi' ≤ W.heap.size := by omega
  have HW : Hid (MemR W lo hi s m) := H.out.keep (Keep.of_below kb hB)
  have HW' : Hid (IntsR W lo' hi' s' l) := H'.out.keep (Keep.of_below kb hB')
  clear bx kb zb
  refine (isOneOf_any cell 24 W).mono ?_
  rintro e w9 ⟨rfl, hw9⟩
  subst w9
  have HR : Hid (rightB m l cell = (memB m && viewB m l && decide (0 ≤ cell ∧ cell < 24))) := rfl
  generalize decide (0 ≤ cell ∧ cell < 24) = b1 at HR
  cases b1
  · have HF : Hid (rightB m l cell = false) := HR.out.trans (by simp)
    go_wp2
    go_ret
    exact ⟨ret_bool' HF.out.symm, HKB.out⟩
  go_wp2_with fail
  refine (implViewOk_any s s' c c' lo hi lo' hi' m l W HW.out HW'.out z9 z8 hl).mono ?_
  rintro e w2 ⟨rfl, hb2⟩
  have HB2 : Hid (Below W.heap.size W w2) := hb2
  have d0 := (hb2.cell (p := ⟨w.heap.size, 0, none⟩) z0).trans c0
  have z1 := hb2.size
  have z2 : w.heap.size < w2.heap.size := by omega
  clear hb2
  generalize viewB m l = b2 at HR
  cases b2
  · have HF : Hid (rightB m l cell = false) := HR.out.trans (by simp)
    go_wp2
    go_ret
    exact ⟨ret_bool' HF.out.symm, HKB.out.trans (HB2.out.mono (by omega))⟩
  go_wp2_with fail
  refine (implMemoryOk_any s c lo hi m w2 (HW.out.keep (Keep.of_below HB2.out z9)) (by omega) HM.out).mono ?_
  rintro e w3 ⟨rfl, hb3⟩
  have HB3 : Hid (Below W.heap.size W w3) := HB2.out.trans (hb3.mono z1)
  have HF : Hid (rightB m l cell = memB m) := HR.out.trans (by simp)
  clear hb3
  generalize memB m = b3 at HF
  cases b3
  · go_wp2
    go_ret
    exact ⟨ret_bool' HF.out.symm, HKB.out.trans (HB3.out.mono (by omega))⟩
  · go_wp2
    go_ret
    exact ⟨ret_bool' HF.out.symm, HKB.out.trans (HB3.out.mono (by omega))⟩

set_option maxHeartbeats 2000000 in
theorem l6Right_any (s s' : Option Addr) (c c' lo hi lo' hi' : Nat) (m : List (List WD)) (l : List Int) (cell : Int) (w : World) (h : MemR w lo hi s m) (h' : IntsR w lo' hi' s' l) (hB : hi ≤ w.heap.size) (hB' : hi' ≤ w.heap.size) (hl : l.length ≤ 1048676) (hm : m.length + szR m ≤ 1048676) :
    Calls Try.prog 31 #[.agg #[.slice s m.length c], .slice s' l.length c', .int .i64 cell] w fun e w' => e = .returned (.bool (rightB m l cell)) ∧ Below w.heap.size w w' := by
  have H : Hid (MemR w lo hi s m) := h
  have H' : Hid (IntsR w lo' hi' s' l) := h'
  have HM : Hid (m.length + szR m ≤ 1048676) := hm
  have HV : Hid (∀ (i : Nat) (r : List WD), m[i]? = some r → r.length ≤ 1048676) := fun i r hr => by have := szR_at m i r hr; omega
  clear h h' hm
  go_enter Try.func31, Try.ntmps31
  go_wp2_with fail
  obtain ⟨W, hW, bx, kb, zb⟩ := Bo1.new w (.slice s m.length c) 26
  rw [hW]
  clear hW
  have c0 := bx.c0
  have HKB : Hid (Below w.heap.size w W) := kb
  have z0 : w.heap.size < W.heap.size := by omega
  have z9 : hi ≤ W.heap.size := by omega
  have z8 : hi' ≤ W.heap.size := by omega
  have HW : Hid (MemR W lo hi s m) := H.out.keep (Keep.of_below kb hB)
  have HW' : Hid (IntsR W lo' hi' s' l) := H'.out.keep (Keep.of_below kb hB')
  clear bx kb zb
  refine (specMemoryOk_any s c lo hi m W HW.out z9 HM.out).mono ?_
  rintro e w2 ⟨rfl, hb2⟩
  have HB2 : Hid (Below W.heap.size W w2) := hb2
  have d0 := (hb2.cell (p := ⟨w.heap.size, 0, none⟩) z0).trans c0
  have z1 := hb2.size
  have z2 : w.heap.size < w2.heap.size := by omega
  clear hb2
  have HR : Hid (rightB m l cell = (memB m && viewB m l && decide (0 ≤ cell ∧ cell ≤ 23))) := by
    show rightB m l cell = _
    have e : (0 ≤ cell ∧ cell < 24) = (0 ≤ cell ∧ cell ≤ 23) := by apply propext; omega
    unfold rightB
    simp only [e]
  generalize memB m = b1 at HR
  cases b1
  · have HF : Hid (rightB m l cell = false) := HR.out.trans (by simp)
    go_wp2
    go_ret
    exact ⟨ret_bool' HF.out.symm, HKB.out.trans (HB2.out.mono (by omega))⟩
  go_wp2_with fail
  refine (specViewOk_any s s' c c' lo hi lo' hi' m l w2 (HW.out.keep (Keep.of_below HB2.out z9)) (HW'.out.keep (Keep.of_below HB2.out z8)) (by omega) (by omega) hl HV.out).mono ?_
  rintro e w3 ⟨rfl, hb3⟩
  have HB3 : Hid (Below W.heap.size W w3) := HB2.out.trans (hb3.mono z1)
  clear hb3
  generalize viewB m l = b2 at HR
  cases b2
  · have HF : Hid (rightB m l cell = false) := HR.out.trans (by simp)
    go_wp2
    go_ret
    exact ⟨ret_bool' HF.out.symm, HKB.out.trans (HB3.out.mono (by omega))⟩
  go_wp2_with fail
  refine (l1In_any cell 0 23 w3).mono ?_
  rintro e w9 ⟨rfl, hw9⟩
  subst w9
  have HF : Hid (rightB m l cell = decide (0 ≤ cell ∧ cell ≤ 23)) := HR.out.trans (by simp)
  generalize decide (0 ≤ cell ∧ cell ≤ 23) = b3 at HF
  cases b3
  · go_wp2
    go_ret
    exact ⟨ret_bool' HF.out.symm, HKB.out.trans (HB3.out.mono (by omega))⟩
  · go_wp2
    go_ret
    exact ⟨ret_bool' HF.out.symm, HKB.out.trans (HB3.out.mono (by omega))⟩

set_option maxHeartbeats 2000000 in
theorem load_any (s : Option Addr) (c lo hi base g cap : Nat) (m : List (List WD)) (l : List Int) (k : Nat) (r : List WD) (late : Int) (hold : Bool) (j : Nat) (x : WD) (w : World) (h : MemR w lo hi s m) (ho : OwnN w base (.slice (some ⟨g, 0, none⟩) l.length cap) l) (hB : hi ≤ g) (hr : Rt m l k r)
    (hlate : late ≤ 9223372036854775807) (hj : mx (l.getD k 0) ((r.length : Int) - 1 - mx late 0) = j) (hx : r[j]? = some x) :
    Calls Try.prog 30 #[.slice (some ⟨g, 0, none⟩) l.length cap, .agg #[.slice s m.length c], .int .i64 k, .int .i64 late, .bool hold] w fun e w' => e = .returned (.int .i64 x.v) ∧ OwnN w' base (.slice (some ⟨g, 0, none⟩) l.length cap) (if hold = true then joinL (l.set k j) x.vw else l.set k j) ∧ Exc g (g + 1) w w' := by
  have hg := (World.ownsRow.lt ho g rfl).2
  obtain ⟨gm, om, s1, c1, es, a1, a2, a3, a4⟩ := h.row hr.hr
  subst es
  obtain ⟨gr, or_, s2, c2, es, b1, b2, b3, b4, b5⟩ := a4.at hx
  subst es
  have hk := hr.hk
  have hll := hr.hl
  have hml := hr.hm
  have hn1 := hr.n1
  have hn2 := hr.n2
  have hjr := (List.getElem?_eq_some_iff.1 hx).1
  have e1 : w.cell? ⟨g, k, none⟩ = some (.int .i64 (l.getD k 0)) := ho.cell (by omega)
  have hfz : ∀ i, w.frozen? ⟨g, i, none⟩ = false := fun i => World.ownsRow.frozenAt ho i
  have hv0 := hr.v0
  have hv1 := hr.v1
  have HO := (show Hid (OwnN w base (.slice (some ⟨g, 0, none⟩) l.length cap) l) from ho)
  have HI : Hid (IntsR w lo hi s2 x.vw) := b5
  have hxl := hr.hw j x hx
  have HXL : Hid (x.vw.length = 24) := hxl
  generalize l.getD k 0 = y at e1 hv0 hv1 hj
  obtain ⟨q, hq⟩ : ∃ q : Int, mx late 0 = q := ⟨_, rfl⟩
  have hq0 : 0 ≤ q ∧ q ≤ 9223372036854775807 := by subst hq; unfold mx; split <;> omega
  rw [hq] at hj
  have hq1 : (if 0 > late then 0 else late) = q := by rw [← hq]; unfold mx; rfl
  have hw1 : IntKind.i64.wrap ((r.length : Int) - 1 - q) = (r.length : Int) - 1 - q := Go.IntWalk.i64_in _ (by omega)
  have hj1 : (if (r.length : Int) - 1 - q > y then (r.length : Int) - 1 - q else y) = (j : Int) := hj
  have HJ := (show Hid (mx y ((r.length : Int) - 1 - q) = j) from hj)
  have B0 : (0 : Int) ≤ (k : Int) := by omega
  have B1 : (k : Int) < (l.length : Int) := by omega
  have B2 : (k : Int) < (m.length : Int) := by omega
  have B3 : (0 : Int) ≤ (j : Int) := by omega
  have B4 : (j : Int) < (r.length : Int) := by omega
  have G1 : gm < w.heap.size := by omega
  have G2 : gr < w.heap.size := by omega
  have HLL : Hid (l.length = 24) := hll
  have hl2 : l.length ≤ 1048577 := by omega
  clear h a4 b5 hx hj hr ho hq hll hml hxl
  go_enter Try.func30, Try.ntmps30
  go_wp2_with fail
  obtain ⟨W, hW⟩ : ∃ W, (w.setCell ⟨g, k, none⟩ (.int .i64 j)).alloc (.cells #[.slice (some ⟨gm, om, none⟩) m.length c] 26) = W := ⟨_, rfl⟩
  have k0 : W.cell? ⟨w.heap.size, 0, none⟩ = some (.slice (some ⟨gm, om, none⟩) m.length c) := by subst hW; simp [go_sem]
  have kW : ∀ b, b < w.heap.size → b ≠ g → W.heap[b]? = w.heap[b]? := fun b h1 h2 => by subst hW; rw [Below.heap_alloc _ _ _ (by simpa using h1), Below.heap_setCell _ _ _ b h2]
  have k2 : W.cell? ⟨gm, om + k, none⟩ = some (.slice (some ⟨gr, or_, none⟩) r.length c1) := (World.cell?_of_block (w := w) (kW gm (by omega) (by omega))).trans a3
  have k3 : W.cell? ⟨gr, or_ + j * 2, none⟩ = some (.int .i64 x.v) := (World.cell?_of_block (w := w) (kW gr (by omega) (by omega))).trans b3
  have k4 : W.cell? ⟨gr, or_ + j * 2 + 1, none⟩ = some (.slice s2 x.vw.length c2) := (World.cell?_of_block (w := w) (kW gr (by omega) (by omega))).trans b4
  have OW : Hid (OwnN W base (.slice (some ⟨g, 0, none⟩) l.length cap) (l.set k j)) := by
    subst hW
    have p5 := (World.ownsRow.stored HO.out k (.int .i64 j)).1
    show OwnN _ _ _ _
    refine OwnN.alloc ?_ _
    unfold OwnN
    rw [List.map_set, List.length_set]
    exact p5
  have k1 : W.cell? ⟨g, k, none⟩ = some (.int .i64 j) := by
    have h1 : OwnN W base (.slice (some ⟨g, 0, none⟩) (l.set k j).length cap) (l.set k (j : Int)) := by rw [List.length_set]; exact OW.out
    rw [h1.cell (i := k) (by rw [List.length_set]; omega)]
    simp [List.getD_eq_getElem?_getD, show k < l.length by omega]
  have EW : Hid (Exc g (g + 1) w W) := by
    subst hW
    exact ⟨rfl, rfl, rfl, by simp, fun b h1 h2 => by rw [Below.heap_alloc _ _ _ (by simpa using h1), Below.heap_setCell _ _ _ b (by show b ≠ g; omega)]⟩
  have zW : w.heap.size < W.heap.size := by subst hW; simp
  have IW : Hid (IntsR W lo hi s2 x.vw) := HI.out.keep (fun b h1 h2 => kW b (by omega) (by omega))
  rw [hW]
  clear hW kW
  have z1 : g < W.heap.size := by omega
  have z2 : gm < W.heap.size := by omega
  have z3 : gr < W.heap.size := by omega
  go_region
  obtain ⟨X, hX⟩ : ∃ X, (W.alloc (.cells #[.int .i64 x.v, .slice s2 x.vw.length c2] 40)).drew = X := ⟨_, rfl⟩
  have x0 : X.cell? ⟨W.heap.size, 0, none⟩ = some (.int .i64 x.v) := by subst hX; simp [go_sem]
  have x1 : X.cell? ⟨W.heap.size, 1, none⟩ = some (.slice s2 x.vw.length c2) := by subst hX; simp [go_sem]
  have kX : Below W.heap.size W X := by subst hX; exact Below.drew ((Below.refl _ _).alloc (Nat.le_refl _) _)
  have zX : W.heap.size < X.heap.size := by subst hX; show W.heap.size < (W.alloc _).heap.size; simp
  rw [hX]
  clear hX k0 k1 k2 k3 k4 a3 b3 b4 e1 hfz
  have OX : Hid (OwnN X base (.slice (some ⟨g, 0, none⟩) l.length cap) (l.set k j)) := ownKeep' OW.out (fun b hb => by have hb2 : some g = some b := hb; injection hb2 with hb2; exact kX.block b (by omega))
  have IX : Hid (IntsR X lo hi s2 x.vw) := IW.out.keep (Keep.of_below kX (by omega))
  have EX : Hid (Exc g (g + 1) w X) := by
    obtain ⟨p1, p2, p3, p4, p5⟩ := EW.out
    exact ⟨kX.os.trans p1, kX.tape.trans p2, kX.output.trans p3, by omega, fun b h1 h2 => (kX.block b (by omega)).trans (p5 b h1 h2)⟩
  clear kX
  cases hold
  · go_wp2
    go_ret
    exact ⟨rfl, OX.out, EX.out⟩
  · have le := learn_any base g cap (l.set k j) s2 c2 lo hi x.vw X (by rw [List.length_set]; exact OX.out) IX.out hB (by rw [List.length_set]; omega) (by have := HXL.out; omega)
    rw [List.length_set] at le
    have HT : Hid (learnL (l.set k (j : Int)) x.vw = joinL (l.set k (j : Int)) x.vw) := learn_join _ _ (by rw [List.length_set, HLL.out, HXL.out]; exact Nat.le_refl _)
    go_wp2_with fail
    refine le.mono ?_
    rintro e w3 ⟨rfl, ho3, hx3, hz3⟩
    have y0 : w3.cell? ⟨W.heap.size, 0, none⟩ = some (.int .i64 x.v) := (World.cell?_of_block (w := X) (hx3.blk W.heap.size zX (.inr (by omega)))).trans x0
    have y1 : w3.cell? ⟨W.heap.size, 1, none⟩ = some (.slice s2 x.vw.length c2) := (World.cell?_of_block (w := X) (hx3.blk W.heap.size zX (.inr (by omega)))).trans x1
    have HO3 := (show Hid (OwnN w3 base (.slice (some ⟨g, 0, none⟩) l.length cap) (learnL (l.set k (j : Int)) x.vw)) from ho3)
    have HX3 : Hid (Exc g (g + 1) w w3) := by
      obtain ⟨p1, p2, p3, p4, p5⟩ := EX.out
      exact ⟨hx3.os.trans p1, hx3.tape.trans p2, hx3.out.trans p3, by have := hx3.size; omega, fun b h1 h2 => (hx3.blk b (by omega) h2).trans (p5 b h1 h2)⟩
    have zz : W.heap.size < w3.heap.size := by omega
    clear ho3 hx3 hz3 le
    go_wp2
    go_ret
    refine ⟨rfl, ?_, HX3.out⟩
    have := HO3.out
    rw [HT.out] at this
    exact this

theorem l1Max_is (a b z : Int) (w : World) (h : mx a b = z) : Calls Try.prog 48 #[.int .i64 a, .int .i64 b] w fun e w' => e = .returned (.int .i64 z) ∧ w' = w := by
  rw [← h]
  exact l1Max_any a b w

set_option maxHeartbeats 2000000 in
theorem l6Load_any (s s' : Option Addr) (c c' lo hi lo' hi' : Nat) (m : List (List WD)) (l : List Int) (k : Nat) (r : List WD) (late : Int) (hold : Bool) (j : Nat) (x : WD) (w : World) (h : MemR w lo hi s m) (h' : IntsR w lo' hi' s' l) (hB : hi ≤ w.heap.size) (hB' : hi' ≤ w.heap.size) (hr : Rt m l k r)
    (hlate : late ≤ 9223372036854775807) (hj : mx (l.getD k 0) ((r.length : Int) - 1 - mx late 0) = j) (hx : r[j]? = some x) :
    Calls Try.prog 32 #[.agg #[.slice s m.length c], .slice s' l.length c', .int .i64 k, .int .i64 late, .bool hold] w fun e w' => ∃ v, e = .returned (.tuple #[.int .i64 x.v, v]) ∧ OwnN w' w.heap.size v (if hold = true then joinL (l.set k j) x.vw else l.set k j) ∧ Below w.heap.size w w' := by
  obtain ⟨gm, om, s1, c1, es, a1, a2, a3, a4⟩ := h.row hr.hr
  subst es
  obtain ⟨gr, or_, s2, c2, es, b1, b2, b3, b4, b5⟩ := a4.at hx
  subst es
  have hk := hr.hk
  have hll := hr.hl
  have hml := hr.hm
  have hn1 := hr.n1
  have hn2 := hr.n2
  have hjr := (List.getElem?_eq_some_iff.1 hx).1
  obtain ⟨gv, ov, es, f1, f2, f3⟩ := h'.pos (by omega)
  subst es
  have e1 := f3 k (by omega)
  have hv0 := hr.v0
  have hv1 := hr.v1
  have H : Hid (MemR w lo hi (some ⟨gm, om, none⟩) m) := h
  have H' : Hid (IntsR w lo' hi' (some ⟨gv, ov, none⟩) l) := h'
  have HI : Hid (IntsR w lo hi s2 x.vw) := b5
  have hxl := hr.hw j x hx
  have HXL : Hid (x.vw.length = 24) := hxl
  have HLL : Hid (l.length = 24) := hll
  have hl2 : l.length ≤ 1048577 := by omega
  generalize l.getD k 0 = y at e1 hv0 hv1 hj
  obtain ⟨q, hq⟩ : ∃ q : Int, mx late 0 = q := ⟨_, rfl⟩
  have hq0 : 0 ≤ q ∧ q ≤ 9223372036854775807 := by subst hq; unfold mx; split <;> omega
  rw [hq] at hj
  have HQ : Hid (mx late 0 = q) := hq
  have HJ : Hid (mx ((r.length : Int) - 1 - q) y = j) := by show mx _ _ = _; rw [mx_comm]; exact hj
  have hw1 : IntKind.i64.wrap ((r.length : Int) - 1 - q) = (r.length : Int) - 1 - q := Go.IntWalk.i64_in _ (by omega)
  have hw0 : IntKind.i64.wrap ((r.length : Int) - 1) = (r.length : Int) - 1 := Go.IntWalk.i64_in _ (by omega)
  have HJ2 : Hid (mx (IntKind.i64.wrap (IntKind.i64.wrap ((r.length : Int) - 1) - q)) y = j) := by show mx _ _ = _; rw [hw0, hw1]; exact HJ.out
  have HJ3 : Hid (mx (IntKind.i64.wrap ((r.length : Int) - 1 - q)) y = j) := by show mx _ _ = _; rw [hw1]; exact HJ.out
  clear hw0 hw1
  have B0 : (0 : Int) ≤ (k : Int) := by omega
  have B1 : (k : Int) < (l.length : Int) := by omega
  have B2 : (k : Int) < (m.length : Int) := by omega
  have B3 : (0 : Int) ≤ (j : Int) := by omega
  have B4 : (j : Int) < (r.length : Int) := by omega
  have G1 : gm < w.heap.size := by omega
  have G2 : gr < w.heap.size := by omega
  have G3 : gv < w.heap.size := by omega
  clear h h' a4 b5 hx hj hr hq hll hml hxl f3
  go_enter Try.func32, Try.ntmps32
  go_wp2_with fail
  obtain ⟨W, hW, bx, kb, zb⟩ := Bo1.new w (.slice (some ⟨gm, om, none⟩) m.length c) 26
  rw [hW]
  clear hW
  have c0 := bx.c0
  have HKB : Hid (Below w.heap.size w W) := kb
  have z0 : w.heap.size < W.heap.size := by omega
  have k1 := (kb.cell (p := ⟨gm, om + k, none⟩) G1).trans a3
  have k2 := (kb.cell (p := ⟨gr, or_ + j * 2, none⟩) G2).trans b3
  have k3 := (kb.cell (p := ⟨gr, or_ + j * 2 + 1, none⟩) G2).trans b4
  have k4 := (kb.cell (p := ⟨gv, ov + k, none⟩) G3).trans e1
  have IW : Hid (IntsR W lo hi s2 x.vw) := HI.out.keep (Keep.of_below kb hB)
  have LW : Hid (IntsR W lo' hi' (some ⟨gv, ov, none⟩) l) := H'.out.keep (Keep.of_below kb hB')
  have y1 : gm < W.heap.size := by omega
  have y2 : gr < W.heap.size := by omega
  have y3 : gv < W.heap.size := by omega
  have y4 : hi ≤ W.heap.size := by omega
  clear bx kb zb a3 b3 b4 e1
  go_quiet (first | (go_at_call 48; exact Calls.quiet_of_same (l1Max_is _ _ _ _ HQ.out)) | (go_at_call 48; exact Calls.quiet_of_same (l1Max_is _ _ _ _ HJ.out)) | (go_at_call 48; exact Calls.quiet_of_same (l1Max_is _ _ _ _ HJ2.out)) | (go_at_call 48; exact Calls.quiet_of_same (l1Max_is _ _ _ _ HJ3.out)))
  obtain ⟨Y, hY⟩ : ∃ Y, W.drewN nq = Y := ⟨_, rfl⟩
  have kY : Below W.heap.size W Y := by rw [← hY]; exact below_drewN _ _
  have zY := kY.size
  rw [hY]
  clear hY
  have HKY : Hid (Below w.heap.size w Y) := HKB.out.trans (kY.mono (by omega))
  have m1 := (kY.cell (p := ⟨gm, om + k, none⟩) y1).trans k1
  have m2 := (kY.cell (p := ⟨gr, or_ + j * 2, none⟩) y2).trans k2
  have m3 := (kY.cell (p := ⟨gr, or_ + j * 2 + 1, none⟩) y2).trans k3
  have IY : Hid (IntsR Y lo hi s2 x.vw) := IW.out.keep (Keep.of_below kY (by omega))
  have LY : Hid (IntsR (Y.alloc (.cells #[] 3)) lo' hi' (some ⟨gv, ov, none⟩) l) := LW.out.keep (Keep.of_below (kY.trans (((Below.refl _ _).alloc (Nat.le_refl _) _).mono zY)) (by omega))
  have w2 : gr < Y.heap.size := by omega
  have w4 : hi ≤ Y.heap.size := by omega
  clear kY k1 k2 k3 k4 c0 m1
  cases hold
  · go_wp2_with (at_builtin; refine app_copyI rfl _ _ rfl rfl _ Y.heap.size (some ⟨Y.heap.size, 0, none⟩) 0 rfl (ownN_empty (Nat.le_refl _)) (some ⟨gv, ov, none⟩) c' l rfl LY.out (by omega) (by simp) ?_; intro s5 c5 w5 ho5 hc5; obtain ⟨g5, cap5, e5, -⟩ := World.ownsRow.form ho5 (by omega); injection e5 with e51 e52 e53; subst e51; have q0 : w5.cell? ⟨g5, k, none⟩ = some (.int .i64 (l.getD k 0)) := ho5.cell (by omega); have q1 : w5.frozen? ⟨g5, k, none⟩ = false := World.ownsRow.frozenAt ho5 k; have q9 := (World.ownsRow.lt ho5 g5 rfl); have hb5 : Below Y.heap.size Y w5 := ((Below.refl _ _).alloc (Nat.le_refl _) _).trans hc5.low; have q2 := (hb5.cell (p := ⟨gr, or_ + j * 2, none⟩) w2).trans m2; have q3 := (hb5.cell (p := ⟨gr, or_ + j * 2 + 1, none⟩) w2).trans m3; have q4 : ¬ g5 = gr := (by omega); have q5 : ¬ gr = g5 := (by omega); have HO5 := (show Hid (OwnN w5 Y.heap.size (.slice (some ⟨g5, 0, none⟩) l.length c5) l) from ho5); have HB5 : Hid (Below Y.heap.size Y w5) := hb5; clear ho5 hc5 hb5 e53)
    have st : OwnN (w5.setCell ⟨g5, k, none⟩ (.int .i64 j)) Y.heap.size (.slice (some ⟨g5, 0, none⟩) l.length c5) (l.set k j) := by
      have p5 := (World.ownsRow.stored HO5.out k (.int .i64 j)).1
      unfold OwnN
      rw [List.map_set, List.length_set]
      exact p5
    have kb : Below Y.heap.size Y (w5.setCell ⟨g5, k, none⟩ (.int .i64 j)) := HB5.out.setCell (p := ⟨g5, k, none⟩) q9.1 _
    go_ret2
    exact ⟨_, rfl, ownLow' st (by have := HKY.out.size; omega), HKY.out.trans (kb.mono HKY.out.size)⟩
  · go_wp2_with (first | (at_builtin; refine app_copyI rfl _ _ rfl rfl _ Y.heap.size (some ⟨Y.heap.size, 0, none⟩) 0 rfl (ownN_empty (Nat.le_refl _)) (some ⟨gv, ov, none⟩) c' l rfl LY.out (by omega) (by simp) ?_; intro s5 c5 w5 ho5 hc5; obtain ⟨g5, cap5, e5, -⟩ := World.ownsRow.form ho5 (by omega); injection e5 with e51 e52 e53; subst e51; have q0 : w5.cell? ⟨g5, k, none⟩ = some (.int .i64 (l.getD k 0)) := ho5.cell (by omega); have q1 : w5.frozen? ⟨g5, k, none⟩ = false := World.ownsRow.frozenAt ho5 k; have q9 := (World.ownsRow.lt ho5 g5 rfl); have hb5 : Below Y.heap.size Y w5 := ((Below.refl _ _).alloc (Nat.le_refl _) _).trans hc5.low; have q2 := (hb5.cell (p := ⟨gr, or_ + j * 2, none⟩) w2).trans m2; have q3 := (hb5.cell (p := ⟨gr, or_ + j * 2 + 1, none⟩) w2).trans m3; have q4 : ¬ g5 = gr := (by omega); have q5 : ¬ gr = g5 := (by omega); have HO5 := (show Hid (OwnN w5 Y.heap.size (.slice (some ⟨g5, 0, none⟩) l.length c5) l) from ho5); have HB5 : Hid (Below Y.heap.size Y w5) := hb5; clear ho5 hc5 hb5 e53) | fail)
    have st : OwnN (w5.setCell ⟨g5, k, none⟩ (.int .i64 j)) Y.heap.size (.slice (some ⟨g5, 0, none⟩) l.length c5) (l.set k j) := by
      have p5 := (World.ownsRow.stored HO5.out k (.int .i64 j)).1
      unfold OwnN
      rw [List.map_set, List.length_set]
      exact p5
    have kb : Below Y.heap.size Y (w5.setCell ⟨g5, k, none⟩ (.int .i64 j)) := HB5.out.setCell (p := ⟨g5, k, none⟩) q9.1 _
    obtain ⟨X, hX⟩ : ∃ X, w5.setCell ⟨g5, k, none⟩ (.int .i64 j) = X := ⟨_, rfl⟩
    rw [hX] at st kb
    rw [hX]
    have n2 := (kb.cell (p := ⟨gr, or_ + j * 2, none⟩) w2).trans m2
    have zX := kb.size
    have OX : Hid (IntsR X Y.heap.size X.heap.size (some ⟨g5, 0, none⟩) (l.set k (j : Int))) := ownN_intsR (c := c5) (by rw [List.length_set]; exact st)
    have IX : Hid (IntsR X lo hi s2 x.vw) := IY.out.keep (Keep.of_below kb (by omega))
    have HKX : Hid (Below Y.heap.size Y X) := kb
    have zg : gr < X.heap.size := by omega
    clear hX st kb q0 q1 q2 q3
    have jn := specJoin_any (some ⟨g5, 0, none⟩) s2 c5 c2 _ _ lo hi (l.set k (j : Int)) x.vw X OX.out IX.out (by rw [List.length_set]; omega) (by have := HXL.out; omega) (Nat.le_refl _) (by omega)
    rw [List.length_set] at jn
    refine jn.mono ?_
    rintro e w6 ⟨v6, rfl, ho6, hb6⟩
    have n3 := (hb6.cell (p := ⟨gr, or_ + j * 2, none⟩) zg).trans n2
    have HO6 := (show Hid _ from ho6)
    have HB6 : Hid (Below X.heap.size X w6) := hb6
    have z6 := hb6.size
    have zg6 : gr < w6.heap.size := by omega
    clear ho6 hb6 jn n2
    go_wp2
    go_ret2
    exact ⟨_, rfl, ownLow' HO6.out (by have := HKY.out.size; omega), HKY.out.trans ((HKX.out.trans (HB6.out.mono (by omega))).mono HKY.out.size)⟩

end Go.Proofs.Ytlhhdkemmhlloaa
