/- What a turn's plain doings make of it: registers, jumps, an end. No condition. -/
import Derived.Test.YteefnjngcnebpaaGreatJG06
import Derived.Test.YteefnjngcnebpaaGreatJG08
import Derived.Test.YteefnjngcnebpaaGreatJG00
import Derived.Test.YteefnjngcnebpaaGreatJG09
import Derived.Deep.RegionHeld3
import Derived.Deep.DeepCutAuto
namespace Go.Proofs.YteefnjngcnebpaaGreat
set_option linter.unusedSimpArgs false
set_option linter.unusedVariables false
set_option maxRecDepth 100000
open Go.RowKit
theorem heap_pairS {w V : World} {b g j : Nat} {u : Value} (h : V.heap[b]? = w.heap[b]?) : (V.setCell ⟨g, j, none⟩ u).heap[b]? = (w.setCell ⟨g, j, none⟩ u).heap[b]? := by
 simp only [World.setCell, Array.getElem?_modify, h]
theorem belowP {w V : World} {B g j : Nat} {u : Value} (h : Below B w V) : Below B (w.setCell ⟨g, j, none⟩ u) (V.setCell ⟨g, j, none⟩ u) :=
 ⟨h.os, h.tape, h.output, by simpa using h.size, fun b hb => heap_pairS (h.block b hb)⟩
/- the box of a turn -/
structure Tn (w : World) (b S : Nat) (who pc nx st : Int) (rg : List Int) : Prop where
 c0 : w.cell? ⟨b, 0, none⟩ = some (.pointer (some ⟨S, 0, none⟩))
 c1 : w.cell? ⟨b, 1, none⟩ = some (.int .i64 who)
 c2 : w.cell? ⟨b, 2, none⟩ = some (.int .i64 pc)
 c3 : w.cell? ⟨b, 3, none⟩ = some (.int .i64 nx)
 c4 : w.cell? ⟨b, 4, none⟩ = some (.int .i64 st)
 r : ∀ i, i < 4 → w.cell? ⟨b, 5 + i, none⟩ = some (.int .i64 (rg.getD i 0))
 f : ∀ j, w.frozen? ⟨b, j, none⟩ = false
 z : b < w.heap.size
 l : rg.length = 4
theorem Tn.same {w w' : World} {b S : Nat} {who pc nx st : Int} {r : List Int} (h : Tn w b S who pc nx st r) (e : w'.heap[b]? = w.heap[b]?) (hs : w.heap.size ≤ w'.heap.size) : Tn w' b S who pc nx st r := by
 have c : ∀ j, w'.cell? ⟨b, j, none⟩ = w.cell? ⟨b, j, none⟩ := fun j => World.cell?_of_block e
 exact ⟨(c _).trans h.c0, (c _).trans h.c1, (c _).trans h.c2, (c _).trans h.c3, (c _).trans h.c4, fun i hi => (c _).trans (h.r i hi), fun j => (World.frozen?_of_block e).trans (h.f j), by have := h.z; omega, h.l⟩
theorem Tn.below {w w' : World} {b S B : Nat} {who pc nx st : Int} {r : List Int} (h : Tn w b S who pc nx st r) (hb : Below B w w') (hB : b < B) : Tn w' b S who pc nx st r := h.same (hb.block b hB) hb.size
theorem Tn.reg {w : World} {b S : Nat} {who pc nx st : Int} {r : List Int} (h : Tn w b S who pc nx st r) (i : Nat) (hi : i < 4) (v : Int) : Tn (w.setCell ⟨b, 5 + i, none⟩ (.int .i64 v)) b S who pc nx st (r.set i v) := by
 have hl := h.l
 refine ⟨(setC_off (by omega)).trans h.c0, (setC_off (by omega)).trans h.c1, (setC_off (by omega)).trans h.c2, (setC_off (by omega)).trans h.c3, (setC_off (by omega)).trans h.c4, fun j hj => ?_, fun j => by rw [World.frozen?_setCell]; exact h.f j, by simpa using h.z, by simpa using hl⟩
 by_cases e : i = j
 ·subst e
  rw [setC_at (by rw [h.r i hj]; rfl), List.getD_eq_getElem?_getD, List.getElem?_set_self (by omega)]
  rfl
 ·rw [setC_off (by omega), h.r j hj, List.getD_eq_getElem?_getD, List.getD_eq_getElem?_getD, List.getElem?_set_ne e]
theorem Tn.next {w : World} {b S : Nat} {who pc nx st : Int} {r : List Int} (h : Tn w b S who pc nx st r) (v : Int) : Tn (w.setCell ⟨b, 3, none⟩ (.int .i64 v)) b S who pc v st r :=
 ⟨(setC_off (by omega)).trans h.c0, (setC_off (by omega)).trans h.c1, (setC_off (by omega)).trans h.c2, setC_at (by rw [h.c3]; rfl), (setC_off (by omega)).trans h.c4, fun j hj => (setC_off (by omega)).trans (h.r j hj), fun j => by rw [World.frozen?_setCell]; exact h.f j, by simpa using h.z, h.l⟩
theorem Tn.state {w : World} {b S : Nat} {who pc nx st : Int} {r : List Int} (h : Tn w b S who pc nx st r) (v : Int) : Tn (w.setCell ⟨b, 4, none⟩ (.int .i64 v)) b S who pc nx v r :=
 ⟨(setC_off (by omega)).trans h.c0, (setC_off (by omega)).trans h.c1, (setC_off (by omega)).trans h.c2, (setC_off (by omega)).trans h.c3, setC_at (by rw [h.c4]; rfl), fun j hj => (setC_off (by omega)).trans (h.r j hj), fun j => by rw [World.frozen?_setCell]; exact h.f j, by simpa using h.z, h.l⟩
structure Xb (V : World) (z : Nat) (o r a b n : Value) : Prop where
 c0 : V.cell? ⟨z, 0, none⟩ = some o
 c1 : V.cell? ⟨z, 1, none⟩ = some r
 c2 : V.cell? ⟨z, 2, none⟩ = some a
 c3 : V.cell? ⟨z, 3, none⟩ = some b
 c4 : V.cell? ⟨z, 4, none⟩ = some n
 z : z < V.heap.size
theorem Xb.new (w : World) (o r a b n : Value) (T : TypeId) : ∃ W, w.alloc (.cells #[o, r, a, b, n] T) = W ∧ Xb W w.heap.size o r a b n ∧ Below w.heap.size w W ∧ w.heap.size < W.heap.size :=
 ⟨_, rfl, ⟨by simp [go_sem], by simp [go_sem], by simp [go_sem], by simp [go_sem], by simp [go_sem], by simp⟩, (Below.refl _ _).alloc (Nat.le_refl _) _, by simp⟩
theorem Xb.below {V V' : World} {z : Nat} {o r a b n : Value} (h : Xb V z o r a b n) {B : Nat} (hb : Below B V V') (hB : z < B) : Xb V' z o r a b n :=
 ⟨(hb.cell (p := ⟨z, 0, none⟩) hB).trans h.c0, (hb.cell (p := ⟨z, 1, none⟩) hB).trans h.c1, (hb.cell (p := ⟨z, 2, none⟩) hB).trans h.c2, (hb.cell (p := ⟨z, 3, none⟩) hB).trans h.c3, (hb.cell (p := ⟨z, 4, none⟩) hB).trans h.c4, by have := hb.size; have := h.z; omega⟩
theorem wrap_isI (z : Int) : IntKind.i64.wrap z = wrap64 z := by rw [IntKind.wrap_i64, wrap64]
theorem lessOf_any (a b : Int) (w : World) : Calls Tryz.prog 75 #[.int .i64 a, .int .i64 b] w fun e w' => e = .returned (.int .i64 (bitN (decide (a < b)))) ∧ w' = w := by
 by_cases h : a < b
 ·have e : bitN (decide (a < b)) = 1 := by simp [bitN, h]
  rw [e]
  go_enter Tryz.func75, Tryz.ntmps75
  go_wp2
  go_ret
  exact ⟨rfl, rfl⟩
 ·have e : bitN (decide (a < b)) = 0 := by simp [bitN, h]
  rw [e]
  go_enter Tryz.func75, Tryz.ntmps75
  go_wp2
  go_ret
  exact ⟨rfl, rfl⟩
set_option maxHeartbeats 2000000 in
theorem set_any (o r a bb n : Int) (b S : Nat) (who pc nx st : Int) (rg : List Int) (w : World) (h : Tn w b S who pc nx st rg) (hr : 0 ≤ r ∧ r ≤ 3) (ha : 0 ≤ a ∧ a ≤ 3) (hb : 0 ≤ bb ∧ bb ≤ 3) :
  Calls Tryz.prog 52 #[.pointer (some ⟨b, 0, none⟩), .agg #[.int .i64 o, .int .i64 r, .int .i64 a, .int .i64 bb, .int .i64 n]] w fun e w' => e = .returned (.int .i64 0) ∧ Below w.heap.size (w.setCell ⟨b, 5 + r.toNat, none⟩ (.int .i64 (n))) w' := by
 obtain ⟨r', hr'⟩ : ∃ r' : Nat, r = r' := ⟨r.toNat, by omega⟩
 subst hr'
 have br0 : (0 : Int) ≤ (r' : Int) := by omega
 have br1 : (r' : Int) < 4 := by omega
 obtain ⟨a', ha'⟩ : ∃ a' : Nat, a = a' := ⟨a.toNat, by omega⟩
 subst ha'
 have ba0 : (0 : Int) ≤ (a' : Int) := by omega
 have ba1 : (a' : Int) < 4 := by omega
 obtain ⟨bb', hbb'⟩ : ∃ bb' : Nat, bb = bb' := ⟨bb.toNat, by omega⟩
 subst hbb'
 have bbb0 : (0 : Int) ≤ (bb' : Int) := by omega
 have bbb1 : (bb' : Int) < 4 := by omega
 have HT := hidW h
 have hz := h.z
 have hl := h.l
 obtain ⟨vr, hvr⟩ : ∃ v, rg.getD r' 0 = v := ⟨_, rfl⟩
 have HVr := hidW hvr
 clear hvr
 obtain ⟨W, hW, hx, kW, zW⟩ := Xb.new w (.int .i64 o) (.int .i64 r') (.int .i64 a') (.int .i64 bb') (.int .i64 n) 43
 have HWW := hidW hW
 have KW := hidW kW
 have HX := hidW hx
 have HTW := hidW (h.below kW hz)
 clear h kW hx hW
 obtain ⟨x0, x1, x2, x3, x4, xz⟩ := HX.out
 obtain ⟨c0, c1, c2, c3, c4, cr, cf, cz, -⟩ := HTW.out
 have lr : W.cell? ⟨b, 5 + r', none⟩ = some (.int .i64 vr) := by rw [← HVr.out]; exact cr r' (by omega)
 go_enter Tryz.func52, Tryz.ntmps52
 go_wp2_with fail
 rw [HWW.out]
 have hne := ext_ne W
 have u1 := Ext.fit x1 xz
 have u4 := Ext.fit x4 xz
 refine regionSuf W 8 (by decide) (by kernel_rfl) (by kernel_rfl) (by kernel_rfl) (by kernel_rfl) ?_
 dsimp only [List.take, List.drop]
 repeat (go_big_quiet_step (fail))
 refine wpQuiet_nil ?_
 clear hne u1 u4
 rintro w3 ⟨X3, rfl⟩
 obtain ⟨V2, hX3⟩ : ∃ V2, X3.w = V2 := ⟨_, rfl⟩
 have hb3 := X3.b
 rw [hX3] at hb3 ⊢
 have K2 := hidW (KW.out.trans (hb3.mono (by omega)))
 have HT2 := hidW (HTW.out.below hb3 (by omega))
 clear hb3 hX3 X3
 have lr2 : V2.cell? ⟨b, 5 + r', none⟩ = some (.int .i64 (rg.getD r' 0)) := HT2.out.r r' (by omega)
 have ff2 := HT2.out.f
 have zf2 := HT2.out.z
 clear x0 x1 x2 x3 x4 xz c0 c1 c2 c3 c4 cr cf cz lr
 go_wp2
 go_ret
 refine ⟨rfl, ?_⟩
 have E : (n) = n := by rfl
 rw [E]
 exact belowP K2.out
set_option maxHeartbeats 2000000 in
theorem add_any (o r a bb n : Int) (b S : Nat) (who pc nx st : Int) (rg : List Int) (w : World) (h : Tn w b S who pc nx st rg) (hr : 0 ≤ r ∧ r ≤ 3) (ha : 0 ≤ a ∧ a ≤ 3) (hb : 0 ≤ bb ∧ bb ≤ 3) :
  Calls Tryz.prog 53 #[.pointer (some ⟨b, 0, none⟩), .agg #[.int .i64 o, .int .i64 r, .int .i64 a, .int .i64 bb, .int .i64 n]] w fun e w' => e = .returned (.int .i64 0) ∧ Below w.heap.size (w.setCell ⟨b, 5 + r.toNat, none⟩ (.int .i64 (IntKind.i64.wrap (regN rg a + regN rg bb)))) w' := by
 obtain ⟨r', hr'⟩ : ∃ r' : Nat, r = r' := ⟨r.toNat, by omega⟩
 subst hr'
 have br0 : (0 : Int) ≤ (r' : Int) := by omega
 have br1 : (r' : Int) < 4 := by omega
 obtain ⟨a', ha'⟩ : ∃ a' : Nat, a = a' := ⟨a.toNat, by omega⟩
 subst ha'
 have ba0 : (0 : Int) ≤ (a' : Int) := by omega
 have ba1 : (a' : Int) < 4 := by omega
 obtain ⟨bb', hbb'⟩ : ∃ bb' : Nat, bb = bb' := ⟨bb.toNat, by omega⟩
 subst hbb'
 have bbb0 : (0 : Int) ≤ (bb' : Int) := by omega
 have bbb1 : (bb' : Int) < 4 := by omega
 have HT := hidW h
 have hz := h.z
 have hl := h.l
 obtain ⟨vr, hvr⟩ : ∃ v, rg.getD r' 0 = v := ⟨_, rfl⟩
 have HVr := hidW hvr
 clear hvr
 obtain ⟨va, hva⟩ : ∃ v, rg.getD a' 0 = v := ⟨_, rfl⟩
 have HVa := hidW hva
 clear hva
 obtain ⟨vbb, hvbb⟩ : ∃ v, rg.getD bb' 0 = v := ⟨_, rfl⟩
 have HVbb := hidW hvbb
 clear hvbb
 obtain ⟨W, hW, hx, kW, zW⟩ := Xb.new w (.int .i64 o) (.int .i64 r') (.int .i64 a') (.int .i64 bb') (.int .i64 n) 43
 have HWW := hidW hW
 have KW := hidW kW
 have HX := hidW hx
 have HTW := hidW (h.below kW hz)
 clear h kW hx hW
 obtain ⟨x0, x1, x2, x3, x4, xz⟩ := HX.out
 obtain ⟨c0, c1, c2, c3, c4, cr, cf, cz, -⟩ := HTW.out
 have lr : W.cell? ⟨b, 5 + r', none⟩ = some (.int .i64 vr) := by rw [← HVr.out]; exact cr r' (by omega)
 have la : W.cell? ⟨b, 5 + a', none⟩ = some (.int .i64 va) := by rw [← HVa.out]; exact cr a' (by omega)
 have lbb : W.cell? ⟨b, 5 + bb', none⟩ = some (.int .i64 vbb) := by rw [← HVbb.out]; exact cr bb' (by omega)
 go_enter Tryz.func53, Tryz.ntmps53
 go_wp2_with fail
 rw [HWW.out]
 have hne := ext_ne W
 have u1 := Ext.fit x1 xz
 have u2 := Ext.fit x2 xz
 have u3 := Ext.fit x3 xz
 have wa := Ext.fit la cz
 have wbb := Ext.fit lbb cz
 refine regionSuf W 21 (by decide) (by kernel_rfl) (by kernel_rfl) (by kernel_rfl) (by kernel_rfl) ?_
 dsimp only [List.take, List.drop]
 repeat (go_big_quiet_step (fail))
 refine wpQuiet_nil ?_
 clear hne u1 u2 u3 wa wbb
 rintro w3 ⟨X3, rfl⟩
 obtain ⟨V2, hX3⟩ : ∃ V2, X3.w = V2 := ⟨_, rfl⟩
 have hb3 := X3.b
 rw [hX3] at hb3 ⊢
 have K2 := hidW (KW.out.trans (hb3.mono (by omega)))
 have HT2 := hidW (HTW.out.below hb3 (by omega))
 clear hb3 hX3 X3
 have lr2 : V2.cell? ⟨b, 5 + r', none⟩ = some (.int .i64 (rg.getD r' 0)) := HT2.out.r r' (by omega)
 have ff2 := HT2.out.f
 have zf2 := HT2.out.z
 clear x0 x1 x2 x3 x4 xz c0 c1 c2 c3 c4 cr cf cz lr la lbb
 go_wp2
 go_ret
 refine ⟨rfl, ?_⟩
 have E : (IntKind.i64.wrap (regN rg (a' : Int) + regN rg (bb' : Int))) = wrap64 (va + vbb) := by simp only [regN, Int.toNat_natCast, HVa.out, HVbb.out, wrap_isI]
 rw [E]
 exact belowP K2.out
set_option maxHeartbeats 2000000 in
theorem sub_any (o r a bb n : Int) (b S : Nat) (who pc nx st : Int) (rg : List Int) (w : World) (h : Tn w b S who pc nx st rg) (hr : 0 ≤ r ∧ r ≤ 3) (ha : 0 ≤ a ∧ a ≤ 3) (hb : 0 ≤ bb ∧ bb ≤ 3) :
  Calls Tryz.prog 54 #[.pointer (some ⟨b, 0, none⟩), .agg #[.int .i64 o, .int .i64 r, .int .i64 a, .int .i64 bb, .int .i64 n]] w fun e w' => e = .returned (.int .i64 0) ∧ Below w.heap.size (w.setCell ⟨b, 5 + r.toNat, none⟩ (.int .i64 (IntKind.i64.wrap (regN rg a - regN rg bb)))) w' := by
 obtain ⟨r', hr'⟩ : ∃ r' : Nat, r = r' := ⟨r.toNat, by omega⟩
 subst hr'
 have br0 : (0 : Int) ≤ (r' : Int) := by omega
 have br1 : (r' : Int) < 4 := by omega
 obtain ⟨a', ha'⟩ : ∃ a' : Nat, a = a' := ⟨a.toNat, by omega⟩
 subst ha'
 have ba0 : (0 : Int) ≤ (a' : Int) := by omega
 have ba1 : (a' : Int) < 4 := by omega
 obtain ⟨bb', hbb'⟩ : ∃ bb' : Nat, bb = bb' := ⟨bb.toNat, by omega⟩
 subst hbb'
 have bbb0 : (0 : Int) ≤ (bb' : Int) := by omega
 have bbb1 : (bb' : Int) < 4 := by omega
 have HT := hidW h
 have hz := h.z
 have hl := h.l
 obtain ⟨vr, hvr⟩ : ∃ v, rg.getD r' 0 = v := ⟨_, rfl⟩
 have HVr := hidW hvr
 clear hvr
 obtain ⟨va, hva⟩ : ∃ v, rg.getD a' 0 = v := ⟨_, rfl⟩
 have HVa := hidW hva
 clear hva
 obtain ⟨vbb, hvbb⟩ : ∃ v, rg.getD bb' 0 = v := ⟨_, rfl⟩
 have HVbb := hidW hvbb
 clear hvbb
 obtain ⟨W, hW, hx, kW, zW⟩ := Xb.new w (.int .i64 o) (.int .i64 r') (.int .i64 a') (.int .i64 bb') (.int .i64 n) 43
 have HWW := hidW hW
 have KW := hidW kW
 have HX := hidW hx
 have HTW := hidW (h.below kW hz)
 clear h kW hx hW
 obtain ⟨x0, x1, x2, x3, x4, xz⟩ := HX.out
 obtain ⟨c0, c1, c2, c3, c4, cr, cf, cz, -⟩ := HTW.out
 have lr : W.cell? ⟨b, 5 + r', none⟩ = some (.int .i64 vr) := by rw [← HVr.out]; exact cr r' (by omega)
 have la : W.cell? ⟨b, 5 + a', none⟩ = some (.int .i64 va) := by rw [← HVa.out]; exact cr a' (by omega)
 have lbb : W.cell? ⟨b, 5 + bb', none⟩ = some (.int .i64 vbb) := by rw [← HVbb.out]; exact cr bb' (by omega)
 go_enter Tryz.func54, Tryz.ntmps54
 go_wp2_with fail
 rw [HWW.out]
 have hne := ext_ne W
 have u1 := Ext.fit x1 xz
 have u2 := Ext.fit x2 xz
 have u3 := Ext.fit x3 xz
 have wa := Ext.fit la cz
 have wbb := Ext.fit lbb cz
 refine regionSuf W 21 (by decide) (by kernel_rfl) (by kernel_rfl) (by kernel_rfl) (by kernel_rfl) ?_
 dsimp only [List.take, List.drop]
 repeat (go_big_quiet_step (fail))
 refine wpQuiet_nil ?_
 clear hne u1 u2 u3 wa wbb
 rintro w3 ⟨X3, rfl⟩
 obtain ⟨V2, hX3⟩ : ∃ V2, X3.w = V2 := ⟨_, rfl⟩
 have hb3 := X3.b
 rw [hX3] at hb3 ⊢
 have K2 := hidW (KW.out.trans (hb3.mono (by omega)))
 have HT2 := hidW (HTW.out.below hb3 (by omega))
 clear hb3 hX3 X3
 have lr2 : V2.cell? ⟨b, 5 + r', none⟩ = some (.int .i64 (rg.getD r' 0)) := HT2.out.r r' (by omega)
 have ff2 := HT2.out.f
 have zf2 := HT2.out.z
 clear x0 x1 x2 x3 x4 xz c0 c1 c2 c3 c4 cr cf cz lr la lbb
 go_wp2
 go_ret
 refine ⟨rfl, ?_⟩
 have E : (IntKind.i64.wrap (regN rg (a' : Int) - regN rg (bb' : Int))) = wrap64 (va - vbb) := by simp only [regN, Int.toNat_natCast, HVa.out, HVbb.out, wrap_isI]
 rw [E]
 exact belowP K2.out
set_option maxHeartbeats 2000000 in
theorem less_any (o r a bb n : Int) (b S : Nat) (who pc nx st : Int) (rg : List Int) (w : World) (h : Tn w b S who pc nx st rg) (hr : 0 ≤ r ∧ r ≤ 3) (ha : 0 ≤ a ∧ a ≤ 3) (hb : 0 ≤ bb ∧ bb ≤ 3) :
  Calls Tryz.prog 55 #[.pointer (some ⟨b, 0, none⟩), .agg #[.int .i64 o, .int .i64 r, .int .i64 a, .int .i64 bb, .int .i64 n]] w fun e w' => e = .returned (.int .i64 0) ∧ Below w.heap.size (w.setCell ⟨b, 5 + r.toNat, none⟩ (.int .i64 (bitN (decide (regN rg a < regN rg bb))))) w' := by
 obtain ⟨r', hr'⟩ : ∃ r' : Nat, r = r' := ⟨r.toNat, by omega⟩
 subst hr'
 have br0 : (0 : Int) ≤ (r' : Int) := by omega
 have br1 : (r' : Int) < 4 := by omega
 obtain ⟨a', ha'⟩ : ∃ a' : Nat, a = a' := ⟨a.toNat, by omega⟩
 subst ha'
 have ba0 : (0 : Int) ≤ (a' : Int) := by omega
 have ba1 : (a' : Int) < 4 := by omega
 obtain ⟨bb', hbb'⟩ : ∃ bb' : Nat, bb = bb' := ⟨bb.toNat, by omega⟩
 subst hbb'
 have bbb0 : (0 : Int) ≤ (bb' : Int) := by omega
 have bbb1 : (bb' : Int) < 4 := by omega
 have HT := hidW h
 have hz := h.z
 have hl := h.l
 obtain ⟨vr, hvr⟩ : ∃ v, rg.getD r' 0 = v := ⟨_, rfl⟩
 have HVr := hidW hvr
 clear hvr
 obtain ⟨va, hva⟩ : ∃ v, rg.getD a' 0 = v := ⟨_, rfl⟩
 have HVa := hidW hva
 clear hva
 obtain ⟨vbb, hvbb⟩ : ∃ v, rg.getD bb' 0 = v := ⟨_, rfl⟩
 have HVbb := hidW hvbb
 clear hvbb
 obtain ⟨W, hW, hx, kW, zW⟩ := Xb.new w (.int .i64 o) (.int .i64 r') (.int .i64 a') (.int .i64 bb') (.int .i64 n) 43
 have HWW := hidW hW
 have KW := hidW kW
 have HX := hidW hx
 have HTW := hidW (h.below kW hz)
 clear h kW hx hW
 obtain ⟨x0, x1, x2, x3, x4, xz⟩ := HX.out
 obtain ⟨c0, c1, c2, c3, c4, cr, cf, cz, -⟩ := HTW.out
 have lr : W.cell? ⟨b, 5 + r', none⟩ = some (.int .i64 vr) := by rw [← HVr.out]; exact cr r' (by omega)
 have la : W.cell? ⟨b, 5 + a', none⟩ = some (.int .i64 va) := by rw [← HVa.out]; exact cr a' (by omega)
 have lbb : W.cell? ⟨b, 5 + bb', none⟩ = some (.int .i64 vbb) := by rw [← HVbb.out]; exact cr bb' (by omega)
 go_enter Tryz.func55, Tryz.ntmps55
 go_wp2_with fail
 rw [HWW.out]
 have hne := ext_ne W
 have u1 := Ext.fit x1 xz
 have u2 := Ext.fit x2 xz
 have u3 := Ext.fit x3 xz
 have wa := Ext.fit la cz
 have wbb := Ext.fit lbb cz
 refine regionSuf W 21 (by decide) (by kernel_rfl) (by kernel_rfl) (by kernel_rfl) (by kernel_rfl) ?_
 dsimp only [List.take, List.drop]
 repeat (go_big_quiet_step ((rename_i X; go_at_call 75; refine (lessOf_any _ _ _).mono ?_; rintro e w9 ⟨rfl, rfl⟩; exact ⟨rfl, X.on (Below.refl _ _)⟩)))
 refine wpQuiet_nil ?_
 clear hne u1 u2 u3 wa wbb
 rintro w3 ⟨X3, rfl⟩
 obtain ⟨V2, hX3⟩ : ∃ V2, X3.w = V2 := ⟨_, rfl⟩
 have hb3 := X3.b
 rw [hX3] at hb3 ⊢
 have K2 := hidW (KW.out.trans (hb3.mono (by omega)))
 have HT2 := hidW (HTW.out.below hb3 (by omega))
 clear hb3 hX3 X3
 have lr2 : V2.cell? ⟨b, 5 + r', none⟩ = some (.int .i64 (rg.getD r' 0)) := HT2.out.r r' (by omega)
 have ff2 := HT2.out.f
 have zf2 := HT2.out.z
 clear x0 x1 x2 x3 x4 xz c0 c1 c2 c3 c4 cr cf cz lr la lbb
 go_wp2
 go_ret
 refine ⟨rfl, ?_⟩
 have E : (bitN (decide (regN rg (a' : Int) < regN rg (bb' : Int)))) = bitN (decide (va < vbb)) := by simp only [regN, Int.toNat_natCast, HVa.out, HVbb.out]
 rw [E]
 exact belowP K2.out
end Go.Proofs.YteefnjngcnebpaaGreat
