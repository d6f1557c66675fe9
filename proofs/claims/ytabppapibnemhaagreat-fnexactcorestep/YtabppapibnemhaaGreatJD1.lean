/- A runner of the program: its cells; where it stops and goes on. No condition. What a runner of the program reckons. No condition. The cell that a runner of the program goes for. No condition. A runner of the program prints. No condition. A machine whose core's view was written where it lies, its memory stored into. No condition. -/
import Derived.Test.YtabppapibnemhaaGreatJC3
import Derived.Test.YtabppapibnemhaaGreatJA1
namespace Go.Proofs.YtabppapibnemhaaGreat
section
set_option linter.unusedSimpArgs false
set_option linter.unusedVariables false
set_option maxRecDepth 100000
open Go.RowKit
theorem hidM1 {p : Prop} (h : p) : Hid p := h
/- the cells of a runner and what they lead to -/
structure Rn (w : World) (R bm gk gc gs gr gv who n : Nat) (cv cr cs : Nat) (late : Int) (vc vk vm vt : Value) (nc cc : Nat) (pc st : Int) : Prop where
 r0 : w.cell? ⟨R, 0, none⟩ = some (.slice (some ⟨gv, 0, none⟩) 24 cv)
 r1 : w.cell? ⟨R, 1, none⟩ = some (.pointer (some ⟨gk, who * 4, none⟩))
 r2 : w.cell? ⟨R, 2, none⟩ = some (.pointer (some ⟨bm, 0, none⟩))
 r3 : w.cell? ⟨R, 3, none⟩ = some (.int .i64 who)
 r4 : w.cell? ⟨R, 4, none⟩ = some (.int .i64 late)
 m0 : w.cell? ⟨bm, 0, none⟩ = some vc
 m1 : w.cell? ⟨bm, 1, none⟩ = some vk
 m2 : w.cell? ⟨bm, 2, none⟩ = some vm
 m3 : w.cell? ⟨bm, 3, none⟩ = some vt
 fm : ∀ j, w.frozen? ⟨bm, j, none⟩ = false
 ec : vc = .slice (some ⟨gc, 0, none⟩) nc cc
 c0 : w.cell? ⟨gc, who, none⟩ = some (.slice (some ⟨gs, 0, none⟩) n cs)
 k0 : w.cell? ⟨gk, who * 4, none⟩ = some (.int .i64 pc)
 k1 : w.cell? ⟨gk, who * 4 + 1, none⟩ = some (.slice (some ⟨gr, 0, none⟩) 8 cr)
 k3 : w.cell? ⟨gk, who * 4 + 3, none⟩ = some (.int .i64 st)
 fk : ∀ j, w.frozen? ⟨gk, j, none⟩ = false
 wc : who < nc
 zR : R < w.heap.size
 zm : bm < w.heap.size
 zk : gk < w.heap.size
 zc : gc < w.heap.size
 zr : gr < w.heap.size
theorem stop_any {w : World} {R bm gk gc gs gr gv who n cv cr cs : Nat} {late : Int} {vc vk vm vt : Value} {nc cc : Nat} {pc st : Int} (z : Int) (h : Rn w R bm gk gc gs gr gv who n cv cr cs late vc vk vm vt nc cc pc st) :
  Calls Tryz.prog 113 #[.pointer (some ⟨R, 0, none⟩), .int .i64 z] w fun e w' => e = .returned (.int .i64 0) ∧ Below w.heap.size (w.setCell ⟨gk, who * 4 + 3, none⟩ (.int .i64 z)) w' := by
 obtain ⟨r0, r1, r2, r3, r4, m0, m1, m2, m3, fm, ec, c0, k0, k1, k3, fk, wc, zR, zm, zk, zc, zr⟩ := h
 go_enter Tryz.func113, Tryz.ntmps113
 go_wp2
 go_ret
 exact ⟨rfl, Below.refl _ _⟩
theorem Rn.below {w w' : World} {R bm gk gc gs gr gv who n cv cr cs : Nat} {late : Int} {vc vk vm vt : Value} {nc cc : Nat} {pc st : Int} (h : Rn w R bm gk gc gs gr gv who n cv cr cs late vc vk vm vt nc cc pc st) (hb : Below w.heap.size w w') : Rn w' R bm gk gc gs gr gv who n cv cr cs late vc vk vm vt nc cc pc st := by
 obtain ⟨r0, r1, r2, r3, r4, m0, m1, m2, m3, fm, ec, c0, k0, k1, k3, fk, wc, zR, zm, zk, zc, zr⟩ := h
 have hs := hb.size
 have cc' : ∀ b j, b < w.heap.size → w'.cell? ⟨b, j, none⟩ = w.cell? ⟨b, j, none⟩ := fun b j hb' => hb.cell (p := ⟨b, j, none⟩) hb'
 exact ⟨(cc' _ _ zR).trans r0, (cc' _ _ zR).trans r1, (cc' _ _ zR).trans r2, (cc' _ _ zR).trans r3, (cc' _ _ zR).trans r4, (cc' _ _ zm).trans m0, (cc' _ _ zm).trans m1, (cc' _ _ zm).trans m2, (cc' _ _ zm).trans m3, fun j => (hb.frozen (p := ⟨bm, j, none⟩) zm).trans (fm j), ec, (cc' _ _ zc).trans c0, (cc' _ _ zk).trans k0, (cc' _ _ zk).trans k1, (cc' _ _ zk).trans k3, fun j => (hb.frozen (p := ⟨gk, j, none⟩) zk).trans (fk j), wc, by omega, by omega, by omega, by omega, by omega⟩
/- a store behind what a call has left alone -/
theorem below_pair {w w' : World} {g j : Nat} {v : Value} (h : Below w.heap.size w w') : Below w.heap.size (w.setCell ⟨g, j, none⟩ v) (w'.setCell ⟨g, j, none⟩ v) :=
 ⟨h.os, h.tape, h.output, by simpa using h.size, fun b hb => heap_pair (h.block b hb)⟩
theorem goTo_yes {w : World} {R bm gk gc gs gr gv who n cv cr cs : Nat} {late : Int} {vc vk vm vt : Value} {nc cc : Nat} {pc st : Int} (at_ : Int) (h : Rn w R bm gk gc gs gr gv who n cv cr cs late vc vk vm vt nc cc pc st) (h0 : 0 ≤ at_) (h1 : at_ < (n : Int)) :
  Calls Tryz.prog 116 #[.pointer (some ⟨R, 0, none⟩), .int .i64 at_] w fun e w' => e = .returned (.int .i64 0) ∧ Below w.heap.size (w.setCell ⟨gk, who * 4, none⟩ (.int .i64 at_)) w' := by
 have hh := h
 obtain ⟨r0, r1, r2, r3, r4, m0, m1, m2, m3, fm, ec, c0, k0, k1, k3, fk, wc, zR, zm, zk, zc, zr⟩ := h
 subst ec
 have b0 : (0 : Int) ≤ (who : Int) := by omega
 have b1 : (who : Int) < (nc : Int) := by omega
 have H := hidM1 hh
 go_enter Tryz.func116, Tryz.ntmps116
 go_wp2_with fail
 have hne := ext_ne w
 have u0 := Ext.fit r2 zR
 have u1 := Ext.fit m0 zm
 have u2 := Ext.fit r3 zR
 have u3 := Ext.fit c0 zc
 refine regionExt w (by kernel_rfl) (by kernel_rfl) ?_
 repeat (go_big_quiet_step ((rename_i X; go_at_call 72; refine (isOneOf_is _ _ true _ (by unfold Plain.oneB; simp; omega)).mono ?_; rintro e w3 ⟨rfl, hw3⟩; exact ⟨rfl, by rw [hw3]; exact X.on (Below.refl _ _)⟩)))
 refine wpQuiet_nil ?_
 rintro w3 ⟨X3, rfl⟩
 obtain ⟨V, hV⟩ : ∃ V, X3.w = V := ⟨_, rfl⟩
 have hb := X3.b
 rw [hV] at hb ⊢
 have HB : Hid (Below w.heap.size w V) := hb
 clear hne u0 u1 u2 u3 r0 r1 r2 r3 r4 m0 m1 m2 m3 fm c0 k0 k1 k3 fk hV X3
 obtain ⟨r0, r1, r2, r3, r4, m0, m1, m2, m3, fm, ec, c0, k0, k1, k3, fk, wc, zR', zm', zk', zc', zr'⟩ := H.out.below hb
 clear hb ec
 go_wp2
 go_ret
 exact ⟨rfl, below_pair HB.out⟩
theorem goTo_no {w : World} {R bm gk gc gs gr gv who n cv cr cs : Nat} {late : Int} {vc vk vm vt : Value} {nc cc : Nat} {pc st : Int} (at_ : Int) (h : Rn w R bm gk gc gs gr gv who n cv cr cs late vc vk vm vt nc cc pc st) (h1 : ¬ (0 ≤ at_ ∧ at_ < (n : Int))) :
  Calls Tryz.prog 116 #[.pointer (some ⟨R, 0, none⟩), .int .i64 at_] w fun e w' => e = .returned (.int .i64 0) ∧ Below w.heap.size (w.setCell ⟨gk, who * 4 + 3, none⟩ (.int .i64 2)) w' := by
 have hh := h
 obtain ⟨r0, r1, r2, r3, r4, m0, m1, m2, m3, fm, ec, c0, k0, k1, k3, fk, wc, zR, zm, zk, zc, zr⟩ := h
 subst ec
 have b0 : (0 : Int) ≤ (who : Int) := by omega
 have b1 : (who : Int) < (nc : Int) := by omega
 have H := hidM1 hh
 have H1 := hidM1 h1
 go_enter Tryz.func116, Tryz.ntmps116
 go_wp2_with fail
 have hne := ext_ne w
 have u0 := Ext.fit r2 zR
 have u1 := Ext.fit m0 zm
 have u2 := Ext.fit r3 zR
 have u3 := Ext.fit c0 zc
 refine regionExt w (by kernel_rfl) (by kernel_rfl) ?_
 repeat (go_big_quiet_step ((rename_i X; go_at_call 72; refine (isOneOf_is _ _ false _ (by have := H1.out; unfold Plain.oneB; simp; omega)).mono ?_; rintro e w3 ⟨rfl, hw3⟩; exact ⟨rfl, by rw [hw3]; exact X.on (Below.refl _ _)⟩)))
 refine wpQuiet_nil ?_
 rintro w3 ⟨X3, rfl⟩
 obtain ⟨V, hV⟩ : ∃ V, X3.w = V := ⟨_, rfl⟩
 have hb := X3.b
 rw [hV] at hb ⊢
 have HB : Hid (Below w.heap.size w V) := hb
 have ST := hidM1 (stop_any 2 (H.out.below hb))
 clear hne u0 u1 u2 u3 r0 r1 r2 r3 r4 m0 m1 m2 m3 fm c0 k0 k1 k3 fk hV X3
 go_wp2_with fail
 refine Calls.mono ST.out ?_
 rintro e w4 ⟨rfl, hb4⟩
 have HB4 := hidM1 hb4
 clear hb4
 go_wp2
 go_ret
 have q := HB.out.size
 exact ⟨rfl, (below_pair (g := gk) (j := who * 4 + 3) (v := .int .i64 2) HB.out).trans (HB4.out.mono q)⟩
theorem lessOf_any (a b : Int) (w : World) : Calls Tryz.prog 122 #[.int .i64 a, .int .i64 b] w fun e w' => e = .returned (.int .i64 (bitN (decide (a < b)))) ∧ w' = w := by
 by_cases h : a < b
 all_goals
  go_enter Tryz.func122, Tryz.ntmps122
  go_wp2
  go_ret
  exact ⟨by simp [bitN, h], rfl⟩
def reckV (o n va vb : Int) : Int := if o = 1 then n else if o = 2 then wI (va + vb) else if o = 3 then wI (va - vb) else bitN (decide (va < vb))
end
section
set_option linter.unusedSimpArgs false
set_option linter.unusedVariables false
set_option maxRecDepth 100000
open Go.RowKit
set_option maxHeartbeats 1000000 in
theorem reckon1 {w : World} {R bm gk gc gs gr gv who n cv cr cs : Nat} {late : Int} {vc vk vm vt : Value} {nc cc : Nat} {pc st : Int} (r' a' b' : Nat) (nn va vb v0 : Int) (h : Rn w R bm gk gc gs gr gv who n cv cr cs late vc vk vm vt nc cc pc st) (hr : r' < 8) (ha : a' < 8) (hb : b' < 8) (lr : w.cell? ⟨gr, r', none⟩ = some (.int .i64 v0)) (la : w.cell? ⟨gr, a', none⟩ = some (.int .i64 va)) (lb : w.cell? ⟨gr, b', none⟩ = some (.int .i64 vb)) (fr : ∀ j, w.frozen? ⟨gr, j, none⟩ = false) :
  Calls Tryz.prog 111 #[.pointer (some ⟨R, 0, none⟩), .agg #[.int .i64 1, .int .i64 r', .int .i64 a', .int .i64 b', .int .i64 nn]] w fun e w' => e = .returned (.tuple #[]) ∧ Below w.heap.size (w.setCell ⟨gr, r', none⟩ (.int .i64 (reckV 1 nn va vb))) w' := by
 obtain ⟨r0, r1, r2, r3, r4, m0, m1, m2, m3, fm, ec, c0, k0, k1, k3, fk, wc, zR, zm, zk, zc, zr⟩ := h
 have br0 : (0 : Int) ≤ (r' : Int) := by omega
 have br1 : (r' : Int) < 8 := by omega
 have ba0 : (0 : Int) ≤ (a' : Int) := by omega
 have ba1 : (a' : Int) < 8 := by omega
 have bb0 : (0 : Int) ≤ (b' : Int) := by omega
 have bb1 : (b' : Int) < 8 := by omega
 go_enter Tryz.func111, Tryz.ntmps111
 go_wp2
 go_end0
 exact ⟨rfl, by unfold reckV; rw [if_pos rfl]; exact (Below.refl _ _).alloc (by simp) _⟩
set_option maxHeartbeats 1000000 in
theorem reckon2 {w : World} {R bm gk gc gs gr gv who n cv cr cs : Nat} {late : Int} {vc vk vm vt : Value} {nc cc : Nat} {pc st : Int} (r' a' b' : Nat) (nn va vb v0 : Int) (h : Rn w R bm gk gc gs gr gv who n cv cr cs late vc vk vm vt nc cc pc st) (hr : r' < 8) (ha : a' < 8) (hb : b' < 8) (lr : w.cell? ⟨gr, r', none⟩ = some (.int .i64 v0)) (la : w.cell? ⟨gr, a', none⟩ = some (.int .i64 va)) (lb : w.cell? ⟨gr, b', none⟩ = some (.int .i64 vb)) (fr : ∀ j, w.frozen? ⟨gr, j, none⟩ = false) :
  Calls Tryz.prog 111 #[.pointer (some ⟨R, 0, none⟩), .agg #[.int .i64 2, .int .i64 r', .int .i64 a', .int .i64 b', .int .i64 nn]] w fun e w' => e = .returned (.tuple #[]) ∧ Below w.heap.size (w.setCell ⟨gr, r', none⟩ (.int .i64 (reckV 2 nn va vb))) w' := by
 obtain ⟨r0, r1, r2, r3, r4, m0, m1, m2, m3, fm, ec, c0, k0, k1, k3, fk, wc, zR, zm, zk, zc, zr⟩ := h
 have br0 : (0 : Int) ≤ (r' : Int) := by omega
 have br1 : (r' : Int) < 8 := by omega
 have ba0 : (0 : Int) ≤ (a' : Int) := by omega
 have ba1 : (a' : Int) < 8 := by omega
 have bb0 : (0 : Int) ≤ (b' : Int) := by omega
 have bb1 : (b' : Int) < 8 := by omega
 obtain ⟨q, hq⟩ : ∃ q, IntKind.i64.wrap (va + vb) = q := ⟨_, rfl⟩
 go_enter Tryz.func111, Tryz.ntmps111
 go_wp2_with fail
 obtain ⟨V, hV⟩ : ∃ V, w.alloc (.cells #[.int .i64 2, .int .i64 r', .int .i64 a', .int .i64 b', .int .i64 nn] 100) = V := ⟨_, rfl⟩
 have kv : Below w.heap.size w V := by subst hV; exact (Below.refl _ _).alloc (Nat.le_refl _) _
 have zv : w.heap.size < V.heap.size := by subst hV; simp
 have t1 : V.cell? ⟨w.heap.size, 1, none⟩ = some (.int .i64 r') := by subst hV; simp [go_sem]
 have t2 : V.cell? ⟨w.heap.size, 2, none⟩ = some (.int .i64 a') := by subst hV; simp [go_sem]
 have t3 : V.cell? ⟨w.heap.size, 3, none⟩ = some (.int .i64 b') := by subst hV; simp [go_sem]
 rw [hV]
 have KV := hidM1 kv
 have hne := ext_ne V
 have u1 := Ext.fit t1 zv
 have u2 := Ext.fit t2 zv
 have u3 := Ext.fit t3 zv
 have ua := Ext.fit ((kv.cell (p := ⟨gr, a', none⟩) zr).trans la) (by omega)
 have ub := Ext.fit ((kv.cell (p := ⟨gr, b', none⟩) zr).trans lb) (by omega)
 refine regionLast V _ rfl (by kernel_rfl) (by kernel_rfl) (by kernel_rfl) rfl rfl ?_
 dsimp only [List.dropLast, List.cons_append, List.nil_append, idle]
 repeat (go_big_quiet_step (fail))
 refine wpQuiet_nil ?_
 rintro w3 ⟨X3, rfl⟩
 obtain ⟨V2, hV2⟩ : ∃ V2, X3.w = V2 := ⟨_, rfl⟩
 have hb2 := X3.b
 rw [hV2] at hb2 ⊢
 have K2 : Hid (Below w.heap.size w V2) := KV.out.trans (hb2.mono (by omega))
 have lr2 := (K2.out.cell (p := ⟨gr, r', none⟩) zr).trans lr
 have fr2 : ∀ j, V2.frozen? ⟨gr, j, none⟩ = false := fun j => (K2.out.frozen (p := ⟨gr, j, none⟩) zr).trans (fr j)
 clear hne u1 u2 u3 ua ub hV2 hb2 X3 kv hV t1 t2 t3
 go_wp2
 go_end0
 exact ⟨rfl, by unfold reckV wI; rw [if_neg (by decide), if_pos rfl, hq]; exact below_pair K2.out⟩
set_option maxHeartbeats 1000000 in
theorem reckon3 {w : World} {R bm gk gc gs gr gv who n cv cr cs : Nat} {late : Int} {vc vk vm vt : Value} {nc cc : Nat} {pc st : Int} (r' a' b' : Nat) (nn va vb v0 : Int) (h : Rn w R bm gk gc gs gr gv who n cv cr cs late vc vk vm vt nc cc pc st) (hr : r' < 8) (ha : a' < 8) (hb : b' < 8) (lr : w.cell? ⟨gr, r', none⟩ = some (.int .i64 v0)) (la : w.cell? ⟨gr, a', none⟩ = some (.int .i64 va)) (lb : w.cell? ⟨gr, b', none⟩ = some (.int .i64 vb)) (fr : ∀ j, w.frozen? ⟨gr, j, none⟩ = false) :
  Calls Tryz.prog 111 #[.pointer (some ⟨R, 0, none⟩), .agg #[.int .i64 3, .int .i64 r', .int .i64 a', .int .i64 b', .int .i64 nn]] w fun e w' => e = .returned (.tuple #[]) ∧ Below w.heap.size (w.setCell ⟨gr, r', none⟩ (.int .i64 (reckV 3 nn va vb))) w' := by
 obtain ⟨r0, r1, r2, r3, r4, m0, m1, m2, m3, fm, ec, c0, k0, k1, k3, fk, wc, zR, zm, zk, zc, zr⟩ := h
 have br0 : (0 : Int) ≤ (r' : Int) := by omega
 have br1 : (r' : Int) < 8 := by omega
 have ba0 : (0 : Int) ≤ (a' : Int) := by omega
 have ba1 : (a' : Int) < 8 := by omega
 have bb0 : (0 : Int) ≤ (b' : Int) := by omega
 have bb1 : (b' : Int) < 8 := by omega
 obtain ⟨q, hq⟩ : ∃ q, IntKind.i64.wrap (va - vb) = q := ⟨_, rfl⟩
 go_enter Tryz.func111, Tryz.ntmps111
 go_wp2_with fail
 obtain ⟨V, hV⟩ : ∃ V, w.alloc (.cells #[.int .i64 3, .int .i64 r', .int .i64 a', .int .i64 b', .int .i64 nn] 100) = V := ⟨_, rfl⟩
 have kv : Below w.heap.size w V := by subst hV; exact (Below.refl _ _).alloc (Nat.le_refl _) _
 have zv : w.heap.size < V.heap.size := by subst hV; simp
 have t1 : V.cell? ⟨w.heap.size, 1, none⟩ = some (.int .i64 r') := by subst hV; simp [go_sem]
 have t2 : V.cell? ⟨w.heap.size, 2, none⟩ = some (.int .i64 a') := by subst hV; simp [go_sem]
 have t3 : V.cell? ⟨w.heap.size, 3, none⟩ = some (.int .i64 b') := by subst hV; simp [go_sem]
 rw [hV]
 have KV := hidM1 kv
 have hne := ext_ne V
 have u1 := Ext.fit t1 zv
 have u2 := Ext.fit t2 zv
 have u3 := Ext.fit t3 zv
 have ua := Ext.fit ((kv.cell (p := ⟨gr, a', none⟩) zr).trans la) (by omega)
 have ub := Ext.fit ((kv.cell (p := ⟨gr, b', none⟩) zr).trans lb) (by omega)
 refine regionLast V _ rfl (by kernel_rfl) (by kernel_rfl) (by kernel_rfl) rfl rfl ?_
 dsimp only [List.dropLast, List.cons_append, List.nil_append, idle]
 repeat (go_big_quiet_step (fail))
 refine wpQuiet_nil ?_
 rintro w3 ⟨X3, rfl⟩
 obtain ⟨V2, hV2⟩ : ∃ V2, X3.w = V2 := ⟨_, rfl⟩
 have hb2 := X3.b
 rw [hV2] at hb2 ⊢
 have K2 : Hid (Below w.heap.size w V2) := KV.out.trans (hb2.mono (by omega))
 have lr2 := (K2.out.cell (p := ⟨gr, r', none⟩) zr).trans lr
 have fr2 : ∀ j, V2.frozen? ⟨gr, j, none⟩ = false := fun j => (K2.out.frozen (p := ⟨gr, j, none⟩) zr).trans (fr j)
 clear hne u1 u2 u3 ua ub hV2 hb2 X3 kv hV t1 t2 t3
 go_wp2
 go_end0
 exact ⟨rfl, by unfold reckV wI; rw [if_neg (by decide), if_neg (by decide), if_pos rfl, hq]; exact below_pair K2.out⟩
set_option maxHeartbeats 1000000 in
theorem reckon4 {w : World} {R bm gk gc gs gr gv who n cv cr cs : Nat} {late : Int} {vc vk vm vt : Value} {nc cc : Nat} {pc st : Int} (r' a' b' : Nat) (nn va vb v0 : Int) (h : Rn w R bm gk gc gs gr gv who n cv cr cs late vc vk vm vt nc cc pc st) (hr : r' < 8) (ha : a' < 8) (hb : b' < 8) (lr : w.cell? ⟨gr, r', none⟩ = some (.int .i64 v0)) (la : w.cell? ⟨gr, a', none⟩ = some (.int .i64 va)) (lb : w.cell? ⟨gr, b', none⟩ = some (.int .i64 vb)) (fr : ∀ j, w.frozen? ⟨gr, j, none⟩ = false) :
  Calls Tryz.prog 111 #[.pointer (some ⟨R, 0, none⟩), .agg #[.int .i64 4, .int .i64 r', .int .i64 a', .int .i64 b', .int .i64 nn]] w fun e w' => e = .returned (.tuple #[]) ∧ Below w.heap.size (w.setCell ⟨gr, r', none⟩ (.int .i64 (reckV 4 nn va vb))) w' := by
 obtain ⟨r0, r1, r2, r3, r4, m0, m1, m2, m3, fm, ec, c0, k0, k1, k3, fk, wc, zR, zm, zk, zc, zr⟩ := h
 have br0 : (0 : Int) ≤ (r' : Int) := by omega
 have br1 : (r' : Int) < 8 := by omega
 have ba0 : (0 : Int) ≤ (a' : Int) := by omega
 have ba1 : (a' : Int) < 8 := by omega
 have bb0 : (0 : Int) ≤ (b' : Int) := by omega
 have bb1 : (b' : Int) < 8 := by omega
 go_enter Tryz.func111, Tryz.ntmps111
 go_wp2_with fail
 obtain ⟨V, hV⟩ : ∃ V, w.alloc (.cells #[.int .i64 4, .int .i64 r', .int .i64 a', .int .i64 b', .int .i64 nn] 100) = V := ⟨_, rfl⟩
 have kv : Below w.heap.size w V := by subst hV; exact (Below.refl _ _).alloc (Nat.le_refl _) _
 have zv : w.heap.size < V.heap.size := by subst hV; simp
 have t1 : V.cell? ⟨w.heap.size, 1, none⟩ = some (.int .i64 r') := by subst hV; simp [go_sem]
 have t2 : V.cell? ⟨w.heap.size, 2, none⟩ = some (.int .i64 a') := by subst hV; simp [go_sem]
 have t3 : V.cell? ⟨w.heap.size, 3, none⟩ = some (.int .i64 b') := by subst hV; simp [go_sem]
 rw [hV]
 have KV := hidM1 kv
 have hne := ext_ne V
 have u1 := Ext.fit t1 zv
 have u2 := Ext.fit t2 zv
 have u3 := Ext.fit t3 zv
 have ua := Ext.fit ((kv.cell (p := ⟨gr, a', none⟩) zr).trans la) (by omega)
 have ub := Ext.fit ((kv.cell (p := ⟨gr, b', none⟩) zr).trans lb) (by omega)
 refine regionLast V _ rfl (by kernel_rfl) (by kernel_rfl) (by kernel_rfl) rfl rfl ?_
 dsimp only [List.dropLast, List.cons_append, List.nil_append, idle]
 repeat (go_big_quiet_step ((rename_i X; go_at_call 122; refine (lessOf_any _ _ _).mono ?_; rintro e w3 ⟨rfl, hw3⟩; exact ⟨rfl, by rw [hw3]; exact X.on (Below.refl _ _)⟩)))
 refine wpQuiet_nil ?_
 rintro w3 ⟨X3, rfl⟩
 obtain ⟨V2, hV2⟩ : ∃ V2, X3.w = V2 := ⟨_, rfl⟩
 have hb2 := X3.b
 rw [hV2] at hb2 ⊢
 have K2 : Hid (Below w.heap.size w V2) := KV.out.trans (hb2.mono (by omega))
 have lr2 := (K2.out.cell (p := ⟨gr, r', none⟩) zr).trans lr
 have fr2 : ∀ j, V2.frozen? ⟨gr, j, none⟩ = false := fun j => (K2.out.frozen (p := ⟨gr, j, none⟩) zr).trans (fr j)
 clear hne u1 u2 u3 ua ub hV2 hb2 X3 kv hV t1 t2 t3
 go_wp2
 go_end0
 exact ⟨rfl, by unfold reckV; rw [if_neg (by decide), if_neg (by decide), if_neg (by decide)]; exact below_pair K2.out⟩
end
section
set_option linter.unusedSimpArgs false
set_option linter.unusedVariables false
set_option maxRecDepth 100000
open Go.RowKit
theorem cellOf_n {w : World} {R : Nat} (o r a b n : Int) (hl : Plain.memB o = false ∨ a = -1) :
  Calls Tryz.prog 112 #[.pointer (some ⟨R, 0, none⟩), .agg #[.int .i64 o, .int .i64 r, .int .i64 a, .int .i64 b, .int .i64 n]] w fun e w' => e = .returned (.int .i64 n) ∧ Below w.heap.size w w' := by
 by_cases hm : Plain.memB o = false
 ·have HM := hidM1 hm
  clear hl hm
  go_enter Tryz.func112, Tryz.ntmps112
  go_wp2_with (go_at_call 123; refine (mayLackA_any _ _).mono ?_; rintro e w' ⟨rfl, hw'⟩; rw [hw', HM.out]; clear hw' w')
  go_ret
  exact ⟨rfl, (Below.refl _ _).alloc (Nat.le_refl _) _⟩
 ·have ha : a = -1 := hl.resolve_left hm
  subst ha
  have HM : Hid (Plain.memB o = true) := by show _ = _; cases h : Plain.memB o; exact absurd h hm; rfl
  clear hl hm
  go_enter Tryz.func112, Tryz.ntmps112
  go_wp2_with (go_at_call 123; refine (mayLackA_any _ _).mono ?_; rintro e w' ⟨rfl, hw'⟩; rw [hw', HM.out]; clear hw' w')
  go_ret
  exact ⟨rfl, (Below.refl _ _).alloc (Nat.le_refl _) _⟩
theorem cellOf_r {w : World} {R bm gk gc gs gr gv who nn cv cr cs : Nat} {late : Int} {vc vk vm vt : Value} {nc cc : Nat} {pc st : Int} (o r b n va : Int) (a' : Nat) (h : Rn w R bm gk gc gs gr gv who nn cv cr cs late vc vk vm vt nc cc pc st) (ha : a' < 8) (la : w.cell? ⟨gr, a', none⟩ = some (.int .i64 va)) (hm : Plain.memB o = true) :
  Calls Tryz.prog 112 #[.pointer (some ⟨R, 0, none⟩), .agg #[.int .i64 o, .int .i64 r, .int .i64 a', .int .i64 b, .int .i64 n]] w fun e w' => e = .returned (.int .i64 (wI (n + va))) ∧ Below w.heap.size w w' := by
 obtain ⟨r0, r1, r2, r3, r4, m0, m1, m2, m3, fm, ec, c0, k0, k1, k3, fk, wc, zR, zm, zk, zc, zr⟩ := h
 have ba0 : (0 : Int) ≤ (a' : Int) := by omega
 have ba1 : (a' : Int) < 8 := by omega
 have ba2 : ¬ (a' : Int) = -1 := by omega
 have HM := hidM1 hm
 clear hm
 obtain ⟨q, hq⟩ : ∃ q, IntKind.i64.wrap (n + va) = q := ⟨_, rfl⟩
 go_enter Tryz.func112, Tryz.ntmps112
 go_wp2_with (go_at_call 123; refine (mayLackA_any _ _).mono ?_; rintro e w' ⟨rfl, hw'⟩; rw [hw', HM.out]; clear hw' w')
 obtain ⟨V, hV⟩ : ∃ V, w.alloc (.cells #[.int .i64 o, .int .i64 r, .int .i64 a', .int .i64 b, .int .i64 n] 100) = V := ⟨_, rfl⟩
 have kv : Below w.heap.size w V := by subst hV; exact (Below.refl _ _).alloc (Nat.le_refl _) _
 have zv : w.heap.size < V.heap.size := by subst hV; simp
 have t2 : V.cell? ⟨w.heap.size, 2, none⟩ = some (.int .i64 a') := by subst hV; simp [go_sem]
 have t4 : V.cell? ⟨w.heap.size, 4, none⟩ = some (.int .i64 n) := by subst hV; simp [go_sem]
 rw [hV]
 have KV := hidM1 kv
 have hne := ext_ne V
 have u2 := Ext.fit t2 zv
 have u4 := Ext.fit t4 zv
 have u0 := Ext.fit ((kv.cell (p := ⟨R, 1, none⟩) zR).trans r1) (by omega)
 have u1 := Ext.fit ((kv.cell (p := ⟨gk, who * 4 + 1, none⟩) zk).trans k1) (by omega)
 have ua := Ext.fit ((kv.cell (p := ⟨gr, a', none⟩) zr).trans la) (by omega)
 refine regionExt V (by kernel_rfl) (by kernel_rfl) ?_
 repeat (go_big_quiet_step (fail))
 refine wpQuiet_nil ?_
 rintro w3 ⟨X3, rfl⟩
 have K2 := hidM1 (KV.out.trans (X3.b.mono (Nat.le_of_lt zv)))
 clear hne u0 u1 u2 u4 ua t2 t4 kv hV
 go_wp2
 go_ret
 exact ⟨by show Ending.returned (Value.int .i64 q) = _; unfold wI; rw [hq], K2.out⟩
end
section
set_option linter.unusedSimpArgs false
set_option linter.unusedVariables false
set_option maxRecDepth 100000
open Go.RowKit
theorem print_no {w : World} {R bm gk gc gs gr gv who nn cv cr cs : Nat} {late : Int} {vc vk vm : Value} {sT : Option Addr} {nT cT nc cc : Nat} {pc st : Int} (v : Int) (h : Rn w R bm gk gc gs gr gv who nn cv cr cs late vc vk vm (.slice sT nT cT) nc cc pc st) (hf : 4000 ≤ nT) :
  Calls Tryz.prog 115 #[.pointer (some ⟨R, 0, none⟩), .int .i64 v] w fun e w' => e = .returned (.bool false) ∧ w' = w := by
 obtain ⟨r0, r1, r2, r3, r4, m0, m1, m2, m3, fm, ec, c0, k0, k1, k3, fk, wc, zR, zm, zk, zc, zr⟩ := h
 have hfi : (4000 : Int) ≤ (nT : Int) := by omega
 go_enter Tryz.func115, Tryz.ntmps115
 go_wp2
 go_ret
 exact ⟨rfl, rfl⟩
set_option maxHeartbeats 1000000 in
theorem print_yes {w : World} {B R bm gk gc gs gr gv who nn cv cr cs : Nat} {late : Int} {vc vk vm : Value} {sT : Option Addr} {cT nc cc : Nat} {pc st : Int} {tr : List ND} (v : Int) (h : Rn w R bm gk gc gs gr gv who nn cv cr cs late vc vk vm (.slice sT tr.length cT) nc cc pc st) (hT : OwnD w B (.slice sT tr.length cT) tr) (hf : tr.length < 4000) (hB : B ≤ w.heap.size) (nR : (Value.slice sT tr.length cT).ownBlock ≠ some R) (nM : (Value.slice sT tr.length cT).ownBlock ≠ some bm) :
  Calls Tryz.prog 115 #[.pointer (some ⟨R, 0, none⟩), .int .i64 v] w fun e w' => e = .returned (.bool true) ∧ ∃ g6 c6 w6, w6.ownsRow B 95 2 (.slice (some ⟨g6, 0, none⟩) (tr.length + 1) c6) (tr.length + 1) (flatN tr ++ [.int .i64 who, .int .i64 v]) ∧ (w.drew.alloc (.cells #[.int .i64 who, .int .i64 v] 95)).grownBy w6 (Value.slice sT tr.length cT).ownBlock ∧ w' = w6.setCell ⟨bm, 3, none⟩ (.slice (some ⟨g6, 0, none⟩) (tr.length + 1) c6) := by
 obtain ⟨r0, r1, r2, r3, r4, m0, m1, m2, m3, fm, ec, c0, k0, k1, k3, fk, wc, zR, zm, zk, zc, zr⟩ := h
 have hfi : ¬ (4000 : Int) ≤ (tr.length : Int) := by omega
 have hfj : (tr.length : Int) < 4000 := by omega
 have HT := hidM1 hT
 have OT : Hid (OwnD (w.drew.alloc (.cells #[.int .i64 who, .int .i64 v] 95)) B (.slice sT tr.length cT) tr) := ownKeep' HT.out (fun q hq => by have := (World.ownsRow.lt HT.out _ hq).2; exact Below.heap_alloc w.drew _ _ this)
 go_enter Tryz.func115, Tryz.ntmps115
 go_wp2_with fail
 have hne := extN_ne w (Value.slice sT tr.length cT).ownBlock
 have u0 := ExtN.fit r2 zR nR
 have u1 := ExtN.fit m3 zm nM
 have u2 := ExtN.fit r3 zR nR
 refine regionMix w (CN w (Value.slice sT tr.length cT).ownBlock) 18 20 (by kernel_rfl) (by kernel_rfl) (fun _ _ d _ _ h => by cases d <;> exact h) (CN.drew _ _) ?_
 unfold CN
 dsimp only [List.take, List.drop]
 repeat (go_big_quiet_step (fail))
 refine wpQuiet_nil ?_
 clear hne u0 u1 u2
 unfold wpListC
 go_wp2
 refine And.intro (fun _ hc => CN.below hc ((Below.refl _ _).alloc (Nat.le_refl _) _)) ?_
 unfold wpListC
 refine app_note rfl _ _ rfl (w.drew.alloc (.cells #[.int .i64 who, .int .i64 v] 95)) B (.slice sT tr.length cT) tr.length (flatN tr) rfl OT.out w.heap.size (.int .i64 who) (.int .i64 v) rfl rfl rfl (by simp [go_sem]) (by simp [go_sem]) (by omega) (by simp; show B ≤ w.heap.size + 1; omega) ?_
 intro g6 c6 w6 ho6 hg6 hn6 hl6
 refine And.intro (fun _ hc => CN.grown hc hg6) ?_
 refine listC_late _ _ _ _ (by decide) ?_
 have kb : w6.heap[bm]? = w.heap[bm]? := (hg6.block bm (by simp; show bm < w.heap.size + 1; omega) (fun e => nM e.symm)).trans (Below.heap_alloc w.drew _ _ zm)
 have c3 := (World.cell?_of_block (w := w) (a := ⟨bm, 3, none⟩) kb).trans m3
 have f3 : ∀ j, w6.frozen? ⟨bm, j, none⟩ = false := fun j => (World.frozen?_of_block (w := w) (a := ⟨bm, j, none⟩) kb).trans (fm j)
 have HO := hidM1 ho6
 have HG := hidM1 hg6
 clear ho6 hg6 hn6 kb
 go_wp2
 go_ret
 exact ⟨rfl, g6, c6, w6, HO.out, HG.out, rfl⟩
end
section
set_option linter.unusedSimpArgs false
set_option linter.unusedVariables false
set_option maxRecDepth 100000
open Go.RowKit
theorem MQ.view {w w' : World} {B g : Nat} {vc vk vm vt : Value} {LC : List CV} {LK : List KV} {S S' : List RS} {d : MD} {i : Nat} {x : KV} {l' : List Int} {m' : List (List WD)} (h : MQ w B vc vk vm vt LC LK S d) (hx : LK[i]? = some x) (hg : x.v.ownBlock = some g) (ho : OwnN w' B x.v l') (hm : OW w' B vm S' m')
  (hf : ∀ {e : TypeId} {size n : Nat} {u : Value} {xs : List Value}, w.ownsRow B e size u n xs → e ≠ 128 → e ≠ 126 → u.ownBlock ≠ some g → ∀ q, u.ownBlock = some q → w'.heap[q]? = w.heap[q]?)
  (hp : ∀ a ∈ mAs S', (∃ a' ∈ mAs S, a'.block = a.block) ∨ w.heap.size ≤ a.block) :
  MQ w' B vc vk vm vt LC (LK.set i ⟨{ x.d with vw := l' }, x.r, x.v⟩) S' { putK d i { x.d with vw := l' } with mem := m' } := by
 have hv := (h.k.inn i x hx).2
 have ng : ∀ {e : TypeId} {size n : Nat} {u : Value} {xs : List Value}, w.ownsRow B e size u n xs → e ≠ 3 → u.ownBlock ≠ some g := fun hu he e => ownType' hu hv he e hg
 have kc : ∀ {e : TypeId} {size n : Nat} {u : Value} {xs : List Value}, w.ownsRow B e size u n xs → e ≠ 3 → e ≠ 128 → e ≠ 126 → w'.ownsRow B e size u n xs := fun hu h0 h1 h2 => ownKeep' hu (hf hu h1 h2 (ng hu h0))
 have ki : ∀ {u : Value} {l : List Int}, OwnN w B u l → u.ownBlock ≠ some g → OwnN w' B u l := fun hu hn => ownKeep' hu (hf hu (by decide) (by decide) hn)
 refine ⟨⟨kc h.c.row (by decide) (by decide) (by decide), fun j y hy => kc (h.c.inn j y hy) (by decide) (by decide) (by decide), h.c.sep⟩, h.ec, ?_, ?_, hm, kc h.t (by decide) (by decide) (by decide), fun j z q hz hq a ha e => ?_⟩
 ·refine h.k.turn hx rfl rfl ?_ ⟨ki (h.k.inn i x hx).1 (fun e => h.k.two i x g hx e hg), ho⟩ (fun j z hj hz => ?_)
  ·have r := kc h.k.row (by decide) (by decide) (by decide)
   rw [flatK_same LK i x ⟨{ x.d with vw := l' }, x.r, x.v⟩ hx rfl rfl rfl rfl]
   exact r
  ·have q := h.k.sep i j x z g hx hz (Ne.symm hj) (.inr hg)
   exact ⟨ki (h.k.inn j z hz).1 (fun e => q (.inl e)), ki (h.k.inn j z hz).2 (fun e => q (.inr e))⟩
 ·show (LK.set i _).map KV.d = d.cores.set i _
  rw [List.map_set, h.ek]
 ·rcases setKV_at hz with ⟨rfl, rfl, -⟩ | ⟨hj, hz⟩
  ·rcases hp a ha with ⟨a', ha', e'⟩ | hlt
   ·exact h.sk _ x q hx hq a' ha' (e'.trans e)
   ·rcases hq with hq | hq
    ·have := (World.ownsRow.lt (h.k.inn _ x hx).1 _ hq).2; omega
    ·have := (World.ownsRow.lt (h.k.inn _ x hx).2 _ hq).2; omega
  ·rcases hp a ha with ⟨a', ha', e'⟩ | hlt
   ·exact h.sk j z q hz hq a' ha' (e'.trans e)
   ·rcases hq with hq | hq
    ·have := (World.ownsRow.lt (h.k.inn j z hz).1 _ hq).2; omega
    ·have := (World.ownsRow.lt (h.k.inn j z hz).2 _ hq).2; omega
/- a load of the program: the view alone is written -/
theorem MQ.viewL {w w' : World} {B g : Nat} {vc vk vm vt : Value} {LC : List CV} {LK : List KV} {S : List RS} {d : MD} {i : Nat} {x : KV} {l' : List Int} (h : MQ w B vc vk vm vt LC LK S d) (hx : LK[i]? = some x) (hg : x.v.ownBlock = some g) (ho : OwnN w' B x.v l') (he : Exc g (g + 1) w w') :
  MQ w' B vc vk vm vt LC (LK.set i ⟨{ x.d with vw := l' }, x.r, x.v⟩) S (putK d i { x.d with vw := l' }) := by
 have hv := (h.k.inn i x hx).2
 have kb : ∀ b, b < w.heap.size → b ≠ g → w'.heap[b]? = w.heap[b]? := fun b h1 h2 => he.blk b h1 (by omega)
 have hm : OW w' B vm S d.mem := by
  refine ⟨h.m.n, ownKeep' h.m.row (fun k hk => kb k (World.ownsRow.lt h.m.row _ hk).2 (fun e => ownType' h.m.row hv (by decide) hk (by rw [hg, e]))), fun i' r l hr hl => ?_, h.m.d⟩
  have q := h.m.r i' r l hr hl
  refine q.kept (fun k hk => kb k (World.ownsRow.lt q.own _ hk).2 (fun e => ownType' q.own hv (by decide) hk (by rw [hg, e]))) (fun a ha => kb _ (q.blk ha).2 (fun e => ?_)) he.size
  exact h.sk i x g hx (.inr hg) a (mem_mAs.2 ⟨r, List.mem_of_getElem? hr, mem_rAs.2 (.inr (mem_vsA.1 ha))⟩) e
 have q := MQ.view (m' := d.mem) h hx hg ho hm (fun hu _ _ hn q hq => kb q (World.ownsRow.lt hu _ hq).2 (fun e => hn (by rw [hq, e]))) (fun a ha => .inl ⟨a, ha, rfl⟩)
 exact q
theorem hasRoom_c {w : World} {gO n cO c m cc : Nat} {s : Option Addr} (b : Bool) (hc : w.cell? ⟨gO, c, none⟩ = some (.slice s m cc)) (hz : gO < w.heap.size) (hn : c < n) (hb : decide (m < 4000) = b) :
  Calls Tryz.prog 129 #[.agg #[.slice (some ⟨gO, 0, none⟩) n cO], .int .i64 c] w fun e w' => e = .returned (.bool b) ∧ Below w.heap.size w w' := by
 have b0 : (0 : Int) ≤ (c : Int) := by omega
 have b1 : (c : Int) < (n : Int) := by omega
 have z1 : gO < w.heap.size + 1 := by omega
 subst hb
 by_cases h : m < 4000
 all_goals
  have hi : ((m : Int) < 4000) = (m < 4000) := by simp; omega
  go_enter Tryz.func129, Tryz.ntmps129
  go_wp2
  go_ret
  exact ⟨by simp [h], (Below.refl _ _).alloc (Nat.le_refl _) _⟩
end
end Go.Proofs.YtabppapibnemhaaGreat
