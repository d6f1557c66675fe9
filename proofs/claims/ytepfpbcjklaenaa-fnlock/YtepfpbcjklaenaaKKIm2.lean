/- What a runner of the program reckons. No condition. -/
import Derived.Test.YtepfpbcjklaenaaKG00
import Derived.Test.YtepfpbcjklaenaaKG06
import Derived.Test.YtepfpbcjklaenaaKKApp
import Derived.Test.YtepfpbcjklaenaaKG08
import Derived.Test.YtepfpbcjklaenaaKG03
namespace Go.Proofs.Ytepfpbcjklaenaa
set_option linter.unusedSimpArgs false
set_option linter.unusedVariables false
set_option maxRecDepth 100000
open Go.RowKit
set_option maxHeartbeats 1000000 in
theorem reckon1 {w : World} {R bm gk gc gs gr gv who n cv cr cs : Nat} {late : Int} {vc vk vm vt : Value} {nc cc : Nat} {pc st : Int} (r' a' b' : Nat) (nn va vb v0 : Int) (h : Rn w R bm gk gc gs gr gv who n cv cr cs late vc vk vm vt nc cc pc st) (hr : r' < 8) (ha : a' < 8) (hb : b' < 8) (lr : w.cell? ⟨gr, r', none⟩ = some (.int .i64 v0)) (la : w.cell? ⟨gr, a', none⟩ = some (.int .i64 va)) (lb : w.cell? ⟨gr, b', none⟩ = some (.int .i64 vb)) (fr : ∀ j, w.frozen? ⟨gr, j, none⟩ = false) :
  Calls Try.prog 79 #[.pointer (some ⟨R, 0, none⟩), .agg #[.int .i64 1, .int .i64 r', .int .i64 a', .int .i64 b', .int .i64 nn]] w fun e w' => e = .returned (.tuple #[]) ∧ Below w.heap.size (w.setCell ⟨gr, r', none⟩ (.int .i64 (reckV 1 nn va vb))) w' := by
 obtain ⟨r0, r1, r2, r3, r4, m0, m1, m2, m3, fm, ec, c0, k0, k1, k3, fk, wc, zR, zm, zk, zc, zr⟩ := h
 have br0 : (0 : Int) ≤ (r' : Int) := by omega
 have br1 : (r' : Int) < 8 := by omega
 have ba0 : (0 : Int) ≤ (a' : Int) := by omega
 have ba1 : (a' : Int) < 8 := by omega
 have bb0 : (0 : Int) ≤ (b' : Int) := by omega
 have bb1 : (b' : Int) < 8 := by omega
 go_enter Try.func79, Try.ntmps79
 go_wp2
 go_end0
 exact ⟨rfl, by unfold reckV; rw [if_pos rfl]; exact (Below.refl _ _).alloc (by simp) _⟩
set_option maxHeartbeats 1000000 in
theorem reckon2 {w : World} {R bm gk gc gs gr gv who n cv cr cs : Nat} {late : Int} {vc vk vm vt : Value} {nc cc : Nat} {pc st : Int} (r' a' b' : Nat) (nn va vb v0 : Int) (h : Rn w R bm gk gc gs gr gv who n cv cr cs late vc vk vm vt nc cc pc st) (hr : r' < 8) (ha : a' < 8) (hb : b' < 8) (lr : w.cell? ⟨gr, r', none⟩ = some (.int .i64 v0)) (la : w.cell? ⟨gr, a', none⟩ = some (.int .i64 va)) (lb : w.cell? ⟨gr, b', none⟩ = some (.int .i64 vb)) (fr : ∀ j, w.frozen? ⟨gr, j, none⟩ = false) :
  Calls Try.prog 79 #[.pointer (some ⟨R, 0, none⟩), .agg #[.int .i64 2, .int .i64 r', .int .i64 a', .int .i64 b', .int .i64 nn]] w fun e w' => e = .returned (.tuple #[]) ∧ Below w.heap.size (w.setCell ⟨gr, r', none⟩ (.int .i64 (reckV 2 nn va vb))) w' := by
 obtain ⟨r0, r1, r2, r3, r4, m0, m1, m2, m3, fm, ec, c0, k0, k1, k3, fk, wc, zR, zm, zk, zc, zr⟩ := h
 have br0 : (0 : Int) ≤ (r' : Int) := by omega
 have br1 : (r' : Int) < 8 := by omega
 have ba0 : (0 : Int) ≤ (a' : Int) := by omega
 have ba1 : (a' : Int) < 8 := by omega
 have bb0 : (0 : Int) ≤ (b' : Int) := by omega
 have bb1 : (b' : Int) < 8 := by omega
 obtain ⟨q, hq⟩ : ∃ q, IntKind.i64.wrap (va + vb) = q := ⟨_, rfl⟩
 go_enter Try.func79, Try.ntmps79
 go_wp2_with fail
 obtain ⟨V, hV⟩ : ∃ V, w.alloc (.cells #[.int .i64 2, .int .i64 r', .int .i64 a', .int .i64 b', .int .i64 nn] 25) = V := ⟨_, rfl⟩
 have kv : Below w.heap.size w V := by subst hV; exact (Below.refl _ _).alloc (Nat.le_refl _) _
 have zv : w.heap.size < V.heap.size := by subst hV; simp
 have t1 : V.cell? ⟨w.heap.size, 1, none⟩ = some (.int .i64 r') := by subst hV; simp [go_sem]
 have t2 : V.cell? ⟨w.heap.size, 2, none⟩ = some (.int .i64 a') := by subst hV; simp [go_sem]
 have t3 : V.cell? ⟨w.heap.size, 3, none⟩ = some (.int .i64 b') := by subst hV; simp [go_sem]
 rw [hV]
 have KV := hidM1 kv
 have hne := ext_ne V
 have u1 := Ext.fit t1 zv
 have u2 := Ext.fit t2 zv
 have u3 := Ext.fit t3 zv
 have ua := Ext.fit ((kv.cell (p := ⟨gr, a', none⟩) zr).trans la) (by omega)
 have ub := Ext.fit ((kv.cell (p := ⟨gr, b', none⟩) zr).trans lb) (by omega)
 refine regionLast V _ rfl (by kernel_rfl) (by kernel_rfl) (by kernel_rfl) rfl rfl ?_
 dsimp only [List.dropLast, List.cons_append, List.nil_append, idle]
 repeat (go_big_quiet_step (fail))
 refine wpQuiet_nil ?_
 rintro w3 ⟨X3, rfl⟩
 obtain ⟨V2, hV2⟩ : ∃ V2, X3.w = V2 := ⟨_, rfl⟩
 have hb2 := X3.b
 rw [hV2] at hb2 ⊢
 have K2 : Hid (Below w.heap.size w V2) := KV.out.trans (hb2.mono (by omega))
 have lr2 := (K2.out.cell (p := ⟨gr, r', none⟩) zr).trans lr
 have fr2 : ∀ j, V2.frozen? ⟨gr, j, none⟩ = false := fun j => (K2.out.frozen (p := ⟨gr, j, none⟩) zr).trans (fr j)
 clear hne u1 u2 u3 ua ub hV2 hb2 X3 kv hV t1 t2 t3
 go_wp2
 go_end0
 exact ⟨rfl, by unfold reckV wI; rw [if_neg (by decide), if_pos rfl, hq]; exact below_pair K2.out⟩
set_option maxHeartbeats 1000000 in
theorem reckon3 {w : World} {R bm gk gc gs gr gv who n cv cr cs : Nat} {late : Int} {vc vk vm vt : Value} {nc cc : Nat} {pc st : Int} (r' a' b' : Nat) (nn va vb v0 : Int) (h : Rn w R bm gk gc gs gr gv who n cv cr cs late vc vk vm vt nc cc pc st) (hr : r' < 8) (ha : a' < 8) (hb : b' < 8) (lr : w.cell? ⟨gr, r', none⟩ = some (.int .i64 v0)) (la : w.cell? ⟨gr, a', none⟩ = some (.int .i64 va)) (lb : w.cell? ⟨gr, b', none⟩ = some (.int .i64 vb)) (fr : ∀ j, w.frozen? ⟨gr, j, none⟩ = false) :
  Calls Try.prog 79 #[.pointer (some ⟨R, 0, none⟩), .agg #[.int .i64 3, .int .i64 r', .int .i64 a', .int .i64 b', .int .i64 nn]] w fun e w' => e = .returned (.tuple #[]) ∧ Below w.heap.size (w.setCell ⟨gr, r', none⟩ (.int .i64 (reckV 3 nn va vb))) w' := by
 obtain ⟨r0, r1, r2, r3, r4, m0, m1, m2, m3, fm, ec, c0, k0, k1, k3, fk, wc, zR, zm, zk, zc, zr⟩ := h
 have br0 : (0 : Int) ≤ (r' : Int) := by omega
 have br1 : (r' : Int) < 8 := by omega
 have ba0 : (0 : Int) ≤ (a' : Int) := by omega
 have ba1 : (a' : Int) < 8 := by omega
 have bb0 : (0 : Int) ≤ (b' : Int) := by omega
 have bb1 : (b' : Int) < 8 := by omega
 obtain ⟨q, hq⟩ : ∃ q, IntKind.i64.wrap (va - vb) = q := ⟨_, rfl⟩
 go_enter Try.func79, Try.ntmps79
 go_wp2_with fail
 obtain ⟨V, hV⟩ : ∃ V, w.alloc (.cells #[.int .i64 3, .int .i64 r', .int .i64 a', .int .i64 b', .int .i64 nn] 25) = V := ⟨_, rfl⟩
 have kv : Below w.heap.size w V := by subst hV; exact (Below.refl _ _).alloc (Nat.le_refl _) _
 have zv : w.heap.size < V.heap.size := by subst hV; simp
 have t1 : V.cell? ⟨w.heap.size, 1, none⟩ = some (.int .i64 r') := by subst hV; simp [go_sem]
 have t2 : V.cell? ⟨w.heap.size, 2, none⟩ = some (.int .i64 a') := by subst hV; simp [go_sem]
 have t3 : V.cell? ⟨w.heap.size, 3, none⟩ = some (.int .i64 b') := by subst hV; simp [go_sem]
 rw [hV]
 have KV := hidM1 kv
 have hne := ext_ne V
 have u1 := Ext.fit t1 zv
 have u2 := Ext.fit t2 zv
 have u3 := Ext.fit t3 zv
 have ua := Ext.fit ((kv.cell (p := ⟨gr, a', none⟩) zr).trans la) (by omega)
 have ub := Ext.fit ((kv.cell (p := ⟨gr, b', none⟩) zr).trans lb) (by omega)
 refine regionLast V _ rfl (by kernel_rfl) (by kernel_rfl) (by kernel_rfl) rfl rfl ?_
 dsimp only [List.dropLast, List.cons_append, List.nil_append, idle]
 repeat (go_big_quiet_step (fail))
 refine wpQuiet_nil ?_
 rintro w3 ⟨X3, rfl⟩
 obtain ⟨V2, hV2⟩ : ∃ V2, X3.w = V2 := ⟨_, rfl⟩
 have hb2 := X3.b
 rw [hV2] at hb2 ⊢
 have K2 : Hid (Below w.heap.size w V2) := KV.out.trans (hb2.mono (by omega))
 have lr2 := (K2.out.cell (p := ⟨gr, r', none⟩) zr).trans lr
 have fr2 : ∀ j, V2.frozen? ⟨gr, j, none⟩ = false := fun j => (K2.out.frozen (p := ⟨gr, j, none⟩) zr).trans (fr j)
 clear hne u1 u2 u3 ua ub hV2 hb2 X3 kv hV t1 t2 t3
 go_wp2
 go_end0
 exact ⟨rfl, by unfold reckV wI; rw [if_neg (by decide), if_neg (by decide), if_pos rfl, hq]; exact below_pair K2.out⟩
set_option maxHeartbeats 1000000 in
theorem reckon4 {w : World} {R bm gk gc gs gr gv who n cv cr cs : Nat} {late : Int} {vc vk vm vt : Value} {nc cc : Nat} {pc st : Int} (r' a' b' : Nat) (nn va vb v0 : Int) (h : Rn w R bm gk gc gs gr gv who n cv cr cs late vc vk vm vt nc cc pc st) (hr : r' < 8) (ha : a' < 8) (hb : b' < 8) (lr : w.cell? ⟨gr, r', none⟩ = some (.int .i64 v0)) (la : w.cell? ⟨gr, a', none⟩ = some (.int .i64 va)) (lb : w.cell? ⟨gr, b', none⟩ = some (.int .i64 vb)) (fr : ∀ j, w.frozen? ⟨gr, j, none⟩ = false) :
  Calls Try.prog 79 #[.pointer (some ⟨R, 0, none⟩), .agg #[.int .i64 4, .int .i64 r', .int .i64 a', .int .i64 b', .int .i64 nn]] w fun e w' => e = .returned (.tuple #[]) ∧ Below w.heap.size (w.setCell ⟨gr, r', none⟩ (.int .i64 (reckV 4 nn va vb))) w' := by
 obtain ⟨r0, r1, r2, r3, r4, m0, m1, m2, m3, fm, ec, c0, k0, k1, k3, fk, wc, zR, zm, zk, zc, zr⟩ := h
 have br0 : (0 : Int) ≤ (r' : Int) := by omega
 have br1 : (r' : Int) < 8 := by omega
 have ba0 : (0 : Int) ≤ (a' : Int) := by omega
 have ba1 : (a' : Int) < 8 := by omega
 have bb0 : (0 : Int) ≤ (b' : Int) := by omega
 have bb1 : (b' : Int) < 8 := by omega
 go_enter Try.func79, Try.ntmps79
 go_wp2_with fail
 obtain ⟨V, hV⟩ : ∃ V, w.alloc (.cells #[.int .i64 4, .int .i64 r', .int .i64 a', .int .i64 b', .int .i64 nn] 25) = V := ⟨_, rfl⟩
 have kv : Below w.heap.size w V := by subst hV; exact (Below.refl _ _).alloc (Nat.le_refl _) _
 have zv : w.heap.size < V.heap.size := by subst hV; simp
 have t1 : V.cell? ⟨w.heap.size, 1, none⟩ = some (.int .i64 r') := by subst hV; simp [go_sem]
 have t2 : V.cell? ⟨w.heap.size, 2, none⟩ = some (.int .i64 a') := by subst hV; simp [go_sem]
 have t3 : V.cell? ⟨w.heap.size, 3, none⟩ = some (.int .i64 b') := by subst hV; simp [go_sem]
 rw [hV]
 have KV := hidM1 kv
 have hne := ext_ne V
 have u1 := Ext.fit t1 zv
 have u2 := Ext.fit t2 zv
 have u3 := Ext.fit t3 zv
 have ua := Ext.fit ((kv.cell (p := ⟨gr, a', none⟩) zr).trans la) (by omega)
 have ub := Ext.fit ((kv.cell (p := ⟨gr, b', none⟩) zr).trans lb) (by omega)
 refine regionLast V _ rfl (by kernel_rfl) (by kernel_rfl) (by kernel_rfl) rfl rfl ?_
 dsimp only [List.dropLast, List.cons_append, List.nil_append, idle]
 repeat (go_big_quiet_step ((rename_i X; go_at_call 90; refine (lessOf_any _ _ _).mono ?_; rintro e w3 ⟨rfl, hw3⟩; exact ⟨rfl, by rw [hw3]; exact X.on (Below.refl _ _)⟩)))
 refine wpQuiet_nil ?_
 rintro w3 ⟨X3, rfl⟩
 obtain ⟨V2, hV2⟩ : ∃ V2, X3.w = V2 := ⟨_, rfl⟩
 have hb2 := X3.b
 rw [hV2] at hb2 ⊢
 have K2 : Hid (Below w.heap.size w V2) := KV.out.trans (hb2.mono (by omega))
 have lr2 := (K2.out.cell (p := ⟨gr, r', none⟩) zr).trans lr
 have fr2 : ∀ j, V2.frozen? ⟨gr, j, none⟩ = false := fun j => (K2.out.frozen (p := ⟨gr, j, none⟩) zr).trans (fr j)
 clear hne u1 u2 u3 ua ub hV2 hb2 X3 kv hV t1 t2 t3
 go_wp2
 go_end0
 exact ⟨rfl, by unfold reckV; rw [if_neg (by decide), if_neg (by decide), if_neg (by decide)]; exact below_pair K2.out⟩
end Go.Proofs.Ytepfpbcjklaenaa
