/- The cell that a runner of the program goes for. No condition. A runner of the program prints. No condition. -/
import Derived.Test.YtepfpbcjklaenaaKG00
import Derived.Test.YtepfpbcjklaenaaKG06
import Derived.Test.YtepfpbcjklaenaaKG08
import Derived.Test.YtepfpbcjklaenaaKKApp
import Derived.Test.YtepfpbcjklaenaaKG01
import Derived.Test.YtepfpbcjklaenaaKC7Leaf
import Derived.Test.YtepfpbcjklaenaaKKIm2
import Derived.Test.YtepfpbcjklaenaaKG07
namespace Go.Proofs.Ytepfpbcjklaenaa
section
set_option linter.unusedSimpArgs false
set_option linter.unusedVariables false
set_option maxRecDepth 100000
open Go.RowKit
theorem cellOf_n {w : World} {R : Nat} (o r a b n : Int) (hl : Plain.memB o = false ∨ a = -1) :
  Calls Try.prog 80 #[.pointer (some ⟨R, 0, none⟩), .agg #[.int .i64 o, .int .i64 r, .int .i64 a, .int .i64 b, .int .i64 n]] w fun e w' => e = .returned (.int .i64 n) ∧ Below w.heap.size w w' := by
 by_cases hm : Plain.memB o = false
 ·have HM := hidM1 hm
  clear hl hm
  go_enter Try.func80, Try.ntmps80
  go_wp2_with (go_at_call 88; refine (mayLackA_any _ _).mono ?_; rintro e w' ⟨rfl, hw'⟩; rw [hw', HM.out]; clear hw' w')
  go_ret
  exact ⟨rfl, (Below.refl _ _).alloc (Nat.le_refl _) _⟩
 ·have ha : a = -1 := hl.resolve_left hm
  subst ha
  have HM : Hid (Plain.memB o = true) := by show _ = _; cases h : Plain.memB o; exact absurd h hm; rfl
  clear hl hm
  go_enter Try.func80, Try.ntmps80
  go_wp2_with (go_at_call 88; refine (mayLackA_any _ _).mono ?_; rintro e w' ⟨rfl, hw'⟩; rw [hw', HM.out]; clear hw' w')
  go_ret
  exact ⟨rfl, (Below.refl _ _).alloc (Nat.le_refl _) _⟩
theorem cellOf_r {w : World} {R bm gk gc gs gr gv who nn cv cr cs : Nat} {late : Int} {vc vk vm vt : Value} {nc cc : Nat} {pc st : Int} (o r b n va : Int) (a' : Nat) (h : Rn w R bm gk gc gs gr gv who nn cv cr cs late vc vk vm vt nc cc pc st) (ha : a' < 8) (la : w.cell? ⟨gr, a', none⟩ = some (.int .i64 va)) (hm : Plain.memB o = true) :
  Calls Try.prog 80 #[.pointer (some ⟨R, 0, none⟩), .agg #[.int .i64 o, .int .i64 r, .int .i64 a', .int .i64 b, .int .i64 n]] w fun e w' => e = .returned (.int .i64 (wI (n + va))) ∧ Below w.heap.size w w' := by
 obtain ⟨r0, r1, r2, r3, r4, m0, m1, m2, m3, fm, ec, c0, k0, k1, k3, fk, wc, zR, zm, zk, zc, zr⟩ := h
 have ba0 : (0 : Int) ≤ (a' : Int) := by omega
 have ba1 : (a' : Int) < 8 := by omega
 have ba2 : ¬ (a' : Int) = -1 := by omega
 have HM := hidM1 hm
 clear hm
 obtain ⟨q, hq⟩ : ∃ q, IntKind.i64.wrap (n + va) = q := ⟨_, rfl⟩
 go_enter Try.func80, Try.ntmps80
 go_wp2_with (go_at_call 88; refine (mayLackA_any _ _).mono ?_; rintro e w' ⟨rfl, hw'⟩; rw [hw', HM.out]; clear hw' w')
 obtain ⟨V, hV⟩ : ∃ V, w.alloc (.cells #[.int .i64 o, .int .i64 r, .int .i64 a', .int .i64 b, .int .i64 n] 25) = V := ⟨_, rfl⟩
 have kv : Below w.heap.size w V := by subst hV; exact (Below.refl _ _).alloc (Nat.le_refl _) _
 have zv : w.heap.size < V.heap.size := by subst hV; simp
 have t2 : V.cell? ⟨w.heap.size, 2, none⟩ = some (.int .i64 a') := by subst hV; simp [go_sem]
 have t4 : V.cell? ⟨w.heap.size, 4, none⟩ = some (.int .i64 n) := by subst hV; simp [go_sem]
 rw [hV]
 have KV := hidM1 kv
 have hne := ext_ne V
 have u2 := Ext.fit t2 zv
 have u4 := Ext.fit t4 zv
 have u0 := Ext.fit ((kv.cell (p := ⟨R, 1, none⟩) zR).trans r1) (by omega)
 have u1 := Ext.fit ((kv.cell (p := ⟨gk, who * 4 + 1, none⟩) zk).trans k1) (by omega)
 have ua := Ext.fit ((kv.cell (p := ⟨gr, a', none⟩) zr).trans la) (by omega)
 refine regionExt V (by kernel_rfl) (by kernel_rfl) ?_
 repeat (go_big_quiet_step (fail))
 refine wpQuiet_nil ?_
 rintro w3 ⟨X3, rfl⟩
 have K2 := hidM1 (KV.out.trans (X3.b.mono (Nat.le_of_lt zv)))
 clear hne u0 u1 u2 u4 ua t2 t4 kv hV
 go_wp2
 go_ret
 exact ⟨by show Ending.returned (Value.int .i64 q) = _; unfold wI; rw [hq], K2.out⟩
end
section
set_option linter.unusedSimpArgs false
set_option linter.unusedVariables false
set_option maxRecDepth 100000
open Go.RowKit
theorem print_no {w : World} {R bm gk gc gs gr gv who nn cv cr cs : Nat} {late : Int} {vc vk vm : Value} {sT : Option Addr} {nT cT nc cc : Nat} {pc st : Int} (v : Int) (h : Rn w R bm gk gc gs gr gv who nn cv cr cs late vc vk vm (.slice sT nT cT) nc cc pc st) (hf : 4000 ≤ nT) :
  Calls Try.prog 83 #[.pointer (some ⟨R, 0, none⟩), .int .i64 v] w fun e w' => e = .returned (.bool false) ∧ w' = w := by
 obtain ⟨r0, r1, r2, r3, r4, m0, m1, m2, m3, fm, ec, c0, k0, k1, k3, fk, wc, zR, zm, zk, zc, zr⟩ := h
 have hfi : (4000 : Int) ≤ (nT : Int) := by omega
 go_enter Try.func83, Try.ntmps83
 go_wp2
 go_ret
 exact ⟨rfl, rfl⟩
set_option maxHeartbeats 1000000 in
theorem print_yes {w : World} {B R bm gk gc gs gr gv who nn cv cr cs : Nat} {late : Int} {vc vk vm : Value} {sT : Option Addr} {cT nc cc : Nat} {pc st : Int} {tr : List ND} (v : Int) (h : Rn w R bm gk gc gs gr gv who nn cv cr cs late vc vk vm (.slice sT tr.length cT) nc cc pc st) (hT : OwnD w B (.slice sT tr.length cT) tr) (hf : tr.length < 4000) (hB : B ≤ w.heap.size) (nR : (Value.slice sT tr.length cT).ownBlock ≠ some R) (nM : (Value.slice sT tr.length cT).ownBlock ≠ some bm) :
  Calls Try.prog 83 #[.pointer (some ⟨R, 0, none⟩), .int .i64 v] w fun e w' => e = .returned (.bool true) ∧ ∃ g6 c6 w6, w6.ownsRow B 78 2 (.slice (some ⟨g6, 0, none⟩) (tr.length + 1) c6) (tr.length + 1) (flatN tr ++ [.int .i64 who, .int .i64 v]) ∧ (w.drew.alloc (.cells #[.int .i64 who, .int .i64 v] 78)).grownBy w6 (Value.slice sT tr.length cT).ownBlock ∧ ((Value.slice sT tr.length cT).ownBlock = some g6 ∨ (w.drew.alloc (.cells #[.int .i64 who, .int .i64 v] 78)).heap.size ≤ g6) ∧ w' = w6.setCell ⟨bm, 3, none⟩ (.slice (some ⟨g6, 0, none⟩) (tr.length + 1) c6) := by
 obtain ⟨r0, r1, r2, r3, r4, m0, m1, m2, m3, fm, ec, c0, k0, k1, k3, fk, wc, zR, zm, zk, zc, zr⟩ := h
 have hfi : ¬ (4000 : Int) ≤ (tr.length : Int) := by omega
 have hfj : (tr.length : Int) < 4000 := by omega
 have HT := hidM1 hT
 have OT : Hid (OwnD (w.drew.alloc (.cells #[.int .i64 who, .int .i64 v] 78)) B (.slice sT tr.length cT) tr) := ownKeep' HT.out (fun q hq => by have := (World.ownsRow.lt HT.out _ hq).2; exact Below.heap_alloc w.drew _ _ this)
 go_enter Try.func83, Try.ntmps83
 go_wp2_with fail
 have hne := extN_ne w (Value.slice sT tr.length cT).ownBlock
 have u0 := ExtN.fit r2 zR nR
 have u1 := ExtN.fit m3 zm nM
 have u2 := ExtN.fit r3 zR nR
 refine regionMix w (CN w (Value.slice sT tr.length cT).ownBlock) 18 20 (by kernel_rfl) (by kernel_rfl) (fun _ _ d _ _ h => by cases d <;> exact h) (CN.drew _ _) ?_
 unfold CN
 dsimp only [List.take, List.drop]
 repeat (go_big_quiet_step (fail))
 refine wpQuiet_nil ?_
 clear hne u0 u1 u2
 unfold wpListC
 go_wp2
 refine And.intro (fun _ hc => CN.below hc ((Below.refl _ _).alloc (Nat.le_refl _) _)) ?_
 unfold wpListC
 refine app_note rfl _ _ rfl (w.drew.alloc (.cells #[.int .i64 who, .int .i64 v] 78)) B (.slice sT tr.length cT) tr.length (flatN tr) rfl OT.out w.heap.size (.int .i64 who) (.int .i64 v) rfl rfl rfl (by simp [go_sem]) (by simp [go_sem]) (by omega) (by simp; show B ≤ w.heap.size + 1; omega) ?_
 intro g6 c6 w6 ho6 hg6 hn6 hl6
 refine And.intro (fun _ hc => CN.grown hc hg6) ?_
 refine listC_late _ _ _ _ (by decide) ?_
 have kb : w6.heap[bm]? = w.heap[bm]? := (hg6.block bm (by simp; show bm < w.heap.size + 1; omega) (fun e => nM e.symm)).trans (Below.heap_alloc w.drew _ _ zm)
 have c3 := (World.cell?_of_block (w := w) (a := ⟨bm, 3, none⟩) kb).trans m3
 have f3 : ∀ j, w6.frozen? ⟨bm, j, none⟩ = false := fun j => (World.frozen?_of_block (w := w) (a := ⟨bm, j, none⟩) kb).trans (fm j)
 have HO := hidM1 ho6
 have HG := hidM1 hg6
 have HNN := hidM1 hn6
 clear ho6 hg6 hn6 kb
 go_wp2
 go_ret
 exact ⟨rfl, g6, c6, w6, HO.out, HG.out, HNN.out, rfl⟩
end
end Go.Proofs.Ytepfpbcjklaenaa
