/- Small facts on boxed structs, method tables and comparisons of the program; no condition. -/
import Derived.Test.YteddmadbegpecaaGreatChecked
import Derived.WalkKit
import Derived.KernelRfl
import Derived.WalkSpells
import Derived.WalkLawsBesides
import Derived.Test.YteddmadbegpecaaGreatPlain
import Derived.Test.YteddmadbegpecaaGreatLeaves
namespace Go.Proofs.YteddmadbegpecaaGreat
set_option linter.unusedSimpArgs false
set_option linter.unusedVariables false
set_option maxRecDepth 100000
open Go.RowKit

theorem neqN (u : TypeId) (v : Value) (w : World) : (binOp .neq 101 (.iface u v) .nilIface).run Tryz.prog w = .ok (.bool true) w := by kernel_rfl
theorem neqNil (w : World) : (binOp .neq 101 .nilIface .nilIface).run Tryz.prog w = .ok (.bool false) w := by kernel_rfl

theorem mth_1 (v : Value) (w : World) : (method 271 123 v "loop.example/g00238/impl.ins").run Tryz.prog w = .ok (161, v) w := by kernel_rfl
theorem mth_2 (v : Value) (w : World) : (method 271 125 v "loop.example/g00238/impl.ins").run Tryz.prog w = .ok (162, v) w := by kernel_rfl
theorem mth_3 (v : Value) (w : World) : (method 271 126 v "loop.example/g00238/impl.ins").run Tryz.prog w = .ok (163, v) w := by kernel_rfl
theorem mth_4 (v : Value) (w : World) : (method 271 127 v "loop.example/g00238/impl.ins").run Tryz.prog w = .ok (164, v) w := by kernel_rfl
theorem mth_5 (v : Value) (w : World) : (method 271 129 v "loop.example/g00238/impl.ins").run Tryz.prog w = .ok (165, v) w := by kernel_rfl
theorem mth_6 (v : Value) (w : World) : (method 271 131 v "loop.example/g00238/impl.ins").run Tryz.prog w = .ok (166, v) w := by kernel_rfl
theorem mth_7 (v : Value) (w : World) : (method 271 133 v "loop.example/g00238/impl.ins").run Tryz.prog w = .ok (167, v) w := by kernel_rfl
theorem mth_8 (v : Value) (w : World) : (method 271 134 v "loop.example/g00238/impl.ins").run Tryz.prog w = .ok (168, v) w := by kernel_rfl
theorem mth_9 (v : Value) (w : World) : (method 271 136 v "loop.example/g00238/impl.ins").run Tryz.prog w = .ok (169, v) w := by kernel_rfl
theorem mth_10 (v : Value) (w : World) : (method 271 138 v "loop.example/g00238/impl.ins").run Tryz.prog w = .ok (170, v) w := by kernel_rfl
theorem mth_11 (v : Value) (w : World) : (method 271 139 v "loop.example/g00238/impl.ins").run Tryz.prog w = .ok (171, v) w := by kernel_rfl
theorem mth_12 (v : Value) (w : World) : (method 271 140 v "loop.example/g00238/impl.ins").run Tryz.prog w = .ok (172, v) w := by kernel_rfl
theorem mth_13 (v : Value) (w : World) : (method 271 142 v "loop.example/g00238/impl.ins").run Tryz.prog w = .ok (173, v) w := by kernel_rfl

theorem boxed5 {w w1 : World} {v0 v1 v2 v3 v4 : Value} {T : TypeId} (hb : Below (w.alloc (.cells #[v0, v1, v2, v3, v4] T)).heap.size (w.alloc (.cells #[v0, v1, v2, v3, v4] T)) w1) :
    w1.cell? ⟨w.heap.size, 0, none⟩ = some v0 ∧ w1.cell? ⟨w.heap.size, 1, none⟩ = some v1 ∧ w1.cell? ⟨w.heap.size, 2, none⟩ = some v2 ∧ w1.cell? ⟨w.heap.size, 3, none⟩ = some v3 ∧ w1.cell? ⟨w.heap.size, 4, none⟩ = some v4 ∧ w.heap.size < w1.heap.size := by
  refine ⟨?_, ?_, ?_, ?_, ?_, ?_⟩
  iterate 5 (· rw [hb.cell (by simp)]; simp [go_sem])
  · have := hb.size; simp at this; omega

theorem carry5 {w1 w2 : World} {B : Nat} {v0 v1 v2 v3 v4 : Value} (hb : Below w1.drew.heap.size w1.drew w2) (hz : B < w1.heap.size) (c0 : w1.cell? ⟨B, 0, none⟩ = some v0) (c1 : w1.cell? ⟨B, 1, none⟩ = some v1) (c2 : w1.cell? ⟨B, 2, none⟩ = some v2) (c3 : w1.cell? ⟨B, 3, none⟩ = some v3) (c4 : w1.cell? ⟨B, 4, none⟩ = some v4) :
    w2.cell? ⟨B, 0, none⟩ = some v0 ∧ w2.cell? ⟨B, 1, none⟩ = some v1 ∧ w2.cell? ⟨B, 2, none⟩ = some v2 ∧ w2.cell? ⟨B, 3, none⟩ = some v3 ∧ w2.cell? ⟨B, 4, none⟩ = some v4 ∧ w1.heap.size ≤ w2.heap.size :=
  ⟨(hb.cell hz).trans c0, (hb.cell hz).trans c1, (hb.cell hz).trans c2, (hb.cell hz).trans c3, (hb.cell hz).trans c4, hb.size⟩

theorem carryK {w1 w2 : World} {B K : Nat} {v0 v1 v2 v3 v4 : Value} (hb : Below K w1 w2) (hz : B < K) (c0 : w1.cell? ⟨B, 0, none⟩ = some v0) (c1 : w1.cell? ⟨B, 1, none⟩ = some v1) (c2 : w1.cell? ⟨B, 2, none⟩ = some v2) (c3 : w1.cell? ⟨B, 3, none⟩ = some v3) (c4 : w1.cell? ⟨B, 4, none⟩ = some v4) :
    w2.cell? ⟨B, 0, none⟩ = some v0 ∧ w2.cell? ⟨B, 1, none⟩ = some v1 ∧ w2.cell? ⟨B, 2, none⟩ = some v2 ∧ w2.cell? ⟨B, 3, none⟩ = some v3 ∧ w2.cell? ⟨B, 4, none⟩ = some v4 ∧ w1.heap.size ≤ w2.heap.size :=
  ⟨(hb.cell hz).trans c0, (hb.cell hz).trans c1, (hb.cell hz).trans c2, (hb.cell hz).trans c3, (hb.cell hz).trans c4, hb.size⟩

theorem areChans_is (c : Int) (v : Bool) (w : World) (h : Plain.chansB c = v) : Calls Tryz.prog 65 #[.int .i64 c] w fun e w' => e = .returned (.bool v) ∧ w' = w := by
  subst h
  exact areChans_any c w

theorem eqNo (o r a b n o' r' a' b' n' : Int) (w : World) (h : ¬ (o = o' ∧ r = r' ∧ a = a' ∧ b = b' ∧ n = n')) : (binOp .eql 46 (.agg #[.int .i64 o, .int .i64 r, .int .i64 a, .int .i64 b, .int .i64 n]) (.agg #[.int .i64 o', .int .i64 r', .int .i64 a', .int .i64 b', .int .i64 n'])).run Tryz.prog w = .ok (.bool false) w := by
  have e : (binOp .eql 46 (.agg #[.int .i64 o, .int .i64 r, .int .i64 a, .int .i64 b, .int .i64 n]) (.agg #[.int .i64 o', .int .i64 r', .int .i64 a', .int .i64 b', .int .i64 n'])).run Tryz.prog w = .ok (.bool (decide (o = o' ∧ r = r' ∧ a = a' ∧ b = b' ∧ n = n'))) w := by
    simp [go_sem]
    by_cases h1 : o = o' <;> by_cases h2 : r = r' <;> by_cases h3 : a = a' <;> by_cases h4 : b = b' <;> by_cases h5 : n = n' <;> simp [h1, h2, h3, h4, h5]
  rw [e, decide_eq_false h]

end Go.Proofs.YteddmadbegpecaaGreat
