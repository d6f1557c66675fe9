/- Small facts on boxed structs, method tables and comparisons of the program; no condition. -/
import Derived.Test.YtplncjlcejaabaaGreatChecked
import Derived.WalkKit
import Derived.KernelRfl
import Derived.WalkSpells
import Derived.WalkLawsBesides
import Derived.Test.YtplncjlcejaabaaGreatJPlain
import Derived.Test.YtplncjlcejaabaaGreatJLeaves
namespace Go.Proofs.YtplncjlcejaabaaGreat
set_option linter.unusedSimpArgs false
set_option linter.unusedVariables false
set_option maxRecDepth 100000
open Go.RowKit
theorem neqN (u : TypeId) (v : Value) (w : World) : (binOp .neq 175 (.iface u v) .nilIface).run Tryz.prog w = .ok (.bool true) w := by kernel_rfl
theorem neqNil (w : World) : (binOp .neq 175 .nilIface .nilIface).run Tryz.prog w = .ok (.bool false) w := by kernel_rfl
theorem mth_1 (v : Value) (w : World) : (method 329 188 v "loop.example/g00238/impl.ins").run Tryz.prog w = .ok (152, v) w := by kernel_rfl
theorem mth_2 (v : Value) (w : World) : (method 329 190 v "loop.example/g00238/impl.ins").run Tryz.prog w = .ok (153, v) w := by kernel_rfl
theorem mth_3 (v : Value) (w : World) : (method 329 191 v "loop.example/g00238/impl.ins").run Tryz.prog w = .ok (154, v) w := by kernel_rfl
theorem mth_4 (v : Value) (w : World) : (method 329 192 v "loop.example/g00238/impl.ins").run Tryz.prog w = .ok (155, v) w := by kernel_rfl
theorem mth_5 (v : Value) (w : World) : (method 329 194 v "loop.example/g00238/impl.ins").run Tryz.prog w = .ok (156, v) w := by kernel_rfl
theorem mth_6 (v : Value) (w : World) : (method 329 196 v "loop.example/g00238/impl.ins").run Tryz.prog w = .ok (157, v) w := by kernel_rfl
theorem mth_7 (v : Value) (w : World) : (method 329 198 v "loop.example/g00238/impl.ins").run Tryz.prog w = .ok (158, v) w := by kernel_rfl
theorem mth_8 (v : Value) (w : World) : (method 329 199 v "loop.example/g00238/impl.ins").run Tryz.prog w = .ok (159, v) w := by kernel_rfl
theorem mth_9 (v : Value) (w : World) : (method 329 201 v "loop.example/g00238/impl.ins").run Tryz.prog w = .ok (160, v) w := by kernel_rfl
theorem mth_10 (v : Value) (w : World) : (method 329 203 v "loop.example/g00238/impl.ins").run Tryz.prog w = .ok (161, v) w := by kernel_rfl
theorem mth_11 (v : Value) (w : World) : (method 329 204 v "loop.example/g00238/impl.ins").run Tryz.prog w = .ok (162, v) w := by kernel_rfl
theorem mth_12 (v : Value) (w : World) : (method 329 205 v "loop.example/g00238/impl.ins").run Tryz.prog w = .ok (163, v) w := by kernel_rfl
theorem mth_13 (v : Value) (w : World) : (method 329 207 v "loop.example/g00238/impl.ins").run Tryz.prog w = .ok (164, v) w := by kernel_rfl
theorem boxed5 {w w1 : World} {v0 v1 v2 v3 v4 : Value} {T : TypeId} (hb : Below (w.alloc (.cells #[v0, v1, v2, v3, v4] T)).heap.size (w.alloc (.cells #[v0, v1, v2, v3, v4] T)) w1) :
  w1.cell? ⟨w.heap.size, 0, none⟩ = some v0 ∧ w1.cell? ⟨w.heap.size, 1, none⟩ = some v1 ∧ w1.cell? ⟨w.heap.size, 2, none⟩ = some v2 ∧ w1.cell? ⟨w.heap.size, 3, none⟩ = some v3 ∧ w1.cell? ⟨w.heap.size, 4, none⟩ = some v4 ∧ w.heap.size < w1.heap.size := by
 refine ⟨?_, ?_, ?_, ?_, ?_, ?_⟩
 iterate 5 (· rw [hb.cell (by simp)]; simp [go_sem])
 ·have := hb.size; simp at this; omega
theorem carry5 {w1 w2 : World} {B : Nat} {v0 v1 v2 v3 v4 : Value} (hb : Below w1.drew.heap.size w1.drew w2) (hz : B < w1.heap.size) (c0 : w1.cell? ⟨B, 0, none⟩ = some v0) (c1 : w1.cell? ⟨B, 1, none⟩ = some v1) (c2 : w1.cell? ⟨B, 2, none⟩ = some v2) (c3 : w1.cell? ⟨B, 3, none⟩ = some v3) (c4 : w1.cell? ⟨B, 4, none⟩ = some v4) :
  w2.cell? ⟨B, 0, none⟩ = some v0 ∧ w2.cell? ⟨B, 1, none⟩ = some v1 ∧ w2.cell? ⟨B, 2, none⟩ = some v2 ∧ w2.cell? ⟨B, 3, none⟩ = some v3 ∧ w2.cell? ⟨B, 4, none⟩ = some v4 ∧ w1.heap.size ≤ w2.heap.size :=
 ⟨(hb.cell hz).trans c0, (hb.cell hz).trans c1, (hb.cell hz).trans c2, (hb.cell hz).trans c3, (hb.cell hz).trans c4, hb.size⟩
theorem areChans_is (c : Int) (v : Bool) (w : World) (h : Plain.chansB c = v) : Calls Tryz.prog 91 #[.int .i64 c] w fun e w' => e = .returned (.bool v) ∧ w' = w := by
 subst h
 exact areChans_any c w
theorem eqNo (o r a b n o' r' a' b' n' : Int) (w : World) (h : ¬ (o = o' ∧ r = r' ∧ a = a' ∧ b = b' ∧ n = n')) : (binOp .eql 142 (.agg #[.int .i64 o, .int .i64 r, .int .i64 a, .int .i64 b, .int .i64 n]) (.agg #[.int .i64 o', .int .i64 r', .int .i64 a', .int .i64 b', .int .i64 n'])).run Tryz.prog w = .ok (.bool false) w := by
 have e : (binOp .eql 142 (.agg #[.int .i64 o, .int .i64 r, .int .i64 a, .int .i64 b, .int .i64 n]) (.agg #[.int .i64 o', .int .i64 r', .int .i64 a', .int .i64 b', .int .i64 n'])).run Tryz.prog w = .ok (.bool (decide (o = o' ∧ r = r' ∧ a = a' ∧ b = b' ∧ n = n'))) w := by
  simp [go_sem]
  by_cases h1 : o = o' <;> by_cases h2 : r = r' <;> by_cases h3 : a = a' <;> by_cases h4 : b = b' <;> by_cases h5 : n = n' <;> simp [h1, h2, h3, h4, h5]
 rw [e, decide_eq_false h]
end Go.Proofs.YtplncjlcejaabaaGreat
