/- A map whose key is a step: one entry put into an empty one, and looked up; what a map that is nil answers. No condition. -/
import Derived.Test.YtkmliphfelinjaaC7Ok
import Derived.ChangeMaps5
namespace Go.Proofs.Ytkmliphfelinjaa
set_option linter.unusedSimpArgs false
set_option linter.unusedVariables false
set_option maxRecDepth 100000
open Go.RowKit
open Go.ChangeMaps (setBlock)

theorem chk_step (em : Bool) (o r a b n : Int) (w : World) : (Instr.checkKey em 10000 25 (.agg #[.int .i64 o, .int .i64 r, .int .i64 a, .int .i64 b, .int .i64 n])).run Try.prog w = .ok () w := by kernel_rfl

theorem und_map (w : World) : (underlying 50).run Try.prog w = .ok (.map 25 3) w := by kernel_rfl

theorem get_map {w : World} {g c : Nat} {es : Array MapEntry} (h : w.heap[g]? = some (.map es c)) : (getObj g).run Try.prog w = .ok (.map es c) w := by
  simp [getObj, Sem.run, h]
theorem set_map {w : World} {g c : Nat} {es : Array MapEntry} (o : Obj) (h : w.heap[g]? = some (.map es c)) : (setObj g o).run Try.prog w = .ok () (setBlock w g o) := by
  simp [setObj, Sem.run, h, setBlock]

def oneE (o r a b n x : Int) : Array MapEntry := #[{ key := .agg #[.int .i64 o, .int .i64 r, .int .i64 a, .int .i64 b, .int .i64 n], val := .int .i64 x, born := 0 }]

theorem find_none (o r a b n : Int) (w : World) : (Instr.findKey 25 (.agg #[.int .i64 o, .int .i64 r, .int .i64 a, .int .i64 b, .int .i64 n]) []).run Try.prog w = .ok none w := by kernel_rfl

theorem eqOp_run (o r a b n : Int) (w : World) : (Op.equal 25 (.agg #[.int .i64 o, .int .i64 r, .int .i64 a, .int .i64 b, .int .i64 n]) (.agg #[.int .i64 o, .int .i64 r, .int .i64 a, .int .i64 b, .int .i64 n])).run Try.prog w = .ok true w := by
  simp [Op.equal, Op.maxDepth, go_sem]

theorem find_one (o r a b n x : Int) (w : World) : (Instr.findKey 25 (.agg #[.int .i64 o, .int .i64 r, .int .i64 a, .int .i64 b, .int .i64 n]) (oneE o r a b n x).toList).run Try.prog w = .ok (some (0, .int .i64 x)) w := by
  simp [oneE, Instr.findKey, Instr.findNow, Instr.sameNow, Instr.findAsking, go_sem, eqOp_run]

theorem ins_run (o r a b n x : Int) (g : Nat) (w : World) (h : w.heap[g]? = some (.map #[] 0)) : (Instr.mapUpdate 50 (.map (some g)) (.agg #[.int .i64 o, .int .i64 r, .int .i64 a, .int .i64 b, .int .i64 n]) (.int .i64 x)).run Try.prog w = .ok () (setBlock w g (.map (oneE o r a b n x) 1)) := by
  unfold Instr.mapUpdate
  simp [Sem.run_bind, und_map, Result.andThen, get_map h, chk_step, find_none, set_map _ h, oneE]

theorem look_run (o r a b n x : Int) (g : Nat) (w : World) (h : w.heap[g]? = some (.map (oneE o r a b n x) 1)) : (Instr.lookup 50 (.map (some g)) (.agg #[.int .i64 o, .int .i64 r, .int .i64 a, .int .i64 b, .int .i64 n]) true).run Try.prog w = .ok (.tuple #[.int .i64 x, .bool true]) w := by
  unfold Instr.lookup
  simp [Sem.run_bind, und_map, Result.andThen, get_map h, chk_step, find_one]

theorem look_nil (o r a b n : Int) (w : World) : (Instr.lookup 50 (.map none) (.agg #[.int .i64 o, .int .i64 r, .int .i64 a, .int .i64 b, .int .i64 n]) true).run Try.prog w = .ok (.tuple #[.int .i64 0, .bool false]) w := by kernel_rfl

theorem setB_at {w : World} {g : Nat} {o : Obj} (h : g < w.heap.size) : (setBlock w g o).heap[g]? = some o := by
  simp [setBlock, h]
theorem setB_size {w : World} {g : Nat} {o : Obj} : (setBlock w g o).heap.size = w.heap.size := by simp [setBlock]
theorem setB_below {B : Nat} {w w' : World} {g : Nat} {o : Obj} (h : Below B w w') (hg : B ≤ g) : Below B w (setBlock w' g o) := by
  obtain ⟨h1, h2, h3, h4, h5⟩ := h
  refine ⟨h1, h2, h3, by simpa [setBlock] using h4, fun i hi => ?_⟩
  rw [← h5 i hi]
  simp only [setBlock]
  rw [Array.getElem?_setIfInBounds_ne (by omega)]
theorem mapNew {w : World} : (w.alloc (.map #[] 0)).heap[w.heap.size]? = some (.map #[] 0) := (MapKept.heap_alloc w _).1

end Go.Proofs.Ytkmliphfelinjaa
