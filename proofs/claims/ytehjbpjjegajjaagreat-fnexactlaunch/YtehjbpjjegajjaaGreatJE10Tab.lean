/- The table of emitters, and which one an op has. No condition. -/
import Derived.Test.YtehjbpjjegajjaaGreatJG00
import Derived.Test.YtehjbpjjegajjaaGreatChecked
import Derived.WalkKit
import Derived.KernelRfl
import Derived.Laws.EntriesVeiled
import Derived.Deep.WholeRow
namespace Go.Proofs.YtehjbpjjegajjaaGreat
set_option linter.unusedSimpArgs false
set_option linter.unusedVariables false
set_option maxRecDepth 100000
open Go.RowKit
def emF (n : Nat) : Value := .func (.func n) #[] #[]
def emTab : Array Value := #[.int .i64 0, .bool false, .nilFunc, .int .i64 1, .bool false, emF 140, .int .i64 1, .bool false, emF 141, .int .i64 1, .bool false, emF 142, .int .i64 1, .bool false, emF 143,
 .int .i64 29, .bool true, emF 144, .int .i64 30, .bool true, emF 145, .int .i64 31, .bool true, emF 146, .int .i64 32, .bool true, emF 147, .int .i64 13, .bool true, emF 148,
 .int .i64 1, .bool false, emF 149, .int .i64 1, .bool false, emF 150, .int .i64 1, .bool false, emF 151, .int .i64 1, .bool false, emF 152]
theorem wp_storeRow {ops : Array Oper} {rest : List Oper} {o : Oper} {a : Act} {Q : Exit → Act → World → Prop} {P : Program} (hgd : o.guard = none) (t : TypeId) (p v : Operand) (ho : o.op = .store t p v) (hd : o.dst = none) (w : World) (c c' : Array Value)
  (hp : a.eval p = .pointer (some ⟨w.heap.size, 0, none⟩)) (hv : a.eval v = .agg c') (hi : (P.info? t).map (·.size) = some c'.size) (hs : c.size = c'.size) (h1 : c'.all (·.oneCell') = true)
  (h : wpList P ops Q rest a (w.alloc (.cells c' t))) : wpList P ops Q (o :: rest) a (w.alloc (.cells c t)) := by
 refine wpList_plain hgd fun K hK => ?_
 have hrun := run_storeAt_new (P := P) w t c c' hi hs h1
 unfold Oper.wp
 simp [execOp, ho, hp, hv, hrun, Result.andThen, hd]
 have e : a.put o.dst undef = a := by rw [hd]; rfl
 have q := hK _ _ h
 rw [← e] at q
 exact q
theorem emTab_one : emTab.all (·.oneCell') = true := by kernel_rfl
theorem emitters_is (w : World) : Calls Tryz.prog 120 #[] w fun e w' => e = .returned (.agg emTab) ∧ w' = w.alloc (.cells emTab 143) := by
 go_enter Tryz.func120, Tryz.ntmps120
 go_wp2_with (refine wp_storeRow (by rfl) 143 (.tmp 0) (.tmp 14) (by rfl) (by rfl) _ _ emTab (by rfl) (by rfl) (by kernel_rfl) (by rfl) emTab_one ?_)
 have hld := run_loadVar_new (P := Tryz.prog) w 143 emTab 14 130 rfl (by kernel_rfl)
 refine bodyPost_ret (v := .agg emTab) ?_ rfl ⟨rfl, rfl⟩
 simp [results, Tryz.results120, asAddr, Result.andThen, hld]
end Go.Proofs.YtehjbpjjegajjaaGreat
