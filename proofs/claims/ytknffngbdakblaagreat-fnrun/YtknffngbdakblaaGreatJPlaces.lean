/- Chapter 1: placeOk of each kind of place, for every argument, in every world. No condition. -/
import Derived.Test.YtknffngbdakblaaGreatJG00
import Derived.Test.YtknffngbdakblaaGreatChecked
import Derived.WalkKit
import Derived.KernelRfl
import Derived.WalkSpells
import Derived.WalkLawsBesides
import Derived.Test.YtknffngbdakblaaGreatJLeaves
namespace Go.Proofs.YtknffngbdakblaaGreat
set_option linter.unusedSimpArgs false
set_option linter.unusedVariables false
set_option maxRecDepth 100000
open Go.RowKit
theorem asy_1 (v:Value) (w:World):(Instr.typeAssert (.iface 132 v) 123 132 true).run Tryz.prog w=.ok (.tuple #[v,.bool true]) w:=by kernel_rfl
theorem zero_1 (w:World):(do pure (Value.tuple #[← zeroValue 132,.bool false]):Sem Value).run Tryz.prog w=.ok (.tuple #[.agg #[.int .i64 0,.int .i64 0],.bool false]) w:=by kernel_rfl
theorem asn_1 (u:TypeId) (v:Value) (w:World) (h:u≠132):(Instr.typeAssert (.iface u v) 123 132 true).run Tryz.prog w=.ok (.tuple #[.agg #[.int .i64 0,.int .i64 0],.bool false]) w:=by
 have e:(Instr.typeAssert (.iface u v) 123 132 true).run Tryz.prog w=(if u=132 then (pure (Value.tuple #[v,.bool true]):Sem Value) else (do pure (Value.tuple #[← zeroValue 132,.bool false]))).run Tryz.prog w:=by kernel_rfl
 rw [e,if_neg h]
 exact zero_1 w
theorem asy_2 (v:Value) (w:World):(Instr.typeAssert (.iface 134 v) 123 134 true).run Tryz.prog w=.ok (.tuple #[v,.bool true]) w:=by kernel_rfl
theorem zero_2 (w:World):(do pure (Value.tuple #[← zeroValue 134,.bool false]):Sem Value).run Tryz.prog w=.ok (.tuple #[.agg #[.int .i64 0,.int .i64 0,.int .i64 0],.bool false]) w:=by kernel_rfl
theorem asn_2 (u:TypeId) (v:Value) (w:World) (h:u≠134):(Instr.typeAssert (.iface u v) 123 134 true).run Tryz.prog w=.ok (.tuple #[.agg #[.int .i64 0,.int .i64 0,.int .i64 0],.bool false]) w:=by
 have e:(Instr.typeAssert (.iface u v) 123 134 true).run Tryz.prog w=(if u=134 then (pure (Value.tuple #[v,.bool true]):Sem Value) else (do pure (Value.tuple #[← zeroValue 134,.bool false]))).run Tryz.prog w:=by kernel_rfl
 rw [e,if_neg h]
 exact zero_2 w
theorem asy_3 (v:Value) (w:World):(Instr.typeAssert (.iface 135 v) 123 135 true).run Tryz.prog w=.ok (.tuple #[v,.bool true]) w:=by kernel_rfl
theorem zero_3 (w:World):(do pure (Value.tuple #[← zeroValue 135,.bool false]):Sem Value).run Tryz.prog w=.ok (.tuple #[.agg #[.int .i64 0,.int .i64 0,.int .i64 0],.bool false]) w:=by kernel_rfl
theorem asn_3 (u:TypeId) (v:Value) (w:World) (h:u≠135):(Instr.typeAssert (.iface u v) 123 135 true).run Tryz.prog w=.ok (.tuple #[.agg #[.int .i64 0,.int .i64 0,.int .i64 0],.bool false]) w:=by
 have e:(Instr.typeAssert (.iface u v) 123 135 true).run Tryz.prog w=(if u=135 then (pure (Value.tuple #[v,.bool true]):Sem Value) else (do pure (Value.tuple #[← zeroValue 135,.bool false]))).run Tryz.prog w:=by kernel_rfl
 rw [e,if_neg h]
 exact zero_3 w
theorem asy_4 (v:Value) (w:World):(Instr.typeAssert (.iface 136 v) 123 136 true).run Tryz.prog w=.ok (.tuple #[v,.bool true]) w:=by kernel_rfl
theorem zero_4 (w:World):(do pure (Value.tuple #[← zeroValue 136,.bool false]):Sem Value).run Tryz.prog w=.ok (.tuple #[.agg #[.int .i64 0,.int .i64 0,.int .i64 0],.bool false]) w:=by kernel_rfl
theorem asn_4 (u:TypeId) (v:Value) (w:World) (h:u≠136):(Instr.typeAssert (.iface u v) 123 136 true).run Tryz.prog w=.ok (.tuple #[.agg #[.int .i64 0,.int .i64 0,.int .i64 0],.bool false]) w:=by
 have e:(Instr.typeAssert (.iface u v) 123 136 true).run Tryz.prog w=(if u=136 then (pure (Value.tuple #[v,.bool true]):Sem Value) else (do pure (Value.tuple #[← zeroValue 136,.bool false]))).run Tryz.prog w:=by kernel_rfl
 rw [e,if_neg h]
 exact zero_4 w
theorem asy_5 (v:Value) (w:World):(Instr.typeAssert (.iface 138 v) 123 138 true).run Tryz.prog w=.ok (.tuple #[v,.bool true]) w:=by kernel_rfl
theorem zero_5 (w:World):(do pure (Value.tuple #[← zeroValue 138,.bool false]):Sem Value).run Tryz.prog w=.ok (.tuple #[.agg #[.int .i64 0,.int .i64 0],.bool false]) w:=by kernel_rfl
theorem asn_5 (u:TypeId) (v:Value) (w:World) (h:u≠138):(Instr.typeAssert (.iface u v) 123 138 true).run Tryz.prog w=.ok (.tuple #[.agg #[.int .i64 0,.int .i64 0],.bool false]) w:=by
 have e:(Instr.typeAssert (.iface u v) 123 138 true).run Tryz.prog w=(if u=138 then (pure (Value.tuple #[v,.bool true]):Sem Value) else (do pure (Value.tuple #[← zeroValue 138,.bool false]))).run Tryz.prog w:=by kernel_rfl
 rw [e,if_neg h]
 exact zero_5 w
theorem asy_6 (v:Value) (w:World):(Instr.typeAssert (.iface 140 v) 123 140 true).run Tryz.prog w=.ok (.tuple #[v,.bool true]) w:=by kernel_rfl
theorem zero_6 (w:World):(do pure (Value.tuple #[← zeroValue 140,.bool false]):Sem Value).run Tryz.prog w=.ok (.tuple #[.agg #[.int .i64 0,.int .i64 0,.int .i64 0],.bool false]) w:=by kernel_rfl
theorem asn_6 (u:TypeId) (v:Value) (w:World) (h:u≠140):(Instr.typeAssert (.iface u v) 123 140 true).run Tryz.prog w=.ok (.tuple #[.agg #[.int .i64 0,.int .i64 0,.int .i64 0],.bool false]) w:=by
 have e:(Instr.typeAssert (.iface u v) 123 140 true).run Tryz.prog w=(if u=140 then (pure (Value.tuple #[v,.bool true]):Sem Value) else (do pure (Value.tuple #[← zeroValue 140,.bool false]))).run Tryz.prog w:=by kernel_rfl
 rw [e,if_neg h]
 exact zero_6 w
theorem asy_7 (v:Value) (w:World):(Instr.typeAssert (.iface 142 v) 123 142 true).run Tryz.prog w=.ok (.tuple #[v,.bool true]) w:=by kernel_rfl
theorem zero_7 (w:World):(do pure (Value.tuple #[← zeroValue 142,.bool false]):Sem Value).run Tryz.prog w=.ok (.tuple #[.agg #[.int .i64 0,.int .i64 0,.int .i64 0],.bool false]) w:=by kernel_rfl
theorem asn_7 (u:TypeId) (v:Value) (w:World) (h:u≠142):(Instr.typeAssert (.iface u v) 123 142 true).run Tryz.prog w=.ok (.tuple #[.agg #[.int .i64 0,.int .i64 0,.int .i64 0],.bool false]) w:=by
 have e:(Instr.typeAssert (.iface u v) 123 142 true).run Tryz.prog w=(if u=142 then (pure (Value.tuple #[v,.bool true]):Sem Value) else (do pure (Value.tuple #[← zeroValue 142,.bool false]))).run Tryz.prog w:=by kernel_rfl
 rw [e,if_neg h]
 exact zero_7 w
theorem asy_8 (v:Value) (w:World):(Instr.typeAssert (.iface 143 v) 123 143 true).run Tryz.prog w=.ok (.tuple #[v,.bool true]) w:=by kernel_rfl
theorem zero_8 (w:World):(do pure (Value.tuple #[← zeroValue 143,.bool false]):Sem Value).run Tryz.prog w=.ok (.tuple #[.agg #[.int .i64 0,.int .i64 0,.int .i64 0],.bool false]) w:=by kernel_rfl
theorem asn_8 (u:TypeId) (v:Value) (w:World) (h:u≠143):(Instr.typeAssert (.iface u v) 123 143 true).run Tryz.prog w=.ok (.tuple #[.agg #[.int .i64 0,.int .i64 0,.int .i64 0],.bool false]) w:=by
 have e:(Instr.typeAssert (.iface u v) 123 143 true).run Tryz.prog w=(if u=143 then (pure (Value.tuple #[v,.bool true]):Sem Value) else (do pure (Value.tuple #[← zeroValue 143,.bool false]))).run Tryz.prog w:=by kernel_rfl
 rw [e,if_neg h]
 exact zero_8 w
theorem asy_9 (v:Value) (w:World):(Instr.typeAssert (.iface 145 v) 123 145 true).run Tryz.prog w=.ok (.tuple #[v,.bool true]) w:=by kernel_rfl
theorem zero_9 (w:World):(do pure (Value.tuple #[← zeroValue 145,.bool false]):Sem Value).run Tryz.prog w=.ok (.tuple #[.agg #[.int .i64 0],.bool false]) w:=by kernel_rfl
theorem asn_9 (u:TypeId) (v:Value) (w:World) (h:u≠145):(Instr.typeAssert (.iface u v) 123 145 true).run Tryz.prog w=.ok (.tuple #[.agg #[.int .i64 0],.bool false]) w:=by
 have e:(Instr.typeAssert (.iface u v) 123 145 true).run Tryz.prog w=(if u=145 then (pure (Value.tuple #[v,.bool true]):Sem Value) else (do pure (Value.tuple #[← zeroValue 145,.bool false]))).run Tryz.prog w:=by kernel_rfl
 rw [e,if_neg h]
 exact zero_9 w
theorem asy_10 (v:Value) (w:World):(Instr.typeAssert (.iface 147 v) 123 147 true).run Tryz.prog w=.ok (.tuple #[v,.bool true]) w:=by kernel_rfl
theorem zero_10 (w:World):(do pure (Value.tuple #[← zeroValue 147,.bool false]):Sem Value).run Tryz.prog w=.ok (.tuple #[.agg #[.int .i64 0],.bool false]) w:=by kernel_rfl
theorem asn_10 (u:TypeId) (v:Value) (w:World) (h:u≠147):(Instr.typeAssert (.iface u v) 123 147 true).run Tryz.prog w=.ok (.tuple #[.agg #[.int .i64 0],.bool false]) w:=by
 have e:(Instr.typeAssert (.iface u v) 123 147 true).run Tryz.prog w=(if u=147 then (pure (Value.tuple #[v,.bool true]):Sem Value) else (do pure (Value.tuple #[← zeroValue 147,.bool false]))).run Tryz.prog w:=by kernel_rfl
 rw [e,if_neg h]
 exact zero_10 w
theorem asy_11 (v:Value) (w:World):(Instr.typeAssert (.iface 148 v) 123 148 true).run Tryz.prog w=.ok (.tuple #[v,.bool true]) w:=by kernel_rfl
theorem zero_11 (w:World):(do pure (Value.tuple #[← zeroValue 148,.bool false]):Sem Value).run Tryz.prog w=.ok (.tuple #[.agg #[.int .i64 0],.bool false]) w:=by kernel_rfl
theorem asn_11 (u:TypeId) (v:Value) (w:World) (h:u≠148):(Instr.typeAssert (.iface u v) 123 148 true).run Tryz.prog w=.ok (.tuple #[.agg #[.int .i64 0],.bool false]) w:=by
 have e:(Instr.typeAssert (.iface u v) 123 148 true).run Tryz.prog w=(if u=148 then (pure (Value.tuple #[v,.bool true]):Sem Value) else (do pure (Value.tuple #[← zeroValue 148,.bool false]))).run Tryz.prog w:=by kernel_rfl
 rw [e,if_neg h]
 exact zero_11 w
theorem asy_12 (v:Value) (w:World):(Instr.typeAssert (.iface 149 v) 123 149 true).run Tryz.prog w=.ok (.tuple #[v,.bool true]) w:=by kernel_rfl
theorem zero_12 (w:World):(do pure (Value.tuple #[← zeroValue 149,.bool false]):Sem Value).run Tryz.prog w=.ok (.tuple #[.agg #[.int .i64 0,.int .i64 0],.bool false]) w:=by kernel_rfl
theorem asn_12 (u:TypeId) (v:Value) (w:World) (h:u≠149):(Instr.typeAssert (.iface u v) 123 149 true).run Tryz.prog w=.ok (.tuple #[.agg #[.int .i64 0,.int .i64 0],.bool false]) w:=by
 have e:(Instr.typeAssert (.iface u v) 123 149 true).run Tryz.prog w=(if u=149 then (pure (Value.tuple #[v,.bool true]):Sem Value) else (do pure (Value.tuple #[← zeroValue 149,.bool false]))).run Tryz.prog w:=by kernel_rfl
 rw [e,if_neg h]
 exact zero_12 w
theorem asy_13 (v:Value) (w:World):(Instr.typeAssert (.iface 151 v) 123 151 true).run Tryz.prog w=.ok (.tuple #[v,.bool true]) w:=by kernel_rfl
set_option maxRecDepth 100000 in
theorem placeOk_1 (r n pl ch:Int) (w:World):Calls Tryz.prog 98 #[.iface 132 (.agg #[.int .i64 r,.int .i64 n]),.int .i64 pl,.int .i64 ch] w fun e w'=>e=.returned (.bool (Plain.regB r&&Plain.numB n))∧Below w.heap.size w w':=by
 have y:=fun w=>asy_1 (.agg #[.int .i64 r,.int .i64 n]) w
 go_enter Tryz.func98,Tryz.ntmps98
 go_wp2_with (first | (go_at_call 104;refine (isReg_any _ _).mono ?_;rintro e w' ⟨rfl,rfl⟩) | (go_at_call 105;refine (isNum_any _ _).mono ?_;rintro e w' ⟨rfl,rfl⟩) | (go_at_call 49;refine (isOneOf_any _ _ _).mono ?_;rintro e w' ⟨rfl,rfl⟩) | (go_at_call 106;refine (areRegs_any _ _ _ _).mono ?_;rintro e w' ⟨rfl,rfl⟩) | (go_at_call 107;refine (takesOk_any _ _ _).mono ?_;rintro e w' ⟨rfl,rfl⟩))
 all_goals go_ret
 all_goals exact ⟨by simp [*],by first | exact (Below.refl _ _).alloc (Nat.le_refl _) _ | exact Below.refl _ _⟩
set_option maxRecDepth 100000 in
theorem placeOk_2 (r a b pl ch:Int) (w:World):Calls Tryz.prog 98 #[.iface 134 (.agg #[.int .i64 r,.int .i64 a,.int .i64 b]),.int .i64 pl,.int .i64 ch] w fun e w'=>e=.returned (.bool (Plain.areB r a b))∧Below w.heap.size w w':=by
 have n1:=fun w=>asn_1 134 (.agg #[.int .i64 r,.int .i64 a,.int .i64 b]) w (by decide)
 have y:=fun w=>asy_2 (.agg #[.int .i64 r,.int .i64 a,.int .i64 b]) w
 go_enter Tryz.func98,Tryz.ntmps98
 go_wp2_with (first | (go_at_call 104;refine (isReg_any _ _).mono ?_;rintro e w' ⟨rfl,rfl⟩) | (go_at_call 105;refine (isNum_any _ _).mono ?_;rintro e w' ⟨rfl,rfl⟩) | (go_at_call 49;refine (isOneOf_any _ _ _).mono ?_;rintro e w' ⟨rfl,rfl⟩) | (go_at_call 106;refine (areRegs_any _ _ _ _).mono ?_;rintro e w' ⟨rfl,rfl⟩) | (go_at_call 107;refine (takesOk_any _ _ _).mono ?_;rintro e w' ⟨rfl,rfl⟩))
 all_goals go_ret
 all_goals exact ⟨by simp [*],by first | exact (Below.refl _ _).alloc (Nat.le_refl _) _ | exact Below.refl _ _⟩
set_option maxRecDepth 100000 in
theorem placeOk_3 (r a b pl ch:Int) (w:World):Calls Tryz.prog 98 #[.iface 135 (.agg #[.int .i64 r,.int .i64 a,.int .i64 b]),.int .i64 pl,.int .i64 ch] w fun e w'=>e=.returned (.bool (Plain.areB r a b))∧Below w.heap.size w w':=by
 have n1:=fun w=>asn_1 135 (.agg #[.int .i64 r,.int .i64 a,.int .i64 b]) w (by decide)
 have n2:=fun w=>asn_2 135 (.agg #[.int .i64 r,.int .i64 a,.int .i64 b]) w (by decide)
 have y:=fun w=>asy_3 (.agg #[.int .i64 r,.int .i64 a,.int .i64 b]) w
 go_enter Tryz.func98,Tryz.ntmps98
 go_wp2_with (first | (go_at_call 104;refine (isReg_any _ _).mono ?_;rintro e w' ⟨rfl,rfl⟩) | (go_at_call 105;refine (isNum_any _ _).mono ?_;rintro e w' ⟨rfl,rfl⟩) | (go_at_call 49;refine (isOneOf_any _ _ _).mono ?_;rintro e w' ⟨rfl,rfl⟩) | (go_at_call 106;refine (areRegs_any _ _ _ _).mono ?_;rintro e w' ⟨rfl,rfl⟩) | (go_at_call 107;refine (takesOk_any _ _ _).mono ?_;rintro e w' ⟨rfl,rfl⟩))
 all_goals go_ret
 all_goals exact ⟨by simp [*],by first | exact (Below.refl _ _).alloc (Nat.le_refl _) _ | exact Below.refl _ _⟩
set_option maxRecDepth 100000 in
theorem placeOk_4 (r a b pl ch:Int) (w:World):Calls Tryz.prog 98 #[.iface 136 (.agg #[.int .i64 r,.int .i64 a,.int .i64 b]),.int .i64 pl,.int .i64 ch] w fun e w'=>e=.returned (.bool (Plain.areB r a b))∧Below w.heap.size w w':=by
 have n1:=fun w=>asn_1 136 (.agg #[.int .i64 r,.int .i64 a,.int .i64 b]) w (by decide)
 have n2:=fun w=>asn_2 136 (.agg #[.int .i64 r,.int .i64 a,.int .i64 b]) w (by decide)
 have n3:=fun w=>asn_3 136 (.agg #[.int .i64 r,.int .i64 a,.int .i64 b]) w (by decide)
 have y:=fun w=>asy_4 (.agg #[.int .i64 r,.int .i64 a,.int .i64 b]) w
 go_enter Tryz.func98,Tryz.ntmps98
 go_wp2_with (first | (go_at_call 104;refine (isReg_any _ _).mono ?_;rintro e w' ⟨rfl,rfl⟩) | (go_at_call 105;refine (isNum_any _ _).mono ?_;rintro e w' ⟨rfl,rfl⟩) | (go_at_call 49;refine (isOneOf_any _ _ _).mono ?_;rintro e w' ⟨rfl,rfl⟩) | (go_at_call 106;refine (areRegs_any _ _ _ _).mono ?_;rintro e w' ⟨rfl,rfl⟩) | (go_at_call 107;refine (takesOk_any _ _ _).mono ?_;rintro e w' ⟨rfl,rfl⟩))
 all_goals go_ret
 all_goals exact ⟨by simp [*],by first | exact (Below.refl _ _).alloc (Nat.le_refl _) _ | exact Below.refl _ _⟩
set_option maxRecDepth 100000 in
theorem placeOk_5 (a n pl ch:Int) (w:World):Calls Tryz.prog 98 #[.iface 138 (.agg #[.int .i64 a,.int .i64 n]),.int .i64 pl,.int .i64 ch] w fun e w'=>e=.returned (.bool (Plain.regB a&&Plain.oneB n ch))∧Below w.heap.size w w':=by
 have n1:=fun w=>asn_1 138 (.agg #[.int .i64 a,.int .i64 n]) w (by decide)
 have n2:=fun w=>asn_2 138 (.agg #[.int .i64 a,.int .i64 n]) w (by decide)
 have n3:=fun w=>asn_3 138 (.agg #[.int .i64 a,.int .i64 n]) w (by decide)
 have n4:=fun w=>asn_4 138 (.agg #[.int .i64 a,.int .i64 n]) w (by decide)
 have y:=fun w=>asy_5 (.agg #[.int .i64 a,.int .i64 n]) w
 go_enter Tryz.func98,Tryz.ntmps98
 go_wp2_with (first | (go_at_call 104;refine (isReg_any _ _).mono ?_;rintro e w' ⟨rfl,rfl⟩) | (go_at_call 105;refine (isNum_any _ _).mono ?_;rintro e w' ⟨rfl,rfl⟩) | (go_at_call 49;refine (isOneOf_any _ _ _).mono ?_;rintro e w' ⟨rfl,rfl⟩) | (go_at_call 106;refine (areRegs_any _ _ _ _).mono ?_;rintro e w' ⟨rfl,rfl⟩) | (go_at_call 107;refine (takesOk_any _ _ _).mono ?_;rintro e w' ⟨rfl,rfl⟩))
 all_goals go_ret
 all_goals exact ⟨by simp [*],by first | exact (Below.refl _ _).alloc (Nat.le_refl _) _ | exact Below.refl _ _⟩
set_option maxRecDepth 100000 in
theorem placeOk_6 (r b n pl ch:Int) (w:World):Calls Tryz.prog 98 #[.iface 140 (.agg #[.int .i64 r,.int .i64 b,.int .i64 n]),.int .i64 pl,.int .i64 ch] w fun e w'=>e=.returned (.bool (Plain.takesB r b&&Plain.oneB n ch))∧Below w.heap.size w w':=by
 have n1:=fun w=>asn_1 140 (.agg #[.int .i64 r,.int .i64 b,.int .i64 n]) w (by decide)
 have n2:=fun w=>asn_2 140 (.agg #[.int .i64 r,.int .i64 b,.int .i64 n]) w (by decide)
 have n3:=fun w=>asn_3 140 (.agg #[.int .i64 r,.int .i64 b,.int .i64 n]) w (by decide)
 have n4:=fun w=>asn_4 140 (.agg #[.int .i64 r,.int .i64 b,.int .i64 n]) w (by decide)
 have n5:=fun w=>asn_5 140 (.agg #[.int .i64 r,.int .i64 b,.int .i64 n]) w (by decide)
 have y:=fun w=>asy_6 (.agg #[.int .i64 r,.int .i64 b,.int .i64 n]) w
 go_enter Tryz.func98,Tryz.ntmps98
 go_wp2_with (first | (go_at_call 104;refine (isReg_any _ _).mono ?_;rintro e w' ⟨rfl,rfl⟩) | (go_at_call 105;refine (isNum_any _ _).mono ?_;rintro e w' ⟨rfl,rfl⟩) | (go_at_call 49;refine (isOneOf_any _ _ _).mono ?_;rintro e w' ⟨rfl,rfl⟩) | (go_at_call 106;refine (areRegs_any _ _ _ _).mono ?_;rintro e w' ⟨rfl,rfl⟩) | (go_at_call 107;refine (takesOk_any _ _ _).mono ?_;rintro e w' ⟨rfl,rfl⟩))
 all_goals go_ret
 all_goals exact ⟨by simp [*],by first | exact (Below.refl _ _).alloc (Nat.le_refl _) _ | exact Below.refl _ _⟩
set_option maxRecDepth 100000 in
theorem placeOk_7 (r a n pl ch:Int) (w:World):Calls Tryz.prog 98 #[.iface 142 (.agg #[.int .i64 r,.int .i64 a,.int .i64 n]),.int .i64 pl,.int .i64 ch] w fun e w'=>e=.returned (.bool (Plain.regB r&&Plain.regB a&&Plain.oneB n ch))∧Below w.heap.size w w':=by
 have n1:=fun w=>asn_1 142 (.agg #[.int .i64 r,.int .i64 a,.int .i64 n]) w (by decide)
 have n2:=fun w=>asn_2 142 (.agg #[.int .i64 r,.int .i64 a,.int .i64 n]) w (by decide)
 have n3:=fun w=>asn_3 142 (.agg #[.int .i64 r,.int .i64 a,.int .i64 n]) w (by decide)
 have n4:=fun w=>asn_4 142 (.agg #[.int .i64 r,.int .i64 a,.int .i64 n]) w (by decide)
 have n5:=fun w=>asn_5 142 (.agg #[.int .i64 r,.int .i64 a,.int .i64 n]) w (by decide)
 have n6:=fun w=>asn_6 142 (.agg #[.int .i64 r,.int .i64 a,.int .i64 n]) w (by decide)
 have y:=fun w=>asy_7 (.agg #[.int .i64 r,.int .i64 a,.int .i64 n]) w
 go_enter Tryz.func98,Tryz.ntmps98
 go_wp2_with (first | (go_at_call 104;refine (isReg_any _ _).mono ?_;rintro e w' ⟨rfl,rfl⟩) | (go_at_call 105;refine (isNum_any _ _).mono ?_;rintro e w' ⟨rfl,rfl⟩) | (go_at_call 49;refine (isOneOf_any _ _ _).mono ?_;rintro e w' ⟨rfl,rfl⟩) | (go_at_call 106;refine (areRegs_any _ _ _ _).mono ?_;rintro e w' ⟨rfl,rfl⟩) | (go_at_call 107;refine (takesOk_any _ _ _).mono ?_;rintro e w' ⟨rfl,rfl⟩))
 all_goals go_ret
 all_goals exact ⟨by simp [*],by first | exact (Below.refl _ _).alloc (Nat.le_refl _) _ | exact Below.refl _ _⟩
set_option maxRecDepth 100000 in
theorem placeOk_8 (r b n pl ch:Int) (w:World):Calls Tryz.prog 98 #[.iface 143 (.agg #[.int .i64 r,.int .i64 b,.int .i64 n]),.int .i64 pl,.int .i64 ch] w fun e w'=>e=.returned (.bool (Plain.takesB r b&&Plain.oneB n ch))∧Below w.heap.size w w':=by
 have n1:=fun w=>asn_1 143 (.agg #[.int .i64 r,.int .i64 b,.int .i64 n]) w (by decide)
 have n2:=fun w=>asn_2 143 (.agg #[.int .i64 r,.int .i64 b,.int .i64 n]) w (by decide)
 have n3:=fun w=>asn_3 143 (.agg #[.int .i64 r,.int .i64 b,.int .i64 n]) w (by decide)
 have n4:=fun w=>asn_4 143 (.agg #[.int .i64 r,.int .i64 b,.int .i64 n]) w (by decide)
 have n5:=fun w=>asn_5 143 (.agg #[.int .i64 r,.int .i64 b,.int .i64 n]) w (by decide)
 have n6:=fun w=>asn_6 143 (.agg #[.int .i64 r,.int .i64 b,.int .i64 n]) w (by decide)
 have n7:=fun w=>asn_7 143 (.agg #[.int .i64 r,.int .i64 b,.int .i64 n]) w (by decide)
 have y:=fun w=>asy_8 (.agg #[.int .i64 r,.int .i64 b,.int .i64 n]) w
 go_enter Tryz.func98,Tryz.ntmps98
 go_wp2_with (first | (go_at_call 104;refine (isReg_any _ _).mono ?_;rintro e w' ⟨rfl,rfl⟩) | (go_at_call 105;refine (isNum_any _ _).mono ?_;rintro e w' ⟨rfl,rfl⟩) | (go_at_call 49;refine (isOneOf_any _ _ _).mono ?_;rintro e w' ⟨rfl,rfl⟩) | (go_at_call 106;refine (areRegs_any _ _ _ _).mono ?_;rintro e w' ⟨rfl,rfl⟩) | (go_at_call 107;refine (takesOk_any _ _ _).mono ?_;rintro e w' ⟨rfl,rfl⟩))
 all_goals go_ret
 all_goals exact ⟨by simp [*],by first | exact (Below.refl _ _).alloc (Nat.le_refl _) _ | exact Below.refl _ _⟩
set_option maxRecDepth 100000 in
theorem placeOk_9 (n pl ch:Int) (w:World):Calls Tryz.prog 98 #[.iface 145 (.agg #[.int .i64 n]),.int .i64 pl,.int .i64 ch] w fun e w'=>e=.returned (.bool (Plain.oneB n ch))∧Below w.heap.size w w':=by
 have n1:=fun w=>asn_1 145 (.agg #[.int .i64 n]) w (by decide)
 have n2:=fun w=>asn_2 145 (.agg #[.int .i64 n]) w (by decide)
 have n3:=fun w=>asn_3 145 (.agg #[.int .i64 n]) w (by decide)
 have n4:=fun w=>asn_4 145 (.agg #[.int .i64 n]) w (by decide)
 have n5:=fun w=>asn_5 145 (.agg #[.int .i64 n]) w (by decide)
 have n6:=fun w=>asn_6 145 (.agg #[.int .i64 n]) w (by decide)
 have n7:=fun w=>asn_7 145 (.agg #[.int .i64 n]) w (by decide)
 have n8:=fun w=>asn_8 145 (.agg #[.int .i64 n]) w (by decide)
 have y:=fun w=>asy_9 (.agg #[.int .i64 n]) w
 go_enter Tryz.func98,Tryz.ntmps98
 go_wp2_with (first | (go_at_call 104;refine (isReg_any _ _).mono ?_;rintro e w' ⟨rfl,rfl⟩) | (go_at_call 105;refine (isNum_any _ _).mono ?_;rintro e w' ⟨rfl,rfl⟩) | (go_at_call 49;refine (isOneOf_any _ _ _).mono ?_;rintro e w' ⟨rfl,rfl⟩) | (go_at_call 106;refine (areRegs_any _ _ _ _).mono ?_;rintro e w' ⟨rfl,rfl⟩) | (go_at_call 107;refine (takesOk_any _ _ _).mono ?_;rintro e w' ⟨rfl,rfl⟩))
 all_goals go_ret
 all_goals exact ⟨by simp [*],by first | exact (Below.refl _ _).alloc (Nat.le_refl _) _ | exact Below.refl _ _⟩
set_option maxRecDepth 100000 in
theorem placeOk_10 (a pl ch:Int) (w:World):Calls Tryz.prog 98 #[.iface 147 (.agg #[.int .i64 a]),.int .i64 pl,.int .i64 ch] w fun e w'=>e=.returned (.bool (Plain.regB a))∧Below w.heap.size w w':=by
 have n1:=fun w=>asn_1 147 (.agg #[.int .i64 a]) w (by decide)
 have n2:=fun w=>asn_2 147 (.agg #[.int .i64 a]) w (by decide)
 have n3:=fun w=>asn_3 147 (.agg #[.int .i64 a]) w (by decide)
 have n4:=fun w=>asn_4 147 (.agg #[.int .i64 a]) w (by decide)
 have n5:=fun w=>asn_5 147 (.agg #[.int .i64 a]) w (by decide)
 have n6:=fun w=>asn_6 147 (.agg #[.int .i64 a]) w (by decide)
 have n7:=fun w=>asn_7 147 (.agg #[.int .i64 a]) w (by decide)
 have n8:=fun w=>asn_8 147 (.agg #[.int .i64 a]) w (by decide)
 have n9:=fun w=>asn_9 147 (.agg #[.int .i64 a]) w (by decide)
 have y:=fun w=>asy_10 (.agg #[.int .i64 a]) w
 go_enter Tryz.func98,Tryz.ntmps98
 go_wp2_with (first | (go_at_call 104;refine (isReg_any _ _).mono ?_;rintro e w' ⟨rfl,rfl⟩) | (go_at_call 105;refine (isNum_any _ _).mono ?_;rintro e w' ⟨rfl,rfl⟩) | (go_at_call 49;refine (isOneOf_any _ _ _).mono ?_;rintro e w' ⟨rfl,rfl⟩) | (go_at_call 106;refine (areRegs_any _ _ _ _).mono ?_;rintro e w' ⟨rfl,rfl⟩) | (go_at_call 107;refine (takesOk_any _ _ _).mono ?_;rintro e w' ⟨rfl,rfl⟩))
 all_goals go_ret
 all_goals exact ⟨by simp [*],by first | exact (Below.refl _ _).alloc (Nat.le_refl _) _ | exact Below.refl _ _⟩
set_option maxRecDepth 100000 in
theorem placeOk_11 (n pl ch:Int) (w:World):Calls Tryz.prog 98 #[.iface 148 (.agg #[.int .i64 n]),.int .i64 pl,.int .i64 ch] w fun e w'=>e=.returned (.bool (Plain.oneB n pl))∧Below w.heap.size w w':=by
 have n1:=fun w=>asn_1 148 (.agg #[.int .i64 n]) w (by decide)
 have n2:=fun w=>asn_2 148 (.agg #[.int .i64 n]) w (by decide)
 have n3:=fun w=>asn_3 148 (.agg #[.int .i64 n]) w (by decide)
 have n4:=fun w=>asn_4 148 (.agg #[.int .i64 n]) w (by decide)
 have n5:=fun w=>asn_5 148 (.agg #[.int .i64 n]) w (by decide)
 have n6:=fun w=>asn_6 148 (.agg #[.int .i64 n]) w (by decide)
 have n7:=fun w=>asn_7 148 (.agg #[.int .i64 n]) w (by decide)
 have n8:=fun w=>asn_8 148 (.agg #[.int .i64 n]) w (by decide)
 have n9:=fun w=>asn_9 148 (.agg #[.int .i64 n]) w (by decide)
 have n10:=fun w=>asn_10 148 (.agg #[.int .i64 n]) w (by decide)
 have y:=fun w=>asy_11 (.agg #[.int .i64 n]) w
 go_enter Tryz.func98,Tryz.ntmps98
 go_wp2_with (first | (go_at_call 104;refine (isReg_any _ _).mono ?_;rintro e w' ⟨rfl,rfl⟩) | (go_at_call 105;refine (isNum_any _ _).mono ?_;rintro e w' ⟨rfl,rfl⟩) | (go_at_call 49;refine (isOneOf_any _ _ _).mono ?_;rintro e w' ⟨rfl,rfl⟩) | (go_at_call 106;refine (areRegs_any _ _ _ _).mono ?_;rintro e w' ⟨rfl,rfl⟩) | (go_at_call 107;refine (takesOk_any _ _ _).mono ?_;rintro e w' ⟨rfl,rfl⟩))
 all_goals go_ret
 all_goals exact ⟨by simp [*],by first | exact (Below.refl _ _).alloc (Nat.le_refl _) _ | exact Below.refl _ _⟩
set_option maxRecDepth 100000 in
theorem placeOk_12 (a n pl ch:Int) (w:World):Calls Tryz.prog 98 #[.iface 149 (.agg #[.int .i64 a,.int .i64 n]),.int .i64 pl,.int .i64 ch] w fun e w'=>e=.returned (.bool (Plain.regB a&&Plain.oneB n pl))∧Below w.heap.size w w':=by
 have n1:=fun w=>asn_1 149 (.agg #[.int .i64 a,.int .i64 n]) w (by decide)
 have n2:=fun w=>asn_2 149 (.agg #[.int .i64 a,.int .i64 n]) w (by decide)
 have n3:=fun w=>asn_3 149 (.agg #[.int .i64 a,.int .i64 n]) w (by decide)
 have n4:=fun w=>asn_4 149 (.agg #[.int .i64 a,.int .i64 n]) w (by decide)
 have n5:=fun w=>asn_5 149 (.agg #[.int .i64 a,.int .i64 n]) w (by decide)
 have n6:=fun w=>asn_6 149 (.agg #[.int .i64 a,.int .i64 n]) w (by decide)
 have n7:=fun w=>asn_7 149 (.agg #[.int .i64 a,.int .i64 n]) w (by decide)
 have n8:=fun w=>asn_8 149 (.agg #[.int .i64 a,.int .i64 n]) w (by decide)
 have n9:=fun w=>asn_9 149 (.agg #[.int .i64 a,.int .i64 n]) w (by decide)
 have n10:=fun w=>asn_10 149 (.agg #[.int .i64 a,.int .i64 n]) w (by decide)
 have n11:=fun w=>asn_11 149 (.agg #[.int .i64 a,.int .i64 n]) w (by decide)
 have y:=fun w=>asy_12 (.agg #[.int .i64 a,.int .i64 n]) w
 go_enter Tryz.func98,Tryz.ntmps98
 go_wp2_with (first | (go_at_call 104;refine (isReg_any _ _).mono ?_;rintro e w' ⟨rfl,rfl⟩) | (go_at_call 105;refine (isNum_any _ _).mono ?_;rintro e w' ⟨rfl,rfl⟩) | (go_at_call 49;refine (isOneOf_any _ _ _).mono ?_;rintro e w' ⟨rfl,rfl⟩) | (go_at_call 106;refine (areRegs_any _ _ _ _).mono ?_;rintro e w' ⟨rfl,rfl⟩) | (go_at_call 107;refine (takesOk_any _ _ _).mono ?_;rintro e w' ⟨rfl,rfl⟩))
 all_goals go_ret
 all_goals exact ⟨by simp [*],by first | exact (Below.refl _ _).alloc (Nat.le_refl _) _ | exact Below.refl _ _⟩
set_option maxRecDepth 100000 in
theorem placeOk_13 (pl ch:Int) (w:World):Calls Tryz.prog 98 #[.iface 151 (.agg #[]),.int .i64 pl,.int .i64 ch] w fun e w'=>e=.returned (.bool (true))∧Below w.heap.size w w':=by
 have n1:=fun w=>asn_1 151 (.agg #[]) w (by decide)
 have n2:=fun w=>asn_2 151 (.agg #[]) w (by decide)
 have n3:=fun w=>asn_3 151 (.agg #[]) w (by decide)
 have n4:=fun w=>asn_4 151 (.agg #[]) w (by decide)
 have n5:=fun w=>asn_5 151 (.agg #[]) w (by decide)
 have n6:=fun w=>asn_6 151 (.agg #[]) w (by decide)
 have n7:=fun w=>asn_7 151 (.agg #[]) w (by decide)
 have n8:=fun w=>asn_8 151 (.agg #[]) w (by decide)
 have n9:=fun w=>asn_9 151 (.agg #[]) w (by decide)
 have n10:=fun w=>asn_10 151 (.agg #[]) w (by decide)
 have n11:=fun w=>asn_11 151 (.agg #[]) w (by decide)
 have n12:=fun w=>asn_12 151 (.agg #[]) w (by decide)
 have y:=fun w=>asy_13 (.agg #[]) w
 go_enter Tryz.func98,Tryz.ntmps98
 go_wp2_with (first | (go_at_call 104;refine (isReg_any _ _).mono ?_;rintro e w' ⟨rfl,rfl⟩) | (go_at_call 105;refine (isNum_any _ _).mono ?_;rintro e w' ⟨rfl,rfl⟩) | (go_at_call 49;refine (isOneOf_any _ _ _).mono ?_;rintro e w' ⟨rfl,rfl⟩) | (go_at_call 106;refine (areRegs_any _ _ _ _).mono ?_;rintro e w' ⟨rfl,rfl⟩) | (go_at_call 107;refine (takesOk_any _ _ _).mono ?_;rintro e w' ⟨rfl,rfl⟩))
 all_goals go_ret
 all_goals exact ⟨by simp [*],by first | exact (Below.refl _ _).alloc (Nat.le_refl _) _ | exact Below.refl _ _⟩
end Go.Proofs.YtknffngbdakblaaGreat
