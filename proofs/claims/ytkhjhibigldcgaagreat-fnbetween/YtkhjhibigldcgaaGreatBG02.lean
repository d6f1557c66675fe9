/- Chapter 1: placeOk of each kind of place, for every argument, in every world. No condition. The plain side of chapter 1, kind by kind: a place is right just if what is not named is 0, the channels are so many, and what is named is right. No condition. -/
import Derived.Test.YtkhjhibigldcgaaGreatBG00
import Derived.Test.YtkhjhibigldcgaaGreatChecked
import Derived.WalkKit
import Derived.KernelRfl
import Derived.WalkSpells
import Derived.WalkLawsBesides
import Derived.Test.YtkhjhibigldcgaaGreatBLeaves
namespace Go.Proofs.YtkhjhibigldcgaaGreat
section
set_option linter.unusedSimpArgs false
set_option linter.unusedVariables false
set_option maxRecDepth 100000
open Go.RowKit
theorem asy_1 (v:Value) (w:World):(Instr.typeAssert (.iface 140 v) 123 140 true).run Tryz.prog w=.ok (.tuple #[v,.bool true]) w:=by kernel_rfl
theorem zero_1 (w:World):(do pure (Value.tuple #[← zeroValue 140,.bool false]):Sem Value).run Tryz.prog w=.ok (.tuple #[.agg #[.int .i64 0,.int .i64 0],.bool false]) w:=by kernel_rfl
theorem asn_1 (u:TypeId) (v:Value) (w:World) (h:u≠140):(Instr.typeAssert (.iface u v) 123 140 true).run Tryz.prog w=.ok (.tuple #[.agg #[.int .i64 0,.int .i64 0],.bool false]) w:=by
 have e:(Instr.typeAssert (.iface u v) 123 140 true).run Tryz.prog w=(if u=140 then (pure (Value.tuple #[v,.bool true]):Sem Value) else (do pure (Value.tuple #[← zeroValue 140,.bool false]))).run Tryz.prog w:=by kernel_rfl
 rw [e,if_neg h]
 exact zero_1 w
theorem asy_2 (v:Value) (w:World):(Instr.typeAssert (.iface 142 v) 123 142 true).run Tryz.prog w=.ok (.tuple #[v,.bool true]) w:=by kernel_rfl
theorem zero_2 (w:World):(do pure (Value.tuple #[← zeroValue 142,.bool false]):Sem Value).run Tryz.prog w=.ok (.tuple #[.agg #[.int .i64 0,.int .i64 0,.int .i64 0],.bool false]) w:=by kernel_rfl
theorem asn_2 (u:TypeId) (v:Value) (w:World) (h:u≠142):(Instr.typeAssert (.iface u v) 123 142 true).run Tryz.prog w=.ok (.tuple #[.agg #[.int .i64 0,.int .i64 0,.int .i64 0],.bool false]) w:=by
 have e:(Instr.typeAssert (.iface u v) 123 142 true).run Tryz.prog w=(if u=142 then (pure (Value.tuple #[v,.bool true]):Sem Value) else (do pure (Value.tuple #[← zeroValue 142,.bool false]))).run Tryz.prog w:=by kernel_rfl
 rw [e,if_neg h]
 exact zero_2 w
theorem asy_3 (v:Value) (w:World):(Instr.typeAssert (.iface 143 v) 123 143 true).run Tryz.prog w=.ok (.tuple #[v,.bool true]) w:=by kernel_rfl
theorem zero_3 (w:World):(do pure (Value.tuple #[← zeroValue 143,.bool false]):Sem Value).run Tryz.prog w=.ok (.tuple #[.agg #[.int .i64 0,.int .i64 0,.int .i64 0],.bool false]) w:=by kernel_rfl
theorem asn_3 (u:TypeId) (v:Value) (w:World) (h:u≠143):(Instr.typeAssert (.iface u v) 123 143 true).run Tryz.prog w=.ok (.tuple #[.agg #[.int .i64 0,.int .i64 0,.int .i64 0],.bool false]) w:=by
 have e:(Instr.typeAssert (.iface u v) 123 143 true).run Tryz.prog w=(if u=143 then (pure (Value.tuple #[v,.bool true]):Sem Value) else (do pure (Value.tuple #[← zeroValue 143,.bool false]))).run Tryz.prog w:=by kernel_rfl
 rw [e,if_neg h]
 exact zero_3 w
theorem asy_4 (v:Value) (w:World):(Instr.typeAssert (.iface 144 v) 123 144 true).run Tryz.prog w=.ok (.tuple #[v,.bool true]) w:=by kernel_rfl
theorem zero_4 (w:World):(do pure (Value.tuple #[← zeroValue 144,.bool false]):Sem Value).run Tryz.prog w=.ok (.tuple #[.agg #[.int .i64 0,.int .i64 0,.int .i64 0],.bool false]) w:=by kernel_rfl
theorem asn_4 (u:TypeId) (v:Value) (w:World) (h:u≠144):(Instr.typeAssert (.iface u v) 123 144 true).run Tryz.prog w=.ok (.tuple #[.agg #[.int .i64 0,.int .i64 0,.int .i64 0],.bool false]) w:=by
 have e:(Instr.typeAssert (.iface u v) 123 144 true).run Tryz.prog w=(if u=144 then (pure (Value.tuple #[v,.bool true]):Sem Value) else (do pure (Value.tuple #[← zeroValue 144,.bool false]))).run Tryz.prog w:=by kernel_rfl
 rw [e,if_neg h]
 exact zero_4 w
theorem asy_5 (v:Value) (w:World):(Instr.typeAssert (.iface 146 v) 123 146 true).run Tryz.prog w=.ok (.tuple #[v,.bool true]) w:=by kernel_rfl
theorem zero_5 (w:World):(do pure (Value.tuple #[← zeroValue 146,.bool false]):Sem Value).run Tryz.prog w=.ok (.tuple #[.agg #[.int .i64 0,.int .i64 0],.bool false]) w:=by kernel_rfl
theorem asn_5 (u:TypeId) (v:Value) (w:World) (h:u≠146):(Instr.typeAssert (.iface u v) 123 146 true).run Tryz.prog w=.ok (.tuple #[.agg #[.int .i64 0,.int .i64 0],.bool false]) w:=by
 have e:(Instr.typeAssert (.iface u v) 123 146 true).run Tryz.prog w=(if u=146 then (pure (Value.tuple #[v,.bool true]):Sem Value) else (do pure (Value.tuple #[← zeroValue 146,.bool false]))).run Tryz.prog w:=by kernel_rfl
 rw [e,if_neg h]
 exact zero_5 w
theorem asy_6 (v:Value) (w:World):(Instr.typeAssert (.iface 148 v) 123 148 true).run Tryz.prog w=.ok (.tuple #[v,.bool true]) w:=by kernel_rfl
theorem zero_6 (w:World):(do pure (Value.tuple #[← zeroValue 148,.bool false]):Sem Value).run Tryz.prog w=.ok (.tuple #[.agg #[.int .i64 0,.int .i64 0,.int .i64 0],.bool false]) w:=by kernel_rfl
theorem asn_6 (u:TypeId) (v:Value) (w:World) (h:u≠148):(Instr.typeAssert (.iface u v) 123 148 true).run Tryz.prog w=.ok (.tuple #[.agg #[.int .i64 0,.int .i64 0,.int .i64 0],.bool false]) w:=by
 have e:(Instr.typeAssert (.iface u v) 123 148 true).run Tryz.prog w=(if u=148 then (pure (Value.tuple #[v,.bool true]):Sem Value) else (do pure (Value.tuple #[← zeroValue 148,.bool false]))).run Tryz.prog w:=by kernel_rfl
 rw [e,if_neg h]
 exact zero_6 w
theorem asy_7 (v:Value) (w:World):(Instr.typeAssert (.iface 150 v) 123 150 true).run Tryz.prog w=.ok (.tuple #[v,.bool true]) w:=by kernel_rfl
theorem zero_7 (w:World):(do pure (Value.tuple #[← zeroValue 150,.bool false]):Sem Value).run Tryz.prog w=.ok (.tuple #[.agg #[.int .i64 0,.int .i64 0,.int .i64 0],.bool false]) w:=by kernel_rfl
theorem asn_7 (u:TypeId) (v:Value) (w:World) (h:u≠150):(Instr.typeAssert (.iface u v) 123 150 true).run Tryz.prog w=.ok (.tuple #[.agg #[.int .i64 0,.int .i64 0,.int .i64 0],.bool false]) w:=by
 have e:(Instr.typeAssert (.iface u v) 123 150 true).run Tryz.prog w=(if u=150 then (pure (Value.tuple #[v,.bool true]):Sem Value) else (do pure (Value.tuple #[← zeroValue 150,.bool false]))).run Tryz.prog w:=by kernel_rfl
 rw [e,if_neg h]
 exact zero_7 w
theorem asy_8 (v:Value) (w:World):(Instr.typeAssert (.iface 151 v) 123 151 true).run Tryz.prog w=.ok (.tuple #[v,.bool true]) w:=by kernel_rfl
theorem zero_8 (w:World):(do pure (Value.tuple #[← zeroValue 151,.bool false]):Sem Value).run Tryz.prog w=.ok (.tuple #[.agg #[.int .i64 0,.int .i64 0,.int .i64 0],.bool false]) w:=by kernel_rfl
theorem asn_8 (u:TypeId) (v:Value) (w:World) (h:u≠151):(Instr.typeAssert (.iface u v) 123 151 true).run Tryz.prog w=.ok (.tuple #[.agg #[.int .i64 0,.int .i64 0,.int .i64 0],.bool false]) w:=by
 have e:(Instr.typeAssert (.iface u v) 123 151 true).run Tryz.prog w=(if u=151 then (pure (Value.tuple #[v,.bool true]):Sem Value) else (do pure (Value.tuple #[← zeroValue 151,.bool false]))).run Tryz.prog w:=by kernel_rfl
 rw [e,if_neg h]
 exact zero_8 w
theorem asy_9 (v:Value) (w:World):(Instr.typeAssert (.iface 153 v) 123 153 true).run Tryz.prog w=.ok (.tuple #[v,.bool true]) w:=by kernel_rfl
theorem zero_9 (w:World):(do pure (Value.tuple #[← zeroValue 153,.bool false]):Sem Value).run Tryz.prog w=.ok (.tuple #[.agg #[.int .i64 0],.bool false]) w:=by kernel_rfl
theorem asn_9 (u:TypeId) (v:Value) (w:World) (h:u≠153):(Instr.typeAssert (.iface u v) 123 153 true).run Tryz.prog w=.ok (.tuple #[.agg #[.int .i64 0],.bool false]) w:=by
 have e:(Instr.typeAssert (.iface u v) 123 153 true).run Tryz.prog w=(if u=153 then (pure (Value.tuple #[v,.bool true]):Sem Value) else (do pure (Value.tuple #[← zeroValue 153,.bool false]))).run Tryz.prog w:=by kernel_rfl
 rw [e,if_neg h]
 exact zero_9 w
theorem asy_10 (v:Value) (w:World):(Instr.typeAssert (.iface 155 v) 123 155 true).run Tryz.prog w=.ok (.tuple #[v,.bool true]) w:=by kernel_rfl
theorem zero_10 (w:World):(do pure (Value.tuple #[← zeroValue 155,.bool false]):Sem Value).run Tryz.prog w=.ok (.tuple #[.agg #[.int .i64 0],.bool false]) w:=by kernel_rfl
theorem asn_10 (u:TypeId) (v:Value) (w:World) (h:u≠155):(Instr.typeAssert (.iface u v) 123 155 true).run Tryz.prog w=.ok (.tuple #[.agg #[.int .i64 0],.bool false]) w:=by
 have e:(Instr.typeAssert (.iface u v) 123 155 true).run Tryz.prog w=(if u=155 then (pure (Value.tuple #[v,.bool true]):Sem Value) else (do pure (Value.tuple #[← zeroValue 155,.bool false]))).run Tryz.prog w:=by kernel_rfl
 rw [e,if_neg h]
 exact zero_10 w
theorem asy_11 (v:Value) (w:World):(Instr.typeAssert (.iface 156 v) 123 156 true).run Tryz.prog w=.ok (.tuple #[v,.bool true]) w:=by kernel_rfl
theorem zero_11 (w:World):(do pure (Value.tuple #[← zeroValue 156,.bool false]):Sem Value).run Tryz.prog w=.ok (.tuple #[.agg #[.int .i64 0],.bool false]) w:=by kernel_rfl
theorem asn_11 (u:TypeId) (v:Value) (w:World) (h:u≠156):(Instr.typeAssert (.iface u v) 123 156 true).run Tryz.prog w=.ok (.tuple #[.agg #[.int .i64 0],.bool false]) w:=by
 have e:(Instr.typeAssert (.iface u v) 123 156 true).run Tryz.prog w=(if u=156 then (pure (Value.tuple #[v,.bool true]):Sem Value) else (do pure (Value.tuple #[← zeroValue 156,.bool false]))).run Tryz.prog w:=by kernel_rfl
 rw [e,if_neg h]
 exact zero_11 w
theorem asy_12 (v:Value) (w:World):(Instr.typeAssert (.iface 157 v) 123 157 true).run Tryz.prog w=.ok (.tuple #[v,.bool true]) w:=by kernel_rfl
theorem zero_12 (w:World):(do pure (Value.tuple #[← zeroValue 157,.bool false]):Sem Value).run Tryz.prog w=.ok (.tuple #[.agg #[.int .i64 0,.int .i64 0],.bool false]) w:=by kernel_rfl
theorem asn_12 (u:TypeId) (v:Value) (w:World) (h:u≠157):(Instr.typeAssert (.iface u v) 123 157 true).run Tryz.prog w=.ok (.tuple #[.agg #[.int .i64 0,.int .i64 0],.bool false]) w:=by
 have e:(Instr.typeAssert (.iface u v) 123 157 true).run Tryz.prog w=(if u=157 then (pure (Value.tuple #[v,.bool true]):Sem Value) else (do pure (Value.tuple #[← zeroValue 157,.bool false]))).run Tryz.prog w:=by kernel_rfl
 rw [e,if_neg h]
 exact zero_12 w
theorem asy_13 (v:Value) (w:World):(Instr.typeAssert (.iface 159 v) 123 159 true).run Tryz.prog w=.ok (.tuple #[v,.bool true]) w:=by kernel_rfl
set_option maxRecDepth 100000 in
theorem placeOk_1 (r n pl ch:Int) (w:World):Calls Tryz.prog 74 #[.iface 140 (.agg #[.int .i64 r,.int .i64 n]),.int .i64 pl,.int .i64 ch] w fun e w'=>e=.returned (.bool (Plain.regB r&&Plain.numB n))∧Below w.heap.size w w':=by
 have y:=fun w=>asy_1 (.agg #[.int .i64 r,.int .i64 n]) w
 go_enter Tryz.func74,Tryz.ntmps74
 go_wp2_with (first | (go_at_call 99;refine (isReg_any _ _).mono ?_;rintro e w' ⟨rfl,rfl⟩) | (go_at_call 100;refine (isNum_any _ _).mono ?_;rintro e w' ⟨rfl,rfl⟩) | (go_at_call 12;refine (isOneOf_any _ _ _).mono ?_;rintro e w' ⟨rfl,rfl⟩) | (go_at_call 101;refine (areRegs_any _ _ _ _).mono ?_;rintro e w' ⟨rfl,rfl⟩) | (go_at_call 102;refine (takesOk_any _ _ _).mono ?_;rintro e w' ⟨rfl,rfl⟩))
 all_goals go_ret
 all_goals exact ⟨by simp [*],by first | exact (Below.refl _ _).alloc (Nat.le_refl _) _ | exact Below.refl _ _⟩
set_option maxRecDepth 100000 in
theorem placeOk_2 (r a b pl ch:Int) (w:World):Calls Tryz.prog 74 #[.iface 142 (.agg #[.int .i64 r,.int .i64 a,.int .i64 b]),.int .i64 pl,.int .i64 ch] w fun e w'=>e=.returned (.bool (Plain.areB r a b))∧Below w.heap.size w w':=by
 have n1:=fun w=>asn_1 142 (.agg #[.int .i64 r,.int .i64 a,.int .i64 b]) w (by decide)
 have y:=fun w=>asy_2 (.agg #[.int .i64 r,.int .i64 a,.int .i64 b]) w
 go_enter Tryz.func74,Tryz.ntmps74
 go_wp2_with (first | (go_at_call 99;refine (isReg_any _ _).mono ?_;rintro e w' ⟨rfl,rfl⟩) | (go_at_call 100;refine (isNum_any _ _).mono ?_;rintro e w' ⟨rfl,rfl⟩) | (go_at_call 12;refine (isOneOf_any _ _ _).mono ?_;rintro e w' ⟨rfl,rfl⟩) | (go_at_call 101;refine (areRegs_any _ _ _ _).mono ?_;rintro e w' ⟨rfl,rfl⟩) | (go_at_call 102;refine (takesOk_any _ _ _).mono ?_;rintro e w' ⟨rfl,rfl⟩))
 all_goals go_ret
 all_goals exact ⟨by simp [*],by first | exact (Below.refl _ _).alloc (Nat.le_refl _) _ | exact Below.refl _ _⟩
set_option maxRecDepth 100000 in
theorem placeOk_3 (r a b pl ch:Int) (w:World):Calls Tryz.prog 74 #[.iface 143 (.agg #[.int .i64 r,.int .i64 a,.int .i64 b]),.int .i64 pl,.int .i64 ch] w fun e w'=>e=.returned (.bool (Plain.areB r a b))∧Below w.heap.size w w':=by
 have n1:=fun w=>asn_1 143 (.agg #[.int .i64 r,.int .i64 a,.int .i64 b]) w (by decide)
 have n2:=fun w=>asn_2 143 (.agg #[.int .i64 r,.int .i64 a,.int .i64 b]) w (by decide)
 have y:=fun w=>asy_3 (.agg #[.int .i64 r,.int .i64 a,.int .i64 b]) w
 go_enter Tryz.func74,Tryz.ntmps74
 go_wp2_with (first | (go_at_call 99;refine (isReg_any _ _).mono ?_;rintro e w' ⟨rfl,rfl⟩) | (go_at_call 100;refine (isNum_any _ _).mono ?_;rintro e w' ⟨rfl,rfl⟩) | (go_at_call 12;refine (isOneOf_any _ _ _).mono ?_;rintro e w' ⟨rfl,rfl⟩) | (go_at_call 101;refine (areRegs_any _ _ _ _).mono ?_;rintro e w' ⟨rfl,rfl⟩) | (go_at_call 102;refine (takesOk_any _ _ _).mono ?_;rintro e w' ⟨rfl,rfl⟩))
 all_goals go_ret
 all_goals exact ⟨by simp [*],by first | exact (Below.refl _ _).alloc (Nat.le_refl _) _ | exact Below.refl _ _⟩
set_option maxRecDepth 100000 in
theorem placeOk_4 (r a b pl ch:Int) (w:World):Calls Tryz.prog 74 #[.iface 144 (.agg #[.int .i64 r,.int .i64 a,.int .i64 b]),.int .i64 pl,.int .i64 ch] w fun e w'=>e=.returned (.bool (Plain.areB r a b))∧Below w.heap.size w w':=by
 have n1:=fun w=>asn_1 144 (.agg #[.int .i64 r,.int .i64 a,.int .i64 b]) w (by decide)
 have n2:=fun w=>asn_2 144 (.agg #[.int .i64 r,.int .i64 a,.int .i64 b]) w (by decide)
 have n3:=fun w=>asn_3 144 (.agg #[.int .i64 r,.int .i64 a,.int .i64 b]) w (by decide)
 have y:=fun w=>asy_4 (.agg #[.int .i64 r,.int .i64 a,.int .i64 b]) w
 go_enter Tryz.func74,Tryz.ntmps74
 go_wp2_with (first | (go_at_call 99;refine (isReg_any _ _).mono ?_;rintro e w' ⟨rfl,rfl⟩) | (go_at_call 100;refine (isNum_any _ _).mono ?_;rintro e w' ⟨rfl,rfl⟩) | (go_at_call 12;refine (isOneOf_any _ _ _).mono ?_;rintro e w' ⟨rfl,rfl⟩) | (go_at_call 101;refine (areRegs_any _ _ _ _).mono ?_;rintro e w' ⟨rfl,rfl⟩) | (go_at_call 102;refine (takesOk_any _ _ _).mono ?_;rintro e w' ⟨rfl,rfl⟩))
 all_goals go_ret
 all_goals exact ⟨by simp [*],by first | exact (Below.refl _ _).alloc (Nat.le_refl _) _ | exact Below.refl _ _⟩
set_option maxRecDepth 100000 in
theorem placeOk_5 (a n pl ch:Int) (w:World):Calls Tryz.prog 74 #[.iface 146 (.agg #[.int .i64 a,.int .i64 n]),.int .i64 pl,.int .i64 ch] w fun e w'=>e=.returned (.bool (Plain.regB a&&Plain.oneB n ch))∧Below w.heap.size w w':=by
 have n1:=fun w=>asn_1 146 (.agg #[.int .i64 a,.int .i64 n]) w (by decide)
 have n2:=fun w=>asn_2 146 (.agg #[.int .i64 a,.int .i64 n]) w (by decide)
 have n3:=fun w=>asn_3 146 (.agg #[.int .i64 a,.int .i64 n]) w (by decide)
 have n4:=fun w=>asn_4 146 (.agg #[.int .i64 a,.int .i64 n]) w (by decide)
 have y:=fun w=>asy_5 (.agg #[.int .i64 a,.int .i64 n]) w
 go_enter Tryz.func74,Tryz.ntmps74
 go_wp2_with (first | (go_at_call 99;refine (isReg_any _ _).mono ?_;rintro e w' ⟨rfl,rfl⟩) | (go_at_call 100;refine (isNum_any _ _).mono ?_;rintro e w' ⟨rfl,rfl⟩) | (go_at_call 12;refine (isOneOf_any _ _ _).mono ?_;rintro e w' ⟨rfl,rfl⟩) | (go_at_call 101;refine (areRegs_any _ _ _ _).mono ?_;rintro e w' ⟨rfl,rfl⟩) | (go_at_call 102;refine (takesOk_any _ _ _).mono ?_;rintro e w' ⟨rfl,rfl⟩))
 all_goals go_ret
 all_goals exact ⟨by simp [*],by first | exact (Below.refl _ _).alloc (Nat.le_refl _) _ | exact Below.refl _ _⟩
set_option maxRecDepth 100000 in
theorem placeOk_6 (r b n pl ch:Int) (w:World):Calls Tryz.prog 74 #[.iface 148 (.agg #[.int .i64 r,.int .i64 b,.int .i64 n]),.int .i64 pl,.int .i64 ch] w fun e w'=>e=.returned (.bool (Plain.takesB r b&&Plain.oneB n ch))∧Below w.heap.size w w':=by
 have n1:=fun w=>asn_1 148 (.agg #[.int .i64 r,.int .i64 b,.int .i64 n]) w (by decide)
 have n2:=fun w=>asn_2 148 (.agg #[.int .i64 r,.int .i64 b,.int .i64 n]) w (by decide)
 have n3:=fun w=>asn_3 148 (.agg #[.int .i64 r,.int .i64 b,.int .i64 n]) w (by decide)
 have n4:=fun w=>asn_4 148 (.agg #[.int .i64 r,.int .i64 b,.int .i64 n]) w (by decide)
 have n5:=fun w=>asn_5 148 (.agg #[.int .i64 r,.int .i64 b,.int .i64 n]) w (by decide)
 have y:=fun w=>asy_6 (.agg #[.int .i64 r,.int .i64 b,.int .i64 n]) w
 go_enter Tryz.func74,Tryz.ntmps74
 go_wp2_with (first | (go_at_call 99;refine (isReg_any _ _).mono ?_;rintro e w' ⟨rfl,rfl⟩) | (go_at_call 100;refine (isNum_any _ _).mono ?_;rintro e w' ⟨rfl,rfl⟩) | (go_at_call 12;refine (isOneOf_any _ _ _).mono ?_;rintro e w' ⟨rfl,rfl⟩) | (go_at_call 101;refine (areRegs_any _ _ _ _).mono ?_;rintro e w' ⟨rfl,rfl⟩) | (go_at_call 102;refine (takesOk_any _ _ _).mono ?_;rintro e w' ⟨rfl,rfl⟩))
 all_goals go_ret
 all_goals exact ⟨by simp [*],by first | exact (Below.refl _ _).alloc (Nat.le_refl _) _ | exact Below.refl _ _⟩
set_option maxRecDepth 100000 in
theorem placeOk_7 (r a n pl ch:Int) (w:World):Calls Tryz.prog 74 #[.iface 150 (.agg #[.int .i64 r,.int .i64 a,.int .i64 n]),.int .i64 pl,.int .i64 ch] w fun e w'=>e=.returned (.bool (Plain.regB r&&Plain.regB a&&Plain.oneB n ch))∧Below w.heap.size w w':=by
 have n1:=fun w=>asn_1 150 (.agg #[.int .i64 r,.int .i64 a,.int .i64 n]) w (by decide)
 have n2:=fun w=>asn_2 150 (.agg #[.int .i64 r,.int .i64 a,.int .i64 n]) w (by decide)
 have n3:=fun w=>asn_3 150 (.agg #[.int .i64 r,.int .i64 a,.int .i64 n]) w (by decide)
 have n4:=fun w=>asn_4 150 (.agg #[.int .i64 r,.int .i64 a,.int .i64 n]) w (by decide)
 have n5:=fun w=>asn_5 150 (.agg #[.int .i64 r,.int .i64 a,.int .i64 n]) w (by decide)
 have n6:=fun w=>asn_6 150 (.agg #[.int .i64 r,.int .i64 a,.int .i64 n]) w (by decide)
 have y:=fun w=>asy_7 (.agg #[.int .i64 r,.int .i64 a,.int .i64 n]) w
 go_enter Tryz.func74,Tryz.ntmps74
 go_wp2_with (first | (go_at_call 99;refine (isReg_any _ _).mono ?_;rintro e w' ⟨rfl,rfl⟩) | (go_at_call 100;refine (isNum_any _ _).mono ?_;rintro e w' ⟨rfl,rfl⟩) | (go_at_call 12;refine (isOneOf_any _ _ _).mono ?_;rintro e w' ⟨rfl,rfl⟩) | (go_at_call 101;refine (areRegs_any _ _ _ _).mono ?_;rintro e w' ⟨rfl,rfl⟩) | (go_at_call 102;refine (takesOk_any _ _ _).mono ?_;rintro e w' ⟨rfl,rfl⟩))
 all_goals go_ret
 all_goals exact ⟨by simp [*],by first | exact (Below.refl _ _).alloc (Nat.le_refl _) _ | exact Below.refl _ _⟩
set_option maxRecDepth 100000 in
theorem placeOk_8 (r b n pl ch:Int) (w:World):Calls Tryz.prog 74 #[.iface 151 (.agg #[.int .i64 r,.int .i64 b,.int .i64 n]),.int .i64 pl,.int .i64 ch] w fun e w'=>e=.returned (.bool (Plain.takesB r b&&Plain.oneB n ch))∧Below w.heap.size w w':=by
 have n1:=fun w=>asn_1 151 (.agg #[.int .i64 r,.int .i64 b,.int .i64 n]) w (by decide)
 have n2:=fun w=>asn_2 151 (.agg #[.int .i64 r,.int .i64 b,.int .i64 n]) w (by decide)
 have n3:=fun w=>asn_3 151 (.agg #[.int .i64 r,.int .i64 b,.int .i64 n]) w (by decide)
 have n4:=fun w=>asn_4 151 (.agg #[.int .i64 r,.int .i64 b,.int .i64 n]) w (by decide)
 have n5:=fun w=>asn_5 151 (.agg #[.int .i64 r,.int .i64 b,.int .i64 n]) w (by decide)
 have n6:=fun w=>asn_6 151 (.agg #[.int .i64 r,.int .i64 b,.int .i64 n]) w (by decide)
 have n7:=fun w=>asn_7 151 (.agg #[.int .i64 r,.int .i64 b,.int .i64 n]) w (by decide)
 have y:=fun w=>asy_8 (.agg #[.int .i64 r,.int .i64 b,.int .i64 n]) w
 go_enter Tryz.func74,Tryz.ntmps74
 go_wp2_with (first | (go_at_call 99;refine (isReg_any _ _).mono ?_;rintro e w' ⟨rfl,rfl⟩) | (go_at_call 100;refine (isNum_any _ _).mono ?_;rintro e w' ⟨rfl,rfl⟩) | (go_at_call 12;refine (isOneOf_any _ _ _).mono ?_;rintro e w' ⟨rfl,rfl⟩) | (go_at_call 101;refine (areRegs_any _ _ _ _).mono ?_;rintro e w' ⟨rfl,rfl⟩) | (go_at_call 102;refine (takesOk_any _ _ _).mono ?_;rintro e w' ⟨rfl,rfl⟩))
 all_goals go_ret
 all_goals exact ⟨by simp [*],by first | exact (Below.refl _ _).alloc (Nat.le_refl _) _ | exact Below.refl _ _⟩
set_option maxRecDepth 100000 in
theorem placeOk_9 (n pl ch:Int) (w:World):Calls Tryz.prog 74 #[.iface 153 (.agg #[.int .i64 n]),.int .i64 pl,.int .i64 ch] w fun e w'=>e=.returned (.bool (Plain.oneB n ch))∧Below w.heap.size w w':=by
 have n1:=fun w=>asn_1 153 (.agg #[.int .i64 n]) w (by decide)
 have n2:=fun w=>asn_2 153 (.agg #[.int .i64 n]) w (by decide)
 have n3:=fun w=>asn_3 153 (.agg #[.int .i64 n]) w (by decide)
 have n4:=fun w=>asn_4 153 (.agg #[.int .i64 n]) w (by decide)
 have n5:=fun w=>asn_5 153 (.agg #[.int .i64 n]) w (by decide)
 have n6:=fun w=>asn_6 153 (.agg #[.int .i64 n]) w (by decide)
 have n7:=fun w=>asn_7 153 (.agg #[.int .i64 n]) w (by decide)
 have n8:=fun w=>asn_8 153 (.agg #[.int .i64 n]) w (by decide)
 have y:=fun w=>asy_9 (.agg #[.int .i64 n]) w
 go_enter Tryz.func74,Tryz.ntmps74
 go_wp2_with (first | (go_at_call 99;refine (isReg_any _ _).mono ?_;rintro e w' ⟨rfl,rfl⟩) | (go_at_call 100;refine (isNum_any _ _).mono ?_;rintro e w' ⟨rfl,rfl⟩) | (go_at_call 12;refine (isOneOf_any _ _ _).mono ?_;rintro e w' ⟨rfl,rfl⟩) | (go_at_call 101;refine (areRegs_any _ _ _ _).mono ?_;rintro e w' ⟨rfl,rfl⟩) | (go_at_call 102;refine (takesOk_any _ _ _).mono ?_;rintro e w' ⟨rfl,rfl⟩))
 all_goals go_ret
 all_goals exact ⟨by simp [*],by first | exact (Below.refl _ _).alloc (Nat.le_refl _) _ | exact Below.refl _ _⟩
set_option maxRecDepth 100000 in
theorem placeOk_10 (a pl ch:Int) (w:World):Calls Tryz.prog 74 #[.iface 155 (.agg #[.int .i64 a]),.int .i64 pl,.int .i64 ch] w fun e w'=>e=.returned (.bool (Plain.regB a))∧Below w.heap.size w w':=by
 have n1:=fun w=>asn_1 155 (.agg #[.int .i64 a]) w (by decide)
 have n2:=fun w=>asn_2 155 (.agg #[.int .i64 a]) w (by decide)
 have n3:=fun w=>asn_3 155 (.agg #[.int .i64 a]) w (by decide)
 have n4:=fun w=>asn_4 155 (.agg #[.int .i64 a]) w (by decide)
 have n5:=fun w=>asn_5 155 (.agg #[.int .i64 a]) w (by decide)
 have n6:=fun w=>asn_6 155 (.agg #[.int .i64 a]) w (by decide)
 have n7:=fun w=>asn_7 155 (.agg #[.int .i64 a]) w (by decide)
 have n8:=fun w=>asn_8 155 (.agg #[.int .i64 a]) w (by decide)
 have n9:=fun w=>asn_9 155 (.agg #[.int .i64 a]) w (by decide)
 have y:=fun w=>asy_10 (.agg #[.int .i64 a]) w
 go_enter Tryz.func74,Tryz.ntmps74
 go_wp2_with (first | (go_at_call 99;refine (isReg_any _ _).mono ?_;rintro e w' ⟨rfl,rfl⟩) | (go_at_call 100;refine (isNum_any _ _).mono ?_;rintro e w' ⟨rfl,rfl⟩) | (go_at_call 12;refine (isOneOf_any _ _ _).mono ?_;rintro e w' ⟨rfl,rfl⟩) | (go_at_call 101;refine (areRegs_any _ _ _ _).mono ?_;rintro e w' ⟨rfl,rfl⟩) | (go_at_call 102;refine (takesOk_any _ _ _).mono ?_;rintro e w' ⟨rfl,rfl⟩))
 all_goals go_ret
 all_goals exact ⟨by simp [*],by first | exact (Below.refl _ _).alloc (Nat.le_refl _) _ | exact Below.refl _ _⟩
set_option maxRecDepth 100000 in
theorem placeOk_11 (n pl ch:Int) (w:World):Calls Tryz.prog 74 #[.iface 156 (.agg #[.int .i64 n]),.int .i64 pl,.int .i64 ch] w fun e w'=>e=.returned (.bool (Plain.oneB n pl))∧Below w.heap.size w w':=by
 have n1:=fun w=>asn_1 156 (.agg #[.int .i64 n]) w (by decide)
 have n2:=fun w=>asn_2 156 (.agg #[.int .i64 n]) w (by decide)
 have n3:=fun w=>asn_3 156 (.agg #[.int .i64 n]) w (by decide)
 have n4:=fun w=>asn_4 156 (.agg #[.int .i64 n]) w (by decide)
 have n5:=fun w=>asn_5 156 (.agg #[.int .i64 n]) w (by decide)
 have n6:=fun w=>asn_6 156 (.agg #[.int .i64 n]) w (by decide)
 have n7:=fun w=>asn_7 156 (.agg #[.int .i64 n]) w (by decide)
 have n8:=fun w=>asn_8 156 (.agg #[.int .i64 n]) w (by decide)
 have n9:=fun w=>asn_9 156 (.agg #[.int .i64 n]) w (by decide)
 have n10:=fun w=>asn_10 156 (.agg #[.int .i64 n]) w (by decide)
 have y:=fun w=>asy_11 (.agg #[.int .i64 n]) w
 go_enter Tryz.func74,Tryz.ntmps74
 go_wp2_with (first | (go_at_call 99;refine (isReg_any _ _).mono ?_;rintro e w' ⟨rfl,rfl⟩) | (go_at_call 100;refine (isNum_any _ _).mono ?_;rintro e w' ⟨rfl,rfl⟩) | (go_at_call 12;refine (isOneOf_any _ _ _).mono ?_;rintro e w' ⟨rfl,rfl⟩) | (go_at_call 101;refine (areRegs_any _ _ _ _).mono ?_;rintro e w' ⟨rfl,rfl⟩) | (go_at_call 102;refine (takesOk_any _ _ _).mono ?_;rintro e w' ⟨rfl,rfl⟩))
 all_goals go_ret
 all_goals exact ⟨by simp [*],by first | exact (Below.refl _ _).alloc (Nat.le_refl _) _ | exact Below.refl _ _⟩
set_option maxRecDepth 100000 in
theorem placeOk_12 (a n pl ch:Int) (w:World):Calls Tryz.prog 74 #[.iface 157 (.agg #[.int .i64 a,.int .i64 n]),.int .i64 pl,.int .i64 ch] w fun e w'=>e=.returned (.bool (Plain.regB a&&Plain.oneB n pl))∧Below w.heap.size w w':=by
 have n1:=fun w=>asn_1 157 (.agg #[.int .i64 a,.int .i64 n]) w (by decide)
 have n2:=fun w=>asn_2 157 (.agg #[.int .i64 a,.int .i64 n]) w (by decide)
 have n3:=fun w=>asn_3 157 (.agg #[.int .i64 a,.int .i64 n]) w (by decide)
 have n4:=fun w=>asn_4 157 (.agg #[.int .i64 a,.int .i64 n]) w (by decide)
 have n5:=fun w=>asn_5 157 (.agg #[.int .i64 a,.int .i64 n]) w (by decide)
 have n6:=fun w=>asn_6 157 (.agg #[.int .i64 a,.int .i64 n]) w (by decide)
 have n7:=fun w=>asn_7 157 (.agg #[.int .i64 a,.int .i64 n]) w (by decide)
 have n8:=fun w=>asn_8 157 (.agg #[.int .i64 a,.int .i64 n]) w (by decide)
 have n9:=fun w=>asn_9 157 (.agg #[.int .i64 a,.int .i64 n]) w (by decide)
 have n10:=fun w=>asn_10 157 (.agg #[.int .i64 a,.int .i64 n]) w (by decide)
 have n11:=fun w=>asn_11 157 (.agg #[.int .i64 a,.int .i64 n]) w (by decide)
 have y:=fun w=>asy_12 (.agg #[.int .i64 a,.int .i64 n]) w
 go_enter Tryz.func74,Tryz.ntmps74
 go_wp2_with (first | (go_at_call 99;refine (isReg_any _ _).mono ?_;rintro e w' ⟨rfl,rfl⟩) | (go_at_call 100;refine (isNum_any _ _).mono ?_;rintro e w' ⟨rfl,rfl⟩) | (go_at_call 12;refine (isOneOf_any _ _ _).mono ?_;rintro e w' ⟨rfl,rfl⟩) | (go_at_call 101;refine (areRegs_any _ _ _ _).mono ?_;rintro e w' ⟨rfl,rfl⟩) | (go_at_call 102;refine (takesOk_any _ _ _).mono ?_;rintro e w' ⟨rfl,rfl⟩))
 all_goals go_ret
 all_goals exact ⟨by simp [*],by first | exact (Below.refl _ _).alloc (Nat.le_refl _) _ | exact Below.refl _ _⟩
set_option maxRecDepth 100000 in
theorem placeOk_13 (pl ch:Int) (w:World):Calls Tryz.prog 74 #[.iface 159 (.agg #[]),.int .i64 pl,.int .i64 ch] w fun e w'=>e=.returned (.bool (true))∧Below w.heap.size w w':=by
 have n1:=fun w=>asn_1 159 (.agg #[]) w (by decide)
 have n2:=fun w=>asn_2 159 (.agg #[]) w (by decide)
 have n3:=fun w=>asn_3 159 (.agg #[]) w (by decide)
 have n4:=fun w=>asn_4 159 (.agg #[]) w (by decide)
 have n5:=fun w=>asn_5 159 (.agg #[]) w (by decide)
 have n6:=fun w=>asn_6 159 (.agg #[]) w (by decide)
 have n7:=fun w=>asn_7 159 (.agg #[]) w (by decide)
 have n8:=fun w=>asn_8 159 (.agg #[]) w (by decide)
 have n9:=fun w=>asn_9 159 (.agg #[]) w (by decide)
 have n10:=fun w=>asn_10 159 (.agg #[]) w (by decide)
 have n11:=fun w=>asn_11 159 (.agg #[]) w (by decide)
 have n12:=fun w=>asn_12 159 (.agg #[]) w (by decide)
 have y:=fun w=>asy_13 (.agg #[]) w
 go_enter Tryz.func74,Tryz.ntmps74
 go_wp2_with (first | (go_at_call 99;refine (isReg_any _ _).mono ?_;rintro e w' ⟨rfl,rfl⟩) | (go_at_call 100;refine (isNum_any _ _).mono ?_;rintro e w' ⟨rfl,rfl⟩) | (go_at_call 12;refine (isOneOf_any _ _ _).mono ?_;rintro e w' ⟨rfl,rfl⟩) | (go_at_call 101;refine (areRegs_any _ _ _ _).mono ?_;rintro e w' ⟨rfl,rfl⟩) | (go_at_call 102;refine (takesOk_any _ _ _).mono ?_;rintro e w' ⟨rfl,rfl⟩))
 all_goals go_ret
 all_goals exact ⟨by simp [*],by first | exact (Below.refl _ _).alloc (Nat.le_refl _) _ | exact Below.refl _ _⟩
end
section
set_option linter.unusedSimpArgs false
set_option linter.unusedVariables false
set_option maxRecDepth 100000
namespace Plain
theorem insB_1 (r a b n pl ch:Int):insB 1 r a b n pl ch=(decide (a=0∧b=0)&&(chansB ch&&(regB r&&numB n))):=by
 rw [Bool.eq_iff_iff]
 simp [insB,chansB,regB,numB,oneB,areB,takesB]
 try omega
theorem insB_2 (r a b n pl ch:Int):insB 2 r a b n pl ch=(decide (n=0)&&(chansB ch&&(areB r a b))):=by
 rw [Bool.eq_iff_iff]
 simp [insB,chansB,regB,numB,oneB,areB,takesB]
 try omega
theorem insB_3 (r a b n pl ch:Int):insB 3 r a b n pl ch=(decide (n=0)&&(chansB ch&&(areB r a b))):=by
 rw [Bool.eq_iff_iff]
 simp [insB,chansB,regB,numB,oneB,areB,takesB]
 try omega
theorem insB_4 (r a b n pl ch:Int):insB 4 r a b n pl ch=(decide (n=0)&&(chansB ch&&(areB r a b))):=by
 rw [Bool.eq_iff_iff]
 simp [insB,chansB,regB,numB,oneB,areB,takesB]
 try omega
theorem insB_5 (r a b n pl ch:Int):insB 5 r a b n pl ch=(decide (r=0∧b=0)&&(chansB ch&&(regB a&&oneB n ch))):=by
 rw [Bool.eq_iff_iff]
 simp [insB,chansB,regB,numB,oneB,areB,takesB]
 try omega
theorem insB_6 (r a b n pl ch:Int):insB 6 r a b n pl ch=(decide (a=0)&&(chansB ch&&(takesB r b&&oneB n ch))):=by
 rw [Bool.eq_iff_iff]
 simp [insB,chansB,regB,numB,oneB,areB,takesB]
 try omega
theorem insB_7 (r a b n pl ch:Int):insB 7 r a b n pl ch=(decide (b=0)&&(chansB ch&&(regB r&&regB a&&oneB n ch))):=by
 rw [Bool.eq_iff_iff]
 simp [insB,chansB,regB,numB,oneB,areB,takesB]
 try omega
theorem insB_8 (r a b n pl ch:Int):insB 8 r a b n pl ch=(decide (a=0)&&(chansB ch&&(takesB r b&&oneB n ch))):=by
 rw [Bool.eq_iff_iff]
 simp [insB,chansB,regB,numB,oneB,areB,takesB]
 try omega
theorem insB_9 (r a b n pl ch:Int):insB 9 r a b n pl ch=(decide (r=0∧a=0∧b=0)&&(chansB ch&&(oneB n ch))):=by
 rw [Bool.eq_iff_iff]
 simp [insB,chansB,regB,numB,oneB,areB,takesB]
 try omega
theorem insB_10 (r a b n pl ch:Int):insB 10 r a b n pl ch=(decide (r=0∧b=0∧n=0)&&(chansB ch&&(regB a))):=by
 rw [Bool.eq_iff_iff]
 simp [insB,chansB,regB,numB,oneB,areB,takesB]
 try omega
theorem insB_11 (r a b n pl ch:Int):insB 11 r a b n pl ch=(decide (r=0∧a=0∧b=0)&&(chansB ch&&(oneB n pl))):=by
 rw [Bool.eq_iff_iff]
 simp [insB,chansB,regB,numB,oneB,areB,takesB]
 try omega
theorem insB_12 (r a b n pl ch:Int):insB 12 r a b n pl ch=(decide (r=0∧b=0)&&(chansB ch&&(regB a&&oneB n pl))):=by
 rw [Bool.eq_iff_iff]
 simp [insB,chansB,regB,numB,oneB,areB,takesB]
 try omega
theorem insB_13 (r a b n pl ch:Int):insB 13 r a b n pl ch=(decide (r=0∧a=0∧b=0∧n=0)&&(chansB ch&&(true))):=by
 rw [Bool.eq_iff_iff]
 simp [insB,chansB,regB,numB,oneB,areB,takesB]
 try omega
theorem insB_0 (op r a b n pl ch:Int) (h1:(op==1)=false) (h2:(op==2)=false) (h3:(op==3)=false) (h4:(op==4)=false) (h5:(op==5)=false) (h6:(op==6)=false) (h7:(op==7)=false) (h8:(op==8)=false) (h9:(op==9)=false) (h10:(op==10)=false) (h11:(op==11)=false) (h12:(op==12)=false) (h13:(op==13)=false):insB op r a b n pl ch=false:=by
 simp at h1 h2 h3 h4 h5 h6 h7 h8 h9 h10 h11 h12 h13
 simp [insB]
 omega
end Plain
end
end Go.Proofs.YtkhjhibigldcgaaGreat
