/- The leaves of chapter 1: what each small function of the program answers, for every argument, in every world; which place is made of an Ins, and which Ins is made of a place. No condition. -/
import Derived.Test.YtkhjhibigldcgaaGreatBG00
import Derived.Test.YtkhjhibigldcgaaGreatChecked
import Derived.WalkKit
import Derived.KernelRfl
import Derived.WalkSpells
import Derived.WalkLawsBesides
namespace Go.Proofs.YtkhjhibigldcgaaGreat
set_option linter.unusedSimpArgs false
set_option linter.unusedVariables false
set_option maxRecDepth 100000
open Go.RowKit
theorem isReg_any (r:Int) (w:World):Calls Tryz.prog 99 #[.int .i64 r] w fun e w'=>e=.returned (.bool (Plain.regB r))∧w'=w:=by
 by_cases h0:0≤r<;>by_cases h1:r≤3
 all_goals
  go_enter Tryz.func99,Tryz.ntmps99
  go_wp2
  go_ret
  exact ⟨by simp [Plain.regB];omega,rfl⟩
theorem isNum_any (n:Int) (w:World):Calls Tryz.prog 100 #[.int .i64 n] w fun e w'=>e=.returned (.bool (Plain.numB n))∧w'=w:=by
 by_cases h0: -1000000000≤n<;>by_cases h1:n≤1000000000
 all_goals
  go_enter Tryz.func100,Tryz.ntmps100
  go_wp2
  go_ret
  exact ⟨by simp [Plain.numB];omega,rfl⟩
theorem isOneOf_any (n c:Int) (w:World):Calls Tryz.prog 12 #[.int .i64 n,.int .i64 c] w fun e w'=>e=.returned (.bool (Plain.oneB n c))∧w'=w:=by
 by_cases h0:0≤n<;>by_cases h1:n < c
 all_goals
  go_enter Tryz.func12,Tryz.ntmps12
  go_wp2
  go_ret
  exact ⟨by simp [Plain.oneB];omega,rfl⟩
theorem areChans_any (c:Int) (w:World):Calls Tryz.prog 49 #[.int .i64 c] w fun e w'=>e=.returned (.bool (Plain.chansB c))∧w'=w:=by
 by_cases h0:0≤c<;>by_cases h1:c≤3
 all_goals
  go_enter Tryz.func49,Tryz.ntmps49
  go_wp2
  go_ret
  exact ⟨by simp [Plain.chansB];omega,rfl⟩
theorem areRegs_any (r a b:Int) (w:World):Calls Tryz.prog 101 #[.int .i64 r,.int .i64 a,.int .i64 b] w fun e w'=>e=.returned (.bool (Plain.areB r a b))∧w'=w:=by
 cases h0:Plain.regB r<;>cases h1:Plain.regB a
 all_goals
  go_enter Tryz.func101,Tryz.ntmps101
  go_wp2_with (go_at_call 99;refine (isReg_any _ _).mono ?_;rintro e w' ⟨rfl,rfl⟩)
  go_ret
  exact ⟨by simp [Plain.areB,h0,h1],rfl⟩
theorem takesOk_any (r b:Int) (w:World):Calls Tryz.prog 102 #[.int .i64 r,.int .i64 b] w fun e w'=>e=.returned (.bool (Plain.takesB r b))∧w'=w:=by
 cases h0:Plain.regB r<;>cases h1:Plain.regB b
 all_goals
  go_enter Tryz.func102,Tryz.ntmps102
  go_wp2_with (go_at_call 99;refine (isReg_any _ _).mono ?_;rintro e w' ⟨rfl,rfl⟩)
  go_ret
  exact ⟨by simp [Plain.takesB,h0,h1],rfl⟩
theorem placeOf_1 (r a b n:Int) (w:World):Calls Tryz.prog 73 #[.agg #[.int .i64 1,.int .i64 r,.int .i64 a,.int .i64 b,.int .i64 n]] w fun e w'=>e=.returned (.iface 140 (.agg #[.int .i64 r,.int .i64 n]))∧Below w.heap.size w w':=by
 go_enter Tryz.func73,Tryz.ntmps73
 go_wp2
 go_ret
 exact ⟨rfl,(Below.refl _ _).alloc (Nat.le_refl _) _⟩
theorem placeOf_2 (r a b n:Int) (w:World):Calls Tryz.prog 73 #[.agg #[.int .i64 2,.int .i64 r,.int .i64 a,.int .i64 b,.int .i64 n]] w fun e w'=>e=.returned (.iface 142 (.agg #[.int .i64 r,.int .i64 a,.int .i64 b]))∧Below w.heap.size w w':=by
 go_enter Tryz.func73,Tryz.ntmps73
 go_wp2
 go_ret
 exact ⟨rfl,(Below.refl _ _).alloc (Nat.le_refl _) _⟩
theorem placeOf_3 (r a b n:Int) (w:World):Calls Tryz.prog 73 #[.agg #[.int .i64 3,.int .i64 r,.int .i64 a,.int .i64 b,.int .i64 n]] w fun e w'=>e=.returned (.iface 143 (.agg #[.int .i64 r,.int .i64 a,.int .i64 b]))∧Below w.heap.size w w':=by
 go_enter Tryz.func73,Tryz.ntmps73
 go_wp2
 go_ret
 exact ⟨rfl,(Below.refl _ _).alloc (Nat.le_refl _) _⟩
theorem placeOf_4 (r a b n:Int) (w:World):Calls Tryz.prog 73 #[.agg #[.int .i64 4,.int .i64 r,.int .i64 a,.int .i64 b,.int .i64 n]] w fun e w'=>e=.returned (.iface 144 (.agg #[.int .i64 r,.int .i64 a,.int .i64 b]))∧Below w.heap.size w w':=by
 go_enter Tryz.func73,Tryz.ntmps73
 go_wp2
 go_ret
 exact ⟨rfl,(Below.refl _ _).alloc (Nat.le_refl _) _⟩
theorem placeOf_5 (r a b n:Int) (w:World):Calls Tryz.prog 73 #[.agg #[.int .i64 5,.int .i64 r,.int .i64 a,.int .i64 b,.int .i64 n]] w fun e w'=>e=.returned (.iface 146 (.agg #[.int .i64 a,.int .i64 n]))∧Below w.heap.size w w':=by
 go_enter Tryz.func73,Tryz.ntmps73
 go_wp2
 go_ret
 exact ⟨rfl,(Below.refl _ _).alloc (Nat.le_refl _) _⟩
theorem placeOf_6 (r a b n:Int) (w:World):Calls Tryz.prog 73 #[.agg #[.int .i64 6,.int .i64 r,.int .i64 a,.int .i64 b,.int .i64 n]] w fun e w'=>e=.returned (.iface 148 (.agg #[.int .i64 r,.int .i64 b,.int .i64 n]))∧Below w.heap.size w w':=by
 go_enter Tryz.func73,Tryz.ntmps73
 go_wp2
 go_ret
 exact ⟨rfl,(Below.refl _ _).alloc (Nat.le_refl _) _⟩
theorem placeOf_7 (r a b n:Int) (w:World):Calls Tryz.prog 73 #[.agg #[.int .i64 7,.int .i64 r,.int .i64 a,.int .i64 b,.int .i64 n]] w fun e w'=>e=.returned (.iface 150 (.agg #[.int .i64 r,.int .i64 a,.int .i64 n]))∧Below w.heap.size w w':=by
 go_enter Tryz.func73,Tryz.ntmps73
 go_wp2
 go_ret
 exact ⟨rfl,(Below.refl _ _).alloc (Nat.le_refl _) _⟩
theorem placeOf_8 (r a b n:Int) (w:World):Calls Tryz.prog 73 #[.agg #[.int .i64 8,.int .i64 r,.int .i64 a,.int .i64 b,.int .i64 n]] w fun e w'=>e=.returned (.iface 151 (.agg #[.int .i64 r,.int .i64 b,.int .i64 n]))∧Below w.heap.size w w':=by
 go_enter Tryz.func73,Tryz.ntmps73
 go_wp2
 go_ret
 exact ⟨rfl,(Below.refl _ _).alloc (Nat.le_refl _) _⟩
theorem placeOf_9 (r a b n:Int) (w:World):Calls Tryz.prog 73 #[.agg #[.int .i64 9,.int .i64 r,.int .i64 a,.int .i64 b,.int .i64 n]] w fun e w'=>e=.returned (.iface 153 (.agg #[.int .i64 n]))∧Below w.heap.size w w':=by
 go_enter Tryz.func73,Tryz.ntmps73
 go_wp2
 go_ret
 exact ⟨rfl,(Below.refl _ _).alloc (Nat.le_refl _) _⟩
theorem placeOf_10 (r a b n:Int) (w:World):Calls Tryz.prog 73 #[.agg #[.int .i64 10,.int .i64 r,.int .i64 a,.int .i64 b,.int .i64 n]] w fun e w'=>e=.returned (.iface 155 (.agg #[.int .i64 a]))∧Below w.heap.size w w':=by
 go_enter Tryz.func73,Tryz.ntmps73
 go_wp2
 go_ret
 exact ⟨rfl,(Below.refl _ _).alloc (Nat.le_refl _) _⟩
theorem placeOf_11 (r a b n:Int) (w:World):Calls Tryz.prog 73 #[.agg #[.int .i64 11,.int .i64 r,.int .i64 a,.int .i64 b,.int .i64 n]] w fun e w'=>e=.returned (.iface 156 (.agg #[.int .i64 n]))∧Below w.heap.size w w':=by
 go_enter Tryz.func73,Tryz.ntmps73
 go_wp2
 go_ret
 exact ⟨rfl,(Below.refl _ _).alloc (Nat.le_refl _) _⟩
theorem placeOf_12 (r a b n:Int) (w:World):Calls Tryz.prog 73 #[.agg #[.int .i64 12,.int .i64 r,.int .i64 a,.int .i64 b,.int .i64 n]] w fun e w'=>e=.returned (.iface 157 (.agg #[.int .i64 a,.int .i64 n]))∧Below w.heap.size w w':=by
 go_enter Tryz.func73,Tryz.ntmps73
 go_wp2
 go_ret
 exact ⟨rfl,(Below.refl _ _).alloc (Nat.le_refl _) _⟩
theorem placeOf_13 (r a b n:Int) (w:World):Calls Tryz.prog 73 #[.agg #[.int .i64 13,.int .i64 r,.int .i64 a,.int .i64 b,.int .i64 n]] w fun e w'=>e=.returned (.iface 159 (.agg #[]))∧Below w.heap.size w w':=by
 go_enter Tryz.func73,Tryz.ntmps73
 go_wp2
 go_ret
 exact ⟨rfl,(Below.refl _ _).alloc (Nat.le_refl _) _⟩
set_option maxRecDepth 100000 in
theorem placeOf_0 (op r a b n:Int) (w:World) (h1:(op==1)=false) (h2:(op==2)=false) (h3:(op==3)=false) (h4:(op==4)=false) (h5:(op==5)=false) (h6:(op==6)=false) (h7:(op==7)=false) (h8:(op==8)=false) (h9:(op==9)=false) (h10:(op==10)=false) (h11:(op==11)=false) (h12:(op==12)=false) (h13:(op==13)=false):Calls Tryz.prog 73 #[.agg #[.int .i64 op,.int .i64 r,.int .i64 a,.int .i64 b,.int .i64 n]] w fun e w'=>e=.returned .nilIface∧Below w.heap.size w w':=by
 go_enter Tryz.func73,Tryz.ntmps73
 go_wp2
 go_ret
 exact ⟨rfl,(Below.refl _ _).alloc (Nat.le_refl _) _⟩
theorem ins_1 (r n:Int) (w:World):Calls Tryz.prog 133 #[.agg #[.int .i64 r,.int .i64 n]] w fun e w'=>e=.returned (.agg #[.int .i64 1,.int .i64 r,.int .i64 0,.int .i64 0,.int .i64 n])∧Below w.heap.size w w':=by
 go_enter Tryz.func133,Tryz.ntmps133
 go_wp2
 exact bodyPost_ret (v:=.agg #[.int .i64 1,.int .i64 r,.int .i64 0,.int .i64 0,.int .i64 n]) (by simp [results,Tryz.results133,go_sem]) rfl ⟨rfl,((Below.refl _ _).alloc (Nat.le_refl _) _).alloc (by simp) _⟩
theorem ins_2 (r a b:Int) (w:World):Calls Tryz.prog 134 #[.agg #[.int .i64 r,.int .i64 a,.int .i64 b]] w fun e w'=>e=.returned (.agg #[.int .i64 2,.int .i64 r,.int .i64 a,.int .i64 b,.int .i64 0])∧Below w.heap.size w w':=by
 go_enter Tryz.func134,Tryz.ntmps134
 go_wp2
 exact bodyPost_ret (v:=.agg #[.int .i64 2,.int .i64 r,.int .i64 a,.int .i64 b,.int .i64 0]) (by simp [results,Tryz.results134,go_sem]) rfl ⟨rfl,((Below.refl _ _).alloc (Nat.le_refl _) _).alloc (by simp) _⟩
theorem ins_3 (r a b:Int) (w:World):Calls Tryz.prog 135 #[.agg #[.int .i64 r,.int .i64 a,.int .i64 b]] w fun e w'=>e=.returned (.agg #[.int .i64 3,.int .i64 r,.int .i64 a,.int .i64 b,.int .i64 0])∧Below w.heap.size w w':=by
 go_enter Tryz.func135,Tryz.ntmps135
 go_wp2
 exact bodyPost_ret (v:=.agg #[.int .i64 3,.int .i64 r,.int .i64 a,.int .i64 b,.int .i64 0]) (by simp [results,Tryz.results135,go_sem]) rfl ⟨rfl,((Below.refl _ _).alloc (Nat.le_refl _) _).alloc (by simp) _⟩
theorem ins_4 (r a b:Int) (w:World):Calls Tryz.prog 136 #[.agg #[.int .i64 r,.int .i64 a,.int .i64 b]] w fun e w'=>e=.returned (.agg #[.int .i64 4,.int .i64 r,.int .i64 a,.int .i64 b,.int .i64 0])∧Below w.heap.size w w':=by
 go_enter Tryz.func136,Tryz.ntmps136
 go_wp2
 exact bodyPost_ret (v:=.agg #[.int .i64 4,.int .i64 r,.int .i64 a,.int .i64 b,.int .i64 0]) (by simp [results,Tryz.results136,go_sem]) rfl ⟨rfl,((Below.refl _ _).alloc (Nat.le_refl _) _).alloc (by simp) _⟩
theorem ins_5 (a n:Int) (w:World):Calls Tryz.prog 137 #[.agg #[.int .i64 a,.int .i64 n]] w fun e w'=>e=.returned (.agg #[.int .i64 5,.int .i64 0,.int .i64 a,.int .i64 0,.int .i64 n])∧Below w.heap.size w w':=by
 go_enter Tryz.func137,Tryz.ntmps137
 go_wp2
 exact bodyPost_ret (v:=.agg #[.int .i64 5,.int .i64 0,.int .i64 a,.int .i64 0,.int .i64 n]) (by simp [results,Tryz.results137,go_sem]) rfl ⟨rfl,((Below.refl _ _).alloc (Nat.le_refl _) _).alloc (by simp) _⟩
theorem ins_6 (r b n:Int) (w:World):Calls Tryz.prog 138 #[.agg #[.int .i64 r,.int .i64 b,.int .i64 n]] w fun e w'=>e=.returned (.agg #[.int .i64 6,.int .i64 r,.int .i64 0,.int .i64 b,.int .i64 n])∧Below w.heap.size w w':=by
 go_enter Tryz.func138,Tryz.ntmps138
 go_wp2
 exact bodyPost_ret (v:=.agg #[.int .i64 6,.int .i64 r,.int .i64 0,.int .i64 b,.int .i64 n]) (by simp [results,Tryz.results138,go_sem]) rfl ⟨rfl,((Below.refl _ _).alloc (Nat.le_refl _) _).alloc (by simp) _⟩
theorem ins_7 (r a n:Int) (w:World):Calls Tryz.prog 139 #[.agg #[.int .i64 r,.int .i64 a,.int .i64 n]] w fun e w'=>e=.returned (.agg #[.int .i64 7,.int .i64 r,.int .i64 a,.int .i64 0,.int .i64 n])∧Below w.heap.size w w':=by
 go_enter Tryz.func139,Tryz.ntmps139
 go_wp2
 exact bodyPost_ret (v:=.agg #[.int .i64 7,.int .i64 r,.int .i64 a,.int .i64 0,.int .i64 n]) (by simp [results,Tryz.results139,go_sem]) rfl ⟨rfl,((Below.refl _ _).alloc (Nat.le_refl _) _).alloc (by simp) _⟩
theorem ins_8 (r b n:Int) (w:World):Calls Tryz.prog 140 #[.agg #[.int .i64 r,.int .i64 b,.int .i64 n]] w fun e w'=>e=.returned (.agg #[.int .i64 8,.int .i64 r,.int .i64 0,.int .i64 b,.int .i64 n])∧Below w.heap.size w w':=by
 go_enter Tryz.func140,Tryz.ntmps140
 go_wp2
 exact bodyPost_ret (v:=.agg #[.int .i64 8,.int .i64 r,.int .i64 0,.int .i64 b,.int .i64 n]) (by simp [results,Tryz.results140,go_sem]) rfl ⟨rfl,((Below.refl _ _).alloc (Nat.le_refl _) _).alloc (by simp) _⟩
theorem ins_9 (n:Int) (w:World):Calls Tryz.prog 141 #[.agg #[.int .i64 n]] w fun e w'=>e=.returned (.agg #[.int .i64 9,.int .i64 0,.int .i64 0,.int .i64 0,.int .i64 n])∧Below w.heap.size w w':=by
 go_enter Tryz.func141,Tryz.ntmps141
 go_wp2
 exact bodyPost_ret (v:=.agg #[.int .i64 9,.int .i64 0,.int .i64 0,.int .i64 0,.int .i64 n]) (by simp [results,Tryz.results141,go_sem]) rfl ⟨rfl,((Below.refl _ _).alloc (Nat.le_refl _) _).alloc (by simp) _⟩
theorem ins_10 (a:Int) (w:World):Calls Tryz.prog 142 #[.agg #[.int .i64 a]] w fun e w'=>e=.returned (.agg #[.int .i64 10,.int .i64 0,.int .i64 a,.int .i64 0,.int .i64 0])∧Below w.heap.size w w':=by
 go_enter Tryz.func142,Tryz.ntmps142
 go_wp2
 exact bodyPost_ret (v:=.agg #[.int .i64 10,.int .i64 0,.int .i64 a,.int .i64 0,.int .i64 0]) (by simp [results,Tryz.results142,go_sem]) rfl ⟨rfl,((Below.refl _ _).alloc (Nat.le_refl _) _).alloc (by simp) _⟩
theorem ins_11 (n:Int) (w:World):Calls Tryz.prog 143 #[.agg #[.int .i64 n]] w fun e w'=>e=.returned (.agg #[.int .i64 11,.int .i64 0,.int .i64 0,.int .i64 0,.int .i64 n])∧Below w.heap.size w w':=by
 go_enter Tryz.func143,Tryz.ntmps143
 go_wp2
 exact bodyPost_ret (v:=.agg #[.int .i64 11,.int .i64 0,.int .i64 0,.int .i64 0,.int .i64 n]) (by simp [results,Tryz.results143,go_sem]) rfl ⟨rfl,((Below.refl _ _).alloc (Nat.le_refl _) _).alloc (by simp) _⟩
theorem ins_12 (a n:Int) (w:World):Calls Tryz.prog 144 #[.agg #[.int .i64 a,.int .i64 n]] w fun e w'=>e=.returned (.agg #[.int .i64 12,.int .i64 0,.int .i64 a,.int .i64 0,.int .i64 n])∧Below w.heap.size w w':=by
 go_enter Tryz.func144,Tryz.ntmps144
 go_wp2
 exact bodyPost_ret (v:=.agg #[.int .i64 12,.int .i64 0,.int .i64 a,.int .i64 0,.int .i64 n]) (by simp [results,Tryz.results144,go_sem]) rfl ⟨rfl,((Below.refl _ _).alloc (Nat.le_refl _) _).alloc (by simp) _⟩
theorem ins_13 (w:World):Calls Tryz.prog 145 #[.agg #[]] w fun e w'=>e=.returned (.agg #[.int .i64 13,.int .i64 0,.int .i64 0,.int .i64 0,.int .i64 0])∧Below w.heap.size w w':=by
 go_enter Tryz.func145,Tryz.ntmps145
 go_wp2
 exact bodyPost_ret (v:=.agg #[.int .i64 13,.int .i64 0,.int .i64 0,.int .i64 0,.int .i64 0]) (by simp [results,Tryz.results145,go_sem]) rfl ⟨rfl,((Below.refl _ _).alloc (Nat.le_refl _) _).alloc (by simp) _⟩
end Go.Proofs.YtkhjhibigldcgaaGreat
