/- Emit of the specification for places of no channel. Conditions: a jump names a start. Emit of the specification at every argument. Conditions: rows of at most two million numbers. -/
import Derived.Test.YtkhjhibigldcgaaGreatBG00
import Derived.Test.YtkhjhibigldcgaaGreatBG05
import Derived.Test.YtkhjhibigldcgaaGreatBG20
import Derived.Test.YtkhjhibigldcgaaGreatBG07
import Derived.Test.YtkhjhibigldcgaaGreatBSpecIns
import Derived.Deep.DeepCutAuto
import Derived.Test.YtkhjhibigldcgaaGreatBG01
import Derived.Test.YtkhjhibigldcgaaGreatBG06
import Derived.Test.YtkhjhibigldcgaaGreatBE10SpT
import Derived.Test.YtkhjhibigldcgaaGreatBE10SpS
import Derived.Test.YtkhjhibigldcgaaGreatBG21
namespace Go.Proofs.YtkhjhibigldcgaaGreat
section
set_option linter.unusedSimpArgs false
set_option linter.unusedVariables false
set_option maxRecDepth 100000
open Go.RowKit
set_option maxHeartbeats 4000000 in
theorem spE1 (r a x n fr:Int) (ss sk:Option Addr) (sl sc kl kc:Nat) (w:World) (hok:Plain.insB 1 r a x n sl kl=true):Calls Tryz.prog 56 #[.slice sk kl kc,.agg #[.int .i64 1,.int .i64 r,.int .i64 a,.int .i64 x,.int .i64 n],.int .i64 fr,.slice ss sl sc] w fun e w'=>∃ g c,e=.returned (.slice (some ⟨g,0,none⟩) 1 c)∧OwnT5 w' w.heap.size (.slice (some ⟨g,0,none⟩) 1 c) ([⟨1,r,0,0,n⟩])∧Below w.heap.size w w':=by
 have HOK:=hid_of hok
 clear hok
 obtain ⟨W,hW,hx,hb,hz⟩:=XB.new w 1 r a x n 71
 have HX:=hid_of hx
 have HW:Hid (Below w.heap.size w W):=hb
 have HK:Hid (Below W.heap.size W W):=Below.refl _ _
 clear hx hb
 obtain ⟨q0,q1,q2,q3,q4,tl⟩:=HX.out
 go_enter Tryz.func56,Tryz.ntmps56
 go_wp2_with (first | (go_at_call 47;refine (specInsOk_any _ _ _ _ _ _ _ _).mono ?_;rintro e w1 ⟨rfl,hb1⟩;rw [HOK.out];have JK:=hid_of (Below.via (B:=W.heap.size) (w:=W) hb1 (Nat.le_refl _) (by repeat (first | with_reducible exact HK.out | with_reducible refine Below.drew ?_ | with_reducible refine Below.alloc ?_ (by have:=HK.out.size;first | omega | (simp;omega)) _)));clear HK;have HK:=JK;clear JK hb1;clear q0 q1 q2 q3 q4 tl;obtain ⟨q0,q1,q2,q3,q4,tl⟩:=HX.out.keep HK.out) | (go_at_call 105;refine (sLoad _ _ _).mono ?_;rintro e w1 ⟨rfl,hb1⟩;have JK:=hid_of (Below.via (B:=W.heap.size) (w:=W) hb1 (Nat.le_refl _) (by repeat (first | with_reducible exact HK.out | with_reducible refine Below.drew ?_ | with_reducible refine Below.alloc ?_ (by have:=HK.out.size;first | omega | (simp;omega)) _)));clear HK;have HK:=JK;clear JK hb1;clear q0 q1 q2 q3 q4 tl;obtain ⟨q0,q1,q2,q3,q4,tl⟩:=HX.out.keep HK.out) | (go_at_call 106;refine (sStore _ _ _).mono ?_;rintro e w1 ⟨rfl,hb1⟩;have JK:=hid_of (Below.via (B:=W.heap.size) (w:=W) hb1 (Nat.le_refl _) (by repeat (first | with_reducible exact HK.out | with_reducible refine Below.drew ?_ | with_reducible refine Below.alloc ?_ (by have:=HK.out.size;first | omega | (simp;omega)) _)));clear HK;have HK:=JK;clear JK hb1;clear q0 q1 q2 q3 q4 tl;obtain ⟨q0,q1,q2,q3,q4,tl⟩:=HX.out.keep HK.out) | (go_at_call 76;refine (sSet _ _ _).mono ?_;rintro e w1 ⟨rfl,hb1⟩;have JK:=hid_of (Below.via (B:=W.heap.size) (w:=W) hb1 (Nat.le_refl _) (by repeat (first | with_reducible exact HK.out | with_reducible refine Below.drew ?_ | with_reducible refine Below.alloc ?_ (by have:=HK.out.size;first | omega | (simp;omega)) _)));clear HK;have HK:=JK;clear JK hb1;clear q0 q1 q2 q3 q4 tl;obtain ⟨q0,q1,q2,q3,q4,tl⟩:=HX.out.keep HK.out) | (go_at_call 79;refine (sZero _ _ _).mono ?_;rintro e w1 ⟨rfl,hb1⟩;have JK:=hid_of (Below.via (B:=W.heap.size) (w:=W) hb1 (Nat.le_refl _) (by repeat (first | with_reducible exact HK.out | with_reducible refine Below.drew ?_ | with_reducible refine Below.alloc ?_ (by have:=HK.out.size;first | omega | (simp;omega)) _)));clear HK;have HK:=JK;clear JK hb1;clear q0 q1 q2 q3 q4 tl;obtain ⟨q0,q1,q2,q3,q4,tl⟩:=HX.out.keep HK.out) | (go_at_call 78;refine (sJump _ _).mono ?_;rintro e w1 ⟨rfl,hb1⟩;have JK:=hid_of (Below.via (B:=W.heap.size) (w:=W) hb1 (Nat.le_refl _) (by repeat (first | with_reducible exact HK.out | with_reducible refine Below.drew ?_ | with_reducible refine Below.alloc ?_ (by have:=HK.out.size;first | omega | (simp;omega)) _)));clear HK;have HK:=JK;clear JK hb1;clear q0 q1 q2 q3 q4 tl;obtain ⟨q0,q1,q2,q3,q4,tl⟩:=HX.out.keep HK.out) | (go_at_call 77;refine (sThree _ _ _ _ _).mono ?_;rintro e w1 ⟨rfl,hb1⟩;have JK:=hid_of (Below.via (B:=W.heap.size) (w:=W) hb1 (Nat.le_refl _) (by repeat (first | with_reducible exact HK.out | with_reducible refine Below.drew ?_ | with_reducible refine Below.alloc ?_ (by have:=HK.out.size;first | omega | (simp;omega)) _)));clear HK;have HK:=JK;clear JK hb1;clear q0 q1 q2 q3 q4 tl;obtain ⟨q0,q1,q2,q3,q4,tl⟩:=HX.out.keep HK.out))
 have hwz:=HW.out.size
 have hkz:=HK.out.size
 go_ret
 exact ⟨_,_,rfl,own5_new ([⟨1,r,0,0,n⟩]) _ rfl (by omega) (Nat.le_of_ble_eq_true rfl),(HW.out.trans (HK.out.mono (by omega))).alloc (by omega) _⟩
set_option maxHeartbeats 4000000 in
theorem spE2 (r a x n fr:Int) (ss sk:Option Addr) (sl sc kl kc:Nat) (w:World) (hok:Plain.insB 2 r a x n sl kl=true):Calls Tryz.prog 56 #[.slice sk kl kc,.agg #[.int .i64 2,.int .i64 r,.int .i64 a,.int .i64 x,.int .i64 n],.int .i64 fr,.slice ss sl sc] w fun e w'=>∃ g c,e=.returned (.slice (some ⟨g,0,none⟩) 1 c)∧OwnT5 w' w.heap.size (.slice (some ⟨g,0,none⟩) 1 c) ([⟨2,r,a,x,0⟩])∧Below w.heap.size w w':=by
 have HOK:=hid_of hok
 clear hok
 obtain ⟨W,hW,hx,hb,hz⟩:=XB.new w 2 r a x n 71
 have HX:=hid_of hx
 have HW:Hid (Below w.heap.size w W):=hb
 have HK:Hid (Below W.heap.size W W):=Below.refl _ _
 clear hx hb
 obtain ⟨q0,q1,q2,q3,q4,tl⟩:=HX.out
 go_enter Tryz.func56,Tryz.ntmps56
 go_wp2_with (first | (go_at_call 47;refine (specInsOk_any _ _ _ _ _ _ _ _).mono ?_;rintro e w1 ⟨rfl,hb1⟩;rw [HOK.out];have JK:=hid_of (Below.via (B:=W.heap.size) (w:=W) hb1 (Nat.le_refl _) (by repeat (first | with_reducible exact HK.out | with_reducible refine Below.drew ?_ | with_reducible refine Below.alloc ?_ (by have:=HK.out.size;first | omega | (simp;omega)) _)));clear HK;have HK:=JK;clear JK hb1;clear q0 q1 q2 q3 q4 tl;obtain ⟨q0,q1,q2,q3,q4,tl⟩:=HX.out.keep HK.out) | (go_at_call 105;refine (sLoad _ _ _).mono ?_;rintro e w1 ⟨rfl,hb1⟩;have JK:=hid_of (Below.via (B:=W.heap.size) (w:=W) hb1 (Nat.le_refl _) (by repeat (first | with_reducible exact HK.out | with_reducible refine Below.drew ?_ | with_reducible refine Below.alloc ?_ (by have:=HK.out.size;first | omega | (simp;omega)) _)));clear HK;have HK:=JK;clear JK hb1;clear q0 q1 q2 q3 q4 tl;obtain ⟨q0,q1,q2,q3,q4,tl⟩:=HX.out.keep HK.out) | (go_at_call 106;refine (sStore _ _ _).mono ?_;rintro e w1 ⟨rfl,hb1⟩;have JK:=hid_of (Below.via (B:=W.heap.size) (w:=W) hb1 (Nat.le_refl _) (by repeat (first | with_reducible exact HK.out | with_reducible refine Below.drew ?_ | with_reducible refine Below.alloc ?_ (by have:=HK.out.size;first | omega | (simp;omega)) _)));clear HK;have HK:=JK;clear JK hb1;clear q0 q1 q2 q3 q4 tl;obtain ⟨q0,q1,q2,q3,q4,tl⟩:=HX.out.keep HK.out) | (go_at_call 76;refine (sSet _ _ _).mono ?_;rintro e w1 ⟨rfl,hb1⟩;have JK:=hid_of (Below.via (B:=W.heap.size) (w:=W) hb1 (Nat.le_refl _) (by repeat (first | with_reducible exact HK.out | with_reducible refine Below.drew ?_ | with_reducible refine Below.alloc ?_ (by have:=HK.out.size;first | omega | (simp;omega)) _)));clear HK;have HK:=JK;clear JK hb1;clear q0 q1 q2 q3 q4 tl;obtain ⟨q0,q1,q2,q3,q4,tl⟩:=HX.out.keep HK.out) | (go_at_call 79;refine (sZero _ _ _).mono ?_;rintro e w1 ⟨rfl,hb1⟩;have JK:=hid_of (Below.via (B:=W.heap.size) (w:=W) hb1 (Nat.le_refl _) (by repeat (first | with_reducible exact HK.out | with_reducible refine Below.drew ?_ | with_reducible refine Below.alloc ?_ (by have:=HK.out.size;first | omega | (simp;omega)) _)));clear HK;have HK:=JK;clear JK hb1;clear q0 q1 q2 q3 q4 tl;obtain ⟨q0,q1,q2,q3,q4,tl⟩:=HX.out.keep HK.out) | (go_at_call 78;refine (sJump _ _).mono ?_;rintro e w1 ⟨rfl,hb1⟩;have JK:=hid_of (Below.via (B:=W.heap.size) (w:=W) hb1 (Nat.le_refl _) (by repeat (first | with_reducible exact HK.out | with_reducible refine Below.drew ?_ | with_reducible refine Below.alloc ?_ (by have:=HK.out.size;first | omega | (simp;omega)) _)));clear HK;have HK:=JK;clear JK hb1;clear q0 q1 q2 q3 q4 tl;obtain ⟨q0,q1,q2,q3,q4,tl⟩:=HX.out.keep HK.out) | (go_at_call 77;refine (sThree _ _ _ _ _).mono ?_;rintro e w1 ⟨rfl,hb1⟩;have JK:=hid_of (Below.via (B:=W.heap.size) (w:=W) hb1 (Nat.le_refl _) (by repeat (first | with_reducible exact HK.out | with_reducible refine Below.drew ?_ | with_reducible refine Below.alloc ?_ (by have:=HK.out.size;first | omega | (simp;omega)) _)));clear HK;have HK:=JK;clear JK hb1;clear q0 q1 q2 q3 q4 tl;obtain ⟨q0,q1,q2,q3,q4,tl⟩:=HX.out.keep HK.out))
 have hwz:=HW.out.size
 have hkz:=HK.out.size
 go_ret
 exact ⟨_,_,rfl,own5_new ([⟨2,r,a,x,0⟩]) _ rfl (by omega) (Nat.le_of_ble_eq_true rfl),(HW.out.trans (HK.out.mono (by omega))).alloc (by omega) _⟩
set_option maxHeartbeats 4000000 in
theorem spE3 (r a x n fr:Int) (ss sk:Option Addr) (sl sc kl kc:Nat) (w:World) (hok:Plain.insB 3 r a x n sl kl=true):Calls Tryz.prog 56 #[.slice sk kl kc,.agg #[.int .i64 3,.int .i64 r,.int .i64 a,.int .i64 x,.int .i64 n],.int .i64 fr,.slice ss sl sc] w fun e w'=>∃ g c,e=.returned (.slice (some ⟨g,0,none⟩) 1 c)∧OwnT5 w' w.heap.size (.slice (some ⟨g,0,none⟩) 1 c) ([⟨3,r,a,x,0⟩])∧Below w.heap.size w w':=by
 have HOK:=hid_of hok
 clear hok
 obtain ⟨W,hW,hx,hb,hz⟩:=XB.new w 3 r a x n 71
 have HX:=hid_of hx
 have HW:Hid (Below w.heap.size w W):=hb
 have HK:Hid (Below W.heap.size W W):=Below.refl _ _
 clear hx hb
 obtain ⟨q0,q1,q2,q3,q4,tl⟩:=HX.out
 go_enter Tryz.func56,Tryz.ntmps56
 go_wp2_with (first | (go_at_call 47;refine (specInsOk_any _ _ _ _ _ _ _ _).mono ?_;rintro e w1 ⟨rfl,hb1⟩;rw [HOK.out];have JK:=hid_of (Below.via (B:=W.heap.size) (w:=W) hb1 (Nat.le_refl _) (by repeat (first | with_reducible exact HK.out | with_reducible refine Below.drew ?_ | with_reducible refine Below.alloc ?_ (by have:=HK.out.size;first | omega | (simp;omega)) _)));clear HK;have HK:=JK;clear JK hb1;clear q0 q1 q2 q3 q4 tl;obtain ⟨q0,q1,q2,q3,q4,tl⟩:=HX.out.keep HK.out) | (go_at_call 105;refine (sLoad _ _ _).mono ?_;rintro e w1 ⟨rfl,hb1⟩;have JK:=hid_of (Below.via (B:=W.heap.size) (w:=W) hb1 (Nat.le_refl _) (by repeat (first | with_reducible exact HK.out | with_reducible refine Below.drew ?_ | with_reducible refine Below.alloc ?_ (by have:=HK.out.size;first | omega | (simp;omega)) _)));clear HK;have HK:=JK;clear JK hb1;clear q0 q1 q2 q3 q4 tl;obtain ⟨q0,q1,q2,q3,q4,tl⟩:=HX.out.keep HK.out) | (go_at_call 106;refine (sStore _ _ _).mono ?_;rintro e w1 ⟨rfl,hb1⟩;have JK:=hid_of (Below.via (B:=W.heap.size) (w:=W) hb1 (Nat.le_refl _) (by repeat (first | with_reducible exact HK.out | with_reducible refine Below.drew ?_ | with_reducible refine Below.alloc ?_ (by have:=HK.out.size;first | omega | (simp;omega)) _)));clear HK;have HK:=JK;clear JK hb1;clear q0 q1 q2 q3 q4 tl;obtain ⟨q0,q1,q2,q3,q4,tl⟩:=HX.out.keep HK.out) | (go_at_call 76;refine (sSet _ _ _).mono ?_;rintro e w1 ⟨rfl,hb1⟩;have JK:=hid_of (Below.via (B:=W.heap.size) (w:=W) hb1 (Nat.le_refl _) (by repeat (first | with_reducible exact HK.out | with_reducible refine Below.drew ?_ | with_reducible refine Below.alloc ?_ (by have:=HK.out.size;first | omega | (simp;omega)) _)));clear HK;have HK:=JK;clear JK hb1;clear q0 q1 q2 q3 q4 tl;obtain ⟨q0,q1,q2,q3,q4,tl⟩:=HX.out.keep HK.out) | (go_at_call 79;refine (sZero _ _ _).mono ?_;rintro e w1 ⟨rfl,hb1⟩;have JK:=hid_of (Below.via (B:=W.heap.size) (w:=W) hb1 (Nat.le_refl _) (by repeat (first | with_reducible exact HK.out | with_reducible refine Below.drew ?_ | with_reducible refine Below.alloc ?_ (by have:=HK.out.size;first | omega | (simp;omega)) _)));clear HK;have HK:=JK;clear JK hb1;clear q0 q1 q2 q3 q4 tl;obtain ⟨q0,q1,q2,q3,q4,tl⟩:=HX.out.keep HK.out) | (go_at_call 78;refine (sJump _ _).mono ?_;rintro e w1 ⟨rfl,hb1⟩;have JK:=hid_of (Below.via (B:=W.heap.size) (w:=W) hb1 (Nat.le_refl _) (by repeat (first | with_reducible exact HK.out | with_reducible refine Below.drew ?_ | with_reducible refine Below.alloc ?_ (by have:=HK.out.size;first | omega | (simp;omega)) _)));clear HK;have HK:=JK;clear JK hb1;clear q0 q1 q2 q3 q4 tl;obtain ⟨q0,q1,q2,q3,q4,tl⟩:=HX.out.keep HK.out) | (go_at_call 77;refine (sThree _ _ _ _ _).mono ?_;rintro e w1 ⟨rfl,hb1⟩;have JK:=hid_of (Below.via (B:=W.heap.size) (w:=W) hb1 (Nat.le_refl _) (by repeat (first | with_reducible exact HK.out | with_reducible refine Below.drew ?_ | with_reducible refine Below.alloc ?_ (by have:=HK.out.size;first | omega | (simp;omega)) _)));clear HK;have HK:=JK;clear JK hb1;clear q0 q1 q2 q3 q4 tl;obtain ⟨q0,q1,q2,q3,q4,tl⟩:=HX.out.keep HK.out))
 have hwz:=HW.out.size
 have hkz:=HK.out.size
 go_ret
 exact ⟨_,_,rfl,own5_new ([⟨3,r,a,x,0⟩]) _ rfl (by omega) (Nat.le_of_ble_eq_true rfl),(HW.out.trans (HK.out.mono (by omega))).alloc (by omega) _⟩
set_option maxHeartbeats 4000000 in
theorem spE4 (r a x n fr:Int) (ss sk:Option Addr) (sl sc kl kc:Nat) (w:World) (hok:Plain.insB 4 r a x n sl kl=true):Calls Tryz.prog 56 #[.slice sk kl kc,.agg #[.int .i64 4,.int .i64 r,.int .i64 a,.int .i64 x,.int .i64 n],.int .i64 fr,.slice ss sl sc] w fun e w'=>∃ g c,e=.returned (.slice (some ⟨g,0,none⟩) 1 c)∧OwnT5 w' w.heap.size (.slice (some ⟨g,0,none⟩) 1 c) ([⟨4,r,a,x,0⟩])∧Below w.heap.size w w':=by
 have HOK:=hid_of hok
 clear hok
 obtain ⟨W,hW,hx,hb,hz⟩:=XB.new w 4 r a x n 71
 have HX:=hid_of hx
 have HW:Hid (Below w.heap.size w W):=hb
 have HK:Hid (Below W.heap.size W W):=Below.refl _ _
 clear hx hb
 obtain ⟨q0,q1,q2,q3,q4,tl⟩:=HX.out
 go_enter Tryz.func56,Tryz.ntmps56
 go_wp2_with (first | (go_at_call 47;refine (specInsOk_any _ _ _ _ _ _ _ _).mono ?_;rintro e w1 ⟨rfl,hb1⟩;rw [HOK.out];have JK:=hid_of (Below.via (B:=W.heap.size) (w:=W) hb1 (Nat.le_refl _) (by repeat (first | with_reducible exact HK.out | with_reducible refine Below.drew ?_ | with_reducible refine Below.alloc ?_ (by have:=HK.out.size;first | omega | (simp;omega)) _)));clear HK;have HK:=JK;clear JK hb1;clear q0 q1 q2 q3 q4 tl;obtain ⟨q0,q1,q2,q3,q4,tl⟩:=HX.out.keep HK.out) | (go_at_call 105;refine (sLoad _ _ _).mono ?_;rintro e w1 ⟨rfl,hb1⟩;have JK:=hid_of (Below.via (B:=W.heap.size) (w:=W) hb1 (Nat.le_refl _) (by repeat (first | with_reducible exact HK.out | with_reducible refine Below.drew ?_ | with_reducible refine Below.alloc ?_ (by have:=HK.out.size;first | omega | (simp;omega)) _)));clear HK;have HK:=JK;clear JK hb1;clear q0 q1 q2 q3 q4 tl;obtain ⟨q0,q1,q2,q3,q4,tl⟩:=HX.out.keep HK.out) | (go_at_call 106;refine (sStore _ _ _).mono ?_;rintro e w1 ⟨rfl,hb1⟩;have JK:=hid_of (Below.via (B:=W.heap.size) (w:=W) hb1 (Nat.le_refl _) (by repeat (first | with_reducible exact HK.out | with_reducible refine Below.drew ?_ | with_reducible refine Below.alloc ?_ (by have:=HK.out.size;first | omega | (simp;omega)) _)));clear HK;have HK:=JK;clear JK hb1;clear q0 q1 q2 q3 q4 tl;obtain ⟨q0,q1,q2,q3,q4,tl⟩:=HX.out.keep HK.out) | (go_at_call 76;refine (sSet _ _ _).mono ?_;rintro e w1 ⟨rfl,hb1⟩;have JK:=hid_of (Below.via (B:=W.heap.size) (w:=W) hb1 (Nat.le_refl _) (by repeat (first | with_reducible exact HK.out | with_reducible refine Below.drew ?_ | with_reducible refine Below.alloc ?_ (by have:=HK.out.size;first | omega | (simp;omega)) _)));clear HK;have HK:=JK;clear JK hb1;clear q0 q1 q2 q3 q4 tl;obtain ⟨q0,q1,q2,q3,q4,tl⟩:=HX.out.keep HK.out) | (go_at_call 79;refine (sZero _ _ _).mono ?_;rintro e w1 ⟨rfl,hb1⟩;have JK:=hid_of (Below.via (B:=W.heap.size) (w:=W) hb1 (Nat.le_refl _) (by repeat (first | with_reducible exact HK.out | with_reducible refine Below.drew ?_ | with_reducible refine Below.alloc ?_ (by have:=HK.out.size;first | omega | (simp;omega)) _)));clear HK;have HK:=JK;clear JK hb1;clear q0 q1 q2 q3 q4 tl;obtain ⟨q0,q1,q2,q3,q4,tl⟩:=HX.out.keep HK.out) | (go_at_call 78;refine (sJump _ _).mono ?_;rintro e w1 ⟨rfl,hb1⟩;have JK:=hid_of (Below.via (B:=W.heap.size) (w:=W) hb1 (Nat.le_refl _) (by repeat (first | with_reducible exact HK.out | with_reducible refine Below.drew ?_ | with_reducible refine Below.alloc ?_ (by have:=HK.out.size;first | omega | (simp;omega)) _)));clear HK;have HK:=JK;clear JK hb1;clear q0 q1 q2 q3 q4 tl;obtain ⟨q0,q1,q2,q3,q4,tl⟩:=HX.out.keep HK.out) | (go_at_call 77;refine (sThree _ _ _ _ _).mono ?_;rintro e w1 ⟨rfl,hb1⟩;have JK:=hid_of (Below.via (B:=W.heap.size) (w:=W) hb1 (Nat.le_refl _) (by repeat (first | with_reducible exact HK.out | with_reducible refine Below.drew ?_ | with_reducible refine Below.alloc ?_ (by have:=HK.out.size;first | omega | (simp;omega)) _)));clear HK;have HK:=JK;clear JK hb1;clear q0 q1 q2 q3 q4 tl;obtain ⟨q0,q1,q2,q3,q4,tl⟩:=HX.out.keep HK.out))
 have hwz:=HW.out.size
 have hkz:=HK.out.size
 go_ret
 exact ⟨_,_,rfl,own5_new ([⟨4,r,a,x,0⟩]) _ rfl (by omega) (Nat.le_of_ble_eq_true rfl),(HW.out.trans (HK.out.mono (by omega))).alloc (by omega) _⟩
set_option maxHeartbeats 4000000 in
theorem spE10 (r a x n fr:Int) (ss sk:Option Addr) (sl sc kl kc:Nat) (w:World) (hok:Plain.insB 10 r a x n sl kl=true):Calls Tryz.prog 56 #[.slice sk kl kc,.agg #[.int .i64 10,.int .i64 r,.int .i64 a,.int .i64 x,.int .i64 n],.int .i64 fr,.slice ss sl sc] w fun e w'=>∃ g c,e=.returned (.slice (some ⟨g,0,none⟩) 1 c)∧OwnT5 w' w.heap.size (.slice (some ⟨g,0,none⟩) 1 c) ([⟨9,0,a,0,0⟩])∧Below w.heap.size w w':=by
 have HOK:=hid_of hok
 clear hok
 obtain ⟨W,hW,hx,hb,hz⟩:=XB.new w 10 r a x n 71
 have HX:=hid_of hx
 have HW:Hid (Below w.heap.size w W):=hb
 have HK:Hid (Below W.heap.size W W):=Below.refl _ _
 clear hx hb
 obtain ⟨q0,q1,q2,q3,q4,tl⟩:=HX.out
 go_enter Tryz.func56,Tryz.ntmps56
 go_wp2_with (first | (go_at_call 47;refine (specInsOk_any _ _ _ _ _ _ _ _).mono ?_;rintro e w1 ⟨rfl,hb1⟩;rw [HOK.out];have JK:=hid_of (Below.via (B:=W.heap.size) (w:=W) hb1 (Nat.le_refl _) (by repeat (first | with_reducible exact HK.out | with_reducible refine Below.drew ?_ | with_reducible refine Below.alloc ?_ (by have:=HK.out.size;first | omega | (simp;omega)) _)));clear HK;have HK:=JK;clear JK hb1;clear q0 q1 q2 q3 q4 tl;obtain ⟨q0,q1,q2,q3,q4,tl⟩:=HX.out.keep HK.out) | (go_at_call 105;refine (sLoad _ _ _).mono ?_;rintro e w1 ⟨rfl,hb1⟩;have JK:=hid_of (Below.via (B:=W.heap.size) (w:=W) hb1 (Nat.le_refl _) (by repeat (first | with_reducible exact HK.out | with_reducible refine Below.drew ?_ | with_reducible refine Below.alloc ?_ (by have:=HK.out.size;first | omega | (simp;omega)) _)));clear HK;have HK:=JK;clear JK hb1;clear q0 q1 q2 q3 q4 tl;obtain ⟨q0,q1,q2,q3,q4,tl⟩:=HX.out.keep HK.out) | (go_at_call 106;refine (sStore _ _ _).mono ?_;rintro e w1 ⟨rfl,hb1⟩;have JK:=hid_of (Below.via (B:=W.heap.size) (w:=W) hb1 (Nat.le_refl _) (by repeat (first | with_reducible exact HK.out | with_reducible refine Below.drew ?_ | with_reducible refine Below.alloc ?_ (by have:=HK.out.size;first | omega | (simp;omega)) _)));clear HK;have HK:=JK;clear JK hb1;clear q0 q1 q2 q3 q4 tl;obtain ⟨q0,q1,q2,q3,q4,tl⟩:=HX.out.keep HK.out) | (go_at_call 76;refine (sSet _ _ _).mono ?_;rintro e w1 ⟨rfl,hb1⟩;have JK:=hid_of (Below.via (B:=W.heap.size) (w:=W) hb1 (Nat.le_refl _) (by repeat (first | with_reducible exact HK.out | with_reducible refine Below.drew ?_ | with_reducible refine Below.alloc ?_ (by have:=HK.out.size;first | omega | (simp;omega)) _)));clear HK;have HK:=JK;clear JK hb1;clear q0 q1 q2 q3 q4 tl;obtain ⟨q0,q1,q2,q3,q4,tl⟩:=HX.out.keep HK.out) | (go_at_call 79;refine (sZero _ _ _).mono ?_;rintro e w1 ⟨rfl,hb1⟩;have JK:=hid_of (Below.via (B:=W.heap.size) (w:=W) hb1 (Nat.le_refl _) (by repeat (first | with_reducible exact HK.out | with_reducible refine Below.drew ?_ | with_reducible refine Below.alloc ?_ (by have:=HK.out.size;first | omega | (simp;omega)) _)));clear HK;have HK:=JK;clear JK hb1;clear q0 q1 q2 q3 q4 tl;obtain ⟨q0,q1,q2,q3,q4,tl⟩:=HX.out.keep HK.out) | (go_at_call 78;refine (sJump _ _).mono ?_;rintro e w1 ⟨rfl,hb1⟩;have JK:=hid_of (Below.via (B:=W.heap.size) (w:=W) hb1 (Nat.le_refl _) (by repeat (first | with_reducible exact HK.out | with_reducible refine Below.drew ?_ | with_reducible refine Below.alloc ?_ (by have:=HK.out.size;first | omega | (simp;omega)) _)));clear HK;have HK:=JK;clear JK hb1;clear q0 q1 q2 q3 q4 tl;obtain ⟨q0,q1,q2,q3,q4,tl⟩:=HX.out.keep HK.out) | (go_at_call 77;refine (sThree _ _ _ _ _).mono ?_;rintro e w1 ⟨rfl,hb1⟩;have JK:=hid_of (Below.via (B:=W.heap.size) (w:=W) hb1 (Nat.le_refl _) (by repeat (first | with_reducible exact HK.out | with_reducible refine Below.drew ?_ | with_reducible refine Below.alloc ?_ (by have:=HK.out.size;first | omega | (simp;omega)) _)));clear HK;have HK:=JK;clear JK hb1;clear q0 q1 q2 q3 q4 tl;obtain ⟨q0,q1,q2,q3,q4,tl⟩:=HX.out.keep HK.out))
 have hwz:=HW.out.size
 have hkz:=HK.out.size
 go_ret
 exact ⟨_,_,rfl,own5_new ([⟨9,0,a,0,0⟩]) _ rfl (by omega) (Nat.le_of_ble_eq_true rfl),(HW.out.trans (HK.out.mono (by omega))).alloc (by omega) _⟩
set_option maxHeartbeats 4000000 in
theorem spE13 (r a x n fr:Int) (ss sk:Option Addr) (sl sc kl kc:Nat) (w:World) (hok:Plain.insB 13 r a x n sl kl=true):Calls Tryz.prog 56 #[.slice sk kl kc,.agg #[.int .i64 13,.int .i64 r,.int .i64 a,.int .i64 x,.int .i64 n],.int .i64 fr,.slice ss sl sc] w fun e w'=>∃ g c,e=.returned (.slice (some ⟨g,0,none⟩) 1 c)∧OwnT5 w' w.heap.size (.slice (some ⟨g,0,none⟩) 1 c) ([⟨12,0,0,0,0⟩])∧Below w.heap.size w w':=by
 have HOK:=hid_of hok
 clear hok
 obtain ⟨W,hW,hx,hb,hz⟩:=XB.new w 13 r a x n 71
 have HX:=hid_of hx
 have HW:Hid (Below w.heap.size w W):=hb
 have HK:Hid (Below W.heap.size W W):=Below.refl _ _
 clear hx hb
 obtain ⟨q0,q1,q2,q3,q4,tl⟩:=HX.out
 go_enter Tryz.func56,Tryz.ntmps56
 go_wp2_with (first | (go_at_call 47;refine (specInsOk_any _ _ _ _ _ _ _ _).mono ?_;rintro e w1 ⟨rfl,hb1⟩;rw [HOK.out];have JK:=hid_of (Below.via (B:=W.heap.size) (w:=W) hb1 (Nat.le_refl _) (by repeat (first | with_reducible exact HK.out | with_reducible refine Below.drew ?_ | with_reducible refine Below.alloc ?_ (by have:=HK.out.size;first | omega | (simp;omega)) _)));clear HK;have HK:=JK;clear JK hb1;clear q0 q1 q2 q3 q4 tl;obtain ⟨q0,q1,q2,q3,q4,tl⟩:=HX.out.keep HK.out) | (go_at_call 105;refine (sLoad _ _ _).mono ?_;rintro e w1 ⟨rfl,hb1⟩;have JK:=hid_of (Below.via (B:=W.heap.size) (w:=W) hb1 (Nat.le_refl _) (by repeat (first | with_reducible exact HK.out | with_reducible refine Below.drew ?_ | with_reducible refine Below.alloc ?_ (by have:=HK.out.size;first | omega | (simp;omega)) _)));clear HK;have HK:=JK;clear JK hb1;clear q0 q1 q2 q3 q4 tl;obtain ⟨q0,q1,q2,q3,q4,tl⟩:=HX.out.keep HK.out) | (go_at_call 106;refine (sStore _ _ _).mono ?_;rintro e w1 ⟨rfl,hb1⟩;have JK:=hid_of (Below.via (B:=W.heap.size) (w:=W) hb1 (Nat.le_refl _) (by repeat (first | with_reducible exact HK.out | with_reducible refine Below.drew ?_ | with_reducible refine Below.alloc ?_ (by have:=HK.out.size;first | omega | (simp;omega)) _)));clear HK;have HK:=JK;clear JK hb1;clear q0 q1 q2 q3 q4 tl;obtain ⟨q0,q1,q2,q3,q4,tl⟩:=HX.out.keep HK.out) | (go_at_call 76;refine (sSet _ _ _).mono ?_;rintro e w1 ⟨rfl,hb1⟩;have JK:=hid_of (Below.via (B:=W.heap.size) (w:=W) hb1 (Nat.le_refl _) (by repeat (first | with_reducible exact HK.out | with_reducible refine Below.drew ?_ | with_reducible refine Below.alloc ?_ (by have:=HK.out.size;first | omega | (simp;omega)) _)));clear HK;have HK:=JK;clear JK hb1;clear q0 q1 q2 q3 q4 tl;obtain ⟨q0,q1,q2,q3,q4,tl⟩:=HX.out.keep HK.out) | (go_at_call 79;refine (sZero _ _ _).mono ?_;rintro e w1 ⟨rfl,hb1⟩;have JK:=hid_of (Below.via (B:=W.heap.size) (w:=W) hb1 (Nat.le_refl _) (by repeat (first | with_reducible exact HK.out | with_reducible refine Below.drew ?_ | with_reducible refine Below.alloc ?_ (by have:=HK.out.size;first | omega | (simp;omega)) _)));clear HK;have HK:=JK;clear JK hb1;clear q0 q1 q2 q3 q4 tl;obtain ⟨q0,q1,q2,q3,q4,tl⟩:=HX.out.keep HK.out) | (go_at_call 78;refine (sJump _ _).mono ?_;rintro e w1 ⟨rfl,hb1⟩;have JK:=hid_of (Below.via (B:=W.heap.size) (w:=W) hb1 (Nat.le_refl _) (by repeat (first | with_reducible exact HK.out | with_reducible refine Below.drew ?_ | with_reducible refine Below.alloc ?_ (by have:=HK.out.size;first | omega | (simp;omega)) _)));clear HK;have HK:=JK;clear JK hb1;clear q0 q1 q2 q3 q4 tl;obtain ⟨q0,q1,q2,q3,q4,tl⟩:=HX.out.keep HK.out) | (go_at_call 77;refine (sThree _ _ _ _ _).mono ?_;rintro e w1 ⟨rfl,hb1⟩;have JK:=hid_of (Below.via (B:=W.heap.size) (w:=W) hb1 (Nat.le_refl _) (by repeat (first | with_reducible exact HK.out | with_reducible refine Below.drew ?_ | with_reducible refine Below.alloc ?_ (by have:=HK.out.size;first | omega | (simp;omega)) _)));clear HK;have HK:=JK;clear JK hb1;clear q0 q1 q2 q3 q4 tl;obtain ⟨q0,q1,q2,q3,q4,tl⟩:=HX.out.keep HK.out))
 have hwz:=HW.out.size
 have hkz:=HK.out.size
 go_ret
 exact ⟨_,_,rfl,own5_new ([⟨12,0,0,0,0⟩]) _ rfl (by omega) (Nat.le_of_ble_eq_true rfl),(HW.out.trans (HK.out.mono (by omega))).alloc (by omega) _⟩
set_option maxHeartbeats 4000000 in
theorem spE11 (r a x n fr:Int) (ss sk:Option Addr) (sl sc kl kc:Nat) (y:Int) (w:World) (hok:Plain.insB 11 r a x n sl kl=true) (hrd:∃ gi oi,ss=some ⟨gi,oi,none⟩∧gi < w.heap.size∧w.cell? ⟨gi,oi+n.toNat,none⟩=some (.int .i64 y)) (hn0:0≤n) (hn1:n < (sl:Int)):Calls Tryz.prog 56 #[.slice sk kl kc,.agg #[.int .i64 11,.int .i64 r,.int .i64 a,.int .i64 x,.int .i64 n],.int .i64 fr,.slice ss sl sc] w fun e w'=>∃ g c,e=.returned (.slice (some ⟨g,0,none⟩) 1 c)∧OwnT5 w' w.heap.size (.slice (some ⟨g,0,none⟩) 1 c) ([⟨10,0,0,0,y⟩])∧Below w.heap.size w w':=by
 have HOK:=hid_of hok
 clear hok
 obtain ⟨W,hW,hx,hb,hz⟩:=XB.new w 11 r a x n 71
 have HX:=hid_of hx
 have HW:Hid (Below w.heap.size w W):=hb
 have HK:Hid (Below W.heap.size W W):=Below.refl _ _
 clear hx hb
 obtain ⟨q0,q1,q2,q3,q4,tl⟩:=HX.out
 obtain ⟨gi,oi,es,hgi,hci⟩:=hrd
 subst es
 have i0:=(HW.out.cell (p:=⟨gi,oi+n.toNat,none⟩) hgi).trans hci
 clear hci
 obtain ⟨m,rfl⟩:∃ m:Nat,n=(m:Int):=⟨n.toNat,by omega⟩
 rw [Int.toNat_natCast] at i0
 have HI0:=hid_of i0
 have hgW:gi < W.heap.size:=by have:=HW.out.size;omega
 go_enter Tryz.func56,Tryz.ntmps56
 go_wp2_with (first | (go_at_call 47;refine (specInsOk_any _ _ _ _ _ _ _ _).mono ?_;rintro e w1 ⟨rfl,hb1⟩;rw [HOK.out];have JK:=hid_of (Below.via (B:=W.heap.size) (w:=W) hb1 (Nat.le_refl _) (by repeat (first | with_reducible exact HK.out | with_reducible refine Below.drew ?_ | with_reducible refine Below.alloc ?_ (by have:=HK.out.size;first | omega | (simp;omega)) _)));clear HK;have HK:=JK;clear JK hb1;clear q0 q1 q2 q3 q4 tl;obtain ⟨q0,q1,q2,q3,q4,tl⟩:=HX.out.keep HK.out;clear i0;have i0:=(HK.out.cell (p:=⟨gi,oi+m,none⟩) hgW).trans HI0.out) | (go_at_call 105;refine (sLoad _ _ _).mono ?_;rintro e w1 ⟨rfl,hb1⟩;have JK:=hid_of (Below.via (B:=W.heap.size) (w:=W) hb1 (Nat.le_refl _) (by repeat (first | with_reducible exact HK.out | with_reducible refine Below.drew ?_ | with_reducible refine Below.alloc ?_ (by have:=HK.out.size;first | omega | (simp;omega)) _)));clear HK;have HK:=JK;clear JK hb1;clear q0 q1 q2 q3 q4 tl;obtain ⟨q0,q1,q2,q3,q4,tl⟩:=HX.out.keep HK.out;clear i0;have i0:=(HK.out.cell (p:=⟨gi,oi+m,none⟩) hgW).trans HI0.out) | (go_at_call 106;refine (sStore _ _ _).mono ?_;rintro e w1 ⟨rfl,hb1⟩;have JK:=hid_of (Below.via (B:=W.heap.size) (w:=W) hb1 (Nat.le_refl _) (by repeat (first | with_reducible exact HK.out | with_reducible refine Below.drew ?_ | with_reducible refine Below.alloc ?_ (by have:=HK.out.size;first | omega | (simp;omega)) _)));clear HK;have HK:=JK;clear JK hb1;clear q0 q1 q2 q3 q4 tl;obtain ⟨q0,q1,q2,q3,q4,tl⟩:=HX.out.keep HK.out;clear i0;have i0:=(HK.out.cell (p:=⟨gi,oi+m,none⟩) hgW).trans HI0.out) | (go_at_call 76;refine (sSet _ _ _).mono ?_;rintro e w1 ⟨rfl,hb1⟩;have JK:=hid_of (Below.via (B:=W.heap.size) (w:=W) hb1 (Nat.le_refl _) (by repeat (first | with_reducible exact HK.out | with_reducible refine Below.drew ?_ | with_reducible refine Below.alloc ?_ (by have:=HK.out.size;first | omega | (simp;omega)) _)));clear HK;have HK:=JK;clear JK hb1;clear q0 q1 q2 q3 q4 tl;obtain ⟨q0,q1,q2,q3,q4,tl⟩:=HX.out.keep HK.out;clear i0;have i0:=(HK.out.cell (p:=⟨gi,oi+m,none⟩) hgW).trans HI0.out) | (go_at_call 79;refine (sZero _ _ _).mono ?_;rintro e w1 ⟨rfl,hb1⟩;have JK:=hid_of (Below.via (B:=W.heap.size) (w:=W) hb1 (Nat.le_refl _) (by repeat (first | with_reducible exact HK.out | with_reducible refine Below.drew ?_ | with_reducible refine Below.alloc ?_ (by have:=HK.out.size;first | omega | (simp;omega)) _)));clear HK;have HK:=JK;clear JK hb1;clear q0 q1 q2 q3 q4 tl;obtain ⟨q0,q1,q2,q3,q4,tl⟩:=HX.out.keep HK.out;clear i0;have i0:=(HK.out.cell (p:=⟨gi,oi+m,none⟩) hgW).trans HI0.out) | (go_at_call 78;refine (sJump _ _).mono ?_;rintro e w1 ⟨rfl,hb1⟩;have JK:=hid_of (Below.via (B:=W.heap.size) (w:=W) hb1 (Nat.le_refl _) (by repeat (first | with_reducible exact HK.out | with_reducible refine Below.drew ?_ | with_reducible refine Below.alloc ?_ (by have:=HK.out.size;first | omega | (simp;omega)) _)));clear HK;have HK:=JK;clear JK hb1;clear q0 q1 q2 q3 q4 tl;obtain ⟨q0,q1,q2,q3,q4,tl⟩:=HX.out.keep HK.out;clear i0;have i0:=(HK.out.cell (p:=⟨gi,oi+m,none⟩) hgW).trans HI0.out) | (go_at_call 77;refine (sThree _ _ _ _ _).mono ?_;rintro e w1 ⟨rfl,hb1⟩;have JK:=hid_of (Below.via (B:=W.heap.size) (w:=W) hb1 (Nat.le_refl _) (by repeat (first | with_reducible exact HK.out | with_reducible refine Below.drew ?_ | with_reducible refine Below.alloc ?_ (by have:=HK.out.size;first | omega | (simp;omega)) _)));clear HK;have HK:=JK;clear JK hb1;clear q0 q1 q2 q3 q4 tl;obtain ⟨q0,q1,q2,q3,q4,tl⟩:=HX.out.keep HK.out;clear i0;have i0:=(HK.out.cell (p:=⟨gi,oi+m,none⟩) hgW).trans HI0.out))
 have hwz:=HW.out.size
 have hkz:=HK.out.size
 go_ret
 exact ⟨_,_,rfl,own5_new ([⟨10,0,0,0,y⟩]) _ rfl (by omega) (Nat.le_of_ble_eq_true rfl),(HW.out.trans (HK.out.mono (by omega))).alloc (by omega) _⟩
set_option maxHeartbeats 4000000 in
theorem spE12 (r a x n fr:Int) (ss sk:Option Addr) (sl sc kl kc:Nat) (y:Int) (w:World) (hok:Plain.insB 12 r a x n sl kl=true) (hrd:∃ gi oi,ss=some ⟨gi,oi,none⟩∧gi < w.heap.size∧w.cell? ⟨gi,oi+n.toNat,none⟩=some (.int .i64 y)) (hn0:0≤n) (hn1:n < (sl:Int)):Calls Tryz.prog 56 #[.slice sk kl kc,.agg #[.int .i64 12,.int .i64 r,.int .i64 a,.int .i64 x,.int .i64 n],.int .i64 fr,.slice ss sl sc] w fun e w'=>∃ g c,e=.returned (.slice (some ⟨g,0,none⟩) 1 c)∧OwnT5 w' w.heap.size (.slice (some ⟨g,0,none⟩) 1 c) ([⟨11,0,a,0,y⟩])∧Below w.heap.size w w':=by
 have HOK:=hid_of hok
 clear hok
 obtain ⟨W,hW,hx,hb,hz⟩:=XB.new w 12 r a x n 71
 have HX:=hid_of hx
 have HW:Hid (Below w.heap.size w W):=hb
 have HK:Hid (Below W.heap.size W W):=Below.refl _ _
 clear hx hb
 obtain ⟨q0,q1,q2,q3,q4,tl⟩:=HX.out
 obtain ⟨gi,oi,es,hgi,hci⟩:=hrd
 subst es
 have i0:=(HW.out.cell (p:=⟨gi,oi+n.toNat,none⟩) hgi).trans hci
 clear hci
 obtain ⟨m,rfl⟩:∃ m:Nat,n=(m:Int):=⟨n.toNat,by omega⟩
 rw [Int.toNat_natCast] at i0
 have HI0:=hid_of i0
 have hgW:gi < W.heap.size:=by have:=HW.out.size;omega
 go_enter Tryz.func56,Tryz.ntmps56
 go_upto_region 18 with (first | (go_at_call 47;refine (specInsOk_any _ _ _ _ _ _ _ _).mono ?_;rintro e w1 ⟨rfl,hb1⟩;rw [HOK.out];have JK:=hid_of (Below.via (B:=W.heap.size) (w:=W) hb1 (Nat.le_refl _) (by repeat (first | with_reducible exact HK.out | with_reducible refine Below.drew ?_ | with_reducible refine Below.alloc ?_ (by have:=HK.out.size;first | omega | (simp;omega)) _)));clear HK;have HK:=JK;clear JK hb1;clear q0 q1 q2 q3 q4 tl;obtain ⟨q0,q1,q2,q3,q4,tl⟩:=HX.out.keep HK.out;clear i0;have i0:=(HK.out.cell (p:=⟨gi,oi+m,none⟩) hgW).trans HI0.out))
 go_region_held3 (fun w'=>w'.cell? ⟨w.heap.size,2,none⟩=some (.int .i64 a)∧w'.cell? ⟨w.heap.size,4,none⟩=some (.int .i64 (m:Int))∧w'.cell? ⟨gi,oi+m,none⟩=some (.int .i64 y)) (exact ⟨(HX.out.keep (by repeat (first | with_reducible exact HK.out | with_reducible refine Below.drew ?_ | with_reducible refine Below.alloc ?_ (by have:=HK.out.size;first | omega | (simp;omega)) _))).c2,(HX.out.keep (by repeat (first | with_reducible exact HK.out | with_reducible refine Below.drew ?_ | with_reducible refine Below.alloc ?_ (by have:=HK.out.size;first | omega | (simp;omega)) _))).c4,((show Below W.heap.size W _ from (by repeat (first | with_reducible exact HK.out | with_reducible refine Below.drew ?_ | with_reducible refine Below.alloc ?_ (by have:=HK.out.size;first | omega | (simp;omega)) _))).cell (p:=⟨gi,oi+m,none⟩) hgW).trans HI0.out⟩) (first | (go_at_call 105;refine (sLoad _ _ _).mono ?_;rintro e w1 ⟨rfl,hb1⟩;have JK:=hid_of (Below.via (B:=W.heap.size) (w:=W) hb1 (Nat.le_refl _) (by repeat (first | with_reducible exact HK.out | with_reducible refine Below.drew ?_ | with_reducible refine Below.alloc ?_ (by have:=HK.out.size;first | omega | (simp;omega)) _)));clear HK;have HK:=JK;clear JK hb1;clear q0 q1 q2 q3 q4 tl;obtain ⟨q0,q1,q2,q3,q4,tl⟩:=HX.out.keep HK.out;clear i0;have i0:=(HK.out.cell (p:=⟨gi,oi+m,none⟩) hgW).trans HI0.out) | (go_at_call 106;refine (sStore _ _ _).mono ?_;rintro e w1 ⟨rfl,hb1⟩;have JK:=hid_of (Below.via (B:=W.heap.size) (w:=W) hb1 (Nat.le_refl _) (by repeat (first | with_reducible exact HK.out | with_reducible refine Below.drew ?_ | with_reducible refine Below.alloc ?_ (by have:=HK.out.size;first | omega | (simp;omega)) _)));clear HK;have HK:=JK;clear JK hb1;clear q0 q1 q2 q3 q4 tl;obtain ⟨q0,q1,q2,q3,q4,tl⟩:=HX.out.keep HK.out;clear i0;have i0:=(HK.out.cell (p:=⟨gi,oi+m,none⟩) hgW).trans HI0.out) | (go_at_call 76;refine (sSet _ _ _).mono ?_;rintro e w1 ⟨rfl,hb1⟩;have JK:=hid_of (Below.via (B:=W.heap.size) (w:=W) hb1 (Nat.le_refl _) (by repeat (first | with_reducible exact HK.out | with_reducible refine Below.drew ?_ | with_reducible refine Below.alloc ?_ (by have:=HK.out.size;first | omega | (simp;omega)) _)));clear HK;have HK:=JK;clear JK hb1;clear q0 q1 q2 q3 q4 tl;obtain ⟨q0,q1,q2,q3,q4,tl⟩:=HX.out.keep HK.out;clear i0;have i0:=(HK.out.cell (p:=⟨gi,oi+m,none⟩) hgW).trans HI0.out) | (go_at_call 79;refine (sZero _ _ _).mono ?_;rintro e w1 ⟨rfl,hb1⟩;have JK:=hid_of (Below.via (B:=W.heap.size) (w:=W) hb1 (Nat.le_refl _) (by repeat (first | with_reducible exact HK.out | with_reducible refine Below.drew ?_ | with_reducible refine Below.alloc ?_ (by have:=HK.out.size;first | omega | (simp;omega)) _)));clear HK;have HK:=JK;clear JK hb1;clear q0 q1 q2 q3 q4 tl;obtain ⟨q0,q1,q2,q3,q4,tl⟩:=HX.out.keep HK.out;clear i0;have i0:=(HK.out.cell (p:=⟨gi,oi+m,none⟩) hgW).trans HI0.out) | (go_at_call 78;refine (sJump _ _).mono ?_;rintro e w1 ⟨rfl,hb1⟩;have JK:=hid_of (Below.via (B:=W.heap.size) (w:=W) hb1 (Nat.le_refl _) (by repeat (first | with_reducible exact HK.out | with_reducible refine Below.drew ?_ | with_reducible refine Below.alloc ?_ (by have:=HK.out.size;first | omega | (simp;omega)) _)));clear HK;have HK:=JK;clear JK hb1;clear q0 q1 q2 q3 q4 tl;obtain ⟨q0,q1,q2,q3,q4,tl⟩:=HX.out.keep HK.out;clear i0;have i0:=(HK.out.cell (p:=⟨gi,oi+m,none⟩) hgW).trans HI0.out) | (go_at_call 77;refine (sThree _ _ _ _ _).mono ?_;rintro e w1 ⟨rfl,hb1⟩;have JK:=hid_of (Below.via (B:=W.heap.size) (w:=W) hb1 (Nat.le_refl _) (by repeat (first | with_reducible exact HK.out | with_reducible refine Below.drew ?_ | with_reducible refine Below.alloc ?_ (by have:=HK.out.size;first | omega | (simp;omega)) _)));clear HK;have HK:=JK;clear JK hb1;clear q0 q1 q2 q3 q4 tl;obtain ⟨q0,q1,q2,q3,q4,tl⟩:=HX.out.keep HK.out;clear i0;have i0:=(HK.out.cell (p:=⟨gi,oi+m,none⟩) hgW).trans HI0.out))
 go_wp2
 have hwz:=HW.out.size
 have hkz:=HK.out.size
 go_ret
 exact ⟨_,_,rfl,own5_new ([⟨11,0,a,0,y⟩]) _ rfl (by omega) (Nat.le_of_ble_eq_true rfl),(HW.out.trans (HK.out.mono (by omega))).alloc (by omega) _⟩
end
section
set_option linter.unusedSimpArgs false
set_option linter.unusedVariables false
set_option maxRecDepth 100000
open Go.RowKit
set_option maxHeartbeats 1000000 in
theorem spNo (o r a x n fr:Int) (ss sk:Option Addr) (sl sc kl kc:Nat) (w:World) (hok:Plain.insB o r a x n sl kl=false):Calls Tryz.prog 56 #[.slice sk kl kc,.agg #[.int .i64 o,.int .i64 r,.int .i64 a,.int .i64 x,.int .i64 n],.int .i64 fr,.slice ss sl sc] w fun e w'=>∃ v,e=.returned v∧OwnT5 w' w.heap.size v []∧Below w.heap.size w w':=by
 have HOK:=hid_of hok
 clear hok
 obtain ⟨W,hW,hx,hb,hz⟩:=XB.new w o r a x n 71
 have HX:=hid_of hx
 have HW:Hid (Below w.heap.size w W):=hb
 have HK:Hid (Below W.heap.size W W):=Below.refl _ _
 clear hx hb
 obtain ⟨q0,q1,q2,q3,q4,tl⟩:=HX.out
 go_enter Tryz.func56,Tryz.ntmps56
 go_wp2_with (go_at_call 47;refine calls_new [] W.heap.size 0 rfl rfl (by omega) (Nat.le_refl _) ?_;intro Wn hon hbn hzn;have HON:=hid_of hon;have HBN:=hid_of hbn;refine (specInsOk_any _ _ _ _ _ _ _ _).mono ?_;rintro e w1 ⟨rfl,hb1⟩;rw [HOK.out];have HB1:=hid_of hb1;clear hon hbn hb1)
 go_ret
 have z0:=HW.out.size
 have z1:=HBN.out.size
 exact ⟨_,rfl,(HON.out.keep HB1.out).low z0,(HW.out.trans (HBN.out.mono z0)).trans (HB1.out.mono (by omega))⟩
set_option maxHeartbeats 1000000 in
theorem spNb5 (r a x n fr:Int) (ss sk:Option Addr) (sl sc kl kc:Nat) (lo hi:Nat) (caps:List Int) (w:World) (hok:Plain.insB 5 r a x n sl kl=true) (hkl:caps.length=kl) (hcp:IntsR w lo hi sk caps) (hhi:hi≤w.heap.size) (hcl:caps.length≤2000000) (hbs:baseV caps n=-1):Calls Tryz.prog 56 #[.slice sk kl kc,.agg #[.int .i64 5,.int .i64 r,.int .i64 a,.int .i64 x,.int .i64 n],.int .i64 fr,.slice ss sl sc] w fun e w'=>∃ v,e=.returned v∧OwnT5 w' w.heap.size v []∧Below w.heap.size w w':=by
 have HOK:=hid_of hok
 clear hok
 obtain ⟨W,hW,hx,hb,hz⟩:=XB.new w 5 r a x n 71
 have HX:=hid_of hx
 have HW:Hid (Below w.heap.size w W):=hb
 have HK:Hid (Below W.heap.size W W):=Below.refl _ _
 clear hx hb
 obtain ⟨q0,q1,q2,q3,q4,tl⟩:=HX.out
 have HCP:=hid_of (hcp.keep (Keep.of_below HW.out hhi))
 have hhW:hi≤W.heap.size:=by have:=HW.out.size;omega
 clear hcp
 go_enter Tryz.func56,Tryz.ntmps56
 go_wp2_with (first | (go_at_call 47;refine calls_new [] W.heap.size 0 rfl rfl (by omega) (Nat.le_refl _) ?_;intro Wn hon hbn hzn;have HON:=hid_of hon;refine (specInsOk_any _ _ _ _ _ _ _ _).mono ?_;rintro e w1 ⟨rfl,hb1⟩;rw [HOK.out];have J0:=hid_of (HON.out.keep hb1);clear HON;have HON:=J0;clear J0;have JK:=hid_of (hbn.trans (hb1.mono hbn.size));clear HK;have HK:=JK;clear JK hon hbn hb1 hzn;clear q0 q1 q2 q3 q4 tl;obtain ⟨q0,q1,q2,q3,q4,tl⟩:=HX.out.keep HK.out) | (go_at_call 80;rw [← hkl];refine (specBase_any _ kc lo hi caps _ _ (HCP.out.keep (Keep.of_below HK.out hhW)) (by have:=HK.out.size;omega) hcl).mono ?_;rintro e w1 ⟨rfl,hb1⟩;rw [hbs];have J0:=hid_of (HON.out.keep hb1);clear HON;have HON:=J0;clear J0;have JK:=hid_of (HK.out.trans (hb1.mono HK.out.size));clear HK;have HK:=JK;clear JK hb1;clear q0 q1 q2 q3 q4 tl;obtain ⟨q0,q1,q2,q3,q4,tl⟩:=HX.out.keep HK.out))
 go_ret
 have z0:=HW.out.size
 exact ⟨_,rfl,HON.out.low z0,HW.out.trans (HK.out.mono z0)⟩
set_option maxHeartbeats 1000000 in
theorem spNb6 (r a x n fr:Int) (ss sk:Option Addr) (sl sc kl kc:Nat) (lo hi:Nat) (caps:List Int) (w:World) (hok:Plain.insB 6 r a x n sl kl=true) (hkl:caps.length=kl) (hcp:IntsR w lo hi sk caps) (hhi:hi≤w.heap.size) (hcl:caps.length≤2000000) (hbs:baseV caps n=-1):Calls Tryz.prog 56 #[.slice sk kl kc,.agg #[.int .i64 6,.int .i64 r,.int .i64 a,.int .i64 x,.int .i64 n],.int .i64 fr,.slice ss sl sc] w fun e w'=>∃ v,e=.returned v∧OwnT5 w' w.heap.size v []∧Below w.heap.size w w':=by
 have HOK:=hid_of hok
 clear hok
 obtain ⟨W,hW,hx,hb,hz⟩:=XB.new w 6 r a x n 71
 have HX:=hid_of hx
 have HW:Hid (Below w.heap.size w W):=hb
 have HK:Hid (Below W.heap.size W W):=Below.refl _ _
 clear hx hb
 obtain ⟨q0,q1,q2,q3,q4,tl⟩:=HX.out
 have HCP:=hid_of (hcp.keep (Keep.of_below HW.out hhi))
 have hhW:hi≤W.heap.size:=by have:=HW.out.size;omega
 clear hcp
 go_enter Tryz.func56,Tryz.ntmps56
 go_wp2_with (first | (go_at_call 47;refine calls_new [] W.heap.size 0 rfl rfl (by omega) (Nat.le_refl _) ?_;intro Wn hon hbn hzn;have HON:=hid_of hon;refine (specInsOk_any _ _ _ _ _ _ _ _).mono ?_;rintro e w1 ⟨rfl,hb1⟩;rw [HOK.out];have J0:=hid_of (HON.out.keep hb1);clear HON;have HON:=J0;clear J0;have JK:=hid_of (hbn.trans (hb1.mono hbn.size));clear HK;have HK:=JK;clear JK hon hbn hb1 hzn;clear q0 q1 q2 q3 q4 tl;obtain ⟨q0,q1,q2,q3,q4,tl⟩:=HX.out.keep HK.out) | (go_at_call 80;rw [← hkl];refine (specBase_any _ kc lo hi caps _ _ (HCP.out.keep (Keep.of_below HK.out hhW)) (by have:=HK.out.size;omega) hcl).mono ?_;rintro e w1 ⟨rfl,hb1⟩;rw [hbs];have J0:=hid_of (HON.out.keep hb1);clear HON;have HON:=J0;clear J0;have JK:=hid_of (HK.out.trans (hb1.mono HK.out.size));clear HK;have HK:=JK;clear JK hb1;clear q0 q1 q2 q3 q4 tl;obtain ⟨q0,q1,q2,q3,q4,tl⟩:=HX.out.keep HK.out))
 go_ret
 have z0:=HW.out.size
 exact ⟨_,rfl,HON.out.low z0,HW.out.trans (HK.out.mono z0)⟩
set_option maxHeartbeats 1000000 in
theorem spNb7 (r a x n fr:Int) (ss sk:Option Addr) (sl sc kl kc:Nat) (lo hi:Nat) (caps:List Int) (w:World) (hok:Plain.insB 7 r a x n sl kl=true) (hkl:caps.length=kl) (hcp:IntsR w lo hi sk caps) (hhi:hi≤w.heap.size) (hcl:caps.length≤2000000) (hbs:baseV caps n=-1):Calls Tryz.prog 56 #[.slice sk kl kc,.agg #[.int .i64 7,.int .i64 r,.int .i64 a,.int .i64 x,.int .i64 n],.int .i64 fr,.slice ss sl sc] w fun e w'=>∃ v,e=.returned v∧OwnT5 w' w.heap.size v []∧Below w.heap.size w w':=by
 have HOK:=hid_of hok
 clear hok
 obtain ⟨W,hW,hx,hb,hz⟩:=XB.new w 7 r a x n 71
 have HX:=hid_of hx
 have HW:Hid (Below w.heap.size w W):=hb
 have HK:Hid (Below W.heap.size W W):=Below.refl _ _
 clear hx hb
 obtain ⟨q0,q1,q2,q3,q4,tl⟩:=HX.out
 have HCP:=hid_of (hcp.keep (Keep.of_below HW.out hhi))
 have hhW:hi≤W.heap.size:=by have:=HW.out.size;omega
 clear hcp
 go_enter Tryz.func56,Tryz.ntmps56
 go_wp2_with (first | (go_at_call 47;refine calls_new [] W.heap.size 0 rfl rfl (by omega) (Nat.le_refl _) ?_;intro Wn hon hbn hzn;have HON:=hid_of hon;refine (specInsOk_any _ _ _ _ _ _ _ _).mono ?_;rintro e w1 ⟨rfl,hb1⟩;rw [HOK.out];have J0:=hid_of (HON.out.keep hb1);clear HON;have HON:=J0;clear J0;have JK:=hid_of (hbn.trans (hb1.mono hbn.size));clear HK;have HK:=JK;clear JK hon hbn hb1 hzn;clear q0 q1 q2 q3 q4 tl;obtain ⟨q0,q1,q2,q3,q4,tl⟩:=HX.out.keep HK.out) | (go_at_call 80;rw [← hkl];refine (specBase_any _ kc lo hi caps _ _ (HCP.out.keep (Keep.of_below HK.out hhW)) (by have:=HK.out.size;omega) hcl).mono ?_;rintro e w1 ⟨rfl,hb1⟩;rw [hbs];have J0:=hid_of (HON.out.keep hb1);clear HON;have HON:=J0;clear J0;have JK:=hid_of (HK.out.trans (hb1.mono HK.out.size));clear HK;have HK:=JK;clear JK hb1;clear q0 q1 q2 q3 q4 tl;obtain ⟨q0,q1,q2,q3,q4,tl⟩:=HX.out.keep HK.out))
 go_ret
 have z0:=HW.out.size
 exact ⟨_,rfl,HON.out.low z0,HW.out.trans (HK.out.mono z0)⟩
set_option maxHeartbeats 1000000 in
theorem spNb8 (r a x n fr:Int) (ss sk:Option Addr) (sl sc kl kc:Nat) (lo hi:Nat) (caps:List Int) (w:World) (hok:Plain.insB 8 r a x n sl kl=true) (hkl:caps.length=kl) (hcp:IntsR w lo hi sk caps) (hhi:hi≤w.heap.size) (hcl:caps.length≤2000000) (hbs:baseV caps n=-1):Calls Tryz.prog 56 #[.slice sk kl kc,.agg #[.int .i64 8,.int .i64 r,.int .i64 a,.int .i64 x,.int .i64 n],.int .i64 fr,.slice ss sl sc] w fun e w'=>∃ v,e=.returned v∧OwnT5 w' w.heap.size v []∧Below w.heap.size w w':=by
 have HOK:=hid_of hok
 clear hok
 obtain ⟨W,hW,hx,hb,hz⟩:=XB.new w 8 r a x n 71
 have HX:=hid_of hx
 have HW:Hid (Below w.heap.size w W):=hb
 have HK:Hid (Below W.heap.size W W):=Below.refl _ _
 clear hx hb
 obtain ⟨q0,q1,q2,q3,q4,tl⟩:=HX.out
 have HCP:=hid_of (hcp.keep (Keep.of_below HW.out hhi))
 have hhW:hi≤W.heap.size:=by have:=HW.out.size;omega
 clear hcp
 go_enter Tryz.func56,Tryz.ntmps56
 go_wp2_with (first | (go_at_call 47;refine calls_new [] W.heap.size 0 rfl rfl (by omega) (Nat.le_refl _) ?_;intro Wn hon hbn hzn;have HON:=hid_of hon;refine (specInsOk_any _ _ _ _ _ _ _ _).mono ?_;rintro e w1 ⟨rfl,hb1⟩;rw [HOK.out];have J0:=hid_of (HON.out.keep hb1);clear HON;have HON:=J0;clear J0;have JK:=hid_of (hbn.trans (hb1.mono hbn.size));clear HK;have HK:=JK;clear JK hon hbn hb1 hzn;clear q0 q1 q2 q3 q4 tl;obtain ⟨q0,q1,q2,q3,q4,tl⟩:=HX.out.keep HK.out) | (go_at_call 80;rw [← hkl];refine (specBase_any _ kc lo hi caps _ _ (HCP.out.keep (Keep.of_below HK.out hhW)) (by have:=HK.out.size;omega) hcl).mono ?_;rintro e w1 ⟨rfl,hb1⟩;rw [hbs];have J0:=hid_of (HON.out.keep hb1);clear HON;have HON:=J0;clear J0;have JK:=hid_of (HK.out.trans (hb1.mono HK.out.size));clear HK;have HK:=JK;clear JK hb1;clear q0 q1 q2 q3 q4 tl;obtain ⟨q0,q1,q2,q3,q4,tl⟩:=HX.out.keep HK.out))
 go_ret
 have z0:=HW.out.size
 exact ⟨_,rfl,HON.out.low z0,HW.out.trans (HK.out.mono z0)⟩
set_option maxHeartbeats 1000000 in
theorem spNb9 (r a x n fr:Int) (ss sk:Option Addr) (sl sc kl kc:Nat) (lo hi:Nat) (caps:List Int) (w:World) (hok:Plain.insB 9 r a x n sl kl=true) (hkl:caps.length=kl) (hcp:IntsR w lo hi sk caps) (hhi:hi≤w.heap.size) (hcl:caps.length≤2000000) (hbs:baseV caps n=-1):Calls Tryz.prog 56 #[.slice sk kl kc,.agg #[.int .i64 9,.int .i64 r,.int .i64 a,.int .i64 x,.int .i64 n],.int .i64 fr,.slice ss sl sc] w fun e w'=>∃ v,e=.returned v∧OwnT5 w' w.heap.size v []∧Below w.heap.size w w':=by
 have HOK:=hid_of hok
 clear hok
 obtain ⟨W,hW,hx,hb,hz⟩:=XB.new w 9 r a x n 71
 have HX:=hid_of hx
 have HW:Hid (Below w.heap.size w W):=hb
 have HK:Hid (Below W.heap.size W W):=Below.refl _ _
 clear hx hb
 obtain ⟨q0,q1,q2,q3,q4,tl⟩:=HX.out
 have HCP:=hid_of (hcp.keep (Keep.of_below HW.out hhi))
 have hhW:hi≤W.heap.size:=by have:=HW.out.size;omega
 clear hcp
 go_enter Tryz.func56,Tryz.ntmps56
 go_wp2_with (first | (go_at_call 47;refine calls_new [] W.heap.size 0 rfl rfl (by omega) (Nat.le_refl _) ?_;intro Wn hon hbn hzn;have HON:=hid_of hon;refine (specInsOk_any _ _ _ _ _ _ _ _).mono ?_;rintro e w1 ⟨rfl,hb1⟩;rw [HOK.out];have J0:=hid_of (HON.out.keep hb1);clear HON;have HON:=J0;clear J0;have JK:=hid_of (hbn.trans (hb1.mono hbn.size));clear HK;have HK:=JK;clear JK hon hbn hb1 hzn;clear q0 q1 q2 q3 q4 tl;obtain ⟨q0,q1,q2,q3,q4,tl⟩:=HX.out.keep HK.out) | (go_at_call 80;rw [← hkl];refine (specBase_any _ kc lo hi caps _ _ (HCP.out.keep (Keep.of_below HK.out hhW)) (by have:=HK.out.size;omega) hcl).mono ?_;rintro e w1 ⟨rfl,hb1⟩;rw [hbs];have J0:=hid_of (HON.out.keep hb1);clear HON;have HON:=J0;clear J0;have JK:=hid_of (HK.out.trans (hb1.mono HK.out.size));clear HK;have HK:=JK;clear JK hb1;clear q0 q1 q2 q3 q4 tl;obtain ⟨q0,q1,q2,q3,q4,tl⟩:=HX.out.keep HK.out))
 go_ret
 have z0:=HW.out.size
 exact ⟨_,rfl,HON.out.low z0,HW.out.trans (HK.out.mono z0)⟩
theorem specEmit_any (o r a x n fr : Int) (ss sk : Option Addr) (sc kc lo hi lo' hi' : Nat) (caps starts : List Int) (w : World) (hcp : IntsR w lo hi sk caps) (hhi : hi ≤ w.heap.size) (hcl : caps.length ≤ 2000000) (hst : IntsR w lo' hi' ss starts) (hhi' : hi' ≤ w.heap.size) :
  Calls Tryz.prog 56 #[.slice sk caps.length kc,.agg #[.int .i64 o,.int .i64 r,.int .i64 a,.int .i64 x,.int .i64 n],.int .i64 fr,.slice ss starts.length sc] w fun e w'=>∃ v,e=.returned v∧OwnT5 w' w.heap.size v (emitM caps starts o r a x n fr)∧Below w.heap.size w w':=by
 have up:∀ {n:Nat} {L:List I5} {C:Ending→World→Prop},(∀ e w',C e w'→∃ g c,e=.returned (.slice (some ⟨g,0,none⟩) n c)∧OwnT5 w' w.heap.size (.slice (some ⟨g,0,none⟩) n c) L∧Below w.heap.size w w')→∀ e w',C e w'→∃ v,e=.returned v∧OwnT5 w' w.heap.size v L∧Below w.heap.size w w':=fun h e w' hc=>by
  obtain ⟨g,c,h1,h2,h3⟩:=h e w' hc
  exact ⟨_,h1,h2,h3⟩
 by_cases hok:Plain.insB o r a x n starts.length caps.length=true
 ·unfold emitM
  rw [if_pos hok]
  have hjr:(o=11∨o=12)→∃ gi oi,ss=some ⟨gi,oi,none⟩∧gi < w.heap.size∧w.cell? ⟨gi,oi+n.toNat,none⟩=some (.int .i64 (starts.getD n.toNat 0)):=fun ho=>by
   obtain ⟨h0,h1⟩:=insB_jump hok ho
   obtain ⟨gi,oi,e,q1,q2,q3⟩:=hst.pos (by omega)
   exact ⟨gi,oi,e,by omega,q3 n.toNat (by omega)⟩
  rcases insB_ops hok with rfl | rfl | rfl | rfl | rfl | rfl | rfl | rfl | rfl | rfl | rfl | rfl | rfl
  ·exact (spE1 r a x n fr ss sk starts.length sc caps.length kc w hok).mono (up (fun e w' h=>h))
  ·exact (spE2 r a x n fr ss sk starts.length sc caps.length kc w hok).mono (up (fun e w' h=>h))
  ·exact (spE3 r a x n fr ss sk starts.length sc caps.length kc w hok).mono (up (fun e w' h=>h))
  ·exact (spE4 r a x n fr ss sk starts.length sc caps.length kc w hok).mono (up (fun e w' h=>h))
  ·by_cases hb:baseV caps n=-1
   ·refine (spNb5 r a x n fr ss sk starts.length sc caps.length kc lo hi caps w hok rfl hcp hhi hcl hb).mono ?_
    rintro e w' ⟨v,h1,h2,h3⟩
    refine ⟨v,h1,?_,h3⟩
    have e2:(if baseV caps n=-1 then [] else chanM 5 r a x (caps.getD n.toNat 0) (baseV caps n) fr)=[]:=if_pos hb
    show OwnT5 w' _ _ (if baseV caps n=-1 then [] else chanM 5 r a x (caps.getD n.toNat 0) (baseV caps n) fr)
    rw [e2]
    exact h2
   ·obtain ⟨u0,u1,u2,u3⟩:=baseV_up hb
    have e2:(if baseV caps n=-1 then [] else chanM 5 r a x (caps.getD n.toNat 0) (baseV caps n) fr)=sendS5 r a (baseV caps n) (caps.getD n.toNat 0) fr:=(if_neg hb).trans (eq5 r a (baseV caps n) (caps.getD n.toNat 0) fr)
    refine (spE5 r a x n fr ss sk starts.length sc caps.length kc lo hi caps (baseV caps n) (caps.getD n.toNat 0) w hok rfl hcp hhi hcl rfl u0 u1 u2 u3 rfl).mono ?_
    rintro e w' ⟨g,c,h1,h2,h3⟩
    refine ⟨_,h1,?_,h3⟩
    show OwnT5 w' _ _ (if baseV caps n=-1 then [] else chanM 5 r a x (caps.getD n.toNat 0) (baseV caps n) fr)
    rw [e2]
    exact h2
  ·by_cases hb:baseV caps n=-1
   ·refine (spNb6 r a x n fr ss sk starts.length sc caps.length kc lo hi caps w hok rfl hcp hhi hcl hb).mono ?_
    rintro e w' ⟨v,h1,h2,h3⟩
    refine ⟨v,h1,?_,h3⟩
    have e2:(if baseV caps n=-1 then [] else chanM 6 r a x (caps.getD n.toNat 0) (baseV caps n) fr)=[]:=if_pos hb
    show OwnT5 w' _ _ (if baseV caps n=-1 then [] else chanM 6 r a x (caps.getD n.toNat 0) (baseV caps n) fr)
    rw [e2]
    exact h2
   ·obtain ⟨u0,u1,u2,u3⟩:=baseV_up hb
    have e2:(if baseV caps n=-1 then [] else chanM 6 r a x (caps.getD n.toNat 0) (baseV caps n) fr)=takeS6 r x (baseV caps n) (caps.getD n.toNat 0) fr:=(if_neg hb).trans (eq6 r x (baseV caps n) (caps.getD n.toNat 0) fr)
    refine (spE6 r a x n fr ss sk starts.length sc caps.length kc lo hi caps (baseV caps n) (caps.getD n.toNat 0) w hok rfl hcp hhi hcl rfl u0 u1 u2 u3 rfl).mono ?_
    rintro e w' ⟨g,c,h1,h2,h3⟩
    refine ⟨_,h1,?_,h3⟩
    show OwnT5 w' _ _ (if baseV caps n=-1 then [] else chanM 6 r a x (caps.getD n.toNat 0) (baseV caps n) fr)
    rw [e2]
    exact h2
  ·by_cases hb:baseV caps n=-1
   ·refine (spNb7 r a x n fr ss sk starts.length sc caps.length kc lo hi caps w hok rfl hcp hhi hcl hb).mono ?_
    rintro e w' ⟨v,h1,h2,h3⟩
    refine ⟨v,h1,?_,h3⟩
    have e2:(if baseV caps n=-1 then [] else chanM 7 r a x (caps.getD n.toNat 0) (baseV caps n) fr)=[]:=if_pos hb
    show OwnT5 w' _ _ (if baseV caps n=-1 then [] else chanM 7 r a x (caps.getD n.toNat 0) (baseV caps n) fr)
    rw [e2]
    exact h2
   ·obtain ⟨u0,u1,u2,u3⟩:=baseV_up hb
    have e2:(if baseV caps n=-1 then [] else chanM 7 r a x (caps.getD n.toNat 0) (baseV caps n) fr)=sendS7 r a (baseV caps n) (caps.getD n.toNat 0) fr:=(if_neg hb).trans (eq7 r a (baseV caps n) (caps.getD n.toNat 0) fr)
    refine (spE7 r a x n fr ss sk starts.length sc caps.length kc lo hi caps (baseV caps n) (caps.getD n.toNat 0) w hok rfl hcp hhi hcl rfl u0 u1 u2 u3 rfl).mono ?_
    rintro e w' ⟨g,c,h1,h2,h3⟩
    refine ⟨_,h1,?_,h3⟩
    show OwnT5 w' _ _ (if baseV caps n=-1 then [] else chanM 7 r a x (caps.getD n.toNat 0) (baseV caps n) fr)
    rw [e2]
    exact h2
  ·by_cases hb:baseV caps n=-1
   ·refine (spNb8 r a x n fr ss sk starts.length sc caps.length kc lo hi caps w hok rfl hcp hhi hcl hb).mono ?_
    rintro e w' ⟨v,h1,h2,h3⟩
    refine ⟨v,h1,?_,h3⟩
    have e2:(if baseV caps n=-1 then [] else chanM 8 r a x (caps.getD n.toNat 0) (baseV caps n) fr)=[]:=if_pos hb
    show OwnT5 w' _ _ (if baseV caps n=-1 then [] else chanM 8 r a x (caps.getD n.toNat 0) (baseV caps n) fr)
    rw [e2]
    exact h2
   ·obtain ⟨u0,u1,u2,u3⟩:=baseV_up hb
    have e2:(if baseV caps n=-1 then [] else chanM 8 r a x (caps.getD n.toNat 0) (baseV caps n) fr)=takeS8 r x (baseV caps n) (caps.getD n.toNat 0) fr:=(if_neg hb).trans (eq8 r x (baseV caps n) (caps.getD n.toNat 0) fr)
    refine (spE8 r a x n fr ss sk starts.length sc caps.length kc lo hi caps (baseV caps n) (caps.getD n.toNat 0) w hok rfl hcp hhi hcl rfl u0 u1 u2 u3 rfl).mono ?_
    rintro e w' ⟨g,c,h1,h2,h3⟩
    refine ⟨_,h1,?_,h3⟩
    show OwnT5 w' _ _ (if baseV caps n=-1 then [] else chanM 8 r a x (caps.getD n.toNat 0) (baseV caps n) fr)
    rw [e2]
    exact h2
  ·by_cases hb:baseV caps n=-1
   ·refine (spNb9 r a x n fr ss sk starts.length sc caps.length kc lo hi caps w hok rfl hcp hhi hcl hb).mono ?_
    rintro e w' ⟨v,h1,h2,h3⟩
    refine ⟨v,h1,?_,h3⟩
    have e2:(if baseV caps n=-1 then [] else chanM 9 r a x (caps.getD n.toNat 0) (baseV caps n) fr)=[]:=if_pos hb
    show OwnT5 w' _ _ (if baseV caps n=-1 then [] else chanM 9 r a x (caps.getD n.toNat 0) (baseV caps n) fr)
    rw [e2]
    exact h2
   ·obtain ⟨u0,u1,u2,u3⟩:=baseV_up hb
    have e2:(if baseV caps n=-1 then [] else chanM 9 r a x (caps.getD n.toNat 0) (baseV caps n) fr)=closeS (baseV caps n) fr:=(if_neg hb).trans (eq9 (baseV caps n) fr)
    refine (spE9 r a x n fr ss sk starts.length sc caps.length kc lo hi caps (baseV caps n) (caps.getD n.toNat 0) w hok rfl hcp hhi hcl rfl u0 u1 u2 u3 rfl).mono ?_
    rintro e w' ⟨g,c,h1,h2,h3⟩
    refine ⟨_,h1,?_,h3⟩
    show OwnT5 w' _ _ (if baseV caps n=-1 then [] else chanM 9 r a x (caps.getD n.toNat 0) (baseV caps n) fr)
    rw [e2]
    exact h2
  ·exact (spE10 r a x n fr ss sk starts.length sc caps.length kc w hok).mono (up (fun e w' h=>h))
  ·obtain ⟨j0,j1⟩:=insB_jump hok (by omega)
   exact (spE11 r a x n fr ss sk starts.length sc caps.length kc (starts.getD n.toNat 0) w hok (hjr (by omega)) j0 j1).mono (up (fun e w' h=>h))
  ·obtain ⟨j0,j1⟩:=insB_jump hok (by omega)
   exact (spE12 r a x n fr ss sk starts.length sc caps.length kc (starts.getD n.toNat 0) w hok (hjr (by omega)) j0 j1).mono (up (fun e w' h=>h))
  ·exact (spE13 r a x n fr ss sk starts.length sc caps.length kc w hok).mono (up (fun e w' h=>h))
 ·have e:emitM caps starts o r a x n fr=[]:=by unfold emitM;rw [if_neg hok]
  rw [e]
  exact spNo o r a x n fr ss sk starts.length sc caps.length kc w (by simpa using hok)
end
end Go.Proofs.YtkhjhibigldcgaaGreat
