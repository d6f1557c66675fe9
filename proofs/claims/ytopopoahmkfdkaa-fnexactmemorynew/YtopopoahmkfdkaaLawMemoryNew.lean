/- The law FnExactMemoryNew of the given statements: MemoryNew of the program answers as the specification's, its answer owns its memory. No condition. -/
import Derived.Test.YtopopoahmkfdkaaFrameN
import Derived.Test.YtopopoahmkfdkaaMemEq
import Derived.Test.YtopopoahmkfdkaaMemMark
import Derived.Test.YtopopoahmkfdkaaMemNew
import Derived.Deep.RegionHeld3
namespace Go.Proofs.Ytopopoahmkfdkaa
set_option linter.unusedSimpArgs false
set_option linter.unusedVariables false
set_option maxRecDepth 100000
open Go.ChangeShapes Go.WideShapes Go.ChangeAt Go.RowKit Go.Deep

theorem szN : szR (newM 24) = 600 := by decide
theorem markNew {so : Option Addr} {S : List RS} {c lo hi : Nat} {w : World} (h : MO w lo hi so S (newM 24)) (hB : hi ≤ w.heap.size) :
    Calls Try.prog 20 #[.agg #[.slice so 24 c], .int .i64 1] w fun e w' => e = .returned (.int .i64 601) ∧ Mk w' lo hi so S 1 ∧ Exc lo hi w w' := by
  have := markMemory_exc so S (newM 24) c lo hi 1 w h hB (by rw [szN, newM_len]; omega) (by omega) (by omega)
  rw [newM_len, szN] at this
  exact this
theorem heldNew {so : Option Addr} {S : List RS} {c lo hi : Nat} {w : World} (h : Mk w lo hi so S 1) (hB : hi ≤ w.heap.size) (hz : (mAs S).length = 600 ∧ S.length = 24) :
    Calls Try.prog 21 #[.agg #[.slice so 24 c], .int .i64 1] w fun e w' => e = .returned (.int .i64 601) ∧ Below w.heap.size w w' := by
  have := heldMemory_any so S (newM 24) c lo hi 1 w h hB (by rw [szN]; exact hz.1) (by rw [newM_len]; exact hz.2) (by rw [szN, newM_len]; omega) (by omega) (by omega)
  rw [newM_len, szN] at this
  exact this
theorem eqNew {s s' : Option Addr} {c c' lo hi lo' hi' : Nat} {w : World} (h : MemR w lo hi s (newM 24)) (h' : MemR w lo' hi' s' (newM 24)) (hB : hi ≤ w.heap.size) (hB' : hi' ≤ w.heap.size) :
    Calls Try.prog 14 #[.agg #[.slice s 24 c], .agg #[.slice s' 24 c']] w fun e w' => e = .returned (.bool true) ∧ Below w.heap.size w w' := by
  have := eqMemory_alike s s' c c' lo hi lo' hi' (newM 24) w h h' hB hB' (by rw [szN, newM_len]; omega)
  rw [newM_len] at this
  exact this

set_option maxRecDepth 100000 in
set_option maxHeartbeats 8000000 in
theorem walkExactMemoryNew (w : World)  :
    Calls Try.prog 5 #[] w fun e w' => e = .returned (.bool true) ∧ Below w.heap.size w w' := by
  go_enter Try.func5, Try.ntmps5
  go_wp2_with fail
  have HK : Hid (Below w.heap.size w w) := Below.refl _ _
  refine (specNew_any w).mono ?_
  rintro e w1 ⟨xw, cw, Sw, rfl, ho1, hb1⟩
  have z1 := hb1.size
  have JK : Hid (Below w.heap.size w w1) := HK.out.trans (hb1.mono (by omega))
  clear HK
  have HK := JK
  clear JK
  have HRw : Hid (MemR w1 w.heap.size w1.heap.size xw (newM 24)) := ho1.mem
  clear hb1 ho1
  go_wp2_with fail
  obtain ⟨V2, hV2, bx2, kb2, zb2⟩ := Bo1.new w1 (.slice xw 24 cw) 30
  rw [hV2]
  clear hV2
  have JK : Hid (Below w.heap.size w V2) := HK.out.trans (kb2.mono (by omega))
  have JRw : Hid (MemR V2 w.heap.size w1.heap.size xw (newM 24)) := HRw.out.keep (Keep.of_below kb2 (by omega))
  clear HK
  have HK := JK
  clear JK
  clear HRw
  have HRw := JRw
  clear JRw
  have HXw : Hid (Bo1 w1.heap.size V2 (.slice xw 24 cw)) := bx2
  clear bx2 kb2
  obtain ⟨Xwc0⟩ := HXw.out
  have Xwz : w1.heap.size < V2.heap.size := by omega
  refine (implNew_any V2).mono ?_
  rintro e w3 ⟨xg, cg, Sg, rfl, ho3, hb3⟩
  have z3 := hb3.size
  clear Xwc0 Xwz
  have JK : Hid (Below w.heap.size w w3) := HK.out.trans (hb3.mono (by omega))
  have JRw : Hid (MemR w3 w.heap.size w1.heap.size xw (newM 24)) := HRw.out.keep (Keep.of_below hb3 (by omega))
  have JXw : Hid (Bo1 w1.heap.size w3 (.slice xw 24 cw)) := HXw.out.keep (Keep.of_below hb3 (by omega))
  clear HK
  have HK := JK
  clear JK
  clear HRw
  have HRw := JRw
  clear JRw
  clear HXw
  have HXw := JXw
  clear JXw
  have HRg : Hid (MemR w3 V2.heap.size w3.heap.size xg (newM 24)) := ho3.mem
  have HOg : Hid (MO w3 V2.heap.size w3.heap.size xg Sg (newM 24)) := ho3
  have HZZ : Hid ((mAs Sg).length = 600 ∧ Sg.length = 24) := ⟨by rw [ho3.sz, szN], by rw [ho3.n, newM_len]⟩
  clear hb3 ho3
  obtain ⟨Xwc0⟩ := HXw.out
  have Xwz : w1.heap.size < w3.heap.size := by omega
  go_wp2_with fail
  obtain ⟨V4, hV4, bx4, kb4, zb4⟩ := Bo1.new w3 (.slice xg 24 cg) 30
  rw [hV4]
  clear hV4
  clear Xwc0 Xwz
  have JK : Hid (Below w.heap.size w V4) := HK.out.trans (kb4.mono (by omega))
  have JRw : Hid (MemR V4 w.heap.size w1.heap.size xw (newM 24)) := HRw.out.keep (Keep.of_below kb4 (by omega))
  have JXw : Hid (Bo1 w1.heap.size V4 (.slice xw 24 cw)) := HXw.out.keep (Keep.of_below kb4 (by omega))
  have JRg : Hid (MemR V4 V2.heap.size w3.heap.size xg (newM 24)) := HRg.out.keep (Keep.of_below kb4 (by omega))
  have JOg : Hid (MO V4 V2.heap.size w3.heap.size xg Sg (newM 24)) := HOg.out.keep (Keep.of_below kb4 (by omega))
  clear HK
  have HK := JK
  clear JK
  clear HRw
  have HRw := JRw
  clear JRw
  clear HXw
  have HXw := JXw
  clear JXw
  clear HRg
  have HRg := JRg
  clear JRg
  clear HOg
  have HOg := JOg
  clear JOg
  have HXg : Hid (Bo1 w3.heap.size V4 (.slice xg 24 cg)) := bx4
  clear bx4 kb4
  obtain ⟨Xwc0⟩ := HXw.out
  have Xwz : w1.heap.size < V4.heap.size := by omega
  obtain ⟨Xgc0⟩ := HXg.out
  have Xgz : w3.heap.size < V4.heap.size := by omega
  refine (eqNew HRg.out HRw.out (by omega) (by omega)).mono ?_
  rintro e w5 ⟨rfl, hb5⟩
  have z5 := hb5.size
  clear Xwc0 Xwz
  clear Xgc0 Xgz
  have JK : Hid (Below w.heap.size w w5) := HK.out.trans (hb5.mono (by omega))
  have JRw : Hid (MemR w5 w.heap.size w1.heap.size xw (newM 24)) := HRw.out.keep (Keep.of_below hb5 (by omega))
  have JXw : Hid (Bo1 w1.heap.size w5 (.slice xw 24 cw)) := HXw.out.keep (Keep.of_below hb5 (by omega))
  have JRg : Hid (MemR w5 V2.heap.size w3.heap.size xg (newM 24)) := HRg.out.keep (Keep.of_below hb5 (by omega))
  have JOg : Hid (MO w5 V2.heap.size w3.heap.size xg Sg (newM 24)) := HOg.out.keep (Keep.of_below hb5 (by omega))
  have JXg : Hid (Bo1 w3.heap.size w5 (.slice xg 24 cg)) := HXg.out.keep (Keep.of_below hb5 (by omega))
  clear HK
  have HK := JK
  clear JK
  clear HRw
  have HRw := JRw
  clear JRw
  clear HXw
  have HXw := JXw
  clear JXw
  clear HRg
  have HRg := JRg
  clear JRg
  clear HOg
  have HOg := JOg
  clear JOg
  clear HXg
  have HXg := JXg
  clear JXg
  clear hb5
  obtain ⟨Xwc0⟩ := HXw.out
  have Xwz : w1.heap.size < w5.heap.size := by omega
  obtain ⟨Xgc0⟩ := HXg.out
  have Xgz : w3.heap.size < w5.heap.size := by omega
  go_wp2_with fail
  refine (markNew HOg.out (by omega)).mono ?_
  rintro e w6 ⟨rfl, hm6, ex6⟩
  have z6 := ex6.size
  clear Xwc0 Xwz
  clear Xgc0 Xgz
  have JK : Hid (Below w.heap.size w w6) := HK.out.trans (ex6.below (by omega) (by omega))
  have JRw : Hid (MemR w6 w.heap.size w1.heap.size xw (newM 24)) := HRw.out.keep (Keep.of_exc ex6 (by omega) (by omega))
  have JXw : Hid (Bo1 w1.heap.size w6 (.slice xw 24 cw)) := HXw.out.keep (Keep.of_exc ex6 (by omega) (by omega))
  have JXg : Hid (Bo1 w3.heap.size w6 (.slice xg 24 cg)) := HXg.out.keep (Keep.of_exc ex6 (by omega) (by omega))
  clear HK
  have HK := JK
  clear JK
  clear HRw
  have HRw := JRw
  clear JRw
  clear HXw
  have HXw := JXw
  clear JXw
  clear HRg
  clear HOg
  clear HXg
  have HXg := JXg
  clear JXg
  have HD : Hid (Mk w6 V2.heap.size w3.heap.size xg Sg 1) := hm6
  clear ex6 hm6
  obtain ⟨Xwc0⟩ := HXw.out
  have Xwz : w1.heap.size < w6.heap.size := by omega
  obtain ⟨Xgc0⟩ := HXg.out
  have Xgz : w3.heap.size < w6.heap.size := by omega
  go_wp2_with fail
  refine (heldNew HD.out (by omega) HZZ.out).mono ?_
  rintro e w7 ⟨rfl, hb7⟩
  have z7 := hb7.size
  clear Xwc0 Xwz
  clear Xgc0 Xgz
  have JK : Hid (Below w.heap.size w w7) := HK.out.trans (hb7.mono (by omega))
  have JRw : Hid (MemR w7 w.heap.size w1.heap.size xw (newM 24)) := HRw.out.keep (Keep.of_below hb7 (by omega))
  have JXw : Hid (Bo1 w1.heap.size w7 (.slice xw 24 cw)) := HXw.out.keep (Keep.of_below hb7 (by omega))
  have JXg : Hid (Bo1 w3.heap.size w7 (.slice xg 24 cg)) := HXg.out.keep (Keep.of_below hb7 (by omega))
  have JD : Hid (Mk w7 V2.heap.size w3.heap.size xg Sg 1) := HD.out.keep (Keep.of_below hb7 (by omega))
  clear HK
  have HK := JK
  clear JK
  clear HRw
  have HRw := JRw
  clear JRw
  clear HXw
  have HXw := JXw
  clear JXw
  clear HXg
  have HXg := JXg
  clear JXg
  clear HD
  have HD := JD
  clear JD
  clear hb7
  obtain ⟨Xwc0⟩ := HXw.out
  have Xwz : w1.heap.size < w7.heap.size := by omega
  obtain ⟨Xgc0⟩ := HXg.out
  have Xgz : w3.heap.size < w7.heap.size := by omega
  go_wp2_with fail
  refine (implNew_any w7).mono ?_
  rintro e w8 ⟨xk, ck, Sk, rfl, ho8, hb8⟩
  have z8 := hb8.size
  clear Xwc0 Xwz
  clear Xgc0 Xgz
  have JK : Hid (Below w.heap.size w w8) := HK.out.trans (hb8.mono (by omega))
  have JRw : Hid (MemR w8 w.heap.size w1.heap.size xw (newM 24)) := HRw.out.keep (Keep.of_below hb8 (by omega))
  have JXw : Hid (Bo1 w1.heap.size w8 (.slice xw 24 cw)) := HXw.out.keep (Keep.of_below hb8 (by omega))
  have JXg : Hid (Bo1 w3.heap.size w8 (.slice xg 24 cg)) := HXg.out.keep (Keep.of_below hb8 (by omega))
  have JD : Hid (Mk w8 V2.heap.size w3.heap.size xg Sg 1) := HD.out.keep (Keep.of_below hb8 (by omega))
  clear HK
  have HK := JK
  clear JK
  clear HRw
  have HRw := JRw
  clear JRw
  clear HXw
  have HXw := JXw
  clear JXw
  clear HXg
  have HXg := JXg
  clear JXg
  clear HD
  have HD := JD
  clear JD
  have HRk : Hid (MemR w8 w7.heap.size w8.heap.size xk (newM 24)) := ho8.mem
  clear hb8 ho8
  obtain ⟨Xwc0⟩ := HXw.out
  have Xwz : w1.heap.size < w8.heap.size := by omega
  obtain ⟨Xgc0⟩ := HXg.out
  have Xgz : w3.heap.size < w8.heap.size := by omega
  go_wp2_with fail
  obtain ⟨V9, hV9, bx9, kb9, zb9⟩ := Bo1.new w8 (.slice xk 24 ck) 30
  rw [hV9]
  clear hV9
  clear Xwc0 Xwz
  clear Xgc0 Xgz
  have JK : Hid (Below w.heap.size w V9) := HK.out.trans (kb9.mono (by omega))
  have JRw : Hid (MemR V9 w.heap.size w1.heap.size xw (newM 24)) := HRw.out.keep (Keep.of_below kb9 (by omega))
  have JXw : Hid (Bo1 w1.heap.size V9 (.slice xw 24 cw)) := HXw.out.keep (Keep.of_below kb9 (by omega))
  have JXg : Hid (Bo1 w3.heap.size V9 (.slice xg 24 cg)) := HXg.out.keep (Keep.of_below kb9 (by omega))
  have JD : Hid (Mk V9 V2.heap.size w3.heap.size xg Sg 1) := HD.out.keep (Keep.of_below kb9 (by omega))
  have JRk : Hid (MemR V9 w7.heap.size w8.heap.size xk (newM 24)) := HRk.out.keep (Keep.of_below kb9 (by omega))
  clear HK
  have HK := JK
  clear JK
  clear HRw
  have HRw := JRw
  clear JRw
  clear HXw
  have HXw := JXw
  clear JXw
  clear HXg
  have HXg := JXg
  clear JXg
  clear HD
  have HD := JD
  clear JD
  clear HRk
  have HRk := JRk
  clear JRk
  have HXk : Hid (Bo1 w8.heap.size V9 (.slice xk 24 ck)) := bx9
  clear bx9 kb9
  obtain ⟨Xwc0⟩ := HXw.out
  have Xwz : w1.heap.size < V9.heap.size := by omega
  obtain ⟨Xgc0⟩ := HXg.out
  have Xgz : w3.heap.size < V9.heap.size := by omega
  obtain ⟨Xkc0⟩ := HXk.out
  have Xkz : w8.heap.size < V9.heap.size := by omega
  refine (eqNew HRk.out HRw.out (by omega) (by omega)).mono ?_
  rintro e w10 ⟨rfl, hb10⟩
  have z10 := hb10.size
  clear Xwc0 Xwz
  clear Xgc0 Xgz
  clear Xkc0 Xkz
  have JK : Hid (Below w.heap.size w w10) := HK.out.trans (hb10.mono (by omega))
  have JRw : Hid (MemR w10 w.heap.size w1.heap.size xw (newM 24)) := HRw.out.keep (Keep.of_below hb10 (by omega))
  have JXw : Hid (Bo1 w1.heap.size w10 (.slice xw 24 cw)) := HXw.out.keep (Keep.of_below hb10 (by omega))
  have JXg : Hid (Bo1 w3.heap.size w10 (.slice xg 24 cg)) := HXg.out.keep (Keep.of_below hb10 (by omega))
  have JD : Hid (Mk w10 V2.heap.size w3.heap.size xg Sg 1) := HD.out.keep (Keep.of_below hb10 (by omega))
  have JRk : Hid (MemR w10 w7.heap.size w8.heap.size xk (newM 24)) := HRk.out.keep (Keep.of_below hb10 (by omega))
  have JXk : Hid (Bo1 w8.heap.size w10 (.slice xk 24 ck)) := HXk.out.keep (Keep.of_below hb10 (by omega))
  clear HK
  have HK := JK
  clear JK
  clear HRw
  have HRw := JRw
  clear JRw
  clear HXw
  have HXw := JXw
  clear JXw
  clear HXg
  have HXg := JXg
  clear JXg
  clear HD
  have HD := JD
  clear JD
  clear HRk
  have HRk := JRk
  clear JRk
  clear HXk
  have HXk := JXk
  clear JXk
  clear hb10
  obtain ⟨Xwc0⟩ := HXw.out
  have Xwz : w1.heap.size < w10.heap.size := by omega
  obtain ⟨Xgc0⟩ := HXg.out
  have Xgz : w3.heap.size < w10.heap.size := by omega
  obtain ⟨Xkc0⟩ := HXk.out
  have Xkz : w8.heap.size < w10.heap.size := by omega
  go_wp2_with fail
  refine (heldNew HD.out (by omega) HZZ.out).mono ?_
  rintro e w11 ⟨rfl, hb11⟩
  have z11 := hb11.size
  clear Xwc0 Xwz
  clear Xgc0 Xgz
  clear Xkc0 Xkz
  have JK : Hid (Below w.heap.size w w11) := HK.out.trans (hb11.mono (by omega))
  have JRw : Hid (MemR w11 w.heap.size w1.heap.size xw (newM 24)) := HRw.out.keep (Keep.of_below hb11 (by omega))
  have JXw : Hid (Bo1 w1.heap.size w11 (.slice xw 24 cw)) := HXw.out.keep (Keep.of_below hb11 (by omega))
  have JXg : Hid (Bo1 w3.heap.size w11 (.slice xg 24 cg)) := HXg.out.keep (Keep.of_below hb11 (by omega))
  have JD : Hid (Mk w11 V2.heap.size w3.heap.size xg Sg 1) := HD.out.keep (Keep.of_below hb11 (by omega))
  have JRk : Hid (MemR w11 w7.heap.size w8.heap.size xk (newM 24)) := HRk.out.keep (Keep.of_below hb11 (by omega))
  have JXk : Hid (Bo1 w8.heap.size w11 (.slice xk 24 ck)) := HXk.out.keep (Keep.of_below hb11 (by omega))
  clear HK
  have HK := JK
  clear JK
  clear HRw
  have HRw := JRw
  clear JRw
  clear HXw
  have HXw := JXw
  clear JXw
  clear HXg
  have HXg := JXg
  clear JXg
  clear HD
  have HD := JD
  clear JD
  clear HRk
  have HRk := JRk
  clear JRk
  clear HXk
  have HXk := JXk
  clear JXk
  clear hb11
  obtain ⟨Xwc0⟩ := HXw.out
  have Xwz : w1.heap.size < w11.heap.size := by omega
  obtain ⟨Xgc0⟩ := HXg.out
  have Xgz : w3.heap.size < w11.heap.size := by omega
  obtain ⟨Xkc0⟩ := HXk.out
  have Xkz : w8.heap.size < w11.heap.size := by omega
  go_wp2
  go_ret
  exact ⟨rfl, HK.out⟩

set_option maxRecDepth 100000 in
theorem liftedExactMemoryNew (os : Os) (started : os.Started) (H : Type) (enc : TypeId × Value → H) :
    ReturnsInHanded {} Try.checked os 5 .any (Rows.fnExactMemoryNewSpec.pre6 enc Try.prog Try.f5 Rows.fnExactMemoryNewRow.domain false) (Rows.fnExactMemoryNewSpec.post enc Try.prog Try.f5 false true false false) := by
  refine returnsInHanded_of_change (C := Try.checked) ownP started (by kernel_rfl) Try.func5
    (ChangeSpec.witness6 (enc := enc) (C := Try.checked) false ⟨#[], #[], []⟩ 8 (by kernel_rfl) (by kernel_rfl) (by kernel_rfl) (by kernel_rfl)) ?_
  intro W base args ds gs before hval0 hW hcnd _
  have hval : ∀ (j : Nat) t v, Try.f5.params[j]? = some t → args[j]? = some v → Value.okWide Try.prog W .any base t v := hval0
  have hW' := hW
  obtain ⟨p, q, hA0, hV, rfl, hfz, hnd⟩ := hW
  have hA : DataW.TrodAll enc Try.prog W 0 (fun _ => true) true Try.f5.params.toList args.toList ds p := hA0
  rw [Try.params5] at hA hval
  obtain ⟨hargs, rfl, rfl⟩ := trodAll_nil hA
  obtain rfl : args = #[] := by cases args; simp_all
  obtain ⟨rfl, rfl⟩ := trodVars_none hV
  clear hA0 hval0
  refine (walkExactMemoryNew  W ).mono fun e W' ⟨he, bel⟩ => ?_
  subst he
  exact ⟨_, rfl, _, _, _, [], _, [], hW', trodAll_mk1 (shut_bool Try.underlying4 _), trodAll_mk0, rfl, bel.frame _, fun h => by cases h⟩

theorem fnExactMemoryNew_holds : Rows.FnExactMemoryNewSaid :=
  OpenClaim.holds_of_wide 5 Try.f5 rfl rfl rfl rfl rfl rfl rfl ⟨rfl, rfl, rfl, rfl, rfl⟩ rfl rfl rfl rfl rfl (by kernel_rfl) Try.func5 (by kernel_rfl)
    (of_decide_eq_true (by kernel_rfl)) (by unfold Func.isWrapper; first | (rw [if_pos (by decide +kernel)]; kernel_rfl) | (rw [if_neg (by decide +kernel)]; exact ⟨rfl, rfl⟩))
    (fun os started H enc _ => liftedExactMemoryNew os started H enc)
#print axioms fnExactMemoryNew_holds

end Go.Proofs.Ytopopoahmkfdkaa
