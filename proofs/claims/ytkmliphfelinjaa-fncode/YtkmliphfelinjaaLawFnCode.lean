/- The law FnCode of the given statements: drawn code that is right is right step by step, and stays so with an end behind it. No condition. -/
import Derived.Test.YtkmliphfelinjaaFnBytes
import Derived.Test.YtkmliphfelinjaaDrawWord
import Derived.Test.YtkmliphfelinjaaRows7
import Derived.Test.YtkmliphfelinjaaCodeI
import Derived.Test.YtkmliphfelinjaaCodeS
import Derived.Test.YtkmliphfelinjaaQuietC
namespace Go.Proofs.Ytkmliphfelinjaa
set_option linter.unusedSimpArgs false
set_option linter.unusedVariables false
set_option maxRecDepth 100000
open Go.ChangeShapes Go.WideShapes Go.ChangeAt Go.RowKit

theorem implCode_more (g cap base : Nat) (l : List I5) (w : World) (h : OwnV w base (.slice (some ⟨g, 0, none⟩) (l.length + 1) cap) (l ++ [⟨12, 0, 0, 0, 0⟩])) (hc : codeB l = true) (hl : l.length ≤ 15) : Calls Try.prog 17 #[.slice (some ⟨g, 0, none⟩) (l.length + 1) cap] w fun e w' => e = .returned (.bool true) ∧ Below w.heap.size w w' := by
  obtain ⟨g', c', hv, hi⟩ := h.insB (by simp)
  have e : (l ++ [(⟨12, 0, 0, 0, 0⟩ : I5)]).length = l.length + 1 := by simp
  injection hv with e1 e2 e3
  injection e1 with e1
  rw [← e1] at hi
  have c := implCode_any (some ⟨g, 0, none⟩) cap w.heap.size (l ++ [⟨12, 0, 0, 0, 0⟩]) w hi (Nat.le_refl _) (by rw [e]; omega)
  rw [e, code_more hc (by omega)] at c
  exact c
theorem InsB.up {w w' : World} {s : Option Addr} {l : List I5} (h : InsB w w.heap.size s l) (hb : Below w.heap.size w w') : InsB w' w'.heap.size s l := (h.keep hb).mono hb.size

set_option maxRecDepth 100000 in
set_option maxHeartbeats 4000000 in
theorem walkFnCode (s : Option Addr) (n c : Nat) (w : World) (hb : Bytes w w.heap.size s n) (hn : n ≤ maxLen) : Calls Try.prog 4 #[.slice s n c] w fun e w' => e = .returned (.bool true) ∧ Below w.heap.size w w' := by
  have HB0 : Hid (Bytes w w.heap.size s n) := hb
  have HN : Hid (n ≤ maxLen) := hn
  clear hb hn
  go_enter Try.func4, Try.ntmps4
  by_cases hbig : 1048576 < n
  · go_wp2_with (go_at_call 9; refine (big_any _ _ _ _).mono ?_; rintro e w' ⟨rfl, hw⟩; have hw' := hw.symm; clear hw; subst hw'; rw [decide_eq_true hbig])
    go_ret
    exact ⟨rfl, Below.refl _ _⟩
  go_wp2_with (go_at_call 9; refine (big_any _ _ _ _).mono ?_; rintro e w' ⟨rfl, hw⟩; have hw' := hw.symm; clear hw; subst hw'; rw [decide_eq_false hbig])
  clear hbig
  refine (drawCodeOk_any s n c w HB0.out HN.out).mono ?_
  rintro e w1 ⟨s1, c1, l, rfl, hi1, hl1, hb1⟩
  have K1 : Hid (Below w.heap.size w w1) := hb1
  have Z1 : Hid (w.heap.size ≤ w1.heap.size) := hb1.size
  have I1 : Hid (InsB w1 w1.heap.size s1 l) := hi1
  have HL : Hid (l.length ≤ 15) := hl1
  have hl : l.length ≤ 15 := hl1
  clear hb1 hi1 hl1
  obtain ⟨t, ht⟩ : ∃ t, codeB l = t := ⟨_, rfl⟩
  have HT : Hid (codeB l = t) := ht
  clear ht
  go_wp2_with fail
  refine (implCode_any s1 c1 w1.heap.size l w1 I1.out (Nat.le_refl _) (by omega)).mono ?_
  rintro e w2 ⟨rfl, hb2⟩
  rw [HT.out]
  have K2 : Hid (Below w.heap.size w w2) := K1.out.trans (hb2.mono Z1.out)
  have Z2 : Hid (w.heap.size ≤ w2.heap.size) := K2.out.size
  have I2 : Hid (InsB w2 w2.heap.size s1 l) := I1.out.up hb2
  have Y2 : Hid (Bytes w2 w2.heap.size s n) := HB0.out.up K2.out
  clear hb2 I1 K1 Z1
  go_wp2_with fail
  refine (drawStepOk_any s n c w2 Y2.out HN.out).mono ?_
  rintro e w3 ⟨o, r, a, b, m, rfl, hb3⟩
  have K3 : Hid (Below w.heap.size w w3) := K2.out.trans (hb3.mono Z2.out)
  have Z3 : Hid (w.heap.size ≤ w3.heap.size) := K3.out.size
  have I3 : Hid (InsB w3 w3.heap.size s1 l) := I2.out.up hb3
  clear hb3 I2 K2 Z2 Y2
  obtain ⟨q, hq⟩ : ∃ q, Plain.stepB o r a b m 9 = q := ⟨_, rfl⟩
  have HQ : Hid (Plain.stepB o r a b m 9 = q) := hq
  clear hq
  go_wp2_with fail
  obtain ⟨W, hW⟩ : ∃ W, w3.alloc (.cells #[.int .i64 o, .int .i64 r, .int .i64 a, .int .i64 b, .int .i64 m] 25) = W := ⟨_, rfl⟩
  have BW : Bo W w3.heap.size o r a b m := by rw [← hW]; exact Bo.new
  have KW : Hid (Below w.heap.size w W) := by show Below _ _ _; rw [← hW]; exact K3.out.alloc Z3.out _
  have IW : Hid (InsB W W.heap.size s1 l) := by show InsB _ _ _ _; rw [← hW]; exact I3.out.up ((Below.refl _ _).alloc (Nat.le_refl _) _)
  rw [hW]
  clear hW K3 I3
  generalize hX : w3.heap.size = X at BW ⊢
  clear hX
  have hlX := BW.lt
  obtain ⟨x0, x1, x2, x3, x4, -, xl⟩ := BW
  have hne := ext_ne W
  have u0 := Ext.fit x0 hlX
  have u1 := Ext.fit x1 hlX
  have u2 := Ext.fit x2 hlX
  have u3 := Ext.fit x3 hlX
  have u4 := Ext.fit x4 hlX
  have bt : (t != t) = false := by simp
  have bq : (q != q) = false := by simp
  refine regionExt W (by kernel_rfl) (by kernel_rfl) ?_
  repeat (go_big_quiet_step (first | (rename_i Y; go_at_call 19; refine (specCode_any s1 c1 Y.w.heap.size l Y.w (IW.out.up Y.b) (Nat.le_refl _) (by omega)).mono ?_; rintro e w3 ⟨rfl, hb3⟩; rw [HT.out]; exact ⟨rfl, Y.on hb3⟩) | (rename_i Y; go_at_call 20; refine (stepOk_any o r a b m 9 Y.w).mono ?_; rintro e w3 ⟨rfl, hb3⟩; rw [HQ.out]; exact ⟨rfl, Y.on hb3⟩) | (rename_i Y; go_at_call 21; refine (specStepOk_any o r a b m 9 Y.w).mono ?_; rintro e w3 ⟨rfl, hb3⟩; rw [HQ.out]; exact ⟨rfl, Y.on hb3⟩)))
  refine wpQuiet_nil ?_
  rintro w4 ⟨X3, rfl⟩
  have K4 : Hid (Below w.heap.size w X3.w) := KW.out.trans (X3.b.mono KW.out.size)
  have I4 : Hid (InsB X3.w X3.w.heap.size s1 l) := IW.out.up X3.b
  generalize X3.w = w4 at K4 I4 ⊢
  have Z4 : Hid (w.heap.size ≤ w4.heap.size) := K4.out.size
  clear u0 u1 u2 u3 u4 hne x0 x1 x2 x3 x4 xl hlX KW IW
  cases t
  · go_wp2
    go_loopw [7] (fun i wr => i = .int .i64 0 ∧ wr = w4) (fun _ _ => 0)
    case atStart => exact ⟨rfl, rfl⟩
    case round =>
      obtain ⟨rfl, rfl⟩ := hrel
      by_cases h0 : (0 : Int) < (l.length : Int)
      all_goals
        go_wp2_with (at_builtin; first | (refine app_row5 rfl _ _ rfl rfl _ wr.heap.size (.slice (some ⟨wr.heap.size, 0, none⟩) 0 0) rfl (zero5_own wr wr.heap.size (Nat.le_refl _)) s1 c1 l rfl (I4.out.keep ((Below.refl _ _).alloc (Nat.le_refl _) _)) (by omega) (by simp) ?_; intro v5 w5 ho5 hb5) | (refine app_end5 rfl _ _ rfl w5 ⟨12, 0, 0, 0, 0⟩ wr.heap.size v5 l rfl ho5 rfl (by omega) (by have := hb5.size; simp at this; omega) ?_; intro g6 cap6 w6 ho6 hb6))
        go_ret
        exact ⟨rfl, K4.out.trans ((((Below.refl _ _).alloc (Nat.le_refl _) _).trans (hb5.trans hb6)).mono Z4.out)⟩
  · have C0 : Hid (codeB l = true) := HT.out
    go_wp2
    go_loopw [7] (fun i wr => ∃ k : Nat, k ≤ l.length ∧ i = .int .i64 k ∧ Below w4.heap.size w4 wr) (fun i _ => l.length - (intOf i).toNat)
    case atStart => exact ⟨0, Nat.zero_le _, rfl, Below.refl _ _⟩
    case round =>
      obtain ⟨k, hk, rfl, hbr⟩ := hrel
      have HBR : Hid (Below w4.heap.size w4 wr) := hbr
      have IR : Hid (InsB wr wr.heap.size s1 l) := I4.out.up hbr
      have ZR : Hid (w4.heap.size ≤ wr.heap.size) := hbr.size
      clear hbr
      by_cases hlt : k < l.length
      · obtain ⟨g, off, rfl, hg, hc⟩ : ∃ g off, s1 = some ⟨g, off, none⟩ ∧ g < wr.heap.size ∧ At5 wr g (off + k * 5) (l.getD k z5) := by
          rcases IR.out with h | ⟨g, off, h1, h2, h3⟩
          · rw [h] at hlt; simp at hlt
          · exact ⟨g, off, h1, h2, h3 k hlt⟩
        have hv := code_steps C0.out k hlt
        obtain ⟨f0, f1, f2, f3, f4⟩ := hc
        generalize l.getD k z5 = x at f0 f1 f2 f3 f4 hv
        obtain ⟨xo, xr, xa, xb, xn⟩ := x
        have V : Hid (Plain.stepB xo xr xa xb xn l.length = true) := hv
        clear hv
        have b0 : (0 : Int) ≤ (k : Int) := by omega
        have b1 : (k : Int) < (l.length : Int) := by omega
        go_wp2_with fail
        refine (stepOk_is _ _ _ _ _ _ _ _ V.out).mono ?_
        rintro e w5 ⟨rfl, hb5⟩
        have HB5 : Hid (Below w4.heap.size w4 w5) := HBR.out.trans (hb5.mono ZR.out)
        clear hb5
        go_wp2
        go_roundw
        case rel => exact ⟨k + 1, by omega, by go_num, HB5.out⟩
        case measure => simp [intOf]; omega
      · have h0 : ¬ (k : Int) < (l.length : Int) := by omega
        go_wp2_with (at_builtin; first | (refine app_row5 rfl _ _ rfl rfl _ wr.heap.size (.slice (some ⟨wr.heap.size, 0, none⟩) 0 0) rfl (zero5_own wr wr.heap.size (Nat.le_refl _)) s1 c1 l rfl (IR.out.keep ((Below.refl _ _).alloc (Nat.le_refl _) _)) (by omega) (by simp) ?_; intro v5 w5 ho5 hb5) | (refine app_end5 rfl _ _ rfl w5 ⟨12, 0, 0, 0, 0⟩ wr.heap.size v5 l rfl ho5 rfl (by omega) (by have := hb5.size; simp at this; omega) ?_; intro g6 cap6 w6 ho6 hb6))
        refine (implCode_more g6 cap6 wr.heap.size l w6 ho6 C0.out hl).mono ?_
        rintro e w7 ⟨rfl, hb7⟩
        have K7 : Hid (Below w.heap.size w w7) := (K4.out.trans (HBR.out.mono Z4.out)).trans (((((Below.refl _ _).alloc (Nat.le_refl _) _).trans (hb5.trans hb6)).trans (hb7.mono (by have := (hb5.trans hb6).size; simp at this; omega))).mono (by have := Z4.out; have := ZR.out; omega))
        go_wp2
        go_ret
        exact ⟨rfl, K7.out⟩

set_option maxRecDepth 100000 in
theorem liftedFnCode (os : Os) (started : os.Started) (H : Type) (enc : TypeId × Value → H) :
    ReturnsInHanded {} Try.checked os 4 .any (Rows.fnCodeSpec.pre6 enc Try.prog Try.f4 Rows.fnCodeRow.domain false) (Rows.fnCodeSpec.post enc Try.prog Try.f4 false true false false) := by
  refine returnsInHanded_of_change (C := Try.checked) ownS started (by kernel_rfl) Try.func4
    (ChangeSpec.witness6 (enc := enc) (C := Try.checked) false ⟨#[], #[.slice none 0 0], []⟩ 8 (by kernel_rfl) (by kernel_rfl) (by kernel_rfl) (by kernel_rfl)) ?_
  intro W base args ds gs before hval0 hW hcnd _
  have hval : ∀ (j : Nat) t v, Try.f4.params[j]? = some t → args[j]? = some v → Value.okWide Try.prog W .any base t v := hval0
  have hW' := hW
  obtain ⟨p, q, hA0, hV, rfl, hfz, hnd⟩ := hW
  have hA : DataW.TrodAll enc Try.prog W 0 (fun _ => true) true Try.f4.params.toList args.toList ds p := hA0
  rw [Try.params4] at hA hval
  obtain ⟨v0, d0, hargs, rfl, h0⟩ := trodAll_one hA
  obtain rfl : args = #[v0] := by cases args; simp_all
  obtain ⟨rfl, rfl⟩ := trodVars_none hV
  have k0 := h0
  have lt0 : ∀ x ∈ p, x.block < W.heap.size := by obtain ⟨m, hm⟩ := k0; exact DataW.trod_lt m _ _ _ hm
  obtain ⟨s, n, c, rfl, hn, hB⟩ := bytes_read (hval 0 22 v0 rfl rfl) h0
  clear hA0 hval0
  refine (walkFnCode s n c W hB hn).mono fun e W' ⟨he, bel⟩ => ?_
  subst he
  exact ⟨_, rfl, _, _, _, [], _, [], hW', trodAll_mk1 (shut_bool Try.underlying4 _), trodAll_mk1 (Below.trod laidOutS (by kernel_rfl) (of_decide_eq_true (by kernel_rfl)) k0 bel lt0), rfl, bel.frame _, fun h => by cases h⟩

theorem fnCode_holds : Rows.FnCodeSaid :=
  OpenClaim.holds_of_wide 4 Try.f4 rfl rfl rfl rfl rfl rfl rfl ⟨rfl, rfl, rfl, rfl, rfl⟩ rfl rfl rfl rfl rfl (by kernel_rfl) Try.func4 (by kernel_rfl)
    (of_decide_eq_true (by kernel_rfl)) (by unfold Func.isWrapper; first | (rw [if_pos (by decide +kernel)]; kernel_rfl) | (rw [if_neg (by decide +kernel)]; exact ⟨rfl, rfl⟩))
    (fun os started H enc _ => liftedFnCode os started H enc)
#print axioms fnCode_holds

end Go.Proofs.Ytkmliphfelinjaa
