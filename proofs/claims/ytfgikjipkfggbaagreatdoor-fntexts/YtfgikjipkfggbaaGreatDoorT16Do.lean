/- sync.Once's Do over the box of words: the first time it is filled, later nothing is done. Condition: strconv's table as laid. -/
import Derived.Test.YtfgikjipkfggbaaGreatDoorQuietC
import Derived.Test.YtfgikjipkfggbaaGreatDoorT16W
import Derived.Test.YtfgikjipkfggbaaGreatDoorT16Env
import Derived.Test.YtfgikjipkfggbaaGreatDoorT16Once
namespace Go.Proofs.YtfgikjipkfggbaaGreatDoor
set_option linter.unusedSimpArgs false
set_option linter.unusedVariables false
set_option maxRecDepth 100000
open Go.RowKit

theorem boolLoad (a : Addr) (d : Int) (v : Bool) (w : World) (hc : w.cell? a = some (.int .u32 d)) (hv : (d != 0) = v) :
    Calls Tryz.prog 63 #[.pointer (some a)] w fun e w' => e = .returned (.bool v) ∧ w' = w := by
  have hl := run_call_load (P := Tryz.prog) Tryz.func69 (by kernel_rfl) (by kernel_rfl) (by kernel_rfl) .u32 (by kernel_rfl) (w := w) (a := a) (x := d) hc
  go_enter Tryz.func63, Tryz.ntmps63
  go_wp2
  go_ret
  exact ⟨by rw [← hv]; rfl, rfl⟩

set_option maxRecDepth 100000 in
set_option maxHeartbeats 1600000 in
theorem slow_first (B : Nat) (w : World) (h : WB w B 0 0 false 0) (hE : Env w B) :
    Calls Tryz.prog 64 #[.pointer (some ⟨B, 0, none⟩), .func (.func 51) #[.pointer (some ⟨B, 0, none⟩)] #[]] w fun e w' => e = .returned (.tuple #[]) ∧ WB w' B 1 0 true 8 ∧ Kb B w w' := by
  have zB := h.lt
  have H1 := hidT (h.set1 1)
  have c1 := h.c1
  have f1 := h.frz 1
  have K1 : Hid (Kb B w (w.setCell ⟨B, 1, none⟩ (.int .i32 1))) := (Kb.refl B w).set _
  have E1 : Hid (Env (w.setCell ⟨B, 1, none⟩ (.int .i32 1)) B) := hE.keep (K1.out.below (Nat.le_refl _) (Nat.le_of_lt zB))
  have hnot : ∀ (x : Bool) (w : World), (Op.unary .not (.bool x)).run Tryz.prog w = .ok (.bool (!x)) w := fun _ _ => rfl
  clear h hE
  go_enter_defers Tryz.func64, Tryz.ntmps64
  go_wp2_with (go_at_call 70; refine (lock_free ⟨B, 1, none⟩ _ c1 f1).mono ?_; rintro e w' ⟨rfl, hw⟩; have HW := hidT hw; clear hw)
  have hw := HW.out
  subst hw
  clear HW c1 f1
  obtain ⟨X, hX⟩ : ∃ X, w.setCell ⟨B, 1, none⟩ (.int .i32 1) = X := ⟨_, rfl⟩
  rw [hX] at H1 K1 E1 ⊢
  clear hX
  have c0 := H1.out.c0
  go_wp2_with (first | (go_at_call 63; refine (boolLoad ⟨B, 0, none⟩ 0 false _ c0 rfl).mono ?_; rintro e w' ⟨rfl, hw⟩; have hw' := hw.symm; clear hw; subst hw') | (go_at_call 51; refine (fill_any B X H1.out E1.out).mono ?_; rintro e w2 ⟨rfl, hw2, hk2⟩; have W2 := hidT hw2; have K2 := hidT hk2; clear hw2 hk2))
  refine leaves_cons (f := 72) (args := #[.pointer (some ⟨B, 0, none⟩), .bool true]) (by simp) (by simp [go_sem]) ?_
  refine (store_deferred ⟨B, 0, none⟩ (.int .u32 0) .returning w2 W2.out.c0 (W2.out.frz 0)).mono ?_
  rintro e u' w'' ⟨rfl, rfl, rfl⟩
  have W3 : WB (w2.drew.setCell ⟨B, 0, none⟩ (.int .u32 1)) B 1 1 true 8 := (WB.same (w' := w2.drew) W2.out rfl).set0 1
  refine leaves_cons (f := 71) (args := #[.pointer (some ⟨B, 1, none⟩)]) (by simp [settle]) (by simp [go_sem]) ?_
  refine (unlock_deferred ⟨B, 1, none⟩ _ _ W3.c1 (W3.frz 1)).mono ?_
  rintro e u' w'' ⟨rfl, rfl, rfl⟩
  have W4 := W3.set1 0
  have K4 : Kb B w ((w2.drew.setCell ⟨B, 0, none⟩ (.int .u32 1)).setCell ⟨B, 1, none⟩ (.int .i32 0)) := (((K1.out.trans K2.out).drew).set _).set _
  simp [Leaves, settle, results, Tryz.results64]
  exact ⟨W4, K4⟩

set_option maxHeartbeats 1600000 in
theorem do_any (B : Nat) (w : World) (h : WB w B 0 0 false 0 ∨ WB w B 1 0 true 8) (hE : Env w B) :
    Calls Tryz.prog 50 #[.pointer (some ⟨B, 0, none⟩), .func (.func 51) #[.pointer (some ⟨B, 0, none⟩)] #[]] w fun e w' => e = .returned (.tuple #[]) ∧ WB w' B 1 0 true 8 ∧ Kb B w w' := by
  have hnot : ∀ (x : Bool) (w : World), (Op.unary .not (.bool x)).run Tryz.prog w = .ok (.bool (!x)) w := fun _ _ => rfl
  rcases h with h | h
  · have c0 := h.c0
    have H := hidT h
    have E := hidT hE
    clear h hE
    go_enter Tryz.func50, Tryz.ntmps50
    go_wp2_with (first | (go_at_call 63; refine (boolLoad ⟨B, 0, none⟩ 0 false _ c0 rfl).mono ?_; rintro e w' ⟨rfl, hw⟩; have hw' := hw.symm; clear hw; subst hw') | (go_at_call 64; refine (slow_first B w H.out E.out).mono ?_; rintro e w2 ⟨rfl, hw2, hk2⟩; have W2 := hidT hw2; have K2 := hidT hk2; clear hw2 hk2))
    go_end0
    exact ⟨rfl, W2.out, K2.out⟩
  · have c0 := h.c0
    have H := hidT h
    clear h hE
    go_enter Tryz.func50, Tryz.ntmps50
    go_wp2_with (go_at_call 63; refine (boolLoad ⟨B, 0, none⟩ 1 true _ c0 rfl).mono ?_; rintro e w' ⟨rfl, hw⟩; have hw' := hw.symm; clear hw; subst hw')
    go_end0
    exact ⟨rfl, H.out, Kb.refl _ _⟩

end Go.Proofs.YtfgikjipkfggbaaGreatDoor
