/- The words are made once: fill, sync.Once's Do, the first time and later. Condition: strconv's table as laid. -/
import Derived.Test.YtfgikjipkfggbaaGreatDoorT16Pure
import Derived.Test.YtfgikjipkfggbaaGreatDoorT16Env
import Derived.Test.YtfgikjipkfggbaaGreatDoorQuietC
import Derived.Test.YtfgikjipkfggbaaGreatDoorT16W
import Derived.Test.YtfgikjipkfggbaaGreatDoorSufOp
namespace Go.Proofs.YtfgikjipkfggbaaGreatDoor
set_option linter.unusedSimpArgs false
set_option linter.unusedVariables false
set_option maxRecDepth 100000
open Go.RowKit

set_option maxRecDepth 100000 in
set_option maxHeartbeats 4000000 in
theorem fill_any (B : Nat) (w : World) (h : WB w B 0 1 false 0) (hE : Env w B) :
    Calls Tryz.prog 51 #[.pointer (some ⟨B, 0, none⟩)] w fun e w' => e = .returned (.tuple #[]) ∧ WB w' B 0 1 true 8 ∧ Kb B w w' := by
  have HW := hidT h
  have HE := hidT hE
  have zw := h.lt
  obtain ⟨W, hW, hwb, hkb⟩ := setRow_wb h
  have SR := hidT hW
  have HB := hidT hwb
  have HK := hidT hkb
  clear h hE hwb hkb hW
  go_enter Tryz.func51, Tryz.ntmps51
  go_wp2_with (refine wp_storePart (by rfl) 65 (.tmp 19) (.tmp 17) (by rfl) (by rfl) _ B 3 68 _ formA (by rfl) (by rfl) (by kernel_rfl) HW.out (by rw [List.size_toArray, wa_len]; decide) formA_one W SR.out ?_)
  clear SR HW
  go_loopw [20] (fun i wr => ∃ k : Nat, k ≤ 8 ∧ i = .int .i64 k ∧ WB wr B 0 1 true k ∧ Kb B w wr) (fun i _ => 8 - (intOf i).toNat)
  case atStart => exact ⟨0, Nat.zero_le _, rfl, HB.out, HK.out⟩
  case round =>
    obtain ⟨k, hk, rfl, hwr, hkr⟩ := hrel
    have WR := hidT hwr
    have KR := hidT hkr
    clear hwr hkr
    by_cases hlt : k < 8
    · have i0 : (0 : Int) ≤ (k : Int) := by omega
      have i1 : (k : Int) < 8 := by omega
      have la := itoa_len (n := (k : Int)) (by omega) (by omega)
      have zB := WR.out.lt
      have E0 : Hid (Env wr B) := HE.out.keep (KR.out.below (Nat.le_refl _) (Nat.le_of_lt zw))
      have IA : Hid (∀ X, Env X X.heap.size → Calls Tryz.prog 33 #[.int .i64 (k : Int)] X fun e w' => e = .returned (.string ⟨(Lib.itoa (k : Int)).toArray⟩) ∧ Below X.heap.size X w') := fun X h => itoa_any k (by omega) (by omega) X h
      have HS : Hid (∀ X : World, WB X B 0 1 true k → WB (X.setCell ⟨B, 31 + k, none⟩ (.string ⟨(114 :: Lib.itoa (k : Int)).toArray⟩)) B 0 1 true (k + 1)) := fun X h => h.setR hlt
      generalize Lib.itoa (k : Int) = ta at la IA HS
      have a0 := addS [114] ta (by simp; omega)
      have hne := ext_ne wr
      go_wp2_with fail
      refine regionSuf wr 8 (by kernel_rfl) (by kernel_rfl) (by kernel_rfl) (by kernel_rfl) (by kernel_rfl) ?_
      dsimp only [List.take, List.drop]
      repeat (go_big_quiet_step (first | (rename_i X; go_at_call 33; refine Calls.mono (IA.out _ ((E0.out.keep (X.b.mono (Nat.le_of_lt zB))).mono (Nat.le_trans (Nat.le_of_lt zB) X.b.size))) ?_; rintro e w3 ⟨rfl, hb3⟩; exact ⟨rfl, X.on hb3⟩) | fail))
      refine wpQuiet_nil ?_
      rintro w3 ⟨X3, rfl⟩
      have W3 := WR.out.below X3.b zB
      have K3 := hidT (KR.out.trans (Kb.of X3.b))
      have hcell : ∃ u, X3.w.cell? ⟨B, 31 + k, none⟩ = some u := by
        rw [W3.cell]
        have hl := wa_len 0 1 true k
        exact ⟨_, List.getElem?_eq_getElem (by omega)⟩
      obtain ⟨u, hu⟩ := hcell
      have hf := W3.frz (31 + k)
      have HW3 := hidT W3
      clear hne W3
      go_wp2
      go_roundw
      case rel => exact ⟨k + 1, by omega, by go_num, by simpa using HS.out _ HW3.out, by simpa using K3.out.set (j := 31 + k) _⟩
      case measure => simp [intOf]; omega
    · have i1 : ¬ (k : Int) < 8 := by omega
      have : k = 8 := by omega
      subst this
      go_wp2
      go_end0
      exact ⟨rfl, WR.out, KR.out⟩

end Go.Proofs.YtfgikjipkfggbaaGreatDoor
