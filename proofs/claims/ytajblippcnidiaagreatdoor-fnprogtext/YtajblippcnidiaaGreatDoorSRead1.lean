/- The specification's words and numbers of a line: l2Words, l2Read, at every text of at most 2^40 bytes. No other condition. -/
import Derived.Test.YtajblippcnidiaaGreatDoorRead3
namespace Go.Proofs.YtajblippcnidiaaGreatDoor
set_option linter.unusedSimpArgs false
set_option linter.unusedVariables false
set_option maxRecDepth 100000
open Go.RowKit

theorem ownT_empty {w : World} {base : Nat} (hb : base ≤ w.heap.size) : OwnT (w.alloc (.cells #[] 9)) base (.slice (some ⟨w.heap.size, 0, none⟩) 0 0) [] :=
  World.ownsRow_lit w #[] 0 hb (by unfold maxLen; omega) rfl

set_option maxHeartbeats 4000000 in
theorem l2Words_any (l : List UInt8) (hl : l.length ≤ 1099511627775) (w : World) :
    Calls Tryz.prog 53 #[.string ⟨l.toArray⟩] w fun e w' => ∃ g cap, e = .returned (.slice (some ⟨g, 0, none⟩) (splitA 32 [] l).length cap) ∧ OwnT w' w.heap.size (.slice (some ⟨g, 0, none⟩) (splitA 32 [] l).length cap) (splitA 32 [] l) ∧ Below w.heap.size w w' ∧ w.heap.size < w'.heap.size := by
  go_enter Tryz.func53, Tryz.ntmps53
  go_wp2
  go_loopw [3, 4, 5] (fun v f i wr => ∃ (k fr : Nat) (P : List (List UInt8)), i = .int .i64 k ∧ f = .int .i64 fr ∧ OwnT wr w.heap.size v P ∧ Below w.heap.size w wr ∧ w.heap.size < wr.heap.size ∧ P.length ≤ k ∧ ((k ≤ l.length ∧ fr ≤ k ∧ Hid (P ++ splitA 32 (accL l fr k) (l.drop k) = splitA 32 [] l)) ∨ (k = l.length + 1 ∧ Hid (P = splitA 32 [] l)))) (fun _ _ i _ => l.length + 2 - (intOf i).toNat)
  case atStart =>
    refine ⟨0, 0, [], rfl, rfl, ownT_empty (Nat.le_refl _), (Below.refl _ _).alloc (Nat.le_refl _) _, by simp, Nat.zero_le _, .inl ⟨Nat.zero_le _, Nat.le_refl _, ?_⟩⟩
    show _ = _
    rw [accL_self]
    rfl
  case round =>
    obtain ⟨k, fr, P, rfl, rfl, hown, hbr, hsr, hPl, hcase⟩ := hrel
    have KR : Hid (Below w.heap.size w wr) := hbr
    have OR : Hid (OwnT wr w.heap.size u3 P) := hown
    clear hbr hown
    rcases hcase with ⟨hk, hfr, HD⟩ | ⟨hk, HD⟩
    · have hex : (⟨l.toArray⟩ : ByteArray).extract fr k = ⟨(accL l fr k).toArray⟩ := extract_acc l fr k
      have s1 : (0 : Int) ≤ (fr : Int) := by omega
      have s2 : (fr : Int) ≤ (k : Int) := by omega
      have s3 : (k : Int) ≤ (l.length : Int) := by omega
      by_cases hlt : k < l.length
      · obtain ⟨c, hc⟩ : ∃ c, l[k] = c := ⟨_, rfl⟩
        have hdr : l.drop k = c :: l.drop (k + 1) := by rw [List.drop_eq_getElem_cons hlt, hc]
        have HR : Hid (l.drop k = c :: l.drop (k + 1)) := hdr
        clear hdr
        have b1 : (k : Int) < (l.length : Int) := by omega
        have b2 : ((k : Int) == (l.length : Int)) = false := by simp; omega
        have hp : k < (⟨l.toArray⟩ : ByteArray).size := by simpa [ByteArray.size] using hlt
        have hgk : (⟨l.toArray⟩ : ByteArray)[k]'hp = c := hc
        clear hc
        by_cases hcm : c = 32
        · subst hcm
          have HS : Hid ((P ++ [accL l fr k]) ++ splitA 32 (accL l (k + 1) (k + 1)) (l.drop (k + 1)) = splitA 32 [] l) := by
            show _ = _
            rw [← HD.out, HR.out, splitA, if_pos rfl, accL_self]
            simp
          go_wp2_with (at_builtin; refine app_str rfl _ _ rfl wr (accL l fr k) w.heap.size u3 P rfl OR.out rfl (by omega) (by omega) ?_; intro g1 cap1 w3 ho3 hb3 hs3 hg3; have O3 := (show Hid _ from ho3); have B3 := (show Hid _ from hb3); clear ho3 hb3)
          go_roundw
          case rel => exact ⟨k + 1, k + 1, P ++ [accL l fr k], by go_num, by go_num, O3.out, KR.out.trans B3.out, by omega, by simp; omega, .inl ⟨by omega, Nat.le_refl _, HS.out⟩⟩
          case measure => (simp [intOf] <;> omega)
        · have hne : ((c.toNat : Int) == 32) = false := by simpa using u8_ne (k := 32) (by omega) hcm
          have HS : Hid (P ++ splitA 32 (accL l fr (k + 1)) (l.drop (k + 1)) = splitA 32 [] l) := by
            show _ = _
            have e1 : (l.drop k).take 1 = [c] := by rw [HR.out]; rfl
            rw [← HD.out, accL_step hfr, e1, HR.out, splitA, if_neg hcm]
          go_wp2
          go_roundw
          case rel => exact ⟨k + 1, fr, P, by go_num, rfl, OR.out, KR.out, hsr, by omega, .inl ⟨by omega, by omega, HS.out⟩⟩
          case measure => (simp [intOf] <;> omega)
      · have e : k = l.length := by omega
        subst e
        have HS : Hid (P ++ [accL l fr l.length] = splitA 32 [] l) := by
          show _ = _
          rw [← HD.out, List.drop_length]
          rfl
        go_wp2_with (at_builtin; refine app_str rfl _ _ rfl wr (accL l fr l.length) w.heap.size u3 P rfl OR.out rfl (by omega) (by omega) ?_; intro g1 cap1 w3 ho3 hb3 hs3 hg3; have O3 := (show Hid _ from ho3); have B3 := (show Hid _ from hb3); clear ho3 hb3)
        go_roundw
        case rel => exact ⟨l.length + 1, l.length + 1, P ++ [accL l fr l.length], by go_num, by go_num, O3.out, KR.out.trans B3.out, by omega, by simp; omega, .inr ⟨rfl, HS.out⟩⟩
        case measure => (simp [intOf] <;> omega)
    · subst hk
      have hn1 := (splitA_len 32 l []).1
      have OR2 := OR.out
      rw [HD.out] at OR2
      obtain ⟨g, cap, rfl, hgB, hgl⟩ := OR2.form (by omega)
      have O2 := (show Hid _ from OR2)
      clear OR OR2 HD
      have b1 : ¬ ((l.length : Int) + 1 ≤ (l.length : Int)) := by omega
      go_wp2
      go_ret
      exact ⟨g, cap, rfl, O2.out, KR.out, hsr⟩

end Go.Proofs.YtajblippcnidiaaGreatDoor
