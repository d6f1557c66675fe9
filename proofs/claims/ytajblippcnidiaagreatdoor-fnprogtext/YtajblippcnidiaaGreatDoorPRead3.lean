/- readCaps of the program, at every line of at most 2^40 bytes. Condition: the tables hold what their initialisers lay (Env). -/
import Derived.Test.YtajblippcnidiaaGreatDoorRead4
import Derived.Test.YtajblippcnidiaaGreatDoorOwnN
namespace Go.Proofs.YtajblippcnidiaaGreatDoor
set_option linter.unusedSimpArgs false
set_option linter.unusedVariables false
set_option maxRecDepth 100000
open Go.RowKit

def capsW : List UInt8 := [99, 97, 112, 115]
def capsR (line : List UInt8) : Option (List Int) := if (splitA 32 [] line).headD [] ≠ capsW then none else numsO (splitA 32 [] line).tail
def capsPost (base : Nat) (r : Option (List Int)) (e : Ending) (w' : World) : Prop :=
  match r with
  | none => e = .panicked [{ v := noT, recovered := false }]
  | some vs => ∃ v, e = .returned v ∧ OwnN w' base v vs

theorem OwnN.mono {w : World} {b b' : Nat} {v : Value} {ls : List Int} (h : OwnN w b v ls) (hb : b' ≤ b) : OwnN w b' v ls := by
  obtain ⟨h1, h2⟩ := h
  refine ⟨h1, ?_⟩
  rcases h2 with h2 | ⟨g, cap, cur, a, b0, c, d⟩
  · exact .inl h2
  · exact .inr ⟨g, cap, cur, a, Nat.le_trans hb b0, c, d⟩

set_option maxHeartbeats 4000000 in
theorem readCaps_any (l : List UInt8) (hl : l.length ≤ 1099511627775) (w : World) (hE : Env w w.heap.size) : Calls Tryz.prog 49 #[.string ⟨l.toArray⟩] w fun e w' => capsPost w.heap.size (capsR l) e w' ∧ Below w.heap.size w w' := by
  have HE : Hid (Env w w.heap.size) := hE
  have HRL : Hid (capsR l = if (splitA 32 [] l).headD [] ≠ capsW then none else numsO (splitA 32 [] l).tail) := rfl
  have hne := words_ne l
  have hln := (splitA_len 32 l []).2
  have HW : Hid (∀ x ∈ splitA 32 [] l, x.length ≤ 1099511627775) := fun x hx => by have := split_word_le 32 l [] x hx; simp at this; omega
  clear hE
  go_enter Tryz.func49, Tryz.ntmps49
  go_wp2_with fail
  refine (cut_any l 32 (by decide) hl _).mono ?_
  rintro e w1 ⟨g, cap, rfl, ho1, hb1, hs1⟩
  generalize splitA 32 [] l = ws at HRL hne hln ho1 HW
  obtain ⟨n, hn⟩ : ∃ n, ws.length = n + 1 := ⟨ws.length - 1, by cases ws with | nil => exact absurd rfl hne | cons a r => simp⟩
  have c0 := ho1.cell (i := 0) (by omega)
  rw [head_getD hne] at c0
  have hg1 : g < w1.heap.size := by
    obtain ⟨g', cap', hv, -, hlt⟩ := ho1.form (by omega)
    cases hv; exact hlt
  have hcap := ho1.cap
  have WC : Hid (∀ k, k < n → w1.cell? ⟨g, k + 1, none⟩ = some (.string ⟨(ws.getD (k + 1) []).toArray⟩)) := fun k hk => ho1.cell (by omega)
  have K1 : Hid (Below w.heap.size w w1) := hb1
  have E1 : Hid (∀ W, Below w1.heap.size w1 W → Env W W.heap.size) := fun W hW => ((HE.out.keep hb1).keep (hW.mono (by omega))).mono (by have := hW.size; omega)
  have HN : Hid (ws.length = n + 1) := hn
  rw [hn] at hcap hln
  rw [hn]
  have hnb : n ≤ 1099511627775 := by omega
  clear ho1 hb1 hn hln hne
  by_cases hw : ws.headD [] = capsW
  · rw [hw] at c0
    have HR1 : Hid (capsR l = numsO ws.tail) := by show _ = _; rw [HRL.out, if_neg (by simpa using hw)]
    clear hw HRL
    unfold capsW at c0
    by_cases hc : cap = 1
    · subst hc
      have hn0 : n = 0 := by omega
      subst hn0
      have HT : Hid (numsO ws.tail = some []) := by
        have : ws.tail = [] := List.length_eq_zero_iff.1 (by simp [HN.out])
        show _ = _; rw [this]; rfl
      go_wp2
      go_loopw [4, 17] (fun v i wr => v = .slice none 0 0 ∧ i = .int .i64 0 ∧ wr = w1) (fun _ _ _ => 0)
      case atStart => exact ⟨rfl, rfl, rfl⟩
      case round =>
        obtain ⟨rfl, rfl, rfl⟩ := hrel
        go_wp2
        go_ret
        refine ⟨?_, K1.out⟩
        rw [HR1.out, HT.out]
        exact ⟨_, rfl, World.ownsRow_nil _ _ _ _⟩
    · go_wp2
      go_loopw [4, 17] (fun v i wr => ∃ (k : Nat) (vs : List Int), k ≤ n ∧ i = .int .i64 k ∧ vs.length = k ∧ OwnN wr w1.heap.size v vs ∧ Hid (numsO (ws.tail.take k) = some vs) ∧ Below w1.heap.size w1 wr) (fun _ i _ => n - (intOf i).toNat)
      case atStart => exact ⟨0, [], Nat.zero_le _, rfl, rfl, World.ownsRow_nil _ _ _ _, rfl, Below.refl _ _⟩
      case round =>
        obtain ⟨k, vs, hk, rfl, hvk, hown, HV, hbr⟩ := hrel
        have KR : Hid (Below w1.heap.size w1 wr) := hbr
        have OR : Hid (OwnN wr w1.heap.size u4 vs) := hown
        have hsr : w1.heap.size ≤ wr.heap.size := hbr.size
        have ER : Hid (Env wr wr.heap.size) := E1.out _ hbr
        clear hbr hown
        by_cases hlt : k < n
        · have ck := (KR.out.cell (p := ⟨g, k + 1, none⟩) hg1).trans (WC.out k hlt)
          have hword : ws.getD (k + 1) [] ∈ ws := by
            rw [List.getD_eq_getElem?_getD, List.getElem?_eq_getElem (by rw [HN.out]; omega)]
            exact List.getElem_mem _
          have hwl1 : (ws.getD (k + 1) []).length ≤ 1099511627776 := Nat.le_trans (HW.out _ hword) (by decide)
          obtain ⟨ts1, ts2⟩ := tail_split (ws := ws) (k := k) (by rw [HN.out]; omega)
          have TS1 := (show Hid _ from ts1)
          have TS2 := (show Hid _ from ts2)
          clear ts1 ts2 hword
          generalize ws.getD (k + 1) [] = wk at ck hwl1 TS1 TS2
          have ck2 : wr.cell? ⟨g, 1 + k, none⟩ = some (.string ⟨wk.toArray⟩) := by rw [Nat.add_comm]; exact ck
          cases hn : numI wk with
          | none =>
            have HNI : Hid (numI wk = none) := hn
            have HNN : Hid (capsR l = none) := by show _ = _; rw [HR1.out, TS1.out]; exact nums_fail HV.out hn
            clear hn
            go_wp2_with (go_at_call 63; refine (readNumber_any wk hwl1 _ ER.out).mono ?_; rintro e w4 ⟨he, hb4⟩; rw [HNI.out] at he; have he' : e = .panicked [{ v := noT, recovered := false }] := he; clear he; subst he'; have K4 : Hid (Below wr.heap.size wr w4) := hb4; clear hb4)
            refine ⟨rfl, ?_, K1.out.trans ((KR.out.trans (K4.out.mono hsr)).mono (by omega))⟩
            rw [HNN.out]
            rfl
          | some x =>
            have HNI : Hid (numI wk = some x) := hn
            have HV2 : Hid (numsO (ws.tail.take (k + 1)) = some (vs ++ [x])) := by show _ = _; rw [TS2.out]; exact nums_snoc HV.out hn
            clear hn
            go_wp2_with (first
              | (go_at_call 63; refine (readNumber_any wk hwl1 _ ER.out).mono ?_; rintro e w4 ⟨he, hb4⟩; rw [HNI.out] at he; have he' : e = .returned (.int .i64 x) := he; clear he; subst he'; have K4 : Hid (Below wr.heap.size wr w4) := hb4; have hs4 : wr.heap.size ≤ w4.heap.size := hb4.size; have O4 : Hid (OwnN w4 w1.heap.size u4 vs) := OR.out.below hb4; clear hb4)
              | (at_builtin; refine app_int rfl _ _ rfl w4 x w1.heap.size u4 vs rfl O4.out rfl (by omega) (by omega) ?_; intro g5 cap5 w5 ho5 hb5 hs5; have O5 := (show Hid _ from ho5); have B5 := (show Hid _ from hb5); clear ho5 hb5))
            go_roundw
            case rel => exact ⟨k + 1, vs ++ [x], by omega, by go_num, by simp; omega, (by have h5 := O5.out; rw [hvk] at h5; exact h5), HV2.out, KR.out.trans ((K4.out.mono hsr).trans B5.out)⟩
            case measure => (simp [intOf] <;> omega)
        · have e2 : ws.tail.take k = ws.tail := List.take_of_length_le (by simp [HN.out]; omega)
          have HVV : Hid (numsO ws.tail = some vs) := by show _ = _; rw [← e2]; exact HV.out
          clear e2
          go_wp2
          go_ret
          refine ⟨?_, K1.out.trans (KR.out.mono (by omega))⟩
          rw [HR1.out, HVV.out]
          exact ⟨_, rfl, OR.out.mono (by omega)⟩
  · have HR1 : Hid (capsR l = none) := by show _ = _; rw [HRL.out, if_pos hw]
    have hwd : (ws.headD [] == [99, 97, 112, 115]) = false := by simpa [capsW] using hw
    generalize ws.headD [] = w0 at c0 hwd
    clear hw
    go_wp2
    refine ⟨rfl, ?_, K1.out⟩
    rw [HR1.out]
    rfl

end Go.Proofs.YtajblippcnidiaaGreatDoor
