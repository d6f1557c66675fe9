/- InsText of the program: at every Ins, the place's line. Condition: the tables of the program and of strconv hold what their initialisers lay (Env). -/
import Derived.Test.YtajblippcnidiaaGreatDoorText2
import Derived.Test.YtajblippcnidiaaGreatDoorEnvT
namespace Go.Proofs.YtajblippcnidiaaGreatDoor
set_option linter.unusedSimpArgs false
set_option linter.unusedVariables false
set_option maxRecDepth 100000
open Go.RowKit

set_option maxRecDepth 100000 in
set_option maxHeartbeats 2000000 in
theorem implInsText_any (o r a b n : Int) (w : World) (hE : Env w w.heap.size) : Calls Tryz.prog 16 #[.agg #[.int .i64 o, .int .i64 r, .int .i64 a, .int .i64 b, .int .i64 n]] w fun e w' => e = .returned (.string ⟨(textL o r a b n).toArray⟩) ∧ Below w.heap.size w w' := by
  cases hv : Plain.insB o r a b n 24 3
  · have T : Hid (textL o r a b n = []) := by show _ = _; unfold textL; rw [hv]; rfl
    have V : Hid (Plain.insB o r a b n 24 3 = false) := hv
    clear hv
    go_enter Tryz.func16, Tryz.ntmps16
    go_wp2_with fail
    refine (insFits_any _ _ _ _ _ _).mono ?_
    rintro e w1 ⟨rfl, hb1⟩
    rw [V.out]
    go_wp2
    go_ret
    exact ⟨by rw [T.out]; rfl, ((Below.refl _ _).alloc (Nat.le_refl _) _).trans (hb1.mono (by simp))⟩
  · have T : Hid (textL o r a b n = wordL o.toNat ++ numText (numsL o r a b n)) := by show _ = _; unfold textL; rw [if_pos hv]
    have V : Hid (Plain.insB o r a b n 24 3 = true) := hv
    have hop := op_in hv
    have hnl := nums_le o r a b n
    have HN : Hid (∀ v ∈ numsL o r a b n, -1000000000 ≤ v ∧ v ≤ 1000000000) := nums_in hv
    have HE : Hid (Env w w.heap.size) := hE
    clear hv hE
    obtain ⟨q, rfl⟩ : ∃ q : Nat, o = q := ⟨o.toNat, by omega⟩
    have hq : q < 14 := by omega
    have b0 : (0 : Int) ≤ (q : Int) := by omega
    have b1 : (q : Int) < 14 := by omega
    go_enter Tryz.func16, Tryz.ntmps16
    go_wp2_with fail
    refine (insFits_any _ _ _ _ _ _).mono ?_
    rintro e w1 ⟨rfl, hb1⟩
    rw [V.out]
    have C1 := cells5 (B := w.heap.size) rfl hb1 rfl
    have s1 : w.heap.size < w1.heap.size := by have := hb1.size; simp at this; omega
    have K1 : Hid (Below w.heap.size w w1) := ((Below.refl _ _).alloc (Nat.le_refl _) _).trans (hb1.mono (by simp))
    clear hb1
    have E1 := HE.out.keep K1.out
    have f0 := (E1.forms q hq).1
    have f1 := (E1.forms q hq).2
    have c0 := C1.1
    have HC1 := (show Hid _ from C1)
    have HE1 : Hid (Env w1 w.heap.size) := E1
    clear C1 E1
    go_wp2_with fail
    have hnum : (numsL q r a b n).length = (letL q).length := by unfold numsL; simp
    go_loopw [4] (fun t wr => ∃ pos : Nat, pos ≤ (letL q).length ∧ t = .string ⟨(wordL q ++ numText ((numsL q r a b n).take pos)).toArray⟩ ∧ wr.heap[w1.heap.size + 1]? = some (.stringIter ⟨(letL q).toArray⟩ pos) ∧ Below w1.heap.size w1 wr) (fun _ wr => (letL q).length - wr.iterPos (w1.heap.size + 1))
    case atStart =>
      refine ⟨0, Nat.zero_le _, by simp [numText], ?_, ((Below.refl _ w1).alloc (Nat.le_refl _) _).alloc (by simp) _⟩
      have := World.iter_heap (w1.alloc (.cells #[.string ⟨(wordL q).toArray⟩, .string ⟨(letL q).toArray⟩] 60)) ⟨(letL q).toArray⟩ 0
      simpa using this
    case round =>
      obtain ⟨pos, hk, rfl, hit, hbr⟩ := hrel
      have KR : Hid (Below w1.heap.size w1 wr) := hbr
      have hsr := hbr.size
      have hKs : w1.heap.size + 1 < wr.heap.size := (Array.getElem?_eq_some_iff.1 hit).1
      clear hbr
      have hw := words_le q
      have ht : (wordL q ++ numText ((numsL q r a b n).take pos)).length ≤ 46 := by
        have := numText_take_le HN.out hnl pos
        simp; omega
      have HX : Hid (∀ h : pos < (numsL q r a b n).length, wordL q ++ numText ((numsL q r a b n).take (pos + 1)) = wordL q ++ numText ((numsL q r a b n).take pos) ++ (32 :: Lib.itoa ((numsL q r a b n).getD pos 0))) := fun h => by rw [numText_take h, List.append_assoc]
      generalize hT : wordL q ++ numText ((numsL q r a b n).take pos) = tx at ht HX
      have HT : Hid (wordL q ++ numText ((numsL q r a b n).take pos) = tx) := hT
      clear hT
      by_cases hlt : pos < (letL q).length
      · obtain ⟨c, hc⟩ : ∃ c, (letL q)[pos] = c := ⟨_, rfl⟩
        have hcm : c ∈ letL q := hc ▸ List.getElem_mem hlt
        have hnx : ∀ ty, (Instr.next (.pointer (some ⟨w1.heap.size + 1, 0, none⟩)) true ty).run Tryz.prog wr = .ok (.tuple #[.bool true, .int .i64 pos, .int .i32 c.toNat]) (wr.iterAt (w1.heap.size + 1) ⟨(letL q).toArray⟩ (pos + 1)) := fun ty => by
          have h1 := Lib.run_next_ascii_at (P := Tryz.prog) wr (w1.heap.size + 1) ⟨(letL q).toArray⟩ pos ty hit (by simpa [ByteArray.size] using hlt) (by show ((letL q)[pos]).toNat < 128; rw [hc]; exact lets_ascii c hcm)
          rw [h1]
          show Result.ok (Value.tuple #[.bool true, .int .i64 pos, .int .i32 (((letL q)[pos]).toNat : Int)]) _ = _
          rw [hc]
        have hx : (numsL q r a b n).getD pos 0 = fldL r a b n c := by
          rw [List.getD_eq_getElem?_getD, List.getElem?_eq_getElem (by omega)]
          simp [numsL, hc]
        have HX' := (show Hid _ from HX.out (by omega))
        rw [hx] at HX'
        have hbi : Below w1.heap.size w1 (wr.iterAt (w1.heap.size + 1) ⟨(letL q).toArray⟩ (pos + 1)) := Lib.below_iterAt KR.out (by omega) _ _
        have hii := Lib.iterAt_heap wr (w1.heap.size + 1) ⟨(letL q).toArray⟩ pos (pos + 1) hit
        have hsi := Lib.iterAt_size wr (w1.heap.size + 1) ⟨(letL q).toArray⟩ (pos + 1)
        have hp0 : wr.iterPos (w1.heap.size + 1) = pos := by simp only [World.iterPos, hit]
        generalize wr.iterAt (w1.heap.size + 1) ⟨(letL q).toArray⟩ (pos + 1) = wi at hnx hbi hii hsi
        have hfc := fld_cell (keep5 hbi s1 HC1.out) c
        have htab := (HE1.out.keep (hbi.mono (Nat.le_of_lt s1))).tab
        have hbd := fld_in V.out c
        have HI : Hid (Below w1.heap.size w1 wi) := hbi
        have HII : Hid (wi.heap[w1.heap.size + 1]? = some (.stringIter ⟨(letL q).toArray⟩ (pos + 1))) := hii
        have HP : Hid (wr.iterPos (w1.heap.size + 1) = pos) := hp0
        have HTB := (show Hid _ from htab)
        clear hit hbi hii hp0 htab hx
        generalize fldL r a b n c = x at hfc hbd HX'
        have a1 := add1 32 (Lib.itoa x) (by have := itoa_le hbd.1 hbd.2; omega)
        have a2 := addL tx (32 :: Lib.itoa x) (by omega) (by have := itoa_le hbd.1 hbd.2; simp; omega)
        go_wp2_with (first
          | (go_at_call 35; refine (fieldAt_any _ c _).mono ?_; rintro e w' ⟨rfl, hw'⟩; have hw2 := hw'.symm; clear hw'; subst hw2)
          | (go_at_call 33; refine (Tryz.strconv_Itoa x (by omega) (by omega) _ HTB.out).mono ?_; rintro e w4 ⟨rfl, hg⟩; have hb4 : Hid (Below wi.heap.size wi w4) := (by obtain ⟨k4, os4, h4⟩ := hg; rw [h4]; exact below_grow _ _ _); clear hg))
        go_roundw
        case rel => exact ⟨pos + 1, by omega, by rw [HX'.out], (hb4.out.block _ (by omega)).trans HII.out, HI.out.trans (hb4.out.mono (by omega))⟩
        case measure =>
          have e4 : w4.iterPos (w1.heap.size + 1) = pos + 1 := by simp only [World.iterPos, (hb4.out.block _ (by omega)).trans HII.out]
          rw [e4, HP.out]
          omega
      · have hnx : ∀ ty, (Instr.next (.pointer (some ⟨w1.heap.size + 1, 0, none⟩)) true ty).run Tryz.prog wr = .ok (.tuple #[.bool false]) wr := fun ty => Lib.run_next_end_at (P := Tryz.prog) wr (w1.heap.size + 1) ⟨(letL q).toArray⟩ pos ty hit (by simpa [ByteArray.size] using hlt)
        go_wp2
        go_ret
        have e : (numsL q r a b n).take pos = numsL q r a b n := List.take_of_length_le (by omega)
        refine ⟨?_, K1.out.trans (KR.out.mono (Nat.le_of_lt s1))⟩
        rw [T.out, ← HT.out, e]
        rfl

end Go.Proofs.YtajblippcnidiaaGreatDoor
