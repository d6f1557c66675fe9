/- InsText of the specification: at every Ins, in every world, the place's line. No condition. -/
import Derived.Test.YtajblippcnidiaaGreatDoorText1
import Derived.Test.YtajblippcnidiaaGreatDoorSpecIns
import Derived.Test.YtajblippcnidiaaGreatDoorBoxes
import Derived.Deep.RegionWith
namespace Go.Proofs.YtajblippcnidiaaGreatDoor
set_option linter.unusedSimpArgs false
set_option linter.unusedVariables false
set_option maxRecDepth 100000
open Go.RowKit

theorem cells5 {w w' : World} {B o1 : Nat} {v0 v1 v2 v3 v4 : Value} {T : TypeId} (hB : B = w.heap.size) (h : Below (w.alloc (.cells #[v0, v1, v2, v3, v4] T)).heap.size (w.alloc (.cells #[v0, v1, v2, v3, v4] T)) w') (_ : o1 = 0) :
    w'.cell? ⟨B, 0, none⟩ = some v0 ∧ w'.cell? ⟨B, 1, none⟩ = some v1 ∧ w'.cell? ⟨B, 2, none⟩ = some v2 ∧ w'.cell? ⟨B, 3, none⟩ = some v3 ∧ w'.cell? ⟨B, 4, none⟩ = some v4 := by
  subst hB
  refine ⟨?_, ?_, ?_, ?_, ?_⟩ <;> (rw [h.cell (by simp), World.cell?_alloc_mark]; rfl)
theorem keep5 {w w' : World} {K B : Nat} {v0 v1 v2 v3 v4 : Value} (h : Below K w w') (hB : B < K) (hc : w.cell? ⟨B, 0, none⟩ = some v0 ∧ w.cell? ⟨B, 1, none⟩ = some v1 ∧ w.cell? ⟨B, 2, none⟩ = some v2 ∧ w.cell? ⟨B, 3, none⟩ = some v3 ∧ w.cell? ⟨B, 4, none⟩ = some v4) :
    w'.cell? ⟨B, 0, none⟩ = some v0 ∧ w'.cell? ⟨B, 1, none⟩ = some v1 ∧ w'.cell? ⟨B, 2, none⟩ = some v2 ∧ w'.cell? ⟨B, 3, none⟩ = some v3 ∧ w'.cell? ⟨B, 4, none⟩ = some v4 := by
  obtain ⟨c0, c1, c2, c3, c4⟩ := hc
  exact ⟨(h.cell hB).trans c0, (h.cell hB).trans c1, (h.cell hB).trans c2, (h.cell hB).trans c3, (h.cell hB).trans c4⟩
theorem addL (x y : List UInt8) (hx : x.length ≤ 8388608) (hy : y.length ≤ 8388608) (W : World) : (Op.stringOp .add ⟨x.toArray⟩ ⟨y.toArray⟩).run Tryz.prog W = .ok (.string ⟨(x ++ y).toArray⟩) W :=
  run_string_add_lists W x y (by omega) (by omega)
theorem numText_take {l : List Int} {k : Nat} (h : k < l.length) : numText (l.take (k + 1)) = numText (l.take k) ++ (32 :: Lib.itoa (l.getD k 0)) := by
  have e : l.take (k + 1) = l.take k ++ [l.getD k 0] := by
    rw [List.take_add_one, List.getD_eq_getElem?_getD, List.getElem?_eq_getElem h]
    rfl
  rw [e]
  simp only [numText, List.flatMap_append, List.flatMap_cons, List.flatMap_nil, List.append_nil]
theorem getD_mem {l : List Int} {k : Nat} (h : k < l.length) : l.getD k 0 ∈ l := by
  rw [List.getD_eq_getElem?_getD, List.getElem?_eq_getElem h]
  exact List.getElem_mem h
theorem numText_take_le {l : List Int} (h : ∀ v ∈ l, -1000000000 ≤ v ∧ v ≤ 1000000000) (hl : l.length ≤ 3) (k : Nat) : (numText (l.take k)).length ≤ 39 := by
  have := numText_le (l := l.take k) fun v hv => h v (List.mem_of_mem_take hv)
  have h2 : (l.take k).length ≤ l.length := by simp; omega
  omega

set_option maxRecDepth 100000 in
set_option maxHeartbeats 2000000 in
theorem specInsText_any (o r a b n : Int) (w : World) : Calls Tryz.prog 20 #[.agg #[.int .i64 o, .int .i64 r, .int .i64 a, .int .i64 b, .int .i64 n]] w fun e w' => e = .returned (.string ⟨(textL o r a b n).toArray⟩) ∧ Below w.heap.size w w' := by
  cases hv : Plain.insB o r a b n 24 3
  · have T : Hid (textL o r a b n = []) := by show _ = _; unfold textL; rw [hv]; rfl
    have V : Hid (Plain.insB o r a b n 24 3 = false) := hv
    clear hv
    go_enter Tryz.func20, Tryz.ntmps20
    go_wp2_with fail
    refine (specInsOk_any _ _ _ _ _ _ _ _).mono ?_
    rintro e w1 ⟨rfl, hb1⟩
    rw [V.out]
    go_wp2
    go_ret
    exact ⟨by rw [T.out]; rfl, ((Below.refl _ _).alloc (Nat.le_refl _) _).trans (hb1.mono (by simp))⟩
  · have T : Hid (textL o r a b n = wordL o.toNat ++ numText (numsL o r a b n)) := by show _ = _; unfold textL; rw [if_pos hv]
    have V : Hid (Plain.insB o r a b n 24 3 = true) := hv
    have hop := op_in hv
    have hnl := nums_le o r a b n
    have HN : Hid (∀ v ∈ numsL o r a b n, -1000000000 ≤ v ∧ v ≤ 1000000000) := nums_in hv
    clear hv
    obtain ⟨q, rfl⟩ : ∃ q : Nat, o = q := ⟨o.toNat, by omega⟩
    have hq : q < 14 := by omega
    have b0 : (0 : Int) ≤ (q : Int) := by omega
    have b1 : (q : Int) < 14 := by omega
    go_enter Tryz.func20, Tryz.ntmps20
    go_wp2_with fail
    refine (specInsOk_any _ _ _ _ _ _ _ _).mono ?_
    rintro e w1 ⟨rfl, hb1⟩
    rw [V.out]
    have C1 := cells5 (B := w.heap.size) rfl hb1 rfl
    have s1 : w.heap.size < w1.heap.size := by have := hb1.size; simp at this; omega
    have K1 : Hid (Below w.heap.size w w1) := ((Below.refl _ _).alloc (Nat.le_refl _) _).trans (hb1.mono (by simp))
    clear hb1
    have c0 := C1.1
    have HC1 := (show Hid _ from C1)
    clear C1
    go_wp2_with fail
    go_region_with (go_at_call 42; refine (l2Names_any _).mono ?_; rintro e w2 ⟨rfl, hb2, hs2, hc2⟩; have C2 := keep5 hb2 s1 HC1.out; have d0 := C2.1; have nm : w2.cell? ⟨w1.heap.size, q, none⟩ = some (.string ⟨(wordL q).toArray⟩) := hc2 q hq; have K2 : Below w1.heap.size w1 w2 := ⟨hb2.os, hb2.tape, hb2.output, hb2.size, hb2.block⟩; have s2 : w1.heap.size < w2.heap.size := hs2; clear hb2 hc2 hs2)
    all_goals
      clear nm d0 c0
      have K2' : Hid (Below w.heap.size w w2) := K1.out.trans (K2.mono (by omega))
      clear K2
      obtain ⟨d0, d1, d2, d3, d4⟩ := C2
      have hw := words_le q
      go_wp2_with fail
      refine (l2Nums_any _ _ _ _ _ _).mono ?_
      rintro e w3 ⟨g, rfl, hb3, hg, hc3⟩
      have K3 : Hid (Below w.heap.size w w3) := K2'.out.trans (hb3.mono (by have := K2'.out.size; omega))
      have HC : Hid (∀ i, i < (numsL q r a b n).length → w3.cell? ⟨g, i, none⟩ = some (.int .i64 ((numsL q r a b n).getD i 0))) := hc3
      have hs3 := K3.out.size
      clear d0 d1 d2 d3 d4 hb3 hc3
      go_wp2_with fail
      go_loopw [3, 5] (fun t i wr => ∃ k : Nat, k ≤ (numsL q r a b n).length ∧ i = .int .i64 k ∧ t = .string ⟨(wordL q ++ numText ((numsL q r a b n).take k)).toArray⟩ ∧ Below w3.heap.size w3 wr) (fun _ i _ => (numsL q r a b n).length - (intOf i).toNat)
      case atStart => exact ⟨0, Nat.zero_le _, rfl, by simp [numText], Below.refl _ _⟩
      case round =>
        obtain ⟨k, hk, rfl, rfl, hbr⟩ := hrel
        have KR : Hid (Below w3.heap.size w3 wr) := hbr
        have hsr := hbr.size
        clear hbr
        have ht : (wordL q ++ numText ((numsL q r a b n).take k)).length ≤ 46 := by
          have := numText_take_le HN.out hnl k
          simp; omega
        have HX : Hid (∀ h : k < (numsL q r a b n).length, wordL q ++ numText ((numsL q r a b n).take (k + 1)) = wordL q ++ numText ((numsL q r a b n).take k) ++ (32 :: Lib.itoa ((numsL q r a b n).getD k 0))) := fun h => by rw [numText_take h, List.append_assoc]
        generalize hT : wordL q ++ numText ((numsL q r a b n).take k) = tx at ht HX
        have HT : Hid (wordL q ++ numText ((numsL q r a b n).take k) = tx) := hT
        clear hT
        by_cases hlt : k < (numsL q r a b n).length
        · have i0 : (0 : Int) ≤ (k : Int) := by omega
          have i1 : (k : Int) < ((numsL q r a b n).length : Int) := by omega
          have f0 : wr.cell? ⟨g, k, none⟩ = some (.int .i64 ((numsL q r a b n).getD k 0)) := (KR.out.cell (p := ⟨g, k, none⟩) hg).trans (HC.out k hlt)
          have hx := HN.out _ (getD_mem hlt)
          have HX' := (show Hid _ from HX.out hlt)
          generalize (numsL q r a b n).getD k 0 = x at f0 hx HX'
          have a1 := addL tx [32] (by omega) (by simp)
          have a2 := addL (tx ++ [32]) (Lib.itoa x) (by simp; omega) (by have := itoa_le hx.1 hx.2; omega)
          go_wp2_with (go_at_call 19; refine (l2Digits_any x (by omega) (by omega) _).mono ?_; rintro e w4 ⟨rfl, hb4⟩; have K4 : Hid (Below wr.heap.size wr w4) := hb4; clear hb4)
          go_roundw
          case rel => exact ⟨k + 1, by omega, by go_num, by rw [HX'.out], KR.out.trans (K4.out.mono hsr)⟩
          case measure => simp [intOf]; omega
        · have i1 : ¬ (k : Int) < ((numsL q r a b n).length : Int) := by omega
          go_wp2
          go_ret
          have e : (numsL q r a b n).take k = numsL q r a b n := List.take_of_length_le (by omega)
          refine ⟨?_, K3.out.trans (KR.out.mono hs3)⟩
          rw [T.out, ← HT.out, e]
          rfl

end Go.Proofs.YtajblippcnidiaaGreatDoor
