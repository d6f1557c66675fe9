/- InsRead of the specification, at every line of at most 2^40 bytes: it answers as the plain reading. No other condition. -/
import Derived.Test.YtajblippcnidiaaGreatDoorSRead4
import Derived.Test.YtajblippcnidiaaGreatDoorOwnN
import Derived.Test.YtajblippcnidiaaGreatDoorText2
import Derived.Test.YtajblippcnidiaaGreatDoorRead4
import Derived.BigQuiet
import Derived.Deep.QuietTactic
namespace Go.Proofs.YtajblippcnidiaaGreatDoor
set_option linter.unusedSimpArgs false
set_option linter.unusedVariables false
set_option maxRecDepth 100000
open Go.RowKit

theorem push_last (w : World) (o : Obj) : (w.alloc o).heap[w.heap.size]? = some o := by
  show (w.heap.push o)[w.heap.size]? = _
  simp
def readV (x : Option R5) : Value :=
  match x with
  | some x => .tuple #[.agg #[.int .i64 x.o, .int .i64 x.r, .int .i64 x.a, .int .i64 x.b, .int .i64 x.n], .bool true]
  | none => .tuple #[.agg #[.int .i64 0, .int .i64 0, .int .i64 0, .int .i64 0, .int .i64 0], .bool false]

theorem hidP {p : Prop} (h : p) : Hid p := h
theorem mapS_snoc {xs : List (List UInt8)} {x : List UInt8} {vs : List Int} {v : Int} (h : xs.mapM numS = some vs) (hx : numS x = some v) : (xs ++ [x]).mapM numS = some (vs ++ [v]) := by
  rw [List.mapM_append, h]
  simp [hx]
theorem mapS_fail {xs ys : List (List UInt8)} {x : List UInt8} {vs : List Int} (h : xs.mapM numS = some vs) (hx : numS x = none) : (xs ++ x :: ys).mapM numS = none := by
  rw [List.mapM_append, h]
  simp [hx]
theorem take_split {ws : List (List UInt8)} {k : Nat} (h0 : 1 ≤ k) (h : k < ws.length) (h5 : k < 5) : (∃ ys, ws.tail.take 4 = ws.tail.take (k - 1) ++ ws.getD k [] :: ys) ∧ ws.tail.take (k + 1 - 1) = ws.tail.take (k - 1) ++ [ws.getD k []] := by
  obtain ⟨j, rfl⟩ : ∃ j, k = j + 1 := ⟨k - 1, by omega⟩
  obtain ⟨a, b⟩ := tail_split h
  refine ⟨⟨(ws.tail.take 4).drop (j + 1), ?_⟩, b⟩
  have e1 : (ws.tail.take 4).take (j + 1) = ws.tail.take (j + 1) := by rw [List.take_take, Nat.min_eq_left (by omega)]
  have e2 := (List.take_append_drop (j + 1) (ws.tail.take 4)).symm
  rw [e1, b] at e2
  rw [List.append_assoc] at e2
  exact e2
theorem take_all4 {ws : List (List UInt8)} {k : Nat} (h0 : 1 ≤ k) (hk : k ≤ ws.length) (hk5 : k ≤ 5) (h : ¬ (k < ws.length ∧ k < 5)) : ws.tail.take 4 = ws.tail.take (k - 1) := by
  by_cases h5 : k = 5
  · subst h5; rfl
  · have hl : ws.tail.length = k - 1 := by simp; omega
    rw [List.take_of_length_le (by omega), List.take_of_length_le (by omega)]
theorem put_cell {w : World} {base g cap : Nat} {vs : List Int} {i : Nat} {x : Int} (h : OwnN w base (.slice (some ⟨g, 0, none⟩) (vs.length + 3) cap) (vs ++ [0, 0, 0])) (hx : (vs ++ [0, 0, 0]).getD i 0 = x) (hi : i < 3) : w.cell? ⟨g, i, none⟩ = some (.int .i64 x) := by
  have e : (vs ++ [0, 0, 0]).length = vs.length + 3 := by simp
  rw [← e] at h
  rw [h.cell (by rw [e]; omega), hx]
theorem zeros_getD (vs : List Int) : (vs ++ [0, 0, 0]).getD 0 0 = vs.getD 0 0 ∧ (vs ++ [0, 0, 0]).getD 1 0 = vs.getD 1 0 ∧ (vs ++ [0, 0, 0]).getD 2 0 = vs.getD 2 0 := by
  match vs with
  | [] => exact ⟨rfl, rfl, rfl⟩
  | [_] => exact ⟨rfl, rfl, rfl⟩
  | [_, _] => exact ⟨rfl, rfl, rfl⟩
  | _ :: _ :: _ :: _ => exact ⟨rfl, rfl, rfl⟩

set_option maxHeartbeats 8000000 in
theorem specInsRead_any (l : List UInt8) (hl : l.length ≤ 1099511627774) (w : World) : Calls Tryz.prog 55 #[.string ⟨l.toArray⟩] w fun e w' => e = .returned (readV (readL l)) ∧ Below w.heap.size w w' := by
  have HSE : Hid (specW l (splitA 32 [] l) = readL l) := spec_eq l
  have hne := words_ne l
  have hln := (splitA_len 32 l []).2
  have HW : Hid (∀ x ∈ splitA 32 [] l, x.length ≤ 1099511627775) := fun x hx => by have := split_word_le 32 l [] x hx; simp at this; omega
  have KA : Hid (Below w.heap.size w (w.alloc (box5 0 0 0 0 0))) := (Below.refl _ _).alloc (Nat.le_refl _) _
  go_enter Tryz.func55, Tryz.ntmps55
  go_wp2_with fail
  refine (l2Words_any l (by omega) _).mono ?_
  rintro e w1 ⟨g, cap, rfl, ho1, hb1, hs1⟩
  generalize splitA 32 [] l = ws at HSE hne hln ho1 HW
  have O1 : Hid (OwnT w1 _ (.slice (some ⟨g, 0, none⟩) ws.length cap) ws) := ho1
  have K1 : Hid (Below w.heap.size w w1) := KA.out.trans (hb1.mono (by simp))
  have RV : Hid (w1.heap[w.heap.size]? = some (box5 0 0 0 0 0)) := by
    show _ = _
    rw [hb1.block _ (by simp)]
    show (w.heap.push (box5 0 0 0 0 0))[w.heap.size]? = _
    simp
  have z1 : w.heap.size < w1.heap.size := by simp at hs1; omega
  have hwl : 0 < ws.length := by cases ws with | nil => exact absurd rfl hne | cons a r => simp
  have hg1 : g < w1.heap.size := by
    obtain ⟨g', cap', hv, -, hlt⟩ := ho1.form hwl
    cases hv; exact hlt
  have c0 := ho1.cell (i := 0) hwl
  rw [head_getD hne] at c0
  obtain ⟨w0, hw0⟩ : ∃ w0, ws.headD [] = w0 := ⟨_, rfl⟩
  rw [hw0] at c0
  have HW0 : Hid (ws.headD [] = w0) := hw0
  have HC0 : Hid (w1.cell? ⟨g, 0, none⟩ = some (.string ⟨w0.toArray⟩)) := c0
  have i0 : (0 : Int) < (ws.length : Int) := by omega
  clear ho1 hb1 hs1 hne hw0 c0
  go_wp2_with fail
  refine (l2Names_any _).mono ?_
  rintro e w2 ⟨rfl, hb2, hs2, hc2⟩
  have K2 : Hid (Below w1.heap.size w1 w2) := hb2
  have NC : Hid (∀ i, i < 14 → w2.cell? ⟨w1.heap.size, i, none⟩ = some (.string ⟨(wordL i).toArray⟩)) := hc2
  have C0 : Hid (w2.cell? ⟨g, 0, none⟩ = some (.string ⟨w0.toArray⟩)) := (hb2.cell (p := ⟨g, 0, none⟩) hg1).trans HC0.out
  clear hb2 hc2
  go_wp2_with fail
  go_loopw [6, 7] (fun o i wr => ∃ (k q : Nat), 1 ≤ k ∧ k ≤ 14 ∧ i = .int .i64 k ∧ o = .int .i64 q ∧ Hid ((q = 0 ∧ ∀ i, 1 ≤ i → i < k → wordL i ≠ w0) ∨ (1 ≤ q ∧ q < 14 ∧ wordL q = w0)) ∧ Below w2.heap.size w2 wr) (fun _ i _ => 14 - (intOf i).toNat)
  case atStart => exact ⟨1, 0, by omega, by omega, rfl, rfl, .inl ⟨rfl, fun i h1 h2 => by omega⟩, Below.refl _ _⟩
  case round =>
    obtain ⟨k, q, h1, h2, rfl, rfl, HQ, hbr⟩ := hrel
    have KR : Hid (Below w2.heap.size w2 wr) := hbr
    have d0 := (hbr.cell (p := ⟨g, 0, none⟩) (by show g < _; omega)).trans C0.out
    by_cases hk : k < 14
    · have dk := (hbr.cell (p := ⟨w1.heap.size, k, none⟩) hs2).trans (NC.out k hk)
      have b0 : (0 : Int) ≤ (k : Int) := by omega
      have b1 : (k : Int) < 14 := by omega
      clear hbr
      cases he : (wordL k == w0)
      · have he' : wordL k ≠ w0 := by simpa using he
        have HE' := (show Hid _ from he')
        clear he'
        go_wp2_with fail
        go_quiet (fail)
        go_wp2
        go_roundw
        case rel =>
          refine ⟨k + 1, q, by omega, by omega, by go_num, rfl, ?_, below_drewN KR.out _⟩
          rcases HQ.out with ⟨a, b⟩ | h
          · refine .inl ⟨a, fun i x y => ?_⟩
            by_cases e : i = k
            · subst e; exact HE'.out
            · exact b i x (by omega)
          · exact .inr h
        case measure => (simp [intOf] <;> omega)
      · have HE' : Hid (wordL k = w0) := by show _ = _; simpa using he
        go_wp2_with fail
        go_quiet (fail)
        go_wp2
        go_roundw
        case rel => exact ⟨k + 1, k, by omega, by omega, by go_num, rfl, .inr ⟨h1, hk, HE'.out⟩, below_drewN KR.out _⟩
        case measure => (simp [intOf] <;> omega)
    · have hk14 : k = 14 := by omega
      subst hk14
      have HO : Hid (opL w0 = q) := by
        show _ = _
        rcases HQ.out with ⟨a, b⟩ | ⟨a, b, c⟩
        · rw [a]; exact op_miss b
        · exact op_hit a b c
      clear hbr d0 HQ
      have hqlt : q < 14 := by rw [← HO.out]; exact op_lt w0
      rename World => w3
      have K3 : Hid (Below w.heap.size w w3) := K1.out.trans ((K2.out.trans (KR.out.mono (by omega))).mono (by omega))
      have hs3 := KR.out.size
      have R3 : Hid (w3.heap[w.heap.size]? = some (box5 0 0 0 0 0)) := (KR.out.block _ (by omega)).trans ((K2.out.block _ z1).trans RV.out)
      have z3 : w.heap.size < w3.heap.size := by omega
      have hg3 : g < w3.heap.size := by omega
      have WC : Hid (∀ i, i < ws.length → w3.cell? ⟨g, i, none⟩ = some (.string ⟨(ws.getD i []).toArray⟩)) := fun i hi => (KR.out.cell (p := ⟨g, i, none⟩) (by show g < _; omega)).trans ((K2.out.cell (p := ⟨g, i, none⟩) hg1).trans (O1.out.cell hi))
      have ON3 : Hid (OwnN (w3.alloc (.cells #[] 3)) w3.heap.size (.slice (some ⟨w3.heap.size, 0, none⟩) 0 0) []) := ownN_empty (Nat.le_refl _)
      have KN3 : Hid (Below w3.heap.size w3 (w3.alloc (.cells #[] 3))) := (Below.refl _ _).alloc (Nat.le_refl _) _
      clear KR K1 K2 RV O1 NC C0 HC0
      go_wp2_with fail
      go_loopw [8, 9] (fun v i wr => ∃ (k : Nat) (vs : List Int), 1 ≤ k ∧ k ≤ 5 ∧ k ≤ ws.length ∧ i = .int .i64 k ∧ OwnN wr w3.heap.size v vs ∧ Hid ((ws.tail.take (k - 1)).mapM numS = some vs) ∧ Below w3.heap.size w3 wr ∧ w3.heap.size < wr.heap.size) (fun _ i _ => 5 - (intOf i).toNat)
      case atStart => exact ⟨1, [], by omega, by omega, by omega, rfl, ON3.out, rfl, KN3.out, by simp⟩
      case round =>
        rename World => wr
        obtain ⟨k, vs, h1, h5, hkl, rfl, hown, HM, hbr, hsr⟩ := hrel
        have KR : Hid (Below w3.heap.size w3 wr) := hbr
        have hvl : vs.length ≤ 5 := by have := Lib.mapM_length HM.out; simp at this; omega
        have OR : Hid (OwnN wr w3.heap.size u8 vs) := hown
        have RR : Hid (wr.heap[w.heap.size]? = some (box5 0 0 0 0 0)) := (hbr.block _ z3).trans R3.out
        have KW : Hid (Below w.heap.size w wr) := K3.out.trans (hbr.mono (by omega))
        clear hbr hown
        by_cases hin : k < ws.length ∧ k < 5
        · obtain ⟨hk1, hk2⟩ := hin
          have b0 : (0 : Int) ≤ (k : Int) := by omega
          have b1 : (k : Int) < (ws.length : Int) := by omega
          have b2 : (k : Int) < 5 := by omega
          have ck := (KR.out.cell (p := ⟨g, k, none⟩) hg3).trans (WC.out k hk1)
          have hword : ws.getD k [] ∈ ws := by
            rw [List.getD_eq_getElem?_getD, List.getElem?_eq_getElem hk1]
            exact List.getElem_mem _
          have hwl1 := HW.out _ hword
          obtain ⟨⟨ys, ts1⟩, ts2⟩ := take_split h1 hk1 hk2
          have TS1 := (show Hid _ from ts1)
          have TS2 := (show Hid _ from ts2)
          clear ts1 ts2 hword
          generalize ws.getD k [] = wk at ck hwl1 TS1 TS2
          cases hn : numS wk with
          | none =>
            have HN : Hid (readL l = none) := by show _ = _; rw [← HSE.out]; unfold specW; rw [TS1.out, mapS_fail HM.out hn]
            have HNS : Hid ((numS wk).isSome = false) := by show _ = _; rw [hn]; rfl
            clear hn
            go_wp2_with fail
            refine (l2Read_any wk hwl1 _).mono ?_
            rintro e w4 ⟨v, rfl, -, hb4⟩
            rw [HNS.out]
            have hr4 := (hb4.block w.heap.size (by omega)).trans RR.out
            have R4 : Hid (w4.heap[w.heap.size]? = some (box5 0 0 0 0 0)) := hr4
            have K4 : Hid (Below w.heap.size w w4) := KW.out.trans (hb4.mono (by omega))
            obtain ⟨d0, d1, d2, d3, d4⟩ := box5_cells hr4
            have fz := box5_frozen hr4
            clear hb4 hr4
            go_wp2
            have hblk := store5 R4.out (0) (0) (0) (0) (0)
            have KG := ((((K4.out.setCell (p := ⟨w.heap.size, 0, none⟩) (Nat.le_refl _) (.int .i64 (0))).setCell (p := ⟨w.heap.size, 1, none⟩) (Nat.le_refl _) (.int .i64 (0))).setCell (p := ⟨w.heap.size, 2, none⟩) (Nat.le_refl _) (.int .i64 (0))).setCell (p := ⟨w.heap.size, 3, none⟩) (Nat.le_refl _) (.int .i64 (0))).setCell (p := ⟨w.heap.size, 4, none⟩) (Nat.le_refl _) (.int .i64 (0))
            revert hblk KG
            generalize ((((w4.setCell ⟨w.heap.size, 0, none⟩ (.int .i64 (0))).setCell ⟨w.heap.size, 1, none⟩ (.int .i64 (0))).setCell ⟨w.heap.size, 2, none⟩ (.int .i64 (0))).setCell ⟨w.heap.size, 3, none⟩ (.int .i64 (0))).setCell ⟨w.heap.size, 4, none⟩ (.int .i64 (0)) = wz
            intro hblk KG
            obtain ⟨g0, g1, g2, g3, g4⟩ := box5_cells hblk
            exact bodyPost_ret (v := .tuple #[.agg #[.int .i64 (0), .int .i64 (0), .int .i64 (0), .int .i64 (0), .int .i64 (0)], .bool false]) (by simp [results, Tryz.results55, go_sem, g0, g1, g2, g3, g4]) rfl ⟨by rw [HN.out]; rfl, KG⟩
          | some x =>
            have HM2 : Hid ((ws.tail.take (k + 1 - 1)).mapM numS = some (vs ++ [x])) := by show _ = _; rw [TS2.out]; exact mapS_snoc HM.out hn
            have HNS : Hid ((numS wk).isSome = true) := by show _ = _; rw [hn]; rfl
            have HNX : Hid (numS wk = some x) := hn
            clear hn
            go_wp2_with fail
            refine (l2Read_any wk hwl1 _).mono ?_
            rintro e w4 ⟨v, rfl, hv, hb4⟩
            rw [HNS.out]
            have hvx := hv x HNX.out
            subst hvx
            have O4 : Hid (OwnN w4 w3.heap.size u8 vs) := OR.out.below hb4
            have K4 : Hid (Below w3.heap.size w3 w4) := KR.out.trans (hb4.mono (by omega))
            have hs4 : wr.heap.size ≤ w4.heap.size := hb4.size
            clear hb4 hv
            go_wp2_with (at_builtin; refine app_int rfl _ _ rfl w4 v w3.heap.size u8 vs rfl O4.out rfl (by omega) (by omega) ?_; intro g5 cap5 w5 ho5 hb5 hs5; have O5 := (show Hid _ from ho5); have B5 := (show Hid _ from hb5); clear ho5 hb5)
            go_roundw
            case rel => exact ⟨_, _, _, _, _, _, _, _, _, _, _, _, _, _, _, _, _, _, _, _, _, _, _, _, _, _, _, _, _, _, ⟨k + 1, vs ++ [v], by omega, by omega, by omega, by go_num, O5.out, HM2.out, K4.out.trans B5.out, by omega⟩, rfl⟩
            case measure => (simp [intOf] <;> omega)
        · have HT : Hid ((ws.tail.take 4).mapM numS = some vs) := by show _ = _; rw [take_all4 h1 hkl h5 hin]; exact HM.out
          have HSP : Hid (readL l = if l = [] ∨ textR (putX q (vs.getD 0 0) (vs.getD 1 0) (vs.getD 2 0)) ≠ l then none else some (putX q (vs.getD 0 0) (vs.getD 1 0) (vs.getD 2 0))) := by
            show _ = _
            rw [← HSE.out]
            unfold specW
            rw [HT.out, HW0.out, HO.out]
          have hb12 : (((k : Int) < (ws.length : Int)) ∧ ¬ ((k : Int) < 5)) ∨ ¬ ((k : Int) < (ws.length : Int)) := by omega
          clear hin
          rcases hb12 with ⟨b1, b2⟩ | b1
          all_goals
            go_wp2_with (at_builtin; refine app_zeros rfl _ _ rfl wr w3.heap.size u8 vs rfl OR.out rfl (by omega) (by omega) ?_; intro g5 cap5 w5 ho5 hb5 hg5; have O5 := (show Hid _ from ho5); have B5 := (show Hid _ from hb5); clear ho5 hb5; refine Hid.out ?_)
            have hs5 : wr.heap.size ≤ w5.heap.size := B5.out.size
            have K5 : Hid (Below w.heap.size w w5) := KW.out.trans (B5.out.mono (by omega))
            have R5' : Hid (w5.heap[w.heap.size]? = some (box5 0 0 0 0 0)) := (B5.out.block _ z3).trans RR.out
            have HP := (show Hid _ from l2Put_any q hqlt g5 (vs.length + 3) cap5 (vs.getD 0 0) (vs.getD 1 0) (vs.getD 2 0) (by omega) w5 (put_cell O5.out (zeros_getD vs).1 (by omega)) (put_cell O5.out (zeros_getD vs).2.1 (by omega)) (put_cell O5.out (zeros_getD vs).2.2 (by omega)) hg5)
            generalize putX q (vs.getD 0 0) (vs.getD 1 0) (vs.getD 2 0) = x at HP HSP
            clear O5 B5 OR KW RR HM HT KR WC b1
            refine hidP ?_
            go_wp2_with (go_at_call 66; refine Calls.mono (Hid.out HP) ?_; rintro e w6 ⟨rfl, hb6⟩; have K6 : Hid (Below w5.heap.size w5 w6) := hb6; clear hb6; refine Hid.out ?_)
            have hs6 : w5.heap.size ≤ w6.heap.size := K6.out.size
            have z6 : w.heap.size < w6.heap.size := by omega
            have K6' : Hid (Below w.heap.size w w6) := K5.out.trans (K6.out.mono (by omega))
            have R6 : Hid (w6.heap[w.heap.size]? = some (box5 0 0 0 0 0)) := (K6.out.block _ (by omega)).trans R5'.out
            clear HP K5 K6 R5'
            by_cases hl0 : l = []
            · have HN : Hid (readL l = none) := by show _ = _; rw [HSP.out, if_pos (.inl hl0)]
              have hl1 : (l == []) = true := by simpa using hl0
              obtain ⟨d0, d1, d2, d3, d4⟩ := box5_cells R6.out
              have fz := box5_frozen R6.out
              clear hl0
              refine hidP ?_
              go_wp2
              have hblk := store5 R6.out (0) (0) (0) (0) (0)
              have KG := ((((K6'.out.setCell (p := ⟨w.heap.size, 0, none⟩) (Nat.le_refl _) (.int .i64 (0))).setCell (p := ⟨w.heap.size, 1, none⟩) (Nat.le_refl _) (.int .i64 (0))).setCell (p := ⟨w.heap.size, 2, none⟩) (Nat.le_refl _) (.int .i64 (0))).setCell (p := ⟨w.heap.size, 3, none⟩) (Nat.le_refl _) (.int .i64 (0))).setCell (p := ⟨w.heap.size, 4, none⟩) (Nat.le_refl _) (.int .i64 (0))
              revert hblk KG
              generalize ((((w6.setCell ⟨w.heap.size, 0, none⟩ (.int .i64 (0))).setCell ⟨w.heap.size, 1, none⟩ (.int .i64 (0))).setCell ⟨w.heap.size, 2, none⟩ (.int .i64 (0))).setCell ⟨w.heap.size, 3, none⟩ (.int .i64 (0))).setCell ⟨w.heap.size, 4, none⟩ (.int .i64 (0)) = wz
              intro hblk KG
              have hlz : w.heap.size < wz.heap.size := (Array.getElem?_eq_some_iff.1 hblk).1
              obtain ⟨g0, g1, g2, g3, g4⟩ := box5_cells hblk
              exact bodyPost_ret (v := .tuple #[.agg #[.int .i64 (0), .int .i64 (0), .int .i64 (0), .int .i64 (0), .int .i64 (0)], .bool false]) (by simp [results, Tryz.results55, go_sem, g0, g1, g2, g3, g4, hlz]) rfl ⟨by rw [HN.out]; rfl, KG.alloc (Nat.le_of_lt hlz) _⟩
            · have hl1 : (l == []) = false := by simpa using hl0
              have KX : Hid (Below w.heap.size w (w6.alloc (box5 x.o x.r x.a x.b x.n))) := K6'.out.alloc (by omega) _
              have RX : Hid ((w6.alloc (box5 x.o x.r x.a x.b x.n)).heap[w.heap.size]? = some (box5 0 0 0 0 0)) := (Below.heap_alloc _ _ _ z6).trans R6.out
              have XX : Hid ((w6.alloc (box5 x.o x.r x.a x.b x.n)).heap[w6.heap.size]? = some (box5 x.o x.r x.a x.b x.n)) := push_last _ _
              have hs7 : w6.heap.size < (w6.alloc (box5 x.o x.r x.a x.b x.n)).heap.size := by simp
              refine hidP ?_
              go_wp2_with fail
              refine (specInsText_any _ _ _ _ _ _).mono ?_
              rintro e w7 ⟨rfl, hb7⟩
              have K7 : Hid (Below w.heap.size w w7) := KX.out.trans (hb7.mono (by simp; omega))
              have R7 : Hid (w7.heap[w.heap.size]? = some (box5 0 0 0 0 0)) := (hb7.block _ (by simp; omega)).trans RX.out
              have X7 : Hid (w7.heap[w6.heap.size]? = some (box5 x.o x.r x.a x.b x.n)) := (hb7.block _ (by simp)).trans XX.out
              have hne67 : ¬ w6.heap.size = w.heap.size := by omega
              obtain ⟨d0, d1, d2, d3, d4⟩ := box5_cells R7.out
              have fz := box5_frozen R7.out
              obtain ⟨x0, x1, x2, x3, x4⟩ := box5_cells X7.out
              clear hb7 KX RX XX hs7
              cases he : (textL x.o x.r x.a x.b x.n == l)
              · have HN : Hid (readL l = none) := by show _ = _; rw [HSP.out, if_pos (.inr (by simpa [textR] using he))]
                go_wp2
                have hblk := store5 R7.out (0) (0) (0) (0) (0)
                have KG := ((((K7.out.setCell (p := ⟨w.heap.size, 0, none⟩) (Nat.le_refl _) (.int .i64 (0))).setCell (p := ⟨w.heap.size, 1, none⟩) (Nat.le_refl _) (.int .i64 (0))).setCell (p := ⟨w.heap.size, 2, none⟩) (Nat.le_refl _) (.int .i64 (0))).setCell (p := ⟨w.heap.size, 3, none⟩) (Nat.le_refl _) (.int .i64 (0))).setCell (p := ⟨w.heap.size, 4, none⟩) (Nat.le_refl _) (.int .i64 (0))
                revert hblk KG
                generalize ((((w7.setCell ⟨w.heap.size, 0, none⟩ (.int .i64 (0))).setCell ⟨w.heap.size, 1, none⟩ (.int .i64 (0))).setCell ⟨w.heap.size, 2, none⟩ (.int .i64 (0))).setCell ⟨w.heap.size, 3, none⟩ (.int .i64 (0))).setCell ⟨w.heap.size, 4, none⟩ (.int .i64 (0)) = wz
                intro hblk KG
                have hlz : w.heap.size < wz.heap.size := (Array.getElem?_eq_some_iff.1 hblk).1
                obtain ⟨g0, g1, g2, g3, g4⟩ := box5_cells hblk
                exact bodyPost_ret (v := .tuple #[.agg #[.int .i64 (0), .int .i64 (0), .int .i64 (0), .int .i64 (0), .int .i64 (0)], .bool false]) (by simp [results, Tryz.results55, go_sem, g0, g1, g2, g3, g4, hlz]) rfl ⟨by rw [HN.out]; rfl, KG⟩
              · have HN : Hid (readL l = some x) := by show _ = _; rw [HSP.out, if_neg (by simpa [textR, hl0] using he)]
                go_wp2
                have hblk := store5 R7.out (x.o) (x.r) (x.a) (x.b) (x.n)
                have KG := ((((K7.out.setCell (p := ⟨w.heap.size, 0, none⟩) (Nat.le_refl _) (.int .i64 (x.o))).setCell (p := ⟨w.heap.size, 1, none⟩) (Nat.le_refl _) (.int .i64 (x.r))).setCell (p := ⟨w.heap.size, 2, none⟩) (Nat.le_refl _) (.int .i64 (x.a))).setCell (p := ⟨w.heap.size, 3, none⟩) (Nat.le_refl _) (.int .i64 (x.b))).setCell (p := ⟨w.heap.size, 4, none⟩) (Nat.le_refl _) (.int .i64 (x.n))
                revert hblk KG
                generalize ((((w7.setCell ⟨w.heap.size, 0, none⟩ (.int .i64 (x.o))).setCell ⟨w.heap.size, 1, none⟩ (.int .i64 (x.r))).setCell ⟨w.heap.size, 2, none⟩ (.int .i64 (x.a))).setCell ⟨w.heap.size, 3, none⟩ (.int .i64 (x.b))).setCell ⟨w.heap.size, 4, none⟩ (.int .i64 (x.n)) = wz
                intro hblk KG
                have hlz : w.heap.size < wz.heap.size := (Array.getElem?_eq_some_iff.1 hblk).1
                obtain ⟨g0, g1, g2, g3, g4⟩ := box5_cells hblk
                exact bodyPost_ret (v := .tuple #[.agg #[.int .i64 (x.o), .int .i64 (x.r), .int .i64 (x.a), .int .i64 (x.b), .int .i64 (x.n)], .bool true]) (by simp [results, Tryz.results55, go_sem, g0, g1, g2, g3, g4, hlz]) rfl ⟨by rw [HN.out]; rfl, KG⟩

end Go.Proofs.YtajblippcnidiaaGreatDoor
