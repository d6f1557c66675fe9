/- A step's text by the program's words, and StepText of the program. Conditions: strconv's table as laid. -/
import Derived.Test.YtfgikjipkfggbaaGreatDoorQuietC
import Derived.Test.YtfgikjipkfggbaaGreatDoorT16W
import Derived.Test.YtfgikjipkfggbaaGreatDoorT16Env
import Derived.Test.YtfgikjipkfggbaaGreatDoorT16Do
import Derived.Test.YtfgikjipkfggbaaGreatDoorMixOp
import Derived.Test.YtfgikjipkfggbaaGreatDoorC7Plain
import Derived.Test.YtfgikjipkfggbaaGreatDoorC7Ok
import Derived.Test.YtfgikjipkfggbaaGreatDoorT16St
namespace Go.Proofs.YtfgikjipkfggbaaGreatDoor
set_option linter.unusedSimpArgs false
set_option linter.unusedVariables false
set_option maxRecDepth 100000
open Go.RowKit

set_option maxRecDepth 100000 in
set_option maxHeartbeats 4000000 in
theorem text_any (B : Nat) (o r a b n : Int) (w : World) (h : WB w B 0 0 false 0 ∨ WB w B 1 0 true 8) (hE : Env w B) (hs : StOk o r a b n) :
    Calls Tryz.prog 26 #[.pointer (some ⟨B, 0, none⟩), .agg #[.int .i64 o, .int .i64 r, .int .i64 a, .int .i64 b, .int .i64 n]] w fun e w' => e = .returned (.string ⟨(maW o.toNat ++ ltsT o r a b n (maL o.toNat)).toArray⟩) ∧ WB w' B 1 0 true 8 ∧ Kb B w w' := by
  have zB : B < w.heap.size := by rcases h with h | h <;> exact h.lt
  obtain ⟨q, rfl⟩ : ∃ q : Nat, o = q := ⟨o.toNat, by have := hs.o1; omega⟩
  have hq : q < 14 := by have := hs.o2; omega
  have b0 : (0 : Int) ≤ (q : Int) := by omega
  have b1 : (q : Int) < 14 := by omega
  rw [Int.toNat_natCast]
  obtain ⟨W, hW⟩ : ∃ W, w.alloc (.cells #[.int .i64 q, .int .i64 r, .int .i64 a, .int .i64 b, .int .i64 n] 25) = W := ⟨_, rfl⟩
  have kW : Below w.heap.size w W := by subst hW; exact (Below.refl _ _).alloc (Nat.le_refl _) _
  have sW : w.heap.size < W.heap.size := by subst hW; simp
  have x0 : W.cell? ⟨w.heap.size, 0, none⟩ = some (.int .i64 q) := by subst hW; simp [go_sem]
  have x1 : W.cell? ⟨w.heap.size, 1, none⟩ = some (.int .i64 r) := by subst hW; simp [go_sem]
  have x2 : W.cell? ⟨w.heap.size, 2, none⟩ = some (.int .i64 a) := by subst hW; simp [go_sem]
  have x3 : W.cell? ⟨w.heap.size, 3, none⟩ = some (.int .i64 b) := by subst hW; simp [go_sem]
  have x4 : W.cell? ⟨w.heap.size, 4, none⟩ = some (.int .i64 n) := by subst hW; simp [go_sem]
  have HB : Hid (WB W B 0 0 false 0 ∨ WB W B 1 0 true 8) := by
    rcases h with h | h
    · exact .inl (h.below kW zB)
    · exact .inr (h.below kW zB)
  have KW : Hid (Kb B w W) := Kb.of kW
  have EW := hidT (hE.keep (kW.mono (Nat.le_of_lt zB)))
  have HS := hidT hs
  clear h hE kW hs
  go_enter Tryz.func26, Tryz.ntmps26
  go_wp2_with fail
  try rw [hW]
  clear hW
  refine (do_any B W HB.out EW.out).mono ?_
  rintro e w1 ⟨rfl, hw1, hk1⟩
  have hne1 : w.heap.size ≠ B := by omega
  have C1 : Hid (∀ j, w1.cell? ⟨w.heap.size, j, none⟩ = W.cell? ⟨w.heap.size, j, none⟩) := fun j => World.cell?_of_block (w := W) (a := ⟨w.heap.size, j, none⟩) (hk1.same _ sW hne1)
  have s1 : w.heap.size < w1.heap.size := by have := hk1.size; omega
  have z0 := (C1.out 0).trans x0
  have z1 := (C1.out 1).trans x1
  have z2 := (C1.out 2).trans x2
  have z3 := (C1.out 3).trans x3
  have z4 := (C1.out 4).trans x4
  have K1 := hidT (KW.out.trans hk1)
  have E1 : Hid (Env w1 B) := EW.out.keep (hk1.below (Nat.le_refl _) (by omega))
  have W1 := hidT hw1
  obtain ⟨f0, f1⟩ := hw1.fm hq
  have zB1 : B < w1.heap.size := hw1.lt
  clear HB KW EW C1 x0 x1 x2 x3 x4 hw1 hk1
  have hne := extP_ne w1 (fun _ => False)
  have u0 := ExtP.fit (E := fun _ => False) z0 s1 (fun h => h)
  have v0 := ExtP.fit (E := fun _ => False) f0 zB1 (fun h => h)
  have v1 := ExtP.fit (E := fun _ => False) f1 zB1 (fun h => h)
  go_wp2_with fail
  refine regionMix w1 (CP w1 (fun _ => False)) 7 8 (by kernel_rfl) (by kernel_rfl) (fun _ _ d _ _ h => by cases d <;> exact h) (CP.drew _ _) ?_
  unfold CP
  dsimp only [List.take, List.drop]
  repeat (go_big_quiet_step (fail))
  refine wpQuiet_nil ?_
  clear hne u0 v0 v1 f0 f1
  unfold wpListC
  go_wp2
  refine And.intro (fun _ hc => CP.below hc ((Below.refl w1.drew.heap.size w1.drew).alloc (Nat.le_refl _) _)) ?_
  refine listC_late _ _ _ _ (by decide) ?_
  go_wp2_with fail
  have hml := maL_len q
  have hlt := ltsT_len HS.out
  go_loopw [6] (fun t wr => ∃ pos : Nat, pos ≤ (maL q).length ∧ t = .string ⟨(maW q ++ ltsT q r a b n ((maL q).take pos)).toArray⟩ ∧ wr.heap[w1.heap.size + 1]? = some (.stringIter ⟨(maL q).toArray⟩ pos) ∧ Below w1.heap.size w1 wr) (fun _ wr => (maL q).length - wr.iterPos (w1.heap.size + 1))
  case atStart =>
    refine ⟨0, Nat.zero_le _, by simp [ltsT], ?_, ?_⟩
    · have := World.iter_heap (w1.alloc (.cells #[.string ⟨(maW q).toArray⟩, .string ⟨(maL q).toArray⟩] 64)).drew ⟨(maL q).toArray⟩ 0
      simpa using this
    · exact (((Below.refl _ w1).alloc (Nat.le_refl _) _).drew).alloc (by simp) _
  case round =>
    obtain ⟨pos, hk, rfl, hit, hbr⟩ := hrel
    have KR := hidT hbr
    have hsr := hbr.size
    have hKs : w1.heap.size + 1 < wr.heap.size := (Array.getElem?_eq_some_iff.1 hit).1
    clear hbr
    have ht : (maW q ++ ltsT q r a b n ((maL q).take pos)).length ≤ 140 := by
      have h1 := hlt ((maL q).take pos)
      have h2 : ((maL q).take pos).length ≤ (maL q).length := by rw [List.length_take]; omega
      simp only [List.length_append]
      omega
    by_cases hpl : pos < (maL q).length
    · obtain ⟨c, hc⟩ : ∃ c, (maL q)[pos] = c := ⟨_, rfl⟩
      have hcm : c ∈ maL q := hc ▸ List.getElem_mem hpl
      have hca := maL_ascii hq c hcm
      have HX : Hid (maW q ++ ltsT q r a b n ((maL q).take (pos + 1)) = maW q ++ ltsT q r a b n ((maL q).take pos) ++ ([32] ++ prtT q r a b n c)) := by show _ = _; rw [ltsT_take hpl, hc, List.append_assoc]; rfl
      have hnx : ∀ ty, (Instr.next (.pointer (some ⟨w1.heap.size + 1, 0, none⟩)) true ty).run Tryz.prog wr = .ok (.tuple #[.bool true, .int .i64 pos, .int .i32 c.toNat]) (wr.iterAt (w1.heap.size + 1) ⟨(maL q).toArray⟩ (pos + 1)) := fun ty => by
        have h1 := Lib.run_next_ascii_at (P := Tryz.prog) wr (w1.heap.size + 1) ⟨(maL q).toArray⟩ pos ty hit (by simpa [ByteArray.size] using hpl) (by show ((maL q)[pos]).toNat < 128; rw [hc]; exact hca.1)
        rw [h1]
        show Result.ok (Value.tuple #[.bool true, .int .i64 pos, .int .i32 (((maL q)[pos]).toNat : Int)]) _ = _
        rw [hc]
      have hbi : Below w1.heap.size w1 (wr.iterAt (w1.heap.size + 1) ⟨(maL q).toArray⟩ (pos + 1)) := Lib.below_iterAt KR.out (by omega) _ _
      have hii := Lib.iterAt_heap wr (w1.heap.size + 1) ⟨(maL q).toArray⟩ pos (pos + 1) hit
      have hsi := Lib.iterAt_size wr (w1.heap.size + 1) ⟨(maL q).toArray⟩ (pos + 1)
      have hp0 : wr.iterPos (w1.heap.size + 1) = pos := by simp only [World.iterPos, hit]
      generalize wr.iterAt (w1.heap.size + 1) ⟨(maL q).toArray⟩ (pos + 1) = wi at hnx hbi hii hsi
      have y0 := (hbi.cell (p := ⟨w.heap.size, 0, none⟩) s1).trans z0
      have y1 := (hbi.cell (p := ⟨w.heap.size, 1, none⟩) s1).trans z1
      have y2 := (hbi.cell (p := ⟨w.heap.size, 2, none⟩) s1).trans z2
      have y3 := (hbi.cell (p := ⟨w.heap.size, 3, none⟩) s1).trans z3
      have y4 := (hbi.cell (p := ⟨w.heap.size, 4, none⟩) s1).trans z4
      have HI := hidT hbi
      have HII := hidT hii
      have HP := hidT hp0
      have WI := hidT (W1.out.below hbi zB1)
      have EI := hidT ((E1.out.keep (hbi.mono (Nat.le_of_lt zB1))).mono (show B ≤ wi.heap.size by omega))
      have PA : Hid (Calls Tryz.prog 52 #[.pointer (some ⟨B, 0, none⟩), .agg #[.int .i64 q, .int .i64 r, .int .i64 a, .int .i64 b, .int .i64 n], .int .i32 c.toNat] wi fun e w' => e = .returned (.string ⟨(prtT q r a b n c).toArray⟩) ∧ Below wi.heap.size wi w') := part_any B q r a b n c wi WI.out EI.out HS.out hca.1 (fun e => by have := HS.out.a1; have := hca.2 e; omega)
      have lp := prtT_len HS.out c
      clear hit hbi hii hp0 z0 z1 z2 z3 z4 hcm hca hc
      generalize prtT q r a b n c = tp at HX PA lp
      generalize maW q ++ ltsT q r a b n ((maL q).take pos) = tx at ht HX
      have a1 := addS [32] tp (by simp; omega)
      have a2 := addS tx ([32] ++ tp) (by simp; omega)
      obtain ⟨t1, h1⟩ : ∃ t1, [32] ++ tp = t1 := ⟨_, rfl⟩
      rw [h1] at a1 a2 HX
      obtain ⟨t2, h2⟩ : ∃ t2, tx ++ t1 = t2 := ⟨_, rfl⟩
      rw [h2] at a2 HX
      clear h1 h2
      go_wp2_with (go_at_call 52; refine Calls.mono PA.out ?_; rintro e w4 ⟨rfl, hb4'⟩; have hb4 := hidT hb4'; clear hb4')
      go_roundw
      case rel => exact ⟨pos + 1, by omega, by rw [HX.out], (hb4.out.block _ (by omega)).trans HII.out, HI.out.trans (hb4.out.mono (by omega))⟩
      case measure =>
        have e4 : w4.iterPos (w1.heap.size + 1) = pos + 1 := by simp only [World.iterPos, (hb4.out.block _ (by omega)).trans HII.out]
        rw [e4, HP.out]
        omega
    · have hnx : ∀ ty, (Instr.next (.pointer (some ⟨w1.heap.size + 1, 0, none⟩)) true ty).run Tryz.prog wr = .ok (.tuple #[.bool false]) wr := fun ty => Lib.run_next_end_at (P := Tryz.prog) wr (w1.heap.size + 1) ⟨(maL q).toArray⟩ pos ty hit (by simpa [ByteArray.size] using hpl)
      have e : (maL q).take pos = maL q := List.take_of_length_le (by omega)
      rw [e]
      have WF := hidT (W1.out.below KR.out zB1)
      have KF := hidT (K1.out.on KR.out (by omega))
      clear e
      go_wp2
      go_ret
      exact ⟨rfl, WF.out, KF.out⟩

theorem wa_zero : (wa 0 0 false 0).toArray = #[.int .u32 0, .int .i32 0, .int .u32 0, .string ⟨#[]⟩, .string ⟨#[]⟩, .string ⟨#[]⟩, .string ⟨#[]⟩, .string ⟨#[]⟩, .string ⟨#[]⟩, .string ⟨#[]⟩, .string ⟨#[]⟩, .string ⟨#[]⟩, .string ⟨#[]⟩, .string ⟨#[]⟩, .string ⟨#[]⟩, .string ⟨#[]⟩, .string ⟨#[]⟩, .string ⟨#[]⟩, .string ⟨#[]⟩, .string ⟨#[]⟩, .string ⟨#[]⟩, .string ⟨#[]⟩, .string ⟨#[]⟩, .string ⟨#[]⟩, .string ⟨#[]⟩, .string ⟨#[]⟩, .string ⟨#[]⟩, .string ⟨#[]⟩, .string ⟨#[]⟩, .string ⟨#[]⟩, .string ⟨#[]⟩, .string ⟨#[]⟩, .string ⟨#[]⟩, .string ⟨#[]⟩, .string ⟨#[]⟩, .string ⟨#[]⟩, .string ⟨#[]⟩, .string ⟨#[]⟩, .string ⟨#[]⟩] := by
  unfold wa regC
  rw [show List.range 8 = [0, 1, 2, 3, 4, 5, 6, 7] from rfl]
  simp [form0]
theorem wb_new (w : World) : ∃ W, w.alloc (.cells #[.int .u32 0, .int .i32 0, .int .u32 0, .string ⟨#[]⟩, .string ⟨#[]⟩, .string ⟨#[]⟩, .string ⟨#[]⟩, .string ⟨#[]⟩, .string ⟨#[]⟩, .string ⟨#[]⟩, .string ⟨#[]⟩, .string ⟨#[]⟩, .string ⟨#[]⟩, .string ⟨#[]⟩, .string ⟨#[]⟩, .string ⟨#[]⟩, .string ⟨#[]⟩, .string ⟨#[]⟩, .string ⟨#[]⟩, .string ⟨#[]⟩, .string ⟨#[]⟩, .string ⟨#[]⟩, .string ⟨#[]⟩, .string ⟨#[]⟩, .string ⟨#[]⟩, .string ⟨#[]⟩, .string ⟨#[]⟩, .string ⟨#[]⟩, .string ⟨#[]⟩, .string ⟨#[]⟩, .string ⟨#[]⟩, .string ⟨#[]⟩, .string ⟨#[]⟩, .string ⟨#[]⟩, .string ⟨#[]⟩, .string ⟨#[]⟩, .string ⟨#[]⟩, .string ⟨#[]⟩, .string ⟨#[]⟩] 68) = W ∧ WB W w.heap.size 0 0 false 0 ∧ Below w.heap.size w W ∧ w.heap.size < W.heap.size := by
  refine ⟨_, rfl, ?_, (Below.refl _ _).alloc (Nat.le_refl _) _, by simp⟩
  unfold WB
  rw [wa_zero]
  show (w.heap.push _)[w.heap.size]? = _
  simp
set_option maxHeartbeats 2000000 in
theorem implStepText_any (o r a b n : Int) (w : World) (hE : Env w w.heap.size) :
    Calls Tryz.prog 9 #[.agg #[.int .i64 o, .int .i64 r, .int .i64 a, .int .i64 b, .int .i64 n]] w fun e w' => e = .returned (.string ⟨(stT o r a b n).toArray⟩) ∧ Below w.heap.size w w' := by
  obtain ⟨W, hW⟩ : ∃ W, w.alloc (.cells #[.int .i64 o, .int .i64 r, .int .i64 a, .int .i64 b, .int .i64 n] 25) = W := ⟨_, rfl⟩
  have kW : Below w.heap.size w W := by subst hW; exact (Below.refl _ _).alloc (Nat.le_refl _) _
  have sW : w.heap.size < W.heap.size := by subst hW; simp
  have x0 : W.cell? ⟨w.heap.size, 0, none⟩ = some (.int .i64 o) := by subst hW; simp [go_sem]
  have x1 : W.cell? ⟨w.heap.size, 1, none⟩ = some (.int .i64 r) := by subst hW; simp [go_sem]
  have x2 : W.cell? ⟨w.heap.size, 2, none⟩ = some (.int .i64 a) := by subst hW; simp [go_sem]
  have x3 : W.cell? ⟨w.heap.size, 3, none⟩ = some (.int .i64 b) := by subst hW; simp [go_sem]
  have x4 : W.cell? ⟨w.heap.size, 4, none⟩ = some (.int .i64 n) := by subst hW; simp [go_sem]
  have KW := hidT kW
  have EW := hidT (hE.keep kW)
  clear hE kW
  cases hv : Plain.stepB o r a b n 800
  · have HT : Hid (stT o r a b n = []) := by show _ = _; unfold stT; rw [hv]; rfl
    have V := hidT hv
    clear hv
    go_enter Tryz.func9, Tryz.ntmps9
    go_wp2_with fail
    try rw [hW]
    refine (stepOk_any o r a b n 800 W).mono ?_
    rintro e w1 ⟨rfl, hb1⟩
    rw [V.out]
    have K1 := hidT (KW.out.trans (hb1.mono (Nat.le_of_lt sW)))
    clear hb1
    go_wp2
    go_ret
    exact ⟨by rw [HT.out]; rfl, K1.out⟩
  · have HT : Hid (stT o r a b n = maW o.toNat ++ ltsT o r a b n (maL o.toNat)) := by show _ = _; unfold stT; rw [if_pos hv]
    have V := hidT hv
    have HS := hidT (stOk_of hv)
    clear hv
    go_enter Tryz.func9, Tryz.ntmps9
    go_wp2_with fail
    try rw [hW]
    clear hW
    refine (stepOk_any o r a b n 800 W).mono ?_
    rintro e w1 ⟨rfl, hb1⟩
    rw [V.out]
    have K1 := hidT (KW.out.trans (hb1.mono (Nat.le_of_lt sW)))
    have z0 := (hb1.cell (p := ⟨w.heap.size, 0, none⟩) sW).trans x0
    have z1 := (hb1.cell (p := ⟨w.heap.size, 1, none⟩) sW).trans x1
    have z2 := (hb1.cell (p := ⟨w.heap.size, 2, none⟩) sW).trans x2
    have z3 := (hb1.cell (p := ⟨w.heap.size, 3, none⟩) sW).trans x3
    have z4 := (hb1.cell (p := ⟨w.heap.size, 4, none⟩) sW).trans x4
    have s1 : w.heap.size < w1.heap.size := by have := hb1.size; omega
    have E1 := hidT (EW.out.keep (hb1.mono (Nat.le_of_lt sW)))
    clear hb1 x0 x1 x2 x3 x4
    go_wp2_with fail
    obtain ⟨U, hU, ub, uk, us⟩ := wb_new w1
    rw [hU]
    clear hU
    refine (text_any w1.heap.size o r a b n U (.inl ub) ((E1.out.keep (uk.mono (Nat.le_of_lt s1))).mono (Nat.le_of_lt s1)) HS.out).mono ?_
    rintro e w2 ⟨rfl, -, hk2⟩
    have K2 := hidT (K1.out.trans ((uk.trans (hk2.below (Nat.le_refl _) (Nat.le_of_lt us))).mono (Nat.le_of_lt s1)))
    clear hk2 ub uk us
    go_wp2
    go_ret
    exact ⟨by rw [HT.out]; rfl, K2.out⟩

end Go.Proofs.YtfgikjipkfggbaaGreatDoor
