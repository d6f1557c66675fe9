/- ChanText of the specification: at every channel, its text. Conditions: at most 1048576 numbers, of 64 bits. -/
import Derived.Test.YtfgikjipkfggbaaGreatDoorQuietC
import Derived.Test.YtfgikjipkfggbaaGreatDoorT16Pure
import Derived.Test.YtfgikjipkfggbaaGreatDoorT16Env
import Derived.Test.YtfgikjipkfggbaaGreatDoorDigits
import Derived.Test.YtfgikjipkfggbaaGreatDoorChDefs
import Derived.Test.YtfgikjipkfggbaaGreatDoorChA
import Derived.Test.YtfgikjipkfggbaaGreatDoorT16Ch
namespace Go.Proofs.YtfgikjipkfggbaaGreatDoor
set_option linter.unusedSimpArgs false
set_option linter.unusedVariables false
set_option maxRecDepth 100000
open Go.RowKit

theorem itT_take {l : List Int} {k : Nat} {t : Int} (h : l[k]? = some t) : itT (l.take (k + 1)) = itT (l.take k) ++ [Lib.itoa t] := map_takeS Lib.itoa t h
theorem itT_one {l : List Int} {t : Int} (h : l[0]? = some t) : Lib.join (itT (l.take (0 + 1))) [32] = Lib.itoa t := by
  rw [itT_take h]
  simp [itT, Lib.join_one]
theorem itT_more {l : List Int} {k : Nat} {t : Int} (h : l[k]? = some t) (hk : 0 < k) : Lib.join (itT (l.take (k + 1))) [32] = Lib.join (itT (l.take k)) [32] ++ [32] ++ Lib.itoa t := by
  have hl : k < l.length := (List.getElem?_eq_some_iff.1 h).1
  rw [itT_take h, join_snoc]
  intro e
  have := congrArg List.length e
  simp only [itT, List.length_map, List.length_take, List.length_nil] at this
  omega
theorem IB.take {l : List Int} (h : IB l) (k : Nat) : IB (l.take k) := fun i t ht => h i t (by
  rw [List.getElem?_take] at ht
  split at ht
  · exact ht
  · cases ht)

set_option maxHeartbeats 4000000 in
theorem specChT_any (cap : Int) (s : Option Addr) (c hi : Nat) (l : List Int) (cl : Bool) (w : World) (h : RowI w hi s l) (hB : hi ≤ w.heap.size) (hl : l.length ≤ 1048576) (hn : IB l) :
    Calls Tryz.prog 16 #[.agg #[.int .i64 cap, .slice s l.length c, .bool cl]] w fun e w' => e = .returned (.string ⟨(chT cap l cl).toArray⟩) ∧ Below w.heap.size w w' := by
  obtain ⟨W, hW⟩ : ∃ W, w.alloc (.cells #[.int .i64 cap, .slice s l.length c, .bool cl] 33) = W := ⟨_, rfl⟩
  have kW : Below w.heap.size w W := by subst hW; exact (Below.refl _ _).alloc (Nat.le_refl _) _
  have sW : w.heap.size + 1 = W.heap.size := by subst hW; simp
  have y0 : W.cell? ⟨w.heap.size, 0, none⟩ = some (.int .i64 cap) := by subst hW; simp [go_sem]
  have y1 : W.cell? ⟨w.heap.size, 1, none⟩ = some (.slice s l.length c) := by subst hW; simp [go_sem]
  have y2 : W.cell? ⟨w.heap.size, 2, none⟩ = some (.bool cl) := by subst hW; simp [go_sem]
  have SW := hidT sW
  have lW : w.heap.size < W.heap.size := by omega
  have KW := hidT kW
  have HN := hidT hn
  have HP := hidT (h.keep (w' := W) (fun k hk => kW.block k (by omega)))
  clear h hn kW sW
  cases hv : okC cap l.length
  · have HT : Hid (chT cap l cl = []) := by show _ = _; unfold chT; rw [hv]; rfl
    have V := hidT hv
    clear hv
    go_enter Tryz.func16, Tryz.ntmps16
    go_wp2_with fail
    try rw [hW]
    refine (specOk_any cap s l.length c cl W (by omega)).mono ?_
    rintro e w1 ⟨rfl, hb1⟩
    rw [V.out]
    have K1 := hidT (KW.out.trans (hb1.mono (Nat.le_of_lt lW)))
    clear hb1
    go_wp2
    go_ret
    exact ⟨by rw [HT.out]; rfl, K1.out⟩
  · have HT : Hid (chT cap l cl = [91] ++ Lib.join (itT l) [32] ++ [93] ++ Lib.itoa (cap - l.length) ++ if cl then [33] else []) := by show _ = _; unfold chT; rw [hv]; rfl
    have V := hidT hv
    have hok := of_decide_eq_true hv
    have hwr : IntKind.i64.wrap (cap - (l.length : Int)) = cap - (l.length : Int) := IntWalk.i64_in _ ⟨by omega, by omega⟩
    have HJ : Hid (∀ k, (Lib.join (itT (l.take k)) [32]).length ≤ 84) := fun k => by
      have := itT_join (HN.out.take k)
      have h2 : (l.take k).length ≤ l.length := by rw [List.length_take]; omega
      omega
    have ht := itoa_len (n := cap - l.length) (by omega) (by omega)
    have IA : Hid (∀ X : World, Calls Tryz.prog 36 #[.int .i64 (cap - l.length)] X fun e w' => e = .returned (.string ⟨(Lib.itoa (cap - l.length)).toArray⟩) ∧ Below X.heap.size X w') := fun X => l2Digits_any (cap - l.length) (by omega) (by omega) X
    generalize Lib.itoa (cap - l.length) = tn at ht IA HT
    clear hv
    go_enter Tryz.func16, Tryz.ntmps16
    go_wp2_with fail
    try rw [hW]
    clear hW
    refine (specOk_any cap s l.length c cl W (by omega)).mono ?_
    rintro e w1 ⟨rfl, hb1⟩
    rw [V.out]
    have K1 := hidT (KW.out.trans (hb1.mono (Nat.le_of_lt lW)))
    have s1 : w.heap.size < w1.heap.size := by have := hb1.size; omega
    have x0 := (hb1.cell (p := ⟨w.heap.size, 0, none⟩) lW).trans y0
    have x1 := (hb1.cell (p := ⟨w.heap.size, 1, none⟩) lW).trans y1
    have x2 := (hb1.cell (p := ⟨w.heap.size, 2, none⟩) lW).trans y2
    have HQ := hidT (HP.out.keep (w' := w1) (fun k hk => hb1.block k (by omega)))
    clear hb1 y0 y1 y2 HP KW SW
    have X0 := hidT x0
    have X1 := hidT x1
    have X2 := hidT x2
    clear x0 x1 x2
    go_wp2_with fail
    go_loopw [3, 4] (fun t i wr => ∃ k : Nat, k ≤ l.length ∧ i = .int .i64 k ∧ t = .string ⟨([91] ++ Lib.join (itT (l.take k)) [32]).toArray⟩ ∧ Below w1.heap.size w1 wr) (fun _ i _ => l.length - (intOf i).toNat)
    case atStart => exact ⟨0, Nat.zero_le _, rfl, by simp [itT, Lib.join_nil], Below.refl _ _⟩
    case round =>
      obtain ⟨k, hk, rfl, rfl, hbr⟩ := hrel
      have KR := hidT hbr
      have hsr := hbr.size
      have x0 := (hbr.cell (p := ⟨w.heap.size, 0, none⟩) s1).trans X0.out
      have x1 := (hbr.cell (p := ⟨w.heap.size, 1, none⟩) s1).trans X1.out
      have x2 := (hbr.cell (p := ⟨w.heap.size, 2, none⟩) s1).trans X2.out
      clear hbr
      have hj2 := HJ.out k
      by_cases hlt : k < l.length
      · have i0 : (0 : Int) ≤ (k : Int) := by omega
        have i1 : (k : Int) < (l.length : Int) := by omega
        obtain ⟨t, ht⟩ : ∃ t, l[k]? = some t := ⟨_, List.getElem?_eq_getElem hlt⟩
        have b := HN.out k t ht
        obtain ⟨g, off, hs, hg, c0⟩ := row_at (HQ.out.keep (w' := wr) (fun k hk => KR.out.block k (by omega))) ht
        subst hs
        have hg' : g < wr.heap.size := by omega
        have la := itoa_len b.1 b.2
        have IB' : Hid (∀ X : World, Calls Tryz.prog 36 #[.int .i64 t] X fun e w' => e = .returned (.string ⟨(Lib.itoa t).toArray⟩) ∧ Below X.heap.size X w') := fun X => l2Digits_any _ b.1 b.2 X
        by_cases h0 : 0 < k
        · have HX : Hid ([91] ++ Lib.join (itT (l.take (k + 1))) [32] = [91] ++ Lib.join (itT (l.take k)) [32] ++ [32] ++ Lib.itoa t) := by show _ = _; rw [itT_more ht h0]; simp
          have i2 : (0 : Int) < (k : Int) := by omega
          clear b ht
          have hj3 : ([91] ++ Lib.join (itT (l.take k)) [32]).length ≤ 85 := by simp; omega
          clear hj2
          generalize [91] ++ Lib.join (itT (l.take k)) [32] = tx at hj3 HX
          generalize Lib.itoa t = ta at la IB' HX
          have a0 := addS tx [32] (by simp; omega)
          have a1 := addS (tx ++ [32]) ta (by simp; omega)
          obtain ⟨t1, h1⟩ : ∃ t1, tx ++ [32] = t1 := ⟨_, rfl⟩
          rw [h1] at a0 a1 HX
          obtain ⟨t2, h2⟩ : ∃ t2, t1 ++ ta = t2 := ⟨_, rfl⟩
          rw [h2] at a1 HX
          clear h1 h2
          go_wp2_with fail
          refine Calls.mono (IB'.out _) ?_
          rintro e w3 ⟨rfl, hb3⟩
          have KU := hidT (KR.out.trans (hb3.mono hsr))
          clear hb3
          go_wp2
          go_roundw
          case rel => exact ⟨k + 1, by omega, by go_num, by rw [HX.out], KU.out⟩
          case measure => simp [intOf]; omega
        · have HX : Hid ([91] ++ Lib.join (itT (l.take (k + 1))) [32] = [91] ++ Lib.itoa t) := by
            show _ = _
            obtain rfl : k = 0 := by omega
            rw [itT_one ht]
          have HZ : Hid ([91] ++ Lib.join (itT (l.take k)) [32] = [91]) := by
            show _ = _
            obtain rfl : k = 0 := by omega
            simp [itT, Lib.join_nil]
          have i2 : ¬ (0 : Int) < (k : Int) := by omega
          rw [HZ.out]
          clear b ht hj2
          generalize Lib.itoa t = ta at la IB' HX
          have a1 := addS [91] ta (by simp; omega)
          obtain ⟨t2, h2⟩ : ∃ t2, [91] ++ ta = t2 := ⟨_, rfl⟩
          rw [h2] at a1 HX
          clear h2
          go_wp2_with fail
          refine Calls.mono (IB'.out _) ?_
          rintro e w3 ⟨rfl, hb3⟩
          have KU := hidT (KR.out.trans (hb3.mono hsr))
          clear hb3
          go_wp2
          go_roundw
          case rel => exact ⟨k + 1, by omega, by go_num, by rw [HX.out], KU.out⟩
          case measure => simp [intOf]; omega
      · have i1 : ¬ (k : Int) < (l.length : Int) := by omega
        have e : l.take k = l := List.take_of_length_le (by omega)
        rw [e] at hj2 ⊢
        clear e
        generalize Lib.join (itT l) [32] = tj at hj2 HT
        have hj3 : ([91] ++ tj).length ≤ 85 := by simp; omega
        generalize [91] ++ tj = t1 at hj3 HT
        have a1 := addS t1 [93] (by simp; omega)
        have a2 := addS (t1 ++ [93]) tn (by simp; omega)
        have a3 := addS (t1 ++ [93] ++ tn) [33] (by simp; omega)
        obtain ⟨t2, h2⟩ : ∃ t2, t1 ++ [93] = t2 := ⟨_, rfl⟩
        rw [h2] at a1 a2 a3 HT
        obtain ⟨t3, h3⟩ : ∃ t3, t2 ++ tn = t3 := ⟨_, rfl⟩
        rw [h3] at a2 a3 HT
        clear h2 h3 hok
        go_wp2_with fail
        refine Calls.mono (IA.out _) ?_
        rintro e w3 ⟨rfl, hb3⟩
        have KU := hidT (K1.out.trans ((KR.out.trans (hb3.mono hsr)).mono (Nat.le_of_lt s1)))
        have z2 := (hb3.cell (p := ⟨w.heap.size, 2, none⟩) (by show w.heap.size < _; omega)).trans x2
        clear hb3
        cases cl
        all_goals
          go_wp2
          go_ret
          refine ⟨?_, KU.out⟩
          rw [HT.out]
          first | rfl | simp

end Go.Proofs.YtfgikjipkfggbaaGreatDoor
