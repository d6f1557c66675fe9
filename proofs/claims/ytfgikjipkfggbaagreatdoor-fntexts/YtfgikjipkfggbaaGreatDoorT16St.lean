/- The texts of a step's parts, and of a step, as the program writes them by its words. Conditions: the step is right for 800 places; strconv's table as laid. -/
import Derived.Test.YtfgikjipkfggbaaGreatDoorT16W
import Derived.Test.YtfgikjipkfggbaaGreatDoorT16Pure
import Derived.Test.YtfgikjipkfggbaaGreatDoorT16Env
import Derived.Test.YtfgikjipkfggbaaGreatDoorQuietC
import Derived.Test.YtfgikjipkfggbaaGreatDoorC7Plain
import Derived.Test.YtfgikjipkfggbaaGreatDoorC7Leaf
import Derived.Test.YtfgikjipkfggbaaGreatDoorT16Do
import Derived.Test.YtfgikjipkfggbaaGreatDoorMixOp
import Derived.Test.YtfgikjipkfggbaaGreatDoorC7Ok
import Derived.Laws.RangeAny
import Derived.Lib.OthersKept
namespace Go.Proofs.YtfgikjipkfggbaaGreatDoor
set_option linter.unusedSimpArgs false
set_option linter.unusedVariables false
set_option maxRecDepth 100000
open Go.RowKit

def cellT (o a n : Int) : List UInt8 := [91] ++ Lib.itoa n ++ (if Plain.memB o = true ∧ a ≠ -1 then [43] ++ (114 :: Lib.itoa a) else []) ++ [93]
def prtT (o r a b n : Int) (c : UInt8) : List UInt8 := if c = 82 then 114 :: Lib.itoa r else if c = 65 then 114 :: Lib.itoa a else if c = 66 then 114 :: Lib.itoa b else if c = 67 then cellT o a n else Lib.itoa n
def ltsT (o r a b n : Int) (l : List UInt8) : List UInt8 := l.flatMap fun c => 32 :: prtT o r a b n c
def stT (o r a b n : Int) : List UInt8 := if Plain.stepB o r a b n 800 = true then maW o.toNat ++ ltsT o r a b n (maL o.toNat) else []

structure StOk (o r a b n : Int) : Prop where
  o1 : 1 ≤ o
  o2 : o ≤ 13
  r1 : 0 ≤ r
  r2 : r ≤ 7
  b1 : 0 ≤ b
  b2 : b ≤ 7
  a1 : a = -1 ∧ (o = 5 ∨ o = 6 ∨ o = 7) ∨ 0 ≤ a
  a2 : a ≤ 7
  n1 : -1000000000 ≤ n
  n2 : n ≤ 1000000000
theorem stOk_of {o r a b n : Int} (h : Plain.stepB o r a b n 800 = true) : StOk o r a b n := by
  obtain ⟨a1, a2, a3, a4, a5, a6, a7⟩ := of_decide_eq_true h
  refine ⟨?_, ?_, ?_, ?_, ?_, ?_, ?_, ?_, ?_, ?_⟩ <;> omega
theorem itoa_10 {v : Int} (h0 : -1000000000 ≤ v) (h1 : v ≤ 1000000000) : (Lib.itoa v).length ≤ 20 := itoa_len (by omega) (by omega)
theorem cellT_len {o a n : Int} (h : -1000000000 ≤ n ∧ n ≤ 1000000000) (ha : -1 ≤ a ∧ a ≤ 7) : (cellT o a n).length ≤ 44 := by
  have h1 := itoa_10 h.1 h.2
  have h2 := itoa_10 (v := a) (by omega) (by omega)
  unfold cellT
  split
  · simp; omega
  · simp; omega
theorem prtT_len {o r a b n : Int} (h : StOk o r a b n) (c : UInt8) : (prtT o r a b n c).length ≤ 44 := by
  have e1 := itoa_10 h.n1 h.n2
  have e2 := itoa_10 (v := r) (by have := h.r1; omega) (by have := h.r2; omega)
  have e3 := itoa_10 (v := a) (by have := h.a1; omega) (by have := h.a2; omega)
  have e4 := itoa_10 (v := b) (by have := h.b1; omega) (by have := h.b2; omega)
  have e5 := cellT_len (o := o) ⟨h.n1, h.n2⟩ ⟨by have := h.a1; omega, h.a2⟩
  unfold prtT
  split
  · simp; omega
  · split
    · simp; omega
    · split
      · simp; omega
      · split
        · exact e5
        · omega
theorem ltsT_take {o r a b n : Int} {l : List UInt8} {k : Nat} (h : k < l.length) : ltsT o r a b n (l.take (k + 1)) = ltsT o r a b n (l.take k) ++ (32 :: prtT o r a b n l[k]) := by
  have e : l.take (k + 1) = l.take k ++ [l[k]] := by
    rw [List.take_add_one, List.getElem?_eq_getElem h]
    rfl
  rw [e]
  unfold ltsT
  rw [List.flatMap_append]
  simp
theorem ltsT_len {o r a b n : Int} (h : StOk o r a b n) : ∀ l : List UInt8, (ltsT o r a b n l).length ≤ 45 * l.length
  | [] => by simp [ltsT]
  | c :: l => by
    have h1 := prtT_len h c
    have h2 := ltsT_len h l
    simp [ltsT] at h2 ⊢
    omega
theorem maL_len (q : Nat) : (maL q).length ≤ 3 ∧ (maW q).length ≤ 5 := by
  by_cases h : q < 14
  · have : ∀ i : Fin 14, (maL i.val).length ≤ 3 ∧ (maW i.val).length ≤ 5 := by decide
    exact this ⟨q, h⟩
  · unfold maL maW
    rw [List.getD_eq_getElem?_getD, List.getD_eq_getElem?_getD, List.getElem?_eq_none (by simp [maLets]; omega), List.getElem?_eq_none (by simp [maWords]; omega)]
    simp
theorem maL_ascii {q : Nat} (hq : q < 14) (c : UInt8) (h : c ∈ maL q) : c.toNat < 128 ∧ (c = 65 → q ≠ 5 ∧ q ≠ 6 ∧ q ≠ 7) := by
  have : ∀ i : Fin 14, ∀ c ∈ maL i.val, c.toNat < 128 ∧ (c = 65 → i.val ≠ 5 ∧ i.val ≠ 6 ∧ i.val ≠ 7) := by decide
  exact this ⟨q, hq⟩ c h

set_option maxHeartbeats 4000000 in
theorem cell_any (B : Nat) (o r a b n : Int) (w : World) (h : WB w B 1 0 true 8) (hE : Env w w.heap.size) (hs : StOk o r a b n) :
    Calls Tryz.prog 65 #[.pointer (some ⟨B, 0, none⟩), .agg #[.int .i64 o, .int .i64 r, .int .i64 a, .int .i64 b, .int .i64 n]] w fun e w' => e = .returned (.string ⟨(cellT o a n).toArray⟩) ∧ Below w.heap.size w w' := by
  have ln := itoa_10 hs.n1 hs.n2
  have la := itoa_10 (v := a) (by have := hs.a1; omega) (by have := hs.a2; omega)
  obtain ⟨W, hW⟩ : ∃ W, w.alloc (.cells #[.int .i64 o, .int .i64 r, .int .i64 a, .int .i64 b, .int .i64 n] 25) = W := ⟨_, rfl⟩
  have kW : Below w.heap.size w W := by subst hW; exact (Below.refl _ _).alloc (Nat.le_refl _) _
  have sW : w.heap.size < W.heap.size := by subst hW; simp
  have x0 : W.cell? ⟨w.heap.size, 0, none⟩ = some (.int .i64 o) := by subst hW; simp [go_sem]
  have x1 : W.cell? ⟨w.heap.size, 1, none⟩ = some (.int .i64 r) := by subst hW; simp [go_sem]
  have x2 : W.cell? ⟨w.heap.size, 2, none⟩ = some (.int .i64 a) := by subst hW; simp [go_sem]
  have x3 : W.cell? ⟨w.heap.size, 3, none⟩ = some (.int .i64 b) := by subst hW; simp [go_sem]
  have x4 : W.cell? ⟨w.heap.size, 4, none⟩ = some (.int .i64 n) := by subst hW; simp [go_sem]
  have zB := h.lt
  have HB := hidT (h.below kW zB)
  have KW := hidT kW
  have EW := hidT ((hE.keep kW).mono (Nat.le_of_lt sW))
  have HN : Hid (-1000000000 ≤ n ∧ n ≤ 1000000000) := ⟨hs.n1, hs.n2⟩
  have ha1 := hs.a1
  have ha2 := hs.a2
  clear h hE kW hs
  cases hm : Plain.memB o
  · have HT : Hid (cellT o a n = [91] ++ Lib.itoa n ++ [93]) := by show _ = _; unfold cellT; rw [hm]; simp
    have HM := hidT hm
    clear hm ha1 ha2
    go_enter Tryz.func65, Tryz.ntmps65
    go_wp2_with fail
    try rw [hW]
    refine (itoa_any n (by have := HN.out; omega) (by have := HN.out; omega) W EW.out).mono ?_
    rintro e w1 ⟨rfl, hb1⟩
    generalize Lib.itoa n = tn at ln HT
    have a0 := addS [91] tn (by simp; omega)
    have a1 := addS ([91] ++ tn) [93] (by simp; omega)
    obtain ⟨t1, h1⟩ : ∃ t1, [91] ++ tn = t1 := ⟨_, rfl⟩
    rw [h1] at a0 a1 HT
    clear h1
    have z0 := (hb1.cell (p := ⟨w.heap.size, 0, none⟩) sW).trans x0
    have K1 := hidT (KW.out.trans (hb1.mono (Nat.le_of_lt sW)))
    clear hb1 x0 x1 x2 x3 x4
    go_wp2_with (go_at_call 60; refine (mayLackA_is _ _ _ HM.out).mono ?_; rintro e w' ⟨rfl, hw⟩; have hw' := hw.symm; clear hw; subst hw')
    go_ret
    exact ⟨by rw [HT.out]; rfl, K1.out⟩
  · have HM := hidT hm
    by_cases hneg : a = -1
    · have HT : Hid (cellT o a n = [91] ++ Lib.itoa n ++ [93]) := by show _ = _; unfold cellT; rw [hm, if_neg (by simp [hneg])]; simp
      have hnn : (a != -1) = false := by simp [hneg]
      clear hm ha1 ha2 hneg
      go_enter Tryz.func65, Tryz.ntmps65
      go_wp2_with fail
      try rw [hW]
      refine (itoa_any n (by have := HN.out; omega) (by have := HN.out; omega) W EW.out).mono ?_
      rintro e w1 ⟨rfl, hb1⟩
      generalize Lib.itoa n = tn at ln HT
      have a0 := addS [91] tn (by simp; omega)
      have a1 := addS ([91] ++ tn) [93] (by simp; omega)
      obtain ⟨t1, h1⟩ : ∃ t1, [91] ++ tn = t1 := ⟨_, rfl⟩
      rw [h1] at a0 a1 HT
      clear h1
      have z0 := (hb1.cell (p := ⟨w.heap.size, 0, none⟩) sW).trans x0
      have z2 := (hb1.cell (p := ⟨w.heap.size, 2, none⟩) sW).trans x2
      have K1 := hidT (KW.out.trans (hb1.mono (Nat.le_of_lt sW)))
      clear hb1 x0 x1 x2 x3 x4
      go_wp2_with (go_at_call 60; refine (mayLackA_is _ _ _ HM.out).mono ?_; rintro e w' ⟨rfl, hw⟩; have hw' := hw.symm; clear hw; subst hw')
      go_ret
      exact ⟨by rw [HT.out]; rfl, K1.out⟩
    · have HT : Hid (cellT o a n = [91] ++ Lib.itoa n ++ ([43] ++ (114 :: Lib.itoa a)) ++ [93]) := by show _ = _; unfold cellT; rw [hm, if_pos ⟨rfl, hneg⟩]
      have hnn : (a != -1) = true := by simp [hneg]
      obtain ⟨q, rfl⟩ : ∃ q : Nat, a = q := ⟨a.toNat, by omega⟩
      have hq : q < 8 := by omega
      have i0 : (0 : Int) ≤ (q : Int) := by omega
      have i1 : (q : Int) < 8 := by omega
      clear hm ha1 ha2 hneg
      go_enter Tryz.func65, Tryz.ntmps65
      go_wp2_with fail
      try rw [hW]
      refine (itoa_any n (by have := HN.out; omega) (by have := HN.out; omega) W EW.out).mono ?_
      rintro e w1 ⟨rfl, hb1⟩
      have B1 := HB.out.below hb1 (by omega)
      have y := B1.rg hq
      generalize Lib.itoa n = tn at ln HT
      generalize Lib.itoa (q : Int) = ta at la HT y
      have a0 := addS [91] tn (by simp; omega)
      have a1 := addS [43] (114 :: ta) (by simp; omega)
      have a2 := addS ([91] ++ tn) ([43] ++ 114 :: ta) (by simp; omega)
      have a3 := addS ([91] ++ tn ++ ([43] ++ 114 :: ta)) [93] (by simp; omega)
      obtain ⟨t1, h1⟩ : ∃ t1, [91] ++ tn = t1 := ⟨_, rfl⟩
      rw [h1] at a0 a2 a3 HT
      obtain ⟨t2, h2⟩ : ∃ t2, [43] ++ (114 :: ta) = t2 := ⟨_, rfl⟩
      rw [h2] at a1 a2 a3 HT
      obtain ⟨t3, h3⟩ : ∃ t3, t1 ++ t2 = t3 := ⟨_, rfl⟩
      rw [h3] at a2 a3 HT
      obtain ⟨t4, h4⟩ : ∃ t4, 114 :: ta = t4 := ⟨_, rfl⟩
      rw [h4] at a1 y
      clear h1 h2 h3 h4
      have s1 := hb1.size
      have z0 := (hb1.cell (p := ⟨w.heap.size, 0, none⟩) sW).trans x0
      have z2 := (hb1.cell (p := ⟨w.heap.size, 2, none⟩) sW).trans x2
      have K1 := hidT (KW.out.trans (hb1.mono (Nat.le_of_lt sW)))
      clear hb1 x0 x1 x2 x3 x4 B1
      go_wp2_with (go_at_call 60; refine (mayLackA_is _ _ _ HM.out).mono ?_; rintro e w' ⟨rfl, hw⟩; have hw' := hw.symm; clear hw; subst hw')
      have hne := ext_ne w1
      have u2 := Ext.fit z2 (by omega)
      have uy := Ext.fit y (by omega)
      refine regionExt w1 (by kernel_rfl) (by kernel_rfl) ?_
      repeat (go_big_quiet_step (fail))
      refine wpQuiet_nil ?_
      rintro w3 ⟨X3, rfl⟩
      have KU := hidT (K1.out.trans (X3.b.mono (by omega)))
      clear hne u2 uy
      go_wp2
      go_ret
      exact ⟨by rw [HT.out]; rfl, KU.out⟩

theorem u8_ne {c : UInt8} {k : Nat} (hk : k < 256) (h : c ≠ UInt8.ofNat k) : ¬ (c.toNat : Int) = k := by
  intro e
  apply h
  apply UInt8.toNat_inj.1
  simp
  omega

set_option maxHeartbeats 4000000 in
theorem part_any (B : Nat) (o r a b n : Int) (c : UInt8) (w : World) (h : WB w B 1 0 true 8) (hE : Env w w.heap.size) (hs : StOk o r a b n) (hc : c.toNat < 128) (hA : c = 65 → 0 ≤ a) :
    Calls Tryz.prog 52 #[.pointer (some ⟨B, 0, none⟩), .agg #[.int .i64 o, .int .i64 r, .int .i64 a, .int .i64 b, .int .i64 n], .int .i32 c.toNat] w fun e w' => e = .returned (.string ⟨(prtT o r a b n c).toArray⟩) ∧ Below w.heap.size w w' := by
  obtain ⟨W, hW⟩ : ∃ W, w.alloc (.cells #[.int .i64 o, .int .i64 r, .int .i64 a, .int .i64 b, .int .i64 n] 25) = W := ⟨_, rfl⟩
  have kW : Below w.heap.size w W := by subst hW; exact (Below.refl _ _).alloc (Nat.le_refl _) _
  have sW : w.heap.size < W.heap.size := by subst hW; simp
  have x0 : W.cell? ⟨w.heap.size, 0, none⟩ = some (.int .i64 o) := by subst hW; simp [go_sem]
  have x1 : W.cell? ⟨w.heap.size, 1, none⟩ = some (.int .i64 r) := by subst hW; simp [go_sem]
  have x2 : W.cell? ⟨w.heap.size, 2, none⟩ = some (.int .i64 a) := by subst hW; simp [go_sem]
  have x3 : W.cell? ⟨w.heap.size, 3, none⟩ = some (.int .i64 b) := by subst hW; simp [go_sem]
  have x4 : W.cell? ⟨w.heap.size, 4, none⟩ = some (.int .i64 n) := by subst hW; simp [go_sem]
  have zB := h.lt
  have HB := hidT (h.below kW zB)
  have KW := hidT kW
  have EW := hidT ((hE.keep kW).mono (Nat.le_of_lt sW))
  have zW : B < W.heap.size := by omega
  have HS := hidT hs
  clear h hE kW hs
  by_cases h82 : c = 82
  · subst h82
    have HT : Hid (prtT o r a b n 82 = 114 :: Lib.itoa r) := rfl
    obtain ⟨q, rfl⟩ : ∃ q : Nat, r = q := ⟨r.toNat, by have := HS.out.r1; have := HS.out.b1; omega⟩
    have hq : q < 8 := by have := HS.out.r2; have := HS.out.b2; have := HS.out.a2; omega
    have i0 : (0 : Int) ≤ (q : Int) := by omega
    have i1 : (q : Int) < 8 := by omega
    have y := HB.out.rg hq
    have hne := ext_ne W
    have u2 := Ext.fit x1 sW
    have uy := Ext.fit y zW
    clear y x0 x1 x2 x3 x4 hA
    go_enter Tryz.func52, Tryz.ntmps52
    go_wp2_with fail
    try rw [hW]
    refine regionExt W (by kernel_rfl) (by kernel_rfl) ?_
    repeat (go_big_quiet_step (fail))
    refine wpQuiet_nil ?_
    rintro w3 ⟨X3, rfl⟩
    have KU := hidT (KW.out.trans (X3.b.mono (Nat.le_of_lt sW)))
    clear hne u2 uy
    go_wp2
    go_ret
    exact ⟨by rw [HT.out]; rfl, KU.out⟩
  by_cases h65 : c = 65
  · subst h65
    have HT : Hid (prtT o r a b n 65 = 114 :: Lib.itoa a) := rfl
    obtain ⟨q, rfl⟩ : ∃ q : Nat, a = q := ⟨a.toNat, by have := HS.out.r1; have := HS.out.b1; have := hA rfl; omega⟩
    have hq : q < 8 := by have := HS.out.r2; have := HS.out.b2; have := HS.out.a2; omega
    have i0 : (0 : Int) ≤ (q : Int) := by omega
    have i1 : (q : Int) < 8 := by omega
    have y := HB.out.rg hq
    have hne := ext_ne W
    have u2 := Ext.fit x2 sW
    have uy := Ext.fit y zW
    clear y x0 x1 x2 x3 x4 hA
    go_enter Tryz.func52, Tryz.ntmps52
    go_wp2_with fail
    try rw [hW]
    refine regionExt W (by kernel_rfl) (by kernel_rfl) ?_
    repeat (go_big_quiet_step (fail))
    refine wpQuiet_nil ?_
    rintro w3 ⟨X3, rfl⟩
    have KU := hidT (KW.out.trans (X3.b.mono (Nat.le_of_lt sW)))
    clear hne u2 uy
    go_wp2
    go_ret
    exact ⟨by rw [HT.out]; rfl, KU.out⟩
  by_cases h66 : c = 66
  · subst h66
    have HT : Hid (prtT o r a b n 66 = 114 :: Lib.itoa b) := rfl
    obtain ⟨q, rfl⟩ : ∃ q : Nat, b = q := ⟨b.toNat, by have := HS.out.r1; have := HS.out.b1; omega⟩
    have hq : q < 8 := by have := HS.out.r2; have := HS.out.b2; have := HS.out.a2; omega
    have i0 : (0 : Int) ≤ (q : Int) := by omega
    have i1 : (q : Int) < 8 := by omega
    have y := HB.out.rg hq
    have hne := ext_ne W
    have u2 := Ext.fit x3 sW
    have uy := Ext.fit y zW
    clear y x0 x1 x2 x3 x4 hA
    go_enter Tryz.func52, Tryz.ntmps52
    go_wp2_with fail
    try rw [hW]
    refine regionExt W (by kernel_rfl) (by kernel_rfl) ?_
    repeat (go_big_quiet_step (fail))
    refine wpQuiet_nil ?_
    rintro w3 ⟨X3, rfl⟩
    have KU := hidT (KW.out.trans (X3.b.mono (Nat.le_of_lt sW)))
    clear hne u2 uy
    go_wp2
    go_ret
    exact ⟨by rw [HT.out]; rfl, KU.out⟩
  by_cases h67 : c = 67
  · subst h67
    have HT : Hid (prtT o r a b n 67 = cellT o a n) := rfl
    clear hA
    go_enter Tryz.func52, Tryz.ntmps52
    go_wp2_with fail
    try rw [hW]
    refine (cell_any B o r a b n W HB.out EW.out HS.out).mono ?_
    rintro e w1 ⟨rfl, hb1⟩
    have K1 := hidT (KW.out.trans (hb1.mono (Nat.le_of_lt sW)))
    clear hb1
    go_wp2
    go_ret
    exact ⟨by rw [HT.out]; rfl, K1.out⟩
  · have HT : Hid (prtT o r a b n c = Lib.itoa n) := by show _ = _; unfold prtT; rw [if_neg h82, if_neg h65, if_neg h66, if_neg h67]
    have n1 : ¬ (c.toNat : Int) = 82 := u8_ne (k := 82) (by omega) h82
    have n2 : ¬ (c.toNat : Int) = 65 := u8_ne (k := 65) (by omega) h65
    have n3 : ¬ (c.toNat : Int) = 66 := u8_ne (k := 66) (by omega) h66
    have n4 : ¬ (c.toNat : Int) = 67 := u8_ne (k := 67) (by omega) h67
    clear h82 h65 h66 h67 hA hc
    generalize (c.toNat : Int) = x at n1 n2 n3 n4
    go_enter Tryz.func52, Tryz.ntmps52
    go_wp2_with fail
    try rw [hW]
    refine (itoa_any n (by have := HS.out.n1; omega) (by have := HS.out.n2; omega) W EW.out).mono ?_
    rintro e w1 ⟨rfl, hb1⟩
    have K1 := hidT (KW.out.trans (hb1.mono (Nat.le_of_lt sW)))
    clear hb1
    go_wp2
    go_ret
    exact ⟨by rw [HT.out]; rfl, K1.out⟩

end Go.Proofs.YtfgikjipkfggbaaGreatDoor
