/- ChanText of the program and of the specification: at every channel, its text. Conditions: at most 1048576 numbers, of 64 bits; strconv's table as laid. -/
import Derived.Test.YtfgikjipkfggbaaGreatDoorT16Row
import Derived.Test.YtfgikjipkfggbaaGreatDoorT16Pure
import Derived.Test.YtfgikjipkfggbaaGreatDoorT16Env
import Derived.Test.YtfgikjipkfggbaaGreatDoorQuietC
import Derived.Test.YtfgikjipkfggbaaGreatDoorOwnT
import Derived.Test.YtfgikjipkfggbaaGreatDoorChDefs
import Derived.Test.YtfgikjipkfggbaaGreatDoorT16Tr
import Derived.Test.YtfgikjipkfggbaaGreatDoorChA
namespace Go.Proofs.YtfgikjipkfggbaaGreatDoor
set_option linter.unusedSimpArgs false
set_option linter.unusedVariables false
set_option maxRecDepth 100000
open Go.RowKit

def IB (l : List Int) : Prop := ∀ (i : Nat) (x : Int), l[i]? = some x → I64 x
def itT (l : List Int) : List (List UInt8) := l.map Lib.itoa
def chT (cap : Int) (l : List Int) (cl : Bool) : List UInt8 := if okC cap l.length = true then chanT cap l cl else []
theorem itT_each {l : List Int} (h : IB l) : ∀ x ∈ itT l, x.length ≤ 20 := by
  intro x hx
  obtain ⟨t, ht, rfl⟩ := List.mem_map.1 hx
  obtain ⟨i, hi⟩ := List.getElem?_of_mem ht
  exact itoa_len (h i t hi).1 (h i t hi).2
theorem itT_join {l : List Int} (h : IB l) : (Lib.join (itT l) [32]).length ≤ 21 * l.length := by
  have := join_le 20 (itT l) [32] (itT_each h) (by simp)
  simpa [itT] using this
theorem row_at {w : World} {B : Nat} {s : Option Addr} {l : List Int} (h : RowI w B s l) {k : Nat} {x : Int} (hx : l[k]? = some x) : ∃ g off, s = some ⟨g, off, none⟩ ∧ g < B ∧ w.cell? ⟨g, off + k, none⟩ = some (.int .i64 x) := by
  have hk : k < l.length := (List.getElem?_eq_some_iff.1 hx).1
  rcases h with h | ⟨g, off, a, b, d⟩
  · rw [h] at hk; simp at hk
  · refine ⟨g, off, a, b, ?_⟩
    rw [d k hk, List.getD_eq_getElem?_getD, hx]
    rfl

/- what ChanText's closure goes by -/
structure ChI (cap : Int) (s : Option Addr) (c hi B : Nat) (l : List Int) (cl : Bool) (X : World) : Prop where
  b0 : X.cell? ⟨B, 0, none⟩ = some (.int .i64 cap)
  b1 : X.cell? ⟨B, 1, none⟩ = some (.slice s l.length c)
  b2 : X.cell? ⟨B, 2, none⟩ = some (.bool cl)
  rw : RowI X hi s l
  ev : Env X B
  hi : hi ≤ B
theorem ChI.keep {cap : Int} {s : Option Addr} {c hi B : Nat} {l : List Int} {cl : Bool} {X Y : World} (h : ChI cap s c hi B l cl X) (hb : Below (B + 1) X Y) : ChI cap s c hi B l cl Y :=
  ⟨(hb.cell (p := ⟨B, 0, none⟩) (Nat.lt_succ_self _)).trans h.b0, (hb.cell (p := ⟨B, 1, none⟩) (Nat.lt_succ_self _)).trans h.b1, (hb.cell (p := ⟨B, 2, none⟩) (Nat.lt_succ_self _)).trans h.b2,
    h.rw.keep (fun k hk => hb.block k (by have := h.hi; omega)), h.ev.keep (hb.mono (Nat.le_succ _)), h.hi⟩

set_option maxHeartbeats 2000000 in
theorem chT1_any (cap : Int) (s : Option Addr) (c hi B : Nat) (l : List Int) (cl : Bool) (k : Nat) (x : Int) (w : World) (h : ChI cap s c hi B l cl w) (hn : IB l) (hB : B < w.heap.size) (hl : l.length ≤ 1048576) (ht : l[k]? = some x) :
    Calls Tryz.prog 32 #[.int .i64 k, .pointer (some ⟨B, 0, none⟩)] w fun e w' => e = .returned (.string ⟨(Lib.itoa x).toArray⟩) ∧ Below w.heap.size w w' := by
  obtain ⟨g, off, hs, hg, c0⟩ := row_at h.rw ht
  subst hs
  have hlt : k < l.length := (List.getElem?_eq_some_iff.1 ht).1
  have i0 : (0 : Int) ≤ (k : Int) := by omega
  have i1 : (k : Int) < (l.length : Int) := by omega
  have bx := h.b1
  have HE := hidT (h.ev.mono (Nat.le_of_lt hB))
  have hnt := hn k x ht
  have HN := hidT hnt
  clear h hn ht hnt
  go_enter Tryz.func32, Tryz.ntmps32
  go_wp2_with fail
  refine (itoa_any x HN.out.1 HN.out.2 w HE.out).mono ?_
  rintro e w1 ⟨rfl, hb1⟩
  have K1 := hidT hb1
  clear hb1
  go_wp2
  go_ret
  exact ⟨rfl, K1.out⟩

set_option maxHeartbeats 4000000 in
theorem implChT_any (cap : Int) (s : Option Addr) (c hi : Nat) (l : List Int) (cl : Bool) (w : World) (h : RowI w hi s l) (hB : hi ≤ w.heap.size) (hl : l.length ≤ 1048576) (hn : IB l) (hE : Env w w.heap.size) :
    Calls Tryz.prog 12 #[.agg #[.int .i64 cap, .slice s l.length c, .bool cl]] w fun e w' => e = .returned (.string ⟨(chT cap l cl).toArray⟩) ∧ Below w.heap.size w w' := by
  obtain ⟨W, hW⟩ : ∃ W, w.alloc (.cells #[.int .i64 cap, .slice s l.length c, .bool cl] 33) = W := ⟨_, rfl⟩
  have kW : Below w.heap.size w W := by subst hW; exact (Below.refl _ _).alloc (Nat.le_refl _) _
  have sW : w.heap.size + 1 = W.heap.size := by subst hW; simp
  have TI : ChI cap s c hi w.heap.size l cl W := ⟨by subst hW; simp [go_sem], by subst hW; simp [go_sem], by subst hW; simp [go_sem], h.keep (fun k hk => kW.block k (by omega)), hE.keep kW, hB⟩
  have SW := hidT sW
  have lW : w.heap.size < W.heap.size := by omega
  have HI := hidT TI
  have KW := hidT kW
  have HN := hidT hn
  have y0 := TI.b0
  have y1 := TI.b1
  have y2 := TI.b2
  clear h hn hE kW TI sW
  cases hv : okC cap l.length
  · have HT : Hid (chT cap l cl = []) := by show _ = _; unfold chT; rw [hv]; rfl
    have V := hidT hv
    clear hv
    go_enter Tryz.func12, Tryz.ntmps12
    go_wp2_with fail
    try rw [hW]
    refine (implOk_any cap s l.length c cl W (by omega)).mono ?_
    rintro e w1 ⟨rfl, hb1⟩
    rw [V.out]
    have K1 := hidT (KW.out.trans (hb1.mono (Nat.le_of_lt lW)))
    clear hb1
    go_wp2
    go_ret
    exact ⟨by rw [HT.out]; rfl, K1.out⟩
  · have HT : Hid (chT cap l cl = [91] ++ Lib.join (itT l) [32] ++ [93] ++ Lib.itoa (cap - l.length) ++ if cl then [33] else []) := by show _ = _; unfold chT; rw [hv]; rfl
    have V := hidT hv
    have hok := of_decide_eq_true hv
    have hwr : IntKind.i64.wrap (cap - (l.length : Int)) = cap - (l.length : Int) := IntWalk.i64_in _ ⟨by omega, by omega⟩
    have hj := itT_join HN.out
    have hj2 : (Lib.join (itT l) [32]).length ≤ 84 := by omega
    have ht := itoa_len (n := cap - l.length) (by omega) (by omega)
    have IA : Hid (∀ X, Env X X.heap.size → Calls Tryz.prog 33 #[.int .i64 (cap - l.length)] X fun e w' => e = .returned (.string ⟨(Lib.itoa (cap - l.length)).toArray⟩) ∧ Below X.heap.size X w') := fun X h => itoa_any (cap - l.length) (by omega) (by omega) X h
    clear hv
    have HX : Hid (((List.range l.length).map fun k => Lib.itoa (l.getD k 0)) = itT l) := by
      show _ = _
      apply List.ext_getElem?
      intro i
      unfold itT
      rw [List.getElem?_map, List.getElem?_map]
      by_cases hi : i < l.length
      · rw [List.getElem?_range hi]; simp [List.getElem?_eq_getElem hi]
      · rw [List.getElem?_eq_none (by simp; omega), List.getElem?_eq_none (by omega)]; rfl
    go_enter Tryz.func12, Tryz.ntmps12
    go_wp2_with fail
    try rw [hW]
    clear hW
    refine (implOk_any cap s l.length c cl W (by omega)).mono ?_
    rintro e w1 ⟨rfl, hb1⟩
    rw [V.out]
    have K1 := hidT (KW.out.trans (hb1.mono (Nat.le_of_lt lW)))
    have s1 : w.heap.size < w1.heap.size := by have := hb1.size; omega
    have I1 := hidT (HI.out.keep (hb1.mono (by have := SW.out; omega)))
    clear hb1 y0 y1 y2 HI KW SW
    have y0 := I1.out.b0
    have y1 := I1.out.b1
    have y2 := I1.out.b2
    go_wp2_with fail
    refine Calls.mono (rowsC_any l.length (.pointer (some ⟨w.heap.size, 0, none⟩)) (fun k => Lib.itoa (l.getD k 0)) (ChI cap s c hi w.heap.size l cl) w.heap.size w1 hl s1 I1.out (fun X X' hX hb => hX.keep (hb.mono (by omega))) (fun k X hk hX hi => ?_)) ?_
    · have ht : l[k]? = some (l.getD k 0) := by rw [List.getD_eq_getElem?_getD, List.getElem?_eq_getElem hk]; rfl
      refine (chT1_any cap s c _ w.heap.size l cl k _ X hi HN.out (by omega) hl ht).mono ?_
      rintro e X' ⟨rfl, hb⟩
      exact ⟨rfl, hi.keep (hb.mono (by omega)), Kb.of hb⟩
    · rintro e w2 ⟨v, rfl, ho, hi2, hk2⟩
      rw [HX.out] at ho
      have s2 := hk2.size
      have K2 := hidT (K1.out.trans (hk2.below (Nat.le_refl _) (Nat.le_of_lt s1)))
      have HO := hidT ho
      have I2 := hidT hi2
      clear ho hi2 hk2 I1 K1 HN HX y0 y1 y2
      have s3 : w.heap.size < w2.heap.size := by omega
      have hne := ext_ne w2
      have y0 := I2.out.b0
      have y2 := I2.out.b2
      have u0 := Ext.fit I2.out.b0 s3
      have u1 := Ext.fit I2.out.b1 s3
      have u2 := Ext.fit I2.out.b2 s3
      have hil : (itT l).length ≤ 1073741824 := by simp [itT]; omega
      have JN : Hid (∀ X : World, OwnT X w1.heap.size v (itT l) → Calls Tryz.prog 29 #[v, .string ⟨#[32]⟩] X fun e w' => e = .returned (.string ⟨(Lib.join (itT l) [32]).toArray⟩) ∧ Below X.heap.size X w') := fun X h => joinO v (itT l) [32] _ X h hil (by omega)
      generalize Lib.join (itT l) [32] = tj at hj2 JN HT
      generalize Lib.itoa (cap - l.length) = tn at ht IA HT
      have a0 := addS [91] tj (by simp; omega)
      have a1 := addS ([91] ++ tj) [93] (by simp; omega)
      have a2 := addS ([91] ++ tj ++ [93]) tn (by simp; omega)
      have a3 := addS ([91] ++ tj ++ [93] ++ tn) [33] (by simp; omega)
      obtain ⟨t1, h1⟩ : ∃ t1, [91] ++ tj = t1 := ⟨_, rfl⟩
      rw [h1] at a0 a1 a2 a3 HT
      obtain ⟨t2, h2⟩ : ∃ t2, t1 ++ [93] = t2 := ⟨_, rfl⟩
      rw [h2] at a1 a2 a3 HT
      obtain ⟨t3, h3⟩ : ∃ t3, t2 ++ tn = t3 := ⟨_, rfl⟩
      rw [h3] at a2 a3 HT
      clear h1 h2 h3 hok hj
      go_wp2_with fail
      refine regionExt w2 (by kernel_rfl) (by kernel_rfl) ?_
      repeat (go_big_quiet_step (first | (rename_i X; go_at_call 33; (with_reducible refine Calls.mono (IA.out _ ((I2.out.ev.keep (X.b.mono (Nat.le_of_lt s3))).mono (Nat.le_trans (Nat.le_of_lt s3) X.b.size))) ?_); rintro e w3 ⟨rfl, hb3⟩; exact ⟨rfl, X.on hb3⟩) | (rename_i X; go_at_call 29; (with_reducible refine Calls.mono (JN.out _ (HO.out.below X.b)) ?_); rintro e w3 ⟨rfl, hb3⟩; exact ⟨rfl, X.on hb3⟩) | fail))
      refine wpQuiet_nil ?_
      rintro w3 ⟨X3, rfl⟩
      have KU := hidT (K2.out.trans (X3.b.mono (Nat.le_of_lt s3)))
      have z2 := u2 X3
      clear hne u0 u1 u2 a0 a1 a2 y0 y2
      cases cl
      all_goals
        go_wp2
        go_ret
        refine ⟨?_, KU.out⟩
        rw [HT.out]
        first | rfl | simp

end Go.Proofs.YtfgikjipkfggbaaGreatDoor
