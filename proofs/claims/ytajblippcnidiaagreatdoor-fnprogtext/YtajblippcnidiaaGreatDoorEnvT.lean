/- What the program's table of words and strconv's table hold (Env), and what keeps it; fieldAt, insFits. No other condition. -/
import Derived.Test.YtajblippcnidiaaGreatDoorText1
import Derived.Deep.RegionWith
import Derived.Test.YtajblippcnidiaaGreatDoorInsOk
import Derived.Test.YtajblippcnidiaaGreatDoorShelf
import Derived.Laws.RangeAny
import Derived.Lib.OthersKept
import Derived.WalkSmall
namespace Go.Proofs.YtajblippcnidiaaGreatDoor
set_option linter.unusedSimpArgs false
set_option linter.unusedVariables false
set_option maxRecDepth 100000
open Go.RowKit

structure Env (w : World) (B : Nat) : Prop where
  tab : Lib.TabIs Tryz.prog w "internal/strconv.uint64pow10" .u64 Lib.pow10Tab
  forms : ∀ i, i < 14 → w.cell? ⟨0, i * 2, none⟩ = some (.string ⟨(wordL i).toArray⟩) ∧ w.cell? ⟨0, i * 2 + 1, none⟩ = some (.string ⟨(letL i).toArray⟩)
  lo1 : 0 < B
  lo2 : 2 < B
theorem pow_at : Tryz.prog.globalNamed "internal/strconv.uint64pow10" = some 2 := by kernel_rfl
theorem Env.keep {w w' : World} {B : Nat} (h : Env w B) (hb : Below B w w') : Env w' B := by
  refine ⟨var?_below hb pow_at h.lo2 h.tab, fun i hi => ?_, h.lo1, h.lo2⟩
  have hf := h.forms i hi
  exact ⟨(hb.cell (p := ⟨0, i * 2, none⟩) h.lo1).trans hf.1, (hb.cell (p := ⟨0, i * 2 + 1, none⟩) h.lo1).trans hf.2⟩
theorem Env.mono {w : World} {B B' : Nat} (h : Env w B) (hB : B ≤ B') : Env w B' := ⟨h.tab, h.forms, Nat.lt_of_lt_of_le h.lo1 hB, Nat.lt_of_lt_of_le h.lo2 hB⟩
theorem below_grow (w : World) (k : Nat) (os : Array Obj) : Below w.heap.size w (Sort.grow (w.drewN k) os) := by
  refine ⟨rfl, rfl, rfl, by simp [Sort.grow], fun i hi => ?_⟩
  show (w.heap ++ os)[i]? = w.heap[i]?
  rw [Array.getElem?_append_left hi]

def idxL (c : UInt8) : Nat := if c = 82 then 1 else if c = 65 then 2 else if c = 66 then 3 else 4
theorem fld_cell {w : World} {B : Nat} {o r a b n : Int} (hc : w.cell? ⟨B, 0, none⟩ = some (.int .i64 o) ∧ w.cell? ⟨B, 1, none⟩ = some (.int .i64 r) ∧ w.cell? ⟨B, 2, none⟩ = some (.int .i64 a) ∧ w.cell? ⟨B, 3, none⟩ = some (.int .i64 b) ∧ w.cell? ⟨B, 4, none⟩ = some (.int .i64 n)) (c : UInt8) :
    w.cell? ⟨B, idxL c, none⟩ = some (.int .i64 (fldL r a b n c)) := by
  obtain ⟨-, c1, c2, c3, c4⟩ := hc
  unfold idxL fldL
  split
  · exact c1
  · split
    · exact c2
    · split
      · exact c3
      · exact c4
theorem u8_ne {c : UInt8} {k : Nat} (hk : k < 256) (h : c ≠ UInt8.ofNat k) : ¬ (c.toNat : Int) = k := by
  intro e
  apply h
  apply UInt8.toNat_inj.1
  simp
  omega
theorem fieldAt_any (B : Nat) (c : UInt8) (w : World) : Calls Tryz.prog 35 #[.pointer (some ⟨B, 0, none⟩), .int .i32 c.toNat] w fun e w' => e = .returned (.pointer (some ⟨B, idxL c, none⟩)) ∧ w' = w := by
  by_cases h1 : c = 82
  · subst h1
    go_enter Tryz.func35, Tryz.ntmps35
    go_wp2
    go_ret
    exact ⟨rfl, rfl⟩
  by_cases h2 : c = 65
  · subst h2
    go_enter Tryz.func35, Tryz.ntmps35
    go_wp2
    go_ret
    exact ⟨rfl, rfl⟩
  by_cases h3 : c = 66
  · subst h3
    go_enter Tryz.func35, Tryz.ntmps35
    go_wp2
    go_ret
    exact ⟨rfl, rfl⟩
  · have e : idxL c = 4 := by unfold idxL; rw [if_neg h1, if_neg h2, if_neg h3]
    rw [e]
    have n1 : ¬ (c.toNat : Int) = 82 := u8_ne (k := 82) (by omega) h1
    have n2 : ¬ (c.toNat : Int) = 65 := u8_ne (k := 65) (by omega) h2
    have n3 : ¬ (c.toNat : Int) = 66 := u8_ne (k := 66) (by omega) h3
    clear h1 h2 h3 e
    generalize (c.toNat : Int) = x at n1 n2 n3
    go_enter Tryz.func35, Tryz.ntmps35
    go_wp2
    go_ret
    exact ⟨rfl, rfl⟩
theorem insFits_any (o r a b n : Int) (w : World) : Calls Tryz.prog 34 #[.agg #[.int .i64 o, .int .i64 r, .int .i64 a, .int .i64 b, .int .i64 n]] w fun e w' => e = .returned (.bool (Plain.insB o r a b n 24 3)) ∧ Below w.heap.size w w' := by
  go_enter Tryz.func34, Tryz.ntmps34
  go_wp2_with fail
  refine (insOk_any _ _ _ _ _ _ _ _).mono ?_
  rintro e w1 ⟨rfl, hb1⟩
  have K1 := (show Hid _ from hb1)
  clear hb1
  go_wp2
  go_ret
  exact ⟨rfl, ((Below.refl _ _).alloc (Nat.le_refl _) _).trans (K1.out.mono (by simp))⟩


theorem lets_ascii {q : Nat} (c : UInt8) (h : c ∈ letL q) : c.toNat < 128 := by
  by_cases hq : q < 14
  · have : ∀ i : Fin 14, ∀ c ∈ letL i.val, c.toNat < 128 := by decide
    exact this ⟨q, hq⟩ c h
  · unfold letL at h
    rw [List.getD_eq_getElem?_getD, List.getElem?_eq_none (by simp [lets14]; omega)] at h
    simp at h

end Go.Proofs.YtajblippcnidiaaGreatDoor
