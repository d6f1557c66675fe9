/- What strconv's table holds (Env), and what keeps it; strconv.Itoa in one shape. No other condition. -/
import Derived.Test.YtfgikjipkfggbaaGreatDoorQuietC
import Derived.Test.YtfgikjipkfggbaaGreatDoorT16Pure
import Derived.Test.YtfgikjipkfggbaaGreatDoorShelf
import Derived.Test.YtfgikjipkfggbaaGreatDoorOwnT
import Derived.Laws.RangeAny
import Derived.Lib.OthersKept
import Derived.WalkSmall
namespace Go.Proofs.YtfgikjipkfggbaaGreatDoor
set_option linter.unusedSimpArgs false
set_option linter.unusedVariables false
set_option maxRecDepth 100000
open Go.RowKit

structure Env (w : World) (B : Nat) : Prop where
  tab : Lib.TabIs Tryz.prog w "internal/strconv.uint64pow10" .u64 Lib.pow10Tab
  lo2 : 1 < B
theorem pow_at : Tryz.prog.globalNamed "internal/strconv.uint64pow10" = some 1 := by kernel_rfl
theorem Env.keep {w w' : World} {B : Nat} (h : Env w B) (hb : Below B w w') : Env w' B := ⟨var?_below hb pow_at h.lo2 h.tab, h.lo2⟩
theorem Env.mono {w : World} {B B' : Nat} (h : Env w B) (hB : B ≤ B') : Env w B' := ⟨h.tab, Nat.lt_of_lt_of_le h.lo2 hB⟩
theorem below_grow (w : World) (k : Nat) (os : Array Obj) : Below w.heap.size w (Sort.grow (w.drewN k) os) := by
  refine ⟨rfl, rfl, rfl, by simp [Sort.grow], fun i hi => ?_⟩
  show (w.heap ++ os)[i]? = w.heap[i]?
  rw [Array.getElem?_append_left hi]
theorem itoa_any (n : Int) (h0 : -9223372036854775808 ≤ n) (h1 : n ≤ 9223372036854775807) (w : World) (h : Env w w.heap.size) : Calls Tryz.prog 33 #[.int .i64 n] w fun e w' => e = .returned (.string ⟨(Lib.itoa n).toArray⟩) ∧ Below w.heap.size w w' :=
  (Tryz.strconv_Itoa n h0 h1 w h.tab).mono fun e w' ⟨he, k, os, hw⟩ => ⟨he, by rw [hw]; exact below_grow w k os⟩
theorem addS (x y : List UInt8) (h : x.length + y.length ≤ 4611686018427387904) (W : World) : (Op.stringOp .add ⟨x.toArray⟩ ⟨y.toArray⟩).run Tryz.prog W = .ok (.string ⟨(x ++ y).toArray⟩) W := by
  rw [run_string_add_sum W _ _ (by simp [ByteArray.size]; omega), ByteArray.mk_append_mk]
theorem hidT {p : Prop} (h : p) : Hid p := h
structure Kb (B : Nat) (X Y : World) : Prop where
  os : Y.os = X.os
  tape : Y.tape = X.tape
  output : Y.output = X.output
  size : X.heap.size ≤ Y.heap.size
  same : ∀ k, k < X.heap.size → k ≠ B → Y.heap[k]? = X.heap[k]?
theorem Kb.refl (B : Nat) (X : World) : Kb B X X := ⟨rfl, rfl, rfl, Nat.le_refl _, fun _ _ _ => rfl⟩
theorem Kb.trans {B : Nat} {X Y Z : World} (h : Kb B X Y) (k : Kb B Y Z) : Kb B X Z := ⟨k.os.trans h.os, k.tape.trans h.tape, k.output.trans h.output, Nat.le_trans h.size k.size, fun q a b => (k.same q (Nat.lt_of_lt_of_le a h.size) b).trans (h.same q a b)⟩
theorem Kb.of {B : Nat} {X Y : World} (h : Below X.heap.size X Y) : Kb B X Y := ⟨h.os, h.tape, h.output, h.size, fun q a _ => h.block q a⟩
theorem Kb.on {B n : Nat} {w X Y : World} (h : Kb B w X) (hb : Below n X Y) (hn : w.heap.size ≤ n) : Kb B w Y := ⟨hb.os.trans h.os, hb.tape.trans h.tape, hb.output.trans h.output, Nat.le_trans h.size hb.size, fun q a b => (hb.block q (by omega)).trans (h.same q a b)⟩
theorem Kb.below {B n : Nat} {X Y : World} (h : Kb B X Y) (hn : n ≤ B) (hs : n ≤ X.heap.size) : Below n X Y := ⟨h.os, h.tape, h.output, h.size, fun q a => h.same q (by omega) (by omega)⟩
theorem OwnT.kb {w w' : World} {base B : Nat} {v : Value} {ls : List (List UInt8)} (h : OwnT w base v ls) (hb : Kb B w w') (hB : B < base) : OwnT w' base v ls := h.keep fun k h1 h2 => hb.same k h2 (by omega)
theorem ownT_sl {w : World} {base : Nat} {v : Value} {ls : List (List UInt8)} (h : OwnT w base v ls) : ∃ s c, v = .slice s ls.length c := by
  rcases h.2 with ⟨h0, h1⟩ | ⟨g, cap, cur, a, b, c, d⟩
  · exact ⟨none, 0, by rw [h0, h1]⟩
  · exact ⟨_, _, a⟩
theorem bytes_map (ls : List (List UInt8)) : (ls.map (fun l => (⟨l.toArray⟩ : ByteArray))).map (·.data.toList) = ls := by
  rw [List.map_map]
  conv => rhs; rw [← List.map_id ls]
  apply List.map_congr_left
  intro a _
  rfl
theorem joinO (v : Value) (ls : List (List UInt8)) (sep : List UInt8) (base : Nat) (w : World) (h : OwnT w base v ls) (hl : ls.length ≤ 1073741824) (hj : (Lib.join ls sep).length ≤ 140737488355328) :
    Calls Tryz.prog 29 #[v, .string ⟨sep.toArray⟩] w fun e w' => e = .returned (.string ⟨(Lib.join ls sep).toArray⟩) ∧ Below w.heap.size w w' := by
  by_cases h0 : ls = []
  · subst h0
    obtain ⟨s, c, rfl⟩ := ownT_sl h
    exact (Tryz.strings_Join_none s c _ w).mono fun e w' ⟨he, hw⟩ => ⟨he, by rw [hw]; exact Below.refl _ _⟩
  · have hp : 0 < ls.length := List.length_pos_iff.2 h0
    obtain ⟨g, cap, rfl, hgB, hgl⟩ := h.form hp
    have hcap := h.cap
    have hmm := bytes_map ls
    have hml : (ls.map (fun l => (⟨l.toArray⟩ : ByteArray))).length = ls.length := by simp
    have J := Tryz.strings_Join g 0 cap (ls.map (fun l => (⟨l.toArray⟩ : ByteArray))) ⟨sep.toArray⟩ w (by
      intro j x hx
      have hj' : j < ls.length := by have := (List.getElem?_eq_some_iff.1 hx).1; simpa using this
      rw [Nat.zero_add, h.cell hj']
      simp [List.getElem?_eq_getElem hj'] at hx
      simp [List.getD_eq_getElem?_getD, List.getElem?_eq_getElem hj', hx]) hgl (by rw [hml]; omega) (by rw [hml]; exact hcap) (by rw [hmm]; exact hj)
    rw [hmm, hml] at J
    exact J

end Go.Proofs.YtfgikjipkfggbaaGreatDoor
