/- Lists of integers as they lie in memory between two blocks, and how the laws copy and count them. Conditions: at most 1048576 integers where they are copied. -/
import Derived.Test.YtfgikjipkfggbaaGreatDoorQuietC
import Derived.Test.YtfgikjipkfggbaaGreatDoorLists
import Derived.Laws.MakeOwn
import Derived.Deep.QuietTactic
import Derived.BigQuiet
namespace Go.Proofs.YtfgikjipkfggbaaGreatDoor
set_option linter.unusedSimpArgs false
set_option linter.unusedVariables false
set_option maxRecDepth 100000
open Go.RowKit

theorem new_cell {w : World} {C : Array Value} {t : TypeId} {j : Nat} (h : j < C.size) : ((w.alloc (.cells C t)).cell? ⟨w.heap.size, j, none⟩).isSome = true := by
  simp [go_sem, h]
theorem new_frozen {w : World} {C : Array Value} {t : TypeId} {j : Nat} : (w.alloc (.cells C t)).frozen? ⟨w.heap.size, j, none⟩ = false := by
  simp [go_sem]

theorem setC_at {w : World} {g i : Nat} {v : Value} (h : (w.cell? ⟨g, i, none⟩).isSome = true) : (w.setCell ⟨g, i, none⟩ v).cell? ⟨g, i, none⟩ = some v := World.cell?_setCell_same' w _ v h
theorem setC_off {w : World} {g i j : Nat} {v : Value} (h : i ≠ j) : (w.setCell ⟨g, i, none⟩ v).cell? ⟨g, j, none⟩ = w.cell? ⟨g, j, none⟩ := by
  apply World.cell?_setCell_other
  intro e
  injection e with e1 e2
  exact h e2
theorem setC_some {w : World} {g i j : Nat} {v : Value} (h : (w.cell? ⟨g, j, none⟩).isSome = true) : ((w.setCell ⟨g, i, none⟩ v).cell? ⟨g, j, none⟩).isSome = true := by
  by_cases e : i = j
  · subst e; rw [setC_at h]; rfl
  · rw [setC_off e]; exact h
def Keep (lo hi : Nat) (w w' : World) : Prop := ∀ k, lo ≤ k → k < hi → w'.heap[k]? = w.heap[k]?
theorem Keep.of_below {lo hi B : Nat} {w w' : World} (hb : Below B w w') (h : hi ≤ B) : Keep lo hi w w' := fun k _ hk => hb.block k (by omega)
theorem Keep.of_set {lo hi : Nat} {w : World} {a : Addr} {v : Value} (h : a.block < lo) : Keep lo hi w (w.setCell a v) := fun k hk _ => Below.heap_setCell w a v k (by omega)
theorem Keep.trans {lo hi : Nat} {w w1 w2 : World} (h : Keep lo hi w w1) (h' : Keep lo hi w1 w2) : Keep lo hi w w2 := fun k a b => (h' k a b).trans (h k a b)
theorem Keep.cell {lo hi : Nat} {w w' : World} (h : Keep lo hi w w') {p : Addr} (h1 : lo ≤ p.block) (h2 : p.block < hi) : w'.cell? p = w.cell? p := World.cell?_of_block (w := w) (h p.block h1 h2)

def IntsR (w : World) (lo hi : Nat) (s : Option Addr) (l : List Int) : Prop :=
  l = [] ∨ ∃ g off, s = some ⟨g, off, none⟩ ∧ lo ≤ g ∧ g < hi ∧ ∀ i, i < l.length → w.cell? ⟨g, off + i, none⟩ = some (.int .i64 (l.getD i 0))
theorem IntsR.keep {w w' : World} {lo hi : Nat} {s : Option Addr} {l : List Int} (h : IntsR w lo hi s l) (hb : Keep lo hi w w') : IntsR w' lo hi s l := by
  rcases h with h | ⟨g, o, hs, h1, h2, hc⟩
  · exact .inl h
  · exact .inr ⟨g, o, hs, h1, h2, fun i hi => (hb.cell h1 h2).trans (hc i hi)⟩
theorem IntsR.mono {w : World} {lo hi lo' hi' : Nat} {s : Option Addr} {l : List Int} (h : IntsR w lo hi s l) (h1 : lo' ≤ lo) (h2 : hi ≤ hi') : IntsR w lo' hi' s l := by
  rcases h with h | ⟨g, o, hs, a, b, hc⟩
  · exact .inl h
  · exact .inr ⟨g, o, hs, by omega, by omega, hc⟩
theorem IntsR.ints {w : World} {lo hi : Nat} {s : Option Addr} {l : List Int} (h : IntsR w lo hi s l) (hh : hi ≤ w.heap.size) : Ints w s l := by
  rcases h with h | ⟨g, o, hs, a, b, hc⟩
  · exact .inl h
  · exact .inr ⟨g, o, hs, by omega, hc⟩

theorem mkInt (n : Nat) (hn : n ≤ 1048576) (w : World) : (Instr.makeSlice 31 (.int .i64 (n : Int)) (.int .i64 (n : Int))).run Tryz.prog w = .ok (.slice (some ⟨w.heap.size, 0, none⟩) n n) (w.alloc (.cells (madeCells #[.int .i64 0] (n * 1)) 3)) := by
  have h := run_make (P := Tryz.prog) w 31 3 _ (.int .i64 0) Tryz.underlying31 rfl rfl .i64 .i64 n n (by omega) (Int.le_refl _) (by show (8 : Int) * _ ≤ _; omega) (by omega)
  have e : (Value.int .i64 0).cells = #[.int .i64 0] := rfl
  have e' : ∀ t, Tryz.prog.info? 3 = some t → t.size = 1 := by intro t h; cases h; rfl
  rw [e, e' _ rfl] at h
  simpa using h
theorem setC_blk {w : World} {g g' i j : Nat} {v : Value} (h : g ≠ g') : (w.setCell ⟨g, i, none⟩ v).cell? ⟨g', j, none⟩ = w.cell? ⟨g', j, none⟩ := by
  apply World.cell?_setCell_other
  intro e
  injection e with e1 e2
  exact h e1

theorem bcell {W w1 : World} (hb : Below W.heap.size W w1) : (∀ b o, b < W.heap.size → w1.cell? ⟨b, o, none⟩ = W.cell? ⟨b, o, none⟩) ∧ (∀ b o, b < W.heap.size → w1.frozen? ⟨b, o, none⟩ = W.frozen? ⟨b, o, none⟩) :=
  ⟨fun b o h => hb.cell (p := ⟨b, o, none⟩) h, fun b o h => hb.frozen (p := ⟨b, o, none⟩) h⟩

end Go.Proofs.YtfgikjipkfggbaaGreatDoor
