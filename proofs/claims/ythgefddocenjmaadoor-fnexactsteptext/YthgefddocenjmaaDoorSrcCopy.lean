/- How the laws copy threads, channels, notes and sources into new memory. Conditions: each list of at most 1048576. -/
import Derived.Test.YthgefddocenjmaaDoorQuietC
import Derived.Test.YthgefddocenjmaaDoorSrcDefs
import Derived.Test.YthgefddocenjmaaDoorOwnN
import Derived.Test.YthgefddocenjmaaDoorIntRows
import Derived.Test.YthgefddocenjmaaDoorSrcPure
namespace Go.Proofs.YthgefddocenjmaaDoor
set_option linter.unusedSimpArgs false
set_option linter.unusedVariables false
set_option maxRecDepth 100000
open Go.RowKit
set_option maxHeartbeats 1000000 in
theorem toChan_own (pc : Int) (st : Bool) (s : Option Addr) (c lo hi : Nat) (l : List Int) (w : World) (h : IntsR w lo hi s l) (hB : hi ≤ w.heap.size) (hl : l.length ≤ 1048576) :
    Calls Tryd.prog 22 #[.agg #[.int .i64 pc, .slice s l.length c, .bool st]] w fun e w' => ∃ g, e = .returned (.agg #[.int .i64 pc, .slice (some ⟨g, 0, none⟩) l.length l.length, .bool st]) ∧ OwnN w' w.heap.size (.slice (some ⟨g, 0, none⟩) l.length l.length) l ∧ Below w.heap.size w w' ∧ w.heap.size < w'.heap.size ∧ w.heap.size ≤ g := by
  have HR : Hid (IntsR w lo hi s l) := h
  clear h
  go_enter Tryd.func22, Tryd.ntmps22
  go_wp2_with fail
  refine (toIntS_own s c lo hi l _ (HR.out.keep (Keep.of_below ((((Below.refl w.heap.size w).alloc (Nat.le_refl _) _).alloc (by simp) _).alloc (by simp; omega) _) hB)) (by simp; omega) hl).mono ?_
  rintro e w1 ⟨rfl, ho1, hb1, hz1⟩
  have z3 : w.heap.size + 3 < w1.heap.size := by simp at hz1; omega
  have z0 : w.heap.size < w1.heap.size := by omega
  have z1 : w.heap.size + 1 < w1.heap.size := by omega
  have z2 : w.heap.size + 1 + 1 < w1.heap.size := by omega
  have a2 : w1.cell? ⟨w.heap.size, 2, none⟩ = some (.bool st) := by rw [hb1.cell (by simp; omega)]; simp [go_sem]
  have d0 : w1.cell? ⟨w.heap.size + 1, 0, none⟩ = some (.int .i64 0) := by rw [hb1.cell (by simp)]; simp [go_sem]
  have d1 : w1.cell? ⟨w.heap.size + 1, 1, none⟩ = some (.slice none 0 0) := by rw [hb1.cell (by simp)]; simp [go_sem]
  have d2 : w1.cell? ⟨w.heap.size + 1, 2, none⟩ = some (.bool false) := by rw [hb1.cell (by simp)]; simp [go_sem]
  have e0 : w1.cell? ⟨w.heap.size + 1 + 1, 0, none⟩ = some (.int .i64 pc) := by rw [hb1.cell (by simp)]; simp [go_sem]
  have e1 : w1.cell? ⟨w.heap.size + 1 + 1, 1, none⟩ = some (.slice none 0 0) := by rw [hb1.cell (by simp)]; simp [go_sem]
  have e2 : w1.cell? ⟨w.heap.size + 1 + 1, 2, none⟩ = some (.bool false) := by rw [hb1.cell (by simp)]; simp [go_sem]
  have y0 : ∀ j, w1.frozen? ⟨w.heap.size + 1, j, none⟩ = false := fun j => by rw [hb1.frozen (by simp)]; simp [go_sem]
  have y1 : ∀ j, w1.frozen? ⟨w.heap.size + 1 + 1, j, none⟩ = false := fun j => by rw [hb1.frozen (by simp)]; simp [go_sem]
  have k1 : Below w.heap.size w w1 := ((((Below.refl _ w).alloc (Nat.le_refl _) _).alloc (by simp) _).alloc (by simp; omega) _).trans (hb1.mono (by simp; omega))
  obtain ⟨G, hG, hGb⟩ : ∃ G, G = w.heap.size + 1 + 1 + 1 ∧ w.heap.size + 3 ≤ G := ⟨_, rfl, Nat.le_refl _⟩
  have HI : Hid (OwnN w1 w.heap.size (.slice (some ⟨G, 0, none⟩) l.length l.length) l) := by
    have h := ho1
    simp at h
    rw [hG]
    exact ownLow' h (by omega)
  have e3 : (((w.alloc (.cells #[.int .i64 pc, .slice s l.length c, .bool st] 44)).alloc (.cells #[.int .i64 0, .slice none 0 0, .bool false] 47)).alloc (.cells #[.int .i64 pc, .slice none 0 0, .bool false] 47)).heap.size = G := by simp [hG]
  first | rw [e3] | (simp only [World.size_alloc]; rw [← hG]) | skip
  clear hb1 ho1 hz1 hG e3
  go_wp2
  have fin : ∀ k, w.heap.size + 3 ≤ k → (((((w1.setCell ⟨w.heap.size + 1 + 1, 1, none⟩ (.slice (some ⟨G, 0, none⟩) l.length l.length)).setCell ⟨w.heap.size + 1 + 1, 2, none⟩ (.bool st)).setCell ⟨w.heap.size + 1, 0, none⟩ (.int .i64 pc)).setCell ⟨w.heap.size + 1, 1, none⟩ (.slice (some ⟨G, 0, none⟩) l.length l.length)).setCell ⟨w.heap.size + 1, 2, none⟩ (.bool st)).heap[k]? = w1.heap[k]? := fun k hk => by
    rw [Below.heap_setCell _ _ _ k (by simp; omega), Below.heap_setCell _ _ _ k (by simp; omega), Below.heap_setCell _ _ _ k (by simp; omega), Below.heap_setCell _ _ _ k (by simp; omega), Below.heap_setCell _ _ _ k (by simp; omega)]
  refine bodyPost_ret (v := .agg #[.int .i64 pc, .slice (some ⟨G, 0, none⟩) l.length l.length, .bool st]) (by simp [results, Tryd.results22, go_sem, d0, d1, d2]) rfl ⟨G, rfl, ?_, ?_, by simp; omega, by omega⟩
  · exact ownKeep' HI.out (fun k hk => fin k (by have hk2 : some G = some k := hk; injection hk2 with hk2; omega))
  · exact (((((k1.setCell (p := ⟨w.heap.size + 1 + 1, 1, none⟩) (by simp; omega) _).setCell (p := ⟨w.heap.size + 1 + 1, 2, none⟩) (by simp; omega) _).setCell (p := ⟨w.heap.size + 1, 0, none⟩) (by simp) _).setCell (p := ⟨w.heap.size + 1, 1, none⟩) (by simp) _).setCell (p := ⟨w.heap.size + 1, 2, none⟩) (by simp) _)

end Go.Proofs.YthgefddocenjmaaDoor
