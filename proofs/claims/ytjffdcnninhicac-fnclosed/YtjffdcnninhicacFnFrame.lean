/- How bytes read as an argument of a law, and small things of the laws that draw channels. No condition. -/
import Derived.Test.YtjffdcnninhicacRows
import Derived.Test.YtjffdcnninhicacChDraw2
import Derived.Test.YtjffdcnninhicacChTake
import Derived.Test.YtjffdcnninhicacChClose
import Derived.Test.YtjffdcnninhicacSameInts
import Derived.ProofKit
import Derived.OpenShut
import Derived.ShutString
import Derived.ChangeOld
import Derived.ChangeSlices
namespace Go.Proofs.Ytjffdcnninhicac
set_option linter.unusedSimpArgs false
set_option linter.unusedVariables false
set_option maxRecDepth 100000
open Go.ChangeShapes Go.WideShapes Go.ChangeAt Go.RowKit

theorem big_any (s : Option Addr) (n c : Nat) (w : World) : Calls Try.prog 5 #[.slice s n c] w fun e w' => e = .returned (.bool (decide (1048576 < n))) ∧ w' = w := by
  go_enter Try.func5, Try.ntmps5
  go_wp2
  go_ret
  refine ⟨ret_b ?_, rfl⟩
  rw [Bool.eq_iff_iff]
  simp
  omega
theorem RowI.ints {w : World} {B : Nat} {s : Option Addr} {l : List Int} (h : RowI w B s l) (hB : B ≤ w.heap.size) : Ints w s l := by
  rcases h with h | ⟨g, o, hs, hg, hc⟩
  · exact .inl h
  · exact .inr ⟨g, o, hs, by omega, hc⟩
theorem OwnN.rowI {w : World} {base : Nat} {s : Option Addr} {n c : Nat} {l : List Int} (h : OwnN w base (.slice s n c) l) : RowI w w.heap.size s l := by
  obtain ⟨s', c', hv, hr⟩ := h.row
  injection hv with e1
  subst e1
  exact hr
theorem far_set {w : World} {G : Nat} {a b c : Value} {o : Obj} : (∀ k, k < w.heap.size → k ≠ G → ((((w.setCell ⟨G, 0, none⟩ a).setCell ⟨G, 1, none⟩ b).setCell ⟨G, 2, none⟩ c).alloc o).heap[k]? = w.heap[k]?) ∧ w.heap.size ≤ ((((w.setCell ⟨G, 0, none⟩ a).setCell ⟨G, 1, none⟩ b).setCell ⟨G, 2, none⟩ c).alloc o).heap.size :=
  ⟨fun k hk hne => (Below.heap_alloc _ _ _ (by simpa using hk)).trans ((Below.heap_setCell _ ⟨G, 2, none⟩ _ k hne).trans ((Below.heap_setCell _ ⟨G, 1, none⟩ _ k hne).trans (Below.heap_setCell _ ⟨G, 0, none⟩ _ k hne))), by simp⟩
theorem box_set {w : World} {G : Nat} {v0 v1 v2 : Value} (h : Box1 G w v0 v1 v2) (a b c : Value) : Box1 G (((w.setCell ⟨G, 0, none⟩ a).setCell ⟨G, 1, none⟩ b).setCell ⟨G, 2, none⟩ c) a b c :=
  ⟨(cellOff (by omega)).trans ((cellOff (by omega)).trans (cellAt h.c0)), (cellOff (by omega)).trans (cellAt ((cellOff (by omega)).trans h.c1)), cellAt ((cellOff (by omega)).trans ((cellOff (by omega)).trans h.c2)), fun j => by rw [World.frozen?_setCell, World.frozen?_setCell, World.frozen?_setCell]; exact h.f j, by simpa using h.z⟩
theorem OwnN.capI {w : World} {base : Nat} {s : Option Addr} {n c : Nat} {l : List Int} (h : OwnN w base (.slice s n c) l) : l.length ≤ c := by
  rcases h.2 with ⟨h1, h2⟩ | ⟨g, cap, cur, hv, -, -, h3, -⟩
  · omega
  · injection hv with e1 e2 e3
    omega

theorem ownS : ownKnob Try.prog.godebug = none := by kernel_rfl
theorem laidOutS : laidOutB Try.prog = true := by kernel_rfl
theorem bytes_read {H : Type} {enc : TypeId × Value → H} {w : World} {base b0 : Nat} {held : Bool} {k : Reach} {v : Value} {d : DataW H} {p : List MemPlace}
    (hv : Value.okWide Try.prog w k b0 22 v) (h : DataW.Trod enc Try.prog w base (fun _ => true) held 22 v d p) :
    ∃ (s : Option Addr) (n c : Nat), v = .slice s n c ∧ n ≤ maxLen ∧ Bytes w w.heap.size s n := by
  obtain ⟨s, len, cap, rfl⟩ := okWide_slice Try.underlying22 hv
  obtain ⟨fuel, hf⟩ := h
  rcases open_ints Try.underlying22 Try.underlying5 (by kernel_rfl) hf with ⟨hcs, _⟩ | ⟨a, l, c, zs, hcs, _, hl, hm, hz, _, hcell, hwz⟩
  · simp [Value.cells] at hcs
    obtain ⟨rfl, rfl, rfl⟩ := hcs
    exact ⟨none, 0, 0, rfl, Nat.zero_le _, .inl rfl⟩
  · simp [Value.cells] at hcs
    obtain ⟨rfl, rfl, rfl⟩ := hcs
    simp at hz
    refine ⟨some a, len, cap, rfl, by omega, ?_⟩
    by_cases h0 : len = 0
    · exact .inl h0
    · have c0 := hcell 0 (by omega)
      have c0' : w.cell? a = some (.int .u8 (zs.getD 0 0)) := by simpa [Addr.add] using c0
      have hs := World.cell?_spot c0'
      have hg : a.block < w.heap.size := by
        apply Classical.byContradiction
        intro hn
        have : w.heap[a.block]? = none := by simp; omega
        simp [World.cell?, this] at c0'
      obtain ⟨g, off, spot⟩ := a
      simp at hs
      subst hs
      refine .inr ⟨g, off, rfl, hg, fun i hi => ?_⟩
      have ci := hcell i (by omega)
      have e : (Addr.add ⟨g, off, none⟩ i) = ⟨g, off + i, none⟩ := by
        by_cases h : i = 0
        · subst h; rfl
        · simp [Addr.add, h]
      rw [e] at ci
      have hmem : zs.getD i 0 ∈ zs := by
        rw [List.getD_eq_getElem?_getD, List.getElem?_eq_getElem (by omega)]
        exact List.getElem_mem (by omega)
      have hw := bounds_u8 (hwz _ hmem)
      exact ⟨_, ci, by omega, by omega⟩


end Go.Proofs.Ytjffdcnninhicac
