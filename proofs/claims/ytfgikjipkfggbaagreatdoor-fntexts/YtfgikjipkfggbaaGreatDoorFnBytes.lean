/- The frame of a law over drawn bytes: they are a slice of bytes in memory; laws.big counts them. No condition. -/
import Derived.Test.YtfgikjipkfggbaaGreatDoorQuietC
import Derived.Test.YtfgikjipkfggbaaGreatDoorRows
import Derived.Test.YtfgikjipkfggbaaGreatDoorCursor
import Derived.ProofKit
import Derived.OpenShut
import Derived.ShutString
import Derived.ChangeOld
import Derived.ChangeSlices
namespace Go.Proofs.YtfgikjipkfggbaaGreatDoor
set_option linter.unusedSimpArgs false
set_option linter.unusedVariables false
set_option maxRecDepth 100000
open Go.ChangeShapes Go.WideShapes Go.ChangeAt Go.RowKit

theorem retB {x y : Bool} (h : x = y) : Ending.returned (.bool x) = Ending.returned (.bool y) := by rw [h]
theorem big_any (s : Option Addr) (n c : Nat) (w : World) : Calls Tryz.prog 4 #[.slice s n c] w fun e w' => e = .returned (.bool (decide (1048576 < n))) ∧ w' = w := by
  go_enter Tryz.func4, Tryz.ntmps4
  go_wp2
  go_ret
  refine ⟨retB ?_, rfl⟩
  rw [Bool.eq_iff_iff]
  simp
  omega
theorem ownS : ownKnob Tryz.prog.godebug = none := by kernel_rfl
theorem laidOutS : laidOutB Tryz.prog = true := by kernel_rfl
theorem bytes_read {H : Type} {enc : TypeId × Value → H} {w : World} {base b0 : Nat} {held : Bool} {k : Reach} {v : Value} {d : DataW H} {p : List MemPlace}
    (hv : Value.okWide Tryz.prog w k b0 22 v) (h : DataW.Trod enc Tryz.prog w base (fun _ => true) held 22 v d p) :
    ∃ (s : Option Addr) (n c : Nat), v = .slice s n c ∧ n ≤ maxLen ∧ Bytes w w.heap.size s n := by
  obtain ⟨s, len, cap, rfl⟩ := okWide_slice Tryz.underlying22 hv
  obtain ⟨fuel, hf⟩ := h
  rcases open_ints Tryz.underlying22 Tryz.underlying5 (by kernel_rfl) hf with ⟨hcs, _⟩ | ⟨a, l, c, zs, hcs, _, hl, hm, hz, _, hcell, hwz⟩
  · simp [Value.cells] at hcs
    obtain ⟨rfl, rfl, rfl⟩ := hcs
    exact ⟨none, 0, 0, rfl, Nat.zero_le _, .inl rfl⟩
  · simp [Value.cells] at hcs
    obtain ⟨rfl, rfl, rfl⟩ := hcs
    simp at hz
    refine ⟨some a, len, cap, rfl, by omega, ?_⟩
    by_cases h0 : len = 0
    · exact .inl h0
    · have c0 := hcell 0 (by omega)
      have c0' : w.cell? a = some (.int .u8 (zs.getD 0 0)) := by simpa [Addr.add] using c0
      have hs := World.cell?_spot c0'
      have hg : a.block < w.heap.size := by
        apply Classical.byContradiction
        intro hn
        have : w.heap[a.block]? = none := by simp; omega
        simp [World.cell?, this] at c0'
      obtain ⟨g, off, spot⟩ := a
      simp at hs
      subst hs
      refine .inr ⟨g, off, rfl, hg, fun i hi => ?_⟩
      have ci := hcell i (by omega)
      have e : (Addr.add ⟨g, off, none⟩ i) = ⟨g, off + i, none⟩ := by
        by_cases h : i = 0
        · subst h; rfl
        · simp [Addr.add, h]
      rw [e] at ci
      have hmem : zs.getD i 0 ∈ zs := by
        rw [List.getD_eq_getElem?_getD, List.getElem?_eq_getElem (by omega)]
        exact List.getElem_mem (by omega)
      have hw := bounds_u8 (hwz _ hmem)
      exact ⟨_, ci, by omega, by omega⟩
theorem Bytes.up {w w' : World} {s : Option Addr} {n : Nat} (h : Bytes w w.heap.size s n) (hb : Below w.heap.size w w') : Bytes w' w'.heap.size s n := by
  have hz := hb.size
  rcases h with h | ⟨g, o, hs, hg, hc⟩
  · exact .inl h
  · refine .inr ⟨g, o, hs, by omega, fun k hk => ?_⟩
    obtain ⟨b, h1, h2⟩ := hc k hk
    exact ⟨b, (hb.cell (p := ⟨g, o + k, none⟩) hg).trans h1, h2⟩


end Go.Proofs.YtfgikjipkfggbaaGreatDoor
