/- Lists of integers that are written and looked at again: what the laws' marking and holding functions do. Conditions: lists of at most a thousand million numbers, marks of at most a thousand million. -/
import Derived.Test.YtjffdcnninhicaiLists
namespace Go.Proofs.Ytjffdcnninhicai
set_option linter.unusedSimpArgs false
set_option linter.unusedVariables false
set_option maxRecDepth 100000
open Go.RowKit

theorem setCell_at {w : World} {a : Addr} {v u : Value} (h : w.cell? a = some u) : (w.setCell a v).cell? a = some v := by
  apply World.cell?_setCell_same
  exact h
theorem setCell_off {w : World} {g i j : Nat} {v : Value} (h : i ≠ j) : (w.setCell ⟨g, i, none⟩ v).cell? ⟨g, j, none⟩ = w.cell? ⟨g, j, none⟩ := by
  apply World.cell?_setCell_other
  intro e
  injection e with e1 e2
  exact h e2

structure Only (g : Nat) (w w' : World) : Prop where
  os : w'.os = w.os
  tape : w'.tape = w.tape
  output : w'.output = w.output
  size : w.heap.size ≤ w'.heap.size
  block : ∀ k, k < w.heap.size → k ≠ g → w'.heap[k]? = w.heap[k]?

theorem Only.refl (g : Nat) (w : World) : Only g w w := ⟨rfl, rfl, rfl, Nat.le_refl _, fun _ _ _ => rfl⟩
theorem Only.setCell {g : Nat} {w w' : World} (h : Only g w w') (o : Nat) (v : Value) : Only g w (w'.setCell ⟨g, o, none⟩ v) :=
  ⟨h.os, h.tape, h.output, by simpa using h.size, fun k hk hg => (Below.heap_setCell w' ⟨g, o, none⟩ v k hg).trans (h.block k hk hg)⟩
theorem Only.cell {g : Nat} {w w' : World} (h : Only g w w') {p : Addr} (hp : p.block < w.heap.size) (hg : p.block ≠ g) : w'.cell? p = w.cell? p := World.cell?_of_block (w := w) (h.block p.block hp hg)
theorem Only.frozen {g : Nat} {w w' : World} (h : Only g w w') {p : Addr} (hp : p.block < w.heap.size) (hg : p.block ≠ g) : w'.frozen? p = w.frozen? p := World.frozen?_of_block (w := w) (h.block p.block hp hg)
theorem Only.below {g B : Nat} {w w' : World} (h : Only g w w') (hB : B ≤ g) (hs : B ≤ w.heap.size) : Below B w w' :=
  ⟨h.os, h.tape, h.output, h.size, fun k hk => h.block k (by omega) (by omega)⟩

set_option maxHeartbeats 400000 in
theorem markIntS_some (g o n c : Nat) (q : Int) (w : World) (hs : ∀ i, i < n → (w.cell? ⟨g, o + i, none⟩).isSome = true) (hf : ∀ i, i < n → w.frozen? ⟨g, o + i, none⟩ = false) (hn : n ≤ 1000000000) (hq : 0 ≤ q) (hq' : q ≤ 1000000000) :
    Calls Try.prog 39 #[.slice (some ⟨g, o, none⟩) n c, .int .i64 q] w fun e w' => e = .returned (.int .i64 (q + n)) ∧ Only g w w' ∧ (∀ i, i < n → w'.cell? ⟨g, o + i, none⟩ = some (.int .i64 (q + i))) := by
  have HS : Hid (∀ i, i < n → (w.cell? ⟨g, o + i, none⟩).isSome = true) := hs
  have HF : Hid (∀ i, i < n → w.frozen? ⟨g, o + i, none⟩ = false) := hf
  clear hs hf
  go_enter Try.func39, Try.ntmps39
  go_wp2
  go_loopw [1, 5] (fun a i wr => ∃ k : Nat, k ≤ n ∧ i = .int .i64 k ∧ a = .int .i64 (q + k) ∧ Only g w wr ∧ (∀ b, wr.frozen? b = w.frozen? b) ∧ (∀ j, j < n → (wr.cell? ⟨g, o + j, none⟩).isSome = true) ∧ (∀ j, j < k → wr.cell? ⟨g, o + j, none⟩ = some (.int .i64 (q + j)))) (fun _ i _ => n - (intOf i).toNat)
  case atStart => exact ⟨0, Nat.zero_le _, rfl, by simp, Only.refl _ _, fun _ => rfl, HS.out, fun j hj => absurd hj (Nat.not_lt_zero _)⟩
  case round =>
    obtain ⟨k, hk, rfl, rfl, ho, hfz, hso, hj⟩ := hrel
    have HO : Hid (Only g w wr) := ho
    have HZ : Hid (∀ b, wr.frozen? b = w.frozen? b) := hfz
    have HSO : Hid (∀ j, j < n → (wr.cell? ⟨g, o + j, none⟩).isSome = true) := hso
    have HJ : Hid (∀ j, j < k → wr.cell? ⟨g, o + j, none⟩ = some (.int .i64 (q + j))) := hj
    clear ho hfz hso hj
    by_cases hlt : k < n
    · obtain ⟨u, hu⟩ := Option.isSome_iff_exists.1 (HSO.out k hlt)
      have hz : wr.frozen? ⟨g, o + k, none⟩ = false := (HZ.out _).trans (HF.out k hlt)
      have b0 : (0 : Int) ≤ (k : Int) := by omega
      have b1 : (k : Int) < (n : Int) := by omega
      go_wp2
      go_roundw
      case rel =>
        refine ⟨k + 1, by omega, by go_num, by go_num, HO.out.setCell _ _, fun b => by rw [World.frozen?_setCell]; exact HZ.out b, ?_, ?_⟩
        · intro j hj
          by_cases e : j = k
          · subst e; rw [setCell_at hu]; rfl
          · rw [setCell_off (by omega)]; exact HSO.out j hj
        · intro j hj
          by_cases e : j = k
          · subst e; exact setCell_at hu
          · rw [setCell_off (by omega)]; exact HJ.out j (by omega)
      case measure => simp [intOf]; omega
    · go_wp2
      go_ret
      have : k = n := by omega
      subst this
      exact ⟨rfl, HO.out, HJ.out⟩

set_option maxHeartbeats 400000 in
theorem markIntS_none (s : Option Addr) (c : Nat) (q : Int) (w : World) :
    Calls Try.prog 39 #[.slice s 0 c, .int .i64 q] w fun e w' => e = .returned (.int .i64 q) ∧ w' = w := by
  go_enter Try.func39, Try.ntmps39
  go_wp2
  go_loop [1, 5] (fun a i => i = .int .i64 0 ∧ a = .int .i64 q) (fun _ _ => 0)
  case atStart => exact ⟨rfl, rfl⟩
  case round =>
    obtain ⟨rfl, rfl⟩ := hrel
    go_wp2
    go_ret
    exact ⟨rfl, rfl⟩

set_option maxHeartbeats 400000 in
theorem heldIntS_some (g o n c : Nat) (q : Int) (w : World) (hs : ∀ i, i < n → w.cell? ⟨g, o + i, none⟩ = some (.int .i64 (q + i))) (hn : n ≤ 1000000000) (hq : 0 ≤ q) (hq' : q ≤ 1000000000) :
    Calls Try.prog 40 #[.slice (some ⟨g, o, none⟩) n c, .int .i64 q] w fun e w' => e = .returned (.int .i64 (q + n)) ∧ w' = w := by
  have HS : Hid (∀ i, i < n → w.cell? ⟨g, o + i, none⟩ = some (.int .i64 (q + i))) := hs
  clear hs
  go_enter Try.func40, Try.ntmps40
  go_wp2
  go_loop [1, 5] (fun a i => ∃ k : Nat, k ≤ n ∧ i = .int .i64 k ∧ a = .int .i64 (q + k)) (fun _ i => n - (intOf i).toNat)
  case atStart => exact ⟨0, Nat.zero_le _, rfl, by simp⟩
  case round =>
    obtain ⟨k, hk, rfl, rfl⟩ := hrel
    by_cases hlt : k < n
    · have hu := HS.out k hlt
      have b0 : (0 : Int) ≤ (k : Int) := by omega
      have b1 : (k : Int) < (n : Int) := by omega
      go_wp2
      go_round
      case rel => exact ⟨k + 1, by omega, by go_num, by go_num⟩
      case measure => simp [intOf]; omega
    · go_wp2
      go_ret
      have : k = n := by omega
      subst this
      exact ⟨rfl, rfl⟩

set_option maxHeartbeats 400000 in
theorem heldIntS_none (s : Option Addr) (c : Nat) (q : Int) (w : World) :
    Calls Try.prog 40 #[.slice s 0 c, .int .i64 q] w fun e w' => e = .returned (.int .i64 q) ∧ w' = w := by
  go_enter Try.func40, Try.ntmps40
  go_wp2
  go_loop [1, 5] (fun a i => i = .int .i64 0 ∧ a = .int .i64 q) (fun _ _ => 0)
  case atStart => exact ⟨rfl, rfl⟩
  case round =>
    obtain ⟨rfl, rfl⟩ := hrel
    go_wp2
    go_ret
    exact ⟨rfl, rfl⟩

end Go.Proofs.Ytjffdcnninhicai
