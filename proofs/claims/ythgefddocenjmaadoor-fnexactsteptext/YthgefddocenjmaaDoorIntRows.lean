/- Lists of integers as they lie in memory between two blocks, and how the laws copy and count them. Conditions: at most 1048576 integers where they are copied. -/
import Derived.Test.YthgefddocenjmaaDoorQuietC
import Derived.Test.YthgefddocenjmaaDoorLists
import Derived.Laws.MakeOwn
import Derived.Deep.QuietTactic
import Derived.BigQuiet
namespace Go.Proofs.YthgefddocenjmaaDoor
set_option linter.unusedSimpArgs false
set_option linter.unusedVariables false
set_option maxRecDepth 100000
open Go.RowKit

theorem new_cell {w : World} {C : Array Value} {t : TypeId} {j : Nat} (h : j < C.size) : ((w.alloc (.cells C t)).cell? ⟨w.heap.size, j, none⟩).isSome = true := by
  simp [go_sem, h]
theorem new_frozen {w : World} {C : Array Value} {t : TypeId} {j : Nat} : (w.alloc (.cells C t)).frozen? ⟨w.heap.size, j, none⟩ = false := by
  simp [go_sem]

theorem setC_at {w : World} {g i : Nat} {v : Value} (h : (w.cell? ⟨g, i, none⟩).isSome = true) : (w.setCell ⟨g, i, none⟩ v).cell? ⟨g, i, none⟩ = some v := World.cell?_setCell_same' w _ v h
theorem setC_off {w : World} {g i j : Nat} {v : Value} (h : i ≠ j) : (w.setCell ⟨g, i, none⟩ v).cell? ⟨g, j, none⟩ = w.cell? ⟨g, j, none⟩ := by
  apply World.cell?_setCell_other
  intro e
  injection e with e1 e2
  exact h e2
theorem setC_some {w : World} {g i j : Nat} {v : Value} (h : (w.cell? ⟨g, j, none⟩).isSome = true) : ((w.setCell ⟨g, i, none⟩ v).cell? ⟨g, j, none⟩).isSome = true := by
  by_cases e : i = j
  · subst e; rw [setC_at h]; rfl
  · rw [setC_off e]; exact h
def Keep (lo hi : Nat) (w w' : World) : Prop := ∀ k, lo ≤ k → k < hi → w'.heap[k]? = w.heap[k]?
theorem Keep.of_below {lo hi B : Nat} {w w' : World} (hb : Below B w w') (h : hi ≤ B) : Keep lo hi w w' := fun k _ hk => hb.block k (by omega)
theorem Keep.of_set {lo hi : Nat} {w : World} {a : Addr} {v : Value} (h : a.block < lo) : Keep lo hi w (w.setCell a v) := fun k hk _ => Below.heap_setCell w a v k (by omega)
theorem Keep.trans {lo hi : Nat} {w w1 w2 : World} (h : Keep lo hi w w1) (h' : Keep lo hi w1 w2) : Keep lo hi w w2 := fun k a b => (h' k a b).trans (h k a b)
theorem Keep.cell {lo hi : Nat} {w w' : World} (h : Keep lo hi w w') {p : Addr} (h1 : lo ≤ p.block) (h2 : p.block < hi) : w'.cell? p = w.cell? p := World.cell?_of_block (w := w) (h p.block h1 h2)

def IntsR (w : World) (lo hi : Nat) (s : Option Addr) (l : List Int) : Prop :=
  l = [] ∨ ∃ g off, s = some ⟨g, off, none⟩ ∧ lo ≤ g ∧ g < hi ∧ ∀ i, i < l.length → w.cell? ⟨g, off + i, none⟩ = some (.int .i64 (l.getD i 0))
theorem IntsR.keep {w w' : World} {lo hi : Nat} {s : Option Addr} {l : List Int} (h : IntsR w lo hi s l) (hb : Keep lo hi w w') : IntsR w' lo hi s l := by
  rcases h with h | ⟨g, o, hs, h1, h2, hc⟩
  · exact .inl h
  · exact .inr ⟨g, o, hs, h1, h2, fun i hi => (hb.cell h1 h2).trans (hc i hi)⟩
theorem IntsR.mono {w : World} {lo hi lo' hi' : Nat} {s : Option Addr} {l : List Int} (h : IntsR w lo hi s l) (h1 : lo' ≤ lo) (h2 : hi ≤ hi') : IntsR w lo' hi' s l := by
  rcases h with h | ⟨g, o, hs, a, b, hc⟩
  · exact .inl h
  · exact .inr ⟨g, o, hs, by omega, by omega, hc⟩
theorem IntsR.ints {w : World} {lo hi : Nat} {s : Option Addr} {l : List Int} (h : IntsR w lo hi s l) (hh : hi ≤ w.heap.size) : Ints w s l := by
  rcases h with h | ⟨g, o, hs, a, b, hc⟩
  · exact .inl h
  · exact .inr ⟨g, o, hs, by omega, hc⟩

theorem mkInt (n : Nat) (hn : n ≤ 1048576) (w : World) : (Instr.makeSlice 42 (.int .i64 (n : Int)) (.int .i64 (n : Int))).run Tryd.prog w = .ok (.slice (some ⟨w.heap.size, 0, none⟩) n n) (w.alloc (.cells (madeCells #[.int .i64 0] (n * 1)) 3)) := by
  have h := run_make (P := Tryd.prog) w 42 3 _ (.int .i64 0) Tryd.underlying42 rfl rfl .i64 .i64 n n (by omega) (Int.le_refl _) (by show (8 : Int) * _ ≤ _; omega) (by omega)
  have e : (Value.int .i64 0).cells = #[.int .i64 0] := rfl
  have e' : ∀ t, Tryd.prog.info? 3 = some t → t.size = 1 := by intro t h; cases h; rfl
  rw [e, e' _ rfl] at h
  simpa using h
set_option maxHeartbeats 400000 in
theorem toIntS_some (g off c : Nat) (l : List Int) (w : World) (hg : g < w.heap.size) (hl : l.length ≤ 1048576) (hc : ∀ i, i < l.length → w.cell? ⟨g, off + i, none⟩ = some (.int .i64 (l.getD i 0))) :
    Calls Tryd.prog 43 #[.slice (some ⟨g, off, none⟩) l.length c] w fun e w' => e = .returned (.slice (some ⟨w.heap.size, 0, none⟩) l.length l.length) ∧ Below w.heap.size w w' ∧ w.heap.size < w'.heap.size ∧ ∀ i, i < l.length → w'.cell? ⟨w.heap.size, 0 + i, none⟩ = some (.int .i64 (l.getD i 0)) := by
  have hmk := mkInt l.length hl
  have HC : Hid (∀ i, i < l.length → w.cell? ⟨g, off + i, none⟩ = some (.int .i64 (l.getD i 0))) := hc
  clear hc
  go_enter Tryd.func43, Tryd.ntmps43
  go_wp2
  clear hmk
  go_loopw [4] (fun i wr => ∃ k : Nat, k ≤ l.length ∧ i = .int .i64 k ∧ Below w.heap.size w wr ∧ w.heap.size < wr.heap.size ∧ (∀ j, j < l.length → (wr.cell? ⟨w.heap.size, 0 + j, none⟩).isSome = true) ∧ (∀ j, j < l.length → wr.frozen? ⟨w.heap.size, 0 + j, none⟩ = false) ∧ (∀ i, i < k → wr.cell? ⟨w.heap.size, 0 + i, none⟩ = some (.int .i64 (l.getD i 0)))) (fun i _ => l.length - (intOf i).toNat)
  case atStart => exact ⟨0, Nat.zero_le _, rfl, (Below.refl _ _).alloc (Nat.le_refl _) _, by simp, fun j hj => new_cell (by rw [size_madeCells]; omega), fun j hj => new_frozen, fun i hi => absurd hi (Nat.not_lt_zero _)⟩
  case round =>
    obtain ⟨k, hk, rfl, hb, hsz, hso, hfz, hdone⟩ := hrel
    have HB : Hid (Below w.heap.size w wr) := hb
    have HSO : Hid (∀ j, j < l.length → (wr.cell? ⟨w.heap.size, 0 + j, none⟩).isSome = true) := hso
    have HFZ : Hid (∀ j, j < l.length → wr.frozen? ⟨w.heap.size, 0 + j, none⟩ = false) := hfz
    have HD : Hid (∀ i, i < k → wr.cell? ⟨w.heap.size, 0 + i, none⟩ = some (.int .i64 (l.getD i 0))) := hdone
    clear hb hso hfz hdone
    by_cases hlt : k < l.length
    · have f0 := (HB.out.cell (p := ⟨g, off + k, none⟩) hg).trans (HC.out k hlt)
      generalize hx : l.getD k 0 = x at f0
      have HX : Hid (l.getD k 0 = x) := hx
      clear hx
      have b0 : (0 : Int) ≤ (k : Int) := by omega
      have b1 : (k : Int) < (l.length : Int) := by omega
      obtain ⟨u, hu⟩ := Option.isSome_iff_exists.1 (HSO.out k hlt)
      have hz := HFZ.out k hlt
      rw [Nat.zero_add] at hu hz
      go_wp2
      go_roundw
      case rel =>
        refine ⟨k + 1, by omega, by go_num, HB.out.setCell (p := ⟨w.heap.size, k, none⟩) (Nat.le_refl _) _, by simpa using hsz, ?_, ?_, ?_⟩
        · intro j hj
          exact setC_some (HSO.out j hj)
        · intro j hj
          rw [World.frozen?_setCell]
          exact HFZ.out j hj
        · intro i hi
          by_cases e : i = k
          · subst e
            rw [HX.out, Nat.zero_add]
            exact setC_at (by rw [hu]; rfl)
          · rw [setC_off (by omega)]
            exact HD.out i (by omega)
      case measure => simp [intOf]; omega
    · go_wp2
      go_ret
      have : k = l.length := by omega
      subst this
      exact ⟨rfl, HB.out, hsz, HD.out⟩

set_option maxHeartbeats 400000 in
theorem toIntS_none (s : Option Addr) (c : Nat) (w : World) :
    Calls Tryd.prog 43 #[.slice s 0 c] w fun e w' => e = .returned (.slice (some ⟨w.heap.size, 0, none⟩) 0 0) ∧ Below w.heap.size w w' ∧ w.heap.size < w'.heap.size := by
  have hmk := mkInt 0 (by omega)
  simp only [Int.natCast_zero] at hmk
  go_enter Tryd.func43, Tryd.ntmps43
  go_wp2
  clear hmk
  go_loopw [4] (fun i wr => i = .int .i64 0 ∧ Below w.heap.size w wr ∧ w.heap.size < wr.heap.size) (fun _ _ => 0)
  case atStart => exact ⟨rfl, (Below.refl _ _).alloc (Nat.le_refl _) _, by simp⟩
  case round =>
    obtain ⟨rfl, hb, hsz⟩ := hrel
    go_wp2
    go_ret
    exact ⟨rfl, hb, hsz⟩

theorem toIntS_new (s : Option Addr) (c lo hi : Nat) (l : List Int) (w : World) (h : IntsR w lo hi s l) (hB : hi ≤ w.heap.size) (hl : l.length ≤ 1048576) :
    Calls Tryd.prog 43 #[.slice s l.length c] w fun e w' => ∃ s' : Option Addr, e = .returned (.slice s' l.length l.length) ∧ Below w.heap.size w w' ∧ w.heap.size < w'.heap.size ∧ IntsR w' w.heap.size w'.heap.size s' l := by
  rcases h with rfl | ⟨g, off, rfl, hg, hg', hc⟩
  · refine (toIntS_none s c w).mono ?_
    rintro e w' ⟨rfl, hb, hsz⟩
    exact ⟨_, rfl, hb, hsz, .inl rfl⟩
  · refine (toIntS_some g off c l w (by omega) hl hc).mono ?_
    rintro e w' ⟨rfl, hb, hsz, hc'⟩
    exact ⟨_, rfl, hb, hsz, .inr ⟨_, _, rfl, Nat.le_refl _, hsz, hc'⟩⟩

theorem setC_blk {w : World} {g g' i j : Nat} {v : Value} (h : g ≠ g') : (w.setCell ⟨g, i, none⟩ v).cell? ⟨g', j, none⟩ = w.cell? ⟨g', j, none⟩ := by
  apply World.cell?_setCell_other
  intro e
  injection e with e1 e2
  exact h e1

theorem bcell {W w1 : World} (hb : Below W.heap.size W w1) : (∀ b o, b < W.heap.size → w1.cell? ⟨b, o, none⟩ = W.cell? ⟨b, o, none⟩) ∧ (∀ b o, b < W.heap.size → w1.frozen? ⟨b, o, none⟩ = W.frozen? ⟨b, o, none⟩) :=
  ⟨fun b o h => hb.cell (p := ⟨b, o, none⟩) h, fun b o h => hb.frozen (p := ⟨b, o, none⟩) h⟩

theorem szIntS_any (s : Option Addr) (n c : Nat) (q : Int) (w : World) (hn : n ≤ maxLen) (hq : 0 ≤ q) (hq' : q ≤ 1048576) : Calls Tryd.prog 41 #[.slice s n c, .int .i64 q] w fun e w' => e = .returned (.int .i64 (if q < n then -1 else q - (n : Int))) ∧ w' = w := by
  unfold maxLen at hn
  by_cases h : q < n
  · rw [if_pos h]
    have h1 : q - (n : Int) < 0 := by omega
    go_enter Tryd.func41, Tryd.ntmps41
    go_wp2
    go_ret
    exact ⟨rfl, rfl⟩
  · rw [if_neg h]
    have h1 : ¬ q - (n : Int) < 0 := by omega
    go_enter Tryd.func41, Tryd.ntmps41
    go_wp2
    go_ret
    exact ⟨rfl, rfl⟩


end Go.Proofs.YthgefddocenjmaaDoor
