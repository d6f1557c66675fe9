/- What the laws' small functions make of channels: how great one is, a copy, whether two are alike, marks. Conditions: lists of at most 1048576 numbers where they are copied, marked or compared. -/
import Derived.Test.YthgefddocenjmaaDoorQuietC
import Derived.Test.YthgefddocenjmaaDoorOwnN
import Derived.Test.YthgefddocenjmaaDoorChDefs
import Derived.Test.YthgefddocenjmaaDoorChA
import Derived.Test.YthgefddocenjmaaDoorLists
import Derived.Test.YthgefddocenjmaaDoorMarks
namespace Go.Proofs.YthgefddocenjmaaDoor
set_option linter.unusedSimpArgs false
set_option linter.unusedVariables false
set_option maxRecDepth 100000
open Go.RowKit

/- a list in new memory, that may be written -/
def NewI (w : World) (lo hi : Nat) (s : Option Addr) (l : List Int) : Prop :=
  l = [] ∨ ∃ g, s = some ⟨g, 0, none⟩ ∧ lo ≤ g ∧ g < hi ∧ (∀ i, i < l.length → w.cell? ⟨g, 0 + i, none⟩ = some (.int .i64 (l.getD i 0))) ∧ (∀ i, i < l.length → w.frozen? ⟨g, 0 + i, none⟩ = false)
/- a list that has been marked from q on -/
def MarkI (w : World) (lo hi : Nat) (s : Option Addr) (n : Nat) (q : Int) : Prop :=
  n = 0 ∨ ∃ g, s = some ⟨g, 0, none⟩ ∧ lo ≤ g ∧ g < hi ∧ (∀ i, i < n → w.cell? ⟨g, 0 + i, none⟩ = some (.int .i64 (q + i)))
theorem NewI.keep {w w' : World} {lo hi : Nat} {s : Option Addr} {l : List Int} (h : NewI w lo hi s l) (hb : ∀ k, lo ≤ k → k < hi → w'.heap[k]? = w.heap[k]?) : NewI w' lo hi s l := by
  rcases h with h | ⟨g, hs, h1, h2, h3, h4⟩
  · exact .inl h
  · exact .inr ⟨g, hs, h1, h2, fun i hi => (World.cell?_of_block (w := w) (a := ⟨g, 0 + i, none⟩) (hb g h1 h2)).trans (h3 i hi), fun i hi => (World.frozen?_of_block (w := w) (a := ⟨g, 0 + i, none⟩) (hb g h1 h2)).trans (h4 i hi)⟩
theorem MarkI.keep {w w' : World} {lo hi : Nat} {s : Option Addr} {n : Nat} {q : Int} (h : MarkI w lo hi s n q) (hb : ∀ k, lo ≤ k → k < hi → w'.heap[k]? = w.heap[k]?) : MarkI w' lo hi s n q := by
  rcases h with h | ⟨g, hs, h1, h2, h3⟩
  · exact .inl h
  · exact .inr ⟨g, hs, h1, h2, fun i hi => (World.cell?_of_block (w := w) (a := ⟨g, 0 + i, none⟩) (hb g h1 h2)).trans (h3 i hi)⟩
theorem NewI.row {w : World} {lo hi : Nat} {s : Option Addr} {l : List Int} (h : NewI w lo hi s l) : RowI w hi s l := by
  rcases h with h | ⟨g, hs, h1, h2, h3, -⟩
  · exact .inl h
  · exact .inr ⟨g, 0, hs, h2, h3⟩
theorem RowI.ints {w : World} {B : Nat} {s : Option Addr} {l : List Int} (h : RowI w B s l) (hB : B ≤ w.heap.size) : Ints w s l := by
  rcases h with h | ⟨g, o, hs, hg, hc⟩
  · exact .inl h
  · exact .inr ⟨g, o, hs, by omega, hc⟩
theorem OwnN.new {w : World} {base : Nat} {s : Option Addr} {n c : Nat} {l : List Int} (h : OwnN w base (.slice s n c) l) : NewI w base w.heap.size s l := by
  by_cases h0 : l.length = 0
  · exact .inl (List.length_eq_zero_iff.1 h0)
  · obtain ⟨g, cap, hv, hb, hlt⟩ := h.lt (by omega)
    injection hv with e1 e2 e3
    subst e1 e2 e3
    exact .inr ⟨g, rfl, hb, hlt, fun i hi => by rw [Nat.zero_add]; exact h.cell hi, fun i hi => World.ownsRow.frozenAt h (0 + i)⟩

/- all but one list's block is as it was -/
structure Exc (lo hi : Nat) (w w' : World) : Prop where
  os : w'.os = w.os
  tape : w'.tape = w.tape
  output : w'.output = w.output
  size : w.heap.size ≤ w'.heap.size
  block : ∀ k, k < w.heap.size → (k < lo ∨ hi ≤ k) → w'.heap[k]? = w.heap[k]?
theorem Exc.below {lo hi B : Nat} {w w' : World} (h : Exc lo hi w w') (hB : B ≤ lo) (hs : B ≤ w.heap.size) : Below B w w' := ⟨h.os, h.tape, h.output, h.size, fun k hk => h.block k (by omega) (.inl (by omega))⟩

theorem mkI (n : Nat) (hn : n ≤ 1048576) (w : World) : (Instr.makeSlice 42 (.int .i64 (n : Int)) (.int .i64 (n : Int))).run Tryd.prog w = .ok (.slice (some ⟨w.heap.size, 0, none⟩) n n) (w.alloc (.cells (madeCells #[.int .i64 0] (n * 1)) 3)) := by
  have h := run_make (P := Tryd.prog) w 42 3 _ (.int .i64 0) Tryd.underlying42 rfl rfl .i64 .i64 n n (by omega) (Int.le_refl _) (by show (8 : Int) * _ ≤ _; omega) (by omega)
  have e : (Value.int .i64 0).cells = #[.int .i64 0] := rfl
  have e' : ∀ t, Tryd.prog.info? 3 = some t → t.size = 1 := by intro t h; cases h; rfl
  rw [e, e' _ rfl] at h
  simpa using h
theorem newCell {w : World} {C : Array Value} {t : TypeId} {j : Nat} (h : j < C.size) : ((w.alloc (.cells C t)).cell? ⟨w.heap.size, j, none⟩).isSome = true := by
  simp [go_sem, h]
theorem newFrozen {w : World} {C : Array Value} {t : TypeId} {j : Nat} : (w.alloc (.cells C t)).frozen? ⟨w.heap.size, j, none⟩ = false := by
  simp [go_sem]
theorem setSome {w : World} {g i j : Nat} {v : Value} (h : (w.cell? ⟨g, j, none⟩).isSome = true) : ((w.setCell ⟨g, i, none⟩ v).cell? ⟨g, j, none⟩).isSome = true := by
  obtain ⟨u, hu⟩ := Option.isSome_iff_exists.1 h
  by_cases e : i = j
  · subst e; rw [cellAt hu]; rfl
  · rw [cellOff e]; exact h

set_option maxHeartbeats 400000 in
theorem toI_some (g off c : Nat) (l : List Int) (w : World) (hg : g < w.heap.size) (hl : l.length ≤ 1048576) (hc : ∀ i, i < l.length → w.cell? ⟨g, off + i, none⟩ = some (.int .i64 (l.getD i 0))) :
    Calls Tryd.prog 43 #[.slice (some ⟨g, off, none⟩) l.length c] w fun e w' => e = .returned (.slice (some ⟨w.heap.size, 0, none⟩) l.length l.length) ∧ Below w.heap.size w w' ∧ w.heap.size < w'.heap.size ∧ (∀ i, i < l.length → w'.cell? ⟨w.heap.size, 0 + i, none⟩ = some (.int .i64 (l.getD i 0))) ∧ (∀ j, j < l.length → w'.frozen? ⟨w.heap.size, 0 + j, none⟩ = false) := by
  have hmk := mkI l.length hl
  have HC : Hid (∀ i, i < l.length → w.cell? ⟨g, off + i, none⟩ = some (.int .i64 (l.getD i 0))) := hc
  clear hc
  go_enter Tryd.func43, Tryd.ntmps43
  go_wp2
  clear hmk
  go_loopw [4] (fun i wr => ∃ k : Nat, k ≤ l.length ∧ i = .int .i64 k ∧ Below w.heap.size w wr ∧ w.heap.size < wr.heap.size ∧ (∀ j, j < l.length → (wr.cell? ⟨w.heap.size, 0 + j, none⟩).isSome = true) ∧ (∀ j, j < l.length → wr.frozen? ⟨w.heap.size, 0 + j, none⟩ = false) ∧ (∀ i, i < k → wr.cell? ⟨w.heap.size, 0 + i, none⟩ = some (.int .i64 (l.getD i 0)))) (fun i _ => l.length - (intOf i).toNat)
  case atStart => exact ⟨0, Nat.zero_le _, rfl, (Below.refl _ _).alloc (Nat.le_refl _) _, by simp, fun j hj => newCell (by rw [size_madeCells]; omega), fun j hj => newFrozen, fun i hi => absurd hi (Nat.not_lt_zero _)⟩
  case round =>
    obtain ⟨k, hk, rfl, hb, hsz, hso, hfz, hdone⟩ := hrel
    have HB : Hid (Below w.heap.size w wr) := hb
    have HSO : Hid (∀ j, j < l.length → (wr.cell? ⟨w.heap.size, 0 + j, none⟩).isSome = true) := hso
    have HFZ : Hid (∀ j, j < l.length → wr.frozen? ⟨w.heap.size, 0 + j, none⟩ = false) := hfz
    have HD : Hid (∀ i, i < k → wr.cell? ⟨w.heap.size, 0 + i, none⟩ = some (.int .i64 (l.getD i 0))) := hdone
    clear hb hso hfz hdone
    by_cases hlt : k < l.length
    · have f0 := (HB.out.cell (p := ⟨g, off + k, none⟩) hg).trans (HC.out k hlt)
      generalize hx : l.getD k 0 = x at f0
      have HX : Hid (l.getD k 0 = x) := hx
      clear hx
      have b0 : (0 : Int) ≤ (k : Int) := by omega
      have b1 : (k : Int) < (l.length : Int) := by omega
      obtain ⟨u, hu⟩ := Option.isSome_iff_exists.1 (HSO.out k hlt)
      have hz := HFZ.out k hlt
      rw [Nat.zero_add] at hu hz
      go_wp2
      go_roundw
      case rel =>
        refine ⟨k + 1, by omega, by go_num, HB.out.setCell (p := ⟨w.heap.size, k, none⟩) (Nat.le_refl _) _, by simpa using hsz, ?_, ?_, ?_⟩
        · intro j hj
          exact setSome (HSO.out j hj)
        · intro j hj
          rw [World.frozen?_setCell]
          exact HFZ.out j hj
        · intro i hi
          by_cases e : i = k
          · subst e
            rw [HX.out, Nat.zero_add]
            exact cellAt hu
          · rw [cellOff (by omega)]
            exact HD.out i (by omega)
      case measure => simp [intOf]; omega
    · go_wp2
      go_ret
      have : k = l.length := by omega
      subst this
      exact ⟨rfl, HB.out, hsz, HD.out, HFZ.out⟩

set_option maxHeartbeats 400000 in
theorem toI_none (s : Option Addr) (c : Nat) (w : World) :
    Calls Tryd.prog 43 #[.slice s 0 c] w fun e w' => e = .returned (.slice (some ⟨w.heap.size, 0, none⟩) 0 0) ∧ Below w.heap.size w w' ∧ w.heap.size < w'.heap.size := by
  have hmk := mkI 0 (by omega)
  simp only [Int.natCast_zero] at hmk
  go_enter Tryd.func43, Tryd.ntmps43
  go_wp2
  clear hmk
  go_loopw [4] (fun i wr => i = .int .i64 0 ∧ Below w.heap.size w wr ∧ w.heap.size < wr.heap.size) (fun _ _ => 0)
  case atStart => exact ⟨rfl, (Below.refl _ _).alloc (Nat.le_refl _) _, by simp⟩
  case round =>
    obtain ⟨rfl, hb, hsz⟩ := hrel
    go_wp2
    go_ret
    exact ⟨rfl, hb, hsz⟩

theorem toI_new (s : Option Addr) (c B : Nat) (l : List Int) (w : World) (h : RowI w B s l) (hB : B ≤ w.heap.size) (hl : l.length ≤ 1048576) :
    Calls Tryd.prog 43 #[.slice s l.length c] w fun e w' => ∃ s' : Option Addr, e = .returned (.slice s' l.length l.length) ∧ Below w.heap.size w w' ∧ w.heap.size < w'.heap.size ∧ NewI w' w.heap.size w'.heap.size s' l := by
  rcases h with rfl | ⟨g, off, rfl, hg, hc⟩
  · refine (toI_none s c w).mono ?_
    rintro e w' ⟨rfl, hb, hsz⟩
    exact ⟨_, rfl, hb, hsz, .inl rfl⟩
  · refine (toI_some g off c l w (by omega) hl hc).mono ?_
    rintro e w' ⟨rfl, hb, hsz, hc', hf'⟩
    exact ⟨_, rfl, hb, hsz, .inr ⟨_, rfl, Nat.le_refl _, hsz, hc', hf'⟩⟩

def leftI (q : Int) (n : Nat) : Int := if q - n < 0 then -1 else q - n
theorem leftI_neg {q : Int} {n : Nat} (h : q - n < 0) : leftI q n = -1 := if_pos h
theorem leftI_pos {q : Int} {n : Nat} (h : ¬ q - n < 0) : leftI q n = q - n := if_neg h
theorem ret_i {a b : Int} (h : a = b) : Ending.returned (.int .i64 a) = .returned (.int .i64 b) := by rw [h]
theorem szI_any (s : Option Addr) (n c : Nat) (q : Int) (w : World) (hn : n ≤ maxLen) (h0 : 0 ≤ q) (hq : q ≤ 1048576) : Calls Tryd.prog 41 #[.slice s n c, .int .i64 q] w fun e w' => e = .returned (.int .i64 (leftI q n)) ∧ w' = w := by
  unfold maxLen at hn
  by_cases h : q - (n : Int) < 0
  · go_enter Tryd.func41, Tryd.ntmps41
    go_wp2
    go_ret
    exact ⟨ret_i (leftI_neg h).symm, rfl⟩
  · go_enter Tryd.func41, Tryd.ntmps41
    go_wp2
    go_ret
    exact ⟨ret_i (leftI_pos (by omega)).symm, rfl⟩

theorem szChan_any (cap : Int) (s : Option Addr) (n c : Nat) (cl : Bool) (q : Int) (w : World) (hn : n ≤ maxLen) (h0 : 0 ≤ q) (hq : q ≤ 1048576) : Calls Tryd.prog 20 #[.agg #[.int .i64 cap, .slice s n c, .bool cl], .int .i64 q] w fun e w' => e = .returned (.int .i64 (leftI q n)) ∧ Below w.heap.size w w' := by
  by_cases h : q - (n : Int) < 0
  · have HL : Hid (leftI q n = -1) := leftI_neg h
    clear h
    go_enter Tryd.func20, Tryd.ntmps20
    go_wp2_with (go_at_call 41; refine (szI_any _ _ _ _ _ hn h0 hq).mono ?_; rintro e w' ⟨rfl, rfl⟩; rw [HL.out])
    go_ret
    exact ⟨ret_i HL.out.symm, (Below.refl _ _).alloc (Nat.le_refl _) _⟩
  · have HL : Hid (leftI q n = q - n) := leftI_pos h
    have hp : 0 ≤ leftI q n := by rw [HL.out]; omega
    clear h
    go_enter Tryd.func20, Tryd.ntmps20
    go_wp2_with (go_at_call 41; refine (szI_any _ _ _ _ _ hn h0 hq).mono ?_; rintro e w' ⟨rfl, rfl⟩)
    go_ret
    exact ⟨rfl, (Below.refl _ _).alloc (Nat.le_refl _) _⟩

set_option maxHeartbeats 1000000 in
theorem toChan_any (cap : Int) (s : Option Addr) (l : List Int) (c B : Nat) (cl : Bool) (w : World) (h : RowI w B s l) (hB : B ≤ w.heap.size) (hl : l.length ≤ 1048576) :
    Calls Tryd.prog 22 #[.agg #[.int .i64 cap, .slice s l.length c, .bool cl]] w fun e w' => ∃ s' : Option Addr, e = .returned (.agg #[.int .i64 cap, .slice s' l.length l.length, .bool cl]) ∧ Below w.heap.size w w' ∧ w.heap.size < w'.heap.size ∧ NewI w' w.heap.size w'.heap.size s' l := by
  have HR : Hid (RowI w B s l) := h
  clear h
  go_enter Tryd.func22, Tryd.ntmps22
  go_wp2_with fail
  refine (toI_new s c B l _ (HR.out.below ((((Below.refl B w).alloc hB _).alloc (by simp; omega) _).alloc (by simp; omega) _)) (by simp; omega) hl).mono ?_
  rintro e w1 ⟨s1, rfl, hb1, hz1, hi1⟩
  have z3 : w.heap.size + 3 < w1.heap.size := by simp at hz1; omega
  have z0 : w.heap.size < w1.heap.size := by omega
  have z1 : w.heap.size + 1 < w1.heap.size := by omega
  have z2 : w.heap.size + 1 + 1 < w1.heap.size := by omega
  have a2 : w1.cell? ⟨w.heap.size, 2, none⟩ = some (.bool cl) := by rw [hb1.cell (by simp; omega)]; simp [go_sem]
  have d0 : w1.cell? ⟨w.heap.size + 1, 0, none⟩ = some (.int .i64 0) := by rw [hb1.cell (by simp)]; simp [go_sem]
  have d1 : w1.cell? ⟨w.heap.size + 1, 1, none⟩ = some (.slice none 0 0) := by rw [hb1.cell (by simp)]; simp [go_sem]
  have d2 : w1.cell? ⟨w.heap.size + 1, 2, none⟩ = some (.bool false) := by rw [hb1.cell (by simp)]; simp [go_sem]
  have e0 : w1.cell? ⟨w.heap.size + 1 + 1, 0, none⟩ = some (.int .i64 cap) := by rw [hb1.cell (by simp)]; simp [go_sem]
  have e1 : w1.cell? ⟨w.heap.size + 1 + 1, 1, none⟩ = some (.slice none 0 0) := by rw [hb1.cell (by simp)]; simp [go_sem]
  have e2 : w1.cell? ⟨w.heap.size + 1 + 1, 2, none⟩ = some (.bool false) := by rw [hb1.cell (by simp)]; simp [go_sem]
  have y0 : ∀ j, w1.frozen? ⟨w.heap.size + 1, j, none⟩ = false := fun j => by rw [hb1.frozen (by simp)]; simp [go_sem]
  have y1 : ∀ j, w1.frozen? ⟨w.heap.size + 1 + 1, j, none⟩ = false := fun j => by rw [hb1.frozen (by simp)]; simp [go_sem]
  have k1 : Below w.heap.size w w1 := ((((Below.refl _ w).alloc (Nat.le_refl _) _).alloc (by simp) _).alloc (by simp; omega) _).trans (hb1.mono (by simp; omega))
  have HI : Hid (NewI w1 (w.heap.size + 3) w1.heap.size s1 l) := by have := hi1; simp at this; exact this
  clear hb1 hi1 hz1
  go_wp2
  refine bodyPost_ret (v := .agg #[.int .i64 cap, .slice s1 l.length l.length, .bool cl]) (by simp [results, Tryd.results22, go_sem, d0, d1, d2]) rfl ⟨s1, rfl, ?_, by simp; omega, ?_⟩
  · exact (((((k1.setCell (p := ⟨w.heap.size + 1 + 1, 1, none⟩) (by simp; omega) _).setCell (p := ⟨w.heap.size + 1 + 1, 2, none⟩) (by simp; omega) _).setCell (p := ⟨w.heap.size + 1, 0, none⟩) (by simp) _).setCell (p := ⟨w.heap.size + 1, 1, none⟩) (by simp) _).setCell (p := ⟨w.heap.size + 1, 2, none⟩) (by simp) _)
  · have hk : NewI _ (w.heap.size + 3) w1.heap.size s1 l := HI.out.keep (w' := ((((w1.setCell ⟨w.heap.size + 1 + 1, 1, none⟩ (.slice s1 l.length l.length)).setCell ⟨w.heap.size + 1 + 1, 2, none⟩ (.bool cl)).setCell ⟨w.heap.size + 1, 0, none⟩ (.int .i64 cap)).setCell ⟨w.heap.size + 1, 1, none⟩ (.slice s1 l.length l.length)).setCell ⟨w.heap.size + 1, 2, none⟩ (.bool cl)) (fun k h1 h2 => by
      rw [Below.heap_setCell _ _ _ k (by simp; omega), Below.heap_setCell _ _ _ k (by simp; omega), Below.heap_setCell _ _ _ k (by simp; omega), Below.heap_setCell _ _ _ k (by simp; omega), Below.heap_setCell _ _ _ k (by simp; omega)])
    rcases hk with h | ⟨g, h1, h2, h3, h4, h5⟩
    · exact .inl h
    · exact .inr ⟨g, h1, by omega, by simp; omega, h4, h5⟩

set_option maxHeartbeats 1000000 in
theorem eqChan_same (cap : Int) (s s' : Option Addr) (l : List Int) (c c' B B' : Nat) (cl : Bool) (w : World) (h : RowI w B s l) (h' : RowI w B' s' l) (hB : B ≤ w.heap.size) (hB' : B' ≤ w.heap.size) (hl : l.length ≤ 1000000000) :
    Calls Tryd.prog 24 #[.agg #[.int .i64 cap, .slice s l.length c, .bool cl], .agg #[.int .i64 cap, .slice s' l.length c', .bool cl]] w fun e w' => e = .returned (.bool true) ∧ Below w.heap.size w w' ∧ w.heap.size < w'.heap.size := by
  have HR : Hid (RowI w B s l) := h
  have HR' : Hid (RowI w B' s' l) := h'
  clear h h'
  have hd : (cl != cl) = false := by simp
  go_enter Tryd.func24, Tryd.ntmps24
  go_wp2_with fail
  refine (eqIntS_any s s' l l c c' _ ((HR.out.below (((Below.refl B w).alloc hB _).alloc (by simp; omega) _)).ints (by simp; omega)) ((HR'.out.below (((Below.refl B' w).alloc hB' _).alloc (by simp; omega) _)).ints (by simp; omega)) (by omega)).mono ?_
  rintro e w1 ⟨rfl, m1, rfl⟩
  rw [decide_eq_true (rfl : l = l)]
  go_wp2
  go_ret
  exact ⟨rfl, below_2.trans ⟨rfl, rfl, rfl, Nat.le_refl _, fun _ _ => rfl⟩, by simp; omega⟩

end Go.Proofs.YthgefddocenjmaaDoor
