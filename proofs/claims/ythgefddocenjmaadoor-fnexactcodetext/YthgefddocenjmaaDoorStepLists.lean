/- Lists of steps as they lie in memory, and how the laws copy them. Conditions: lists of at most 1048576 steps. -/
import Derived.Test.YthgefddocenjmaaDoorQuietC
import Derived.Test.YthgefddocenjmaaDoorToStep
import Derived.Test.YthgefddocenjmaaDoorIntRows
import Derived.Laws.MakeOwn
import Derived.Deep.QuietTactic
import Derived.BigQuiet
namespace Go.Proofs.YthgefddocenjmaaDoor
set_option linter.unusedSimpArgs false
set_option linter.unusedVariables false
set_option maxRecDepth 100000
open Go.RowKit

structure I5 where
  o : Int
  r : Int
  a : Int
  b : Int
  n : Int
def z5 : I5 := ⟨0, 0, 0, 0, 0⟩

def At5 (w : World) (g off : Nat) (x : I5) : Prop :=
  w.cell? ⟨g, off, none⟩ = some (.int .i64 x.o) ∧ w.cell? ⟨g, off + 1, none⟩ = some (.int .i64 x.r) ∧ w.cell? ⟨g, off + 2, none⟩ = some (.int .i64 x.a) ∧ w.cell? ⟨g, off + 3, none⟩ = some (.int .i64 x.b) ∧ w.cell? ⟨g, off + 4, none⟩ = some (.int .i64 x.n)

theorem At5.keep {w w' : World} {B g off : Nat} {x : I5} (h : At5 w g off x) (hb : Below B w w') (hg : g < B) : At5 w' g off x :=
  ⟨(hb.cell hg).trans h.1, (hb.cell hg).trans h.2.1, (hb.cell hg).trans h.2.2.1, (hb.cell hg).trans h.2.2.2.1, (hb.cell hg).trans h.2.2.2.2⟩

/- a list of steps below block B -/
def InsB (w : World) (B : Nat) (s : Option Addr) (l : List I5) : Prop :=
  l = [] ∨ ∃ g off, s = some ⟨g, off, none⟩ ∧ g < B ∧ ∀ i, i < l.length → At5 w g (off + i * 5) (l.getD i z5)

theorem InsB.keep {w w' : World} {B : Nat} {s : Option Addr} {l : List I5} (h : InsB w B s l) (hb : Below B w w') : InsB w' B s l := by
  rcases h with h | ⟨g, o, hs, hg, hc⟩
  · exact .inl h
  · exact .inr ⟨g, o, hs, hg, fun i hi => (hc i hi).keep hb hg⟩
theorem InsB.mono {w : World} {B B' : Nat} {s : Option Addr} {l : List I5} (h : InsB w B s l) (hB : B ≤ B') : InsB w B' s l := by
  rcases h with h | ⟨g, o, hs, hg, hc⟩
  · exact .inl h
  · exact .inr ⟨g, o, hs, by omega, hc⟩

theorem mk25 (n : Nat) (hn : n ≤ 1048576) (w : World) : (Instr.makeSlice 31 (.int .i64 (n : Int)) (.int .i64 (n : Int))).run Tryd.prog w = .ok (.slice (some ⟨w.heap.size, 0, none⟩) n n) (w.alloc (.cells (madeCells #[.int .i64 0, .int .i64 0, .int .i64 0, .int .i64 0, .int .i64 0] (n * 5)) 25)) := by
  have h := run_make (P := Tryd.prog) w 31 25 _ (.agg #[.int .i64 0, .int .i64 0, .int .i64 0, .int .i64 0, .int .i64 0]) Tryd.underlying31 rfl rfl .i64 .i64 n n (by omega) (Int.le_refl _) (by show (40 : Int) * _ ≤ _; omega) (by omega)
  have e : (Value.agg #[.int .i64 0, .int .i64 0, .int .i64 0, .int .i64 0, .int .i64 0]).cells = #[.int .i64 0, .int .i64 0, .int .i64 0, .int .i64 0, .int .i64 0] := rfl
  have e' : ∀ t, Tryd.prog.info? 25 = some t → t.size = 5 := by intro t h; cases h; rfl
  rw [e, e' _ rfl] at h
  simpa using h

/- what the store of a step into a list leaves -/
def set5 (w : World) (g o : Nat) (x : I5) : World := ((((w.setCell ⟨g, o, none⟩ (.int .i64 x.o)).setCell ⟨g, o + 1, none⟩ (.int .i64 x.r)).setCell ⟨g, o + 2, none⟩ (.int .i64 x.a)).setCell ⟨g, o + 3, none⟩ (.int .i64 x.b)).setCell ⟨g, o + 4, none⟩ (.int .i64 x.n)

theorem set5_below {B g o : Nat} {w w' : World} {x : I5} (h : Below B w w') (hg : B ≤ g) : Below B w (set5 w' g o x) := ((((h.setCell (p := ⟨g, o, none⟩) hg _).setCell (p := ⟨g, o + 1, none⟩) hg _).setCell (p := ⟨g, o + 2, none⟩) hg _).setCell (p := ⟨g, o + 3, none⟩) hg _).setCell (p := ⟨g, o + 4, none⟩) hg _
theorem set5_size {g o : Nat} {w : World} {x : I5} : (set5 w g o x).heap.size = w.heap.size := by simp [set5]
theorem set5_frozen {g o : Nat} {w : World} {x : I5} {b : Addr} : (set5 w g o x).frozen? b = w.frozen? b := by simp [set5]
theorem set5_other {g o j : Nat} {w : World} {x : I5} (h : j < o ∨ o + 5 ≤ j) : (set5 w g o x).cell? ⟨g, j, none⟩ = w.cell? ⟨g, j, none⟩ := by
  unfold set5
  rw [setC_off (by omega), setC_off (by omega), setC_off (by omega), setC_off (by omega), setC_off (by omega)]
theorem set5_some {g o j : Nat} {w : World} {x : I5} (h : (w.cell? ⟨g, j, none⟩).isSome = true) : ((set5 w g o x).cell? ⟨g, j, none⟩).isSome = true :=
  setC_some (setC_some (setC_some (setC_some (setC_some h))))
theorem set5_at {g o : Nat} {w : World} {x : I5} (h0 : (w.cell? ⟨g, o, none⟩).isSome = true) (h1 : (w.cell? ⟨g, o + 1, none⟩).isSome = true) (h2 : (w.cell? ⟨g, o + 2, none⟩).isSome = true) (h3 : (w.cell? ⟨g, o + 3, none⟩).isSome = true) (h4 : (w.cell? ⟨g, o + 4, none⟩).isSome = true) : At5 (set5 w g o x) g o x := by
  unfold set5
  refine ⟨?_, ?_, ?_, ?_, ?_⟩
  · rw [setC_off (by omega), setC_off (by omega), setC_off (by omega), setC_off (by omega), setC_at h0]
  · rw [setC_off (by omega), setC_off (by omega), setC_off (by omega), setC_at (setC_some h1)]
  · rw [setC_off (by omega), setC_off (by omega), setC_at (setC_some (setC_some h2))]
  · rw [setC_off (by omega), setC_at (setC_some (setC_some (setC_some h3)))]
  · rw [setC_at (setC_some (setC_some (setC_some (setC_some h4))))]
theorem At5.set5_off {w : World} {g o o' : Nat} {x y : I5} (h : At5 w g o' y) (hd : o' + 5 ≤ o ∨ o + 5 ≤ o') : At5 (set5 w g o x) g o' y := by
  obtain ⟨h0, h1, h2, h3, h4⟩ := h
  exact ⟨(set5_other (by omega)).trans h0, (set5_other (by omega)).trans h1, (set5_other (by omega)).trans h2, (set5_other (by omega)).trans h3, (set5_other (by omega)).trans h4⟩

set_option maxHeartbeats 400000 in
theorem toStepS_some (g off c : Nat) (l : List I5) (w : World) (hg : g < w.heap.size) (hl : l.length ≤ 1048576) (hc : ∀ i, i < l.length → At5 w g (off + i * 5) (l.getD i z5)) :
    Calls Tryd.prog 12 #[.slice (some ⟨g, off, none⟩) l.length c] w fun e w' => e = .returned (.slice (some ⟨w.heap.size, 0, none⟩) l.length l.length) ∧ Below w.heap.size w w' ∧ w.heap.size < w'.heap.size ∧ ∀ i, i < l.length → At5 w' w.heap.size (0 + i * 5) (l.getD i z5) := by
  have hmk := mk25 l.length hl
  have HC : Hid (∀ i, i < l.length → At5 w g (off + i * 5) (l.getD i z5)) := hc
  clear hc
  go_enter Tryd.func12, Tryd.ntmps12
  go_wp2
  clear hmk
  go_loopw [4] (fun i wr => ∃ k : Nat, k ≤ l.length ∧ i = .int .i64 k ∧ Below w.heap.size w wr ∧ w.heap.size < wr.heap.size ∧ (∀ j, j < l.length * 5 → (wr.cell? ⟨w.heap.size, j, none⟩).isSome = true) ∧ (∀ j, j < l.length * 5 → wr.frozen? ⟨w.heap.size, j, none⟩ = false) ∧ (∀ i, i < k → At5 wr w.heap.size (0 + i * 5) (l.getD i z5))) (fun i _ => l.length - (intOf i).toNat)
  case atStart => exact ⟨0, Nat.zero_le _, rfl, (Below.refl _ _).alloc (Nat.le_refl _) _, by simp, fun j hj => new_cell (by rw [size_madeCells]; exact hj), fun j hj => new_frozen, fun i hi => absurd hi (Nat.not_lt_zero _)⟩
  case round =>
    obtain ⟨k, hk, rfl, hb, hsz, hso, hfz, hdone⟩ := hrel
    have HB : Hid (Below w.heap.size w wr) := hb
    have HSO : Hid (∀ j, j < l.length * 5 → (wr.cell? ⟨w.heap.size, j, none⟩).isSome = true) := hso
    have HFZ : Hid (∀ j, j < l.length * 5 → wr.frozen? ⟨w.heap.size, j, none⟩ = false) := hfz
    have HD : Hid (∀ i, i < k → At5 wr w.heap.size (0 + i * 5) (l.getD i z5)) := hdone
    clear hb hso hfz hdone
    by_cases hlt : k < l.length
    · obtain ⟨f0, f1, f2, f3, f4⟩ := (HC.out k hlt).keep HB.out hg
      generalize hx : l.getD k z5 = x at f0 f1 f2 f3 f4
      have HX : Hid (l.getD k z5 = x) := hx
      clear hx
      obtain ⟨xo, xr, xa, xb, xn⟩ := x
      have b0 : (0 : Int) ≤ (k : Int) := by omega
      have b1 : (k : Int) < (l.length : Int) := by omega
      go_wp2_with fail
      refine (toStep_any _ _ _ _ _ _).mono ?_
      rintro e w1 ⟨rfl, hb1⟩
      have HB1 : Hid (Below wr.heap.size wr w1) := hb1
      clear hb1 f0 f1 f2 f3 f4
      have C : ∀ j, j < 5 → ∃ u, w1.cell? ⟨w.heap.size, k * 5 + j, none⟩ = some u := fun j hj => by
        rw [HB1.out.cell (p := ⟨w.heap.size, k * 5 + j, none⟩) hsz]
        exact Option.isSome_iff_exists.1 (HSO.out (k * 5 + j) (by omega))
      have Z : ∀ j, j < 5 → w1.frozen? ⟨w.heap.size, k * 5 + j, none⟩ = false := fun j hj => by
        rw [HB1.out.frozen (p := ⟨w.heap.size, k * 5 + j, none⟩) hsz]
        exact HFZ.out (k * 5 + j) (by omega)
      obtain ⟨u0, g0⟩ := C 0 (by omega)
      obtain ⟨u1, g1⟩ := C 1 (by omega)
      obtain ⟨u2, g2⟩ := C 2 (by omega)
      obtain ⟨u3, g3⟩ := C 3 (by omega)
      obtain ⟨u4, g4⟩ := C 4 (by omega)
      have z0 := Z 0 (by omega)
      have z1 := Z 1 (by omega)
      have z2 := Z 2 (by omega)
      have z3 := Z 3 (by omega)
      have z4 := Z 4 (by omega)
      rw [Nat.add_zero] at g0 z0
      clear C Z
      go_wp2
      go_roundw
      case rel =>
        show ∃ k' : Nat, _ ∧ _ ∧ Below w.heap.size w (set5 w1 w.heap.size (k * 5) ⟨xo, xr, xa, xb, xn⟩) ∧ _ < (set5 w1 w.heap.size (k * 5) ⟨xo, xr, xa, xb, xn⟩).heap.size ∧ (∀ j, _ → ((set5 w1 w.heap.size (k * 5) ⟨xo, xr, xa, xb, xn⟩).cell? _).isSome = true) ∧ (∀ j, _ → (set5 w1 w.heap.size (k * 5) ⟨xo, xr, xa, xb, xn⟩).frozen? _ = false) ∧ (∀ i, _ → At5 (set5 w1 w.heap.size (k * 5) ⟨xo, xr, xa, xb, xn⟩) _ _ _)
        have hs1 := HB1.out.size
        refine ⟨k + 1, by omega, by go_num, set5_below (HB.out.trans (HB1.out.mono (by omega))) (Nat.le_refl _), by rw [set5_size]; omega, ?_, ?_, ?_⟩
        · intro j hj
          refine set5_some ?_
          rw [HB1.out.cell (p := ⟨w.heap.size, j, none⟩) hsz]
          exact HSO.out j hj
        · intro j hj
          rw [set5_frozen, HB1.out.frozen (p := ⟨w.heap.size, j, none⟩) hsz]
          exact HFZ.out j hj
        · intro i hi
          by_cases e : i = k
          · subst e
            rw [HX.out, Nat.zero_add]
            exact set5_at (by rw [g0]; rfl) (by rw [g1]; rfl) (by rw [g2]; rfl) (by rw [g3]; rfl) (by rw [g4]; rfl)
          · exact ((HD.out i (by omega)).keep HB1.out hsz).set5_off (by omega)
      case measure => simp [intOf]; omega
    · go_wp2
      go_ret
      have : k = l.length := by omega
      subst this
      exact ⟨rfl, HB.out, hsz, HD.out⟩

set_option maxHeartbeats 400000 in
theorem toStepS_none (s : Option Addr) (c : Nat) (w : World) :
    Calls Tryd.prog 12 #[.slice s 0 c] w fun e w' => e = .returned (.slice (some ⟨w.heap.size, 0, none⟩) 0 0) ∧ Below w.heap.size w w' ∧ w.heap.size < w'.heap.size := by
  have hmk := mk25 0 (by omega)
  simp only [Int.natCast_zero] at hmk
  go_enter Tryd.func12, Tryd.ntmps12
  go_wp2
  clear hmk
  go_loopw [4] (fun i wr => i = .int .i64 0 ∧ Below w.heap.size w wr ∧ w.heap.size < wr.heap.size) (fun _ _ => 0)
  case atStart => exact ⟨rfl, (Below.refl _ _).alloc (Nat.le_refl _) _, by simp⟩
  case round =>
    obtain ⟨rfl, hb, hsz⟩ := hrel
    go_wp2
    go_ret
    exact ⟨rfl, hb, hsz⟩

theorem toStepS_any (s : Option Addr) (c B : Nat) (l : List I5) (w : World) (h : InsB w B s l) (hB : B ≤ w.heap.size) (hl : l.length ≤ 1048576) :
    Calls Tryd.prog 12 #[.slice s l.length c] w fun e w' => ∃ s' : Option Addr, e = .returned (.slice s' l.length l.length) ∧ Below w.heap.size w w' ∧ w.heap.size < w'.heap.size ∧ InsB w' w'.heap.size s' l := by
  rcases h with rfl | ⟨g, off, rfl, hg, hc⟩
  · refine (toStepS_none s c w).mono ?_
    rintro e w' ⟨rfl, hb, hsz⟩
    exact ⟨_, rfl, hb, hsz, .inl rfl⟩
  · refine (toStepS_some g off c l w (by omega) hl hc).mono ?_
    rintro e w' ⟨rfl, hb, hsz, hc'⟩
    exact ⟨_, rfl, hb, hsz, .inr ⟨_, _, rfl, hsz, hc'⟩⟩


end Go.Proofs.YthgefddocenjmaaDoor
