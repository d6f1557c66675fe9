/- Small facts on boxed structs, method tables and comparisons of the program; no condition. laws.toIns hands its Ins on, field by field, in new memory. No condition. Lists of places as they lie in memory, and how the laws copy them. Conditions: lists of at most 1048576 places. Lists of integers, of places and of bodies as they lie in memory between two blocks, and how the laws copy them into new memory. Conditions: each list of at most 1048576. How arguments of the laws read: an Ins is five integers. No condition. How a list of places that came in reads: each place is five integers. No condition. -/
import Derived.Test.YtfokbjkgdiploaaGreatJG00
import Derived.Test.YtfokbjkgdiploaaGreatChecked
import Derived.WalkKit
import Derived.KernelRfl
import Derived.WalkSpells
import Derived.WalkLawsBesides
import Derived.Test.YtfokbjkgdiploaaGreatJLeaves
import Derived.Laws.MakeOwn
import Derived.Deep.QuietTactic
import Derived.BigQuiet
import Derived.Test.YtfokbjkgdiploaaGreatRows
import Derived.ProofKit
import Derived.OpenShut
import Derived.ShutString
import Derived.ChangeOld
import Derived.Below
import Derived.Deep.Slices
namespace Go.Proofs.YtfokbjkgdiploaaGreat
section
set_option linter.unusedSimpArgs false
set_option linter.unusedVariables false
set_option maxRecDepth 100000
open Go.RowKit
theorem neqN (u : TypeId) (v : Value) (w : World) : (binOp .neq 151 (.iface u v) .nilIface).run Tryz.prog w = .ok (.bool true) w := by kernel_rfl
theorem neqNil (w : World) : (binOp .neq 151 .nilIface .nilIface).run Tryz.prog w = .ok (.bool false) w := by kernel_rfl
theorem mth_1 (v : Value) (w : World) : (method 300 160 v "loop.example/g00238/impl.ins").run Tryz.prog w = .ok (149, v) w := by kernel_rfl
theorem mth_2 (v : Value) (w : World) : (method 300 162 v "loop.example/g00238/impl.ins").run Tryz.prog w = .ok (150, v) w := by kernel_rfl
theorem mth_3 (v : Value) (w : World) : (method 300 163 v "loop.example/g00238/impl.ins").run Tryz.prog w = .ok (151, v) w := by kernel_rfl
theorem mth_4 (v : Value) (w : World) : (method 300 164 v "loop.example/g00238/impl.ins").run Tryz.prog w = .ok (152, v) w := by kernel_rfl
theorem mth_5 (v : Value) (w : World) : (method 300 166 v "loop.example/g00238/impl.ins").run Tryz.prog w = .ok (153, v) w := by kernel_rfl
theorem mth_6 (v : Value) (w : World) : (method 300 168 v "loop.example/g00238/impl.ins").run Tryz.prog w = .ok (154, v) w := by kernel_rfl
theorem mth_7 (v : Value) (w : World) : (method 300 170 v "loop.example/g00238/impl.ins").run Tryz.prog w = .ok (155, v) w := by kernel_rfl
theorem mth_8 (v : Value) (w : World) : (method 300 171 v "loop.example/g00238/impl.ins").run Tryz.prog w = .ok (156, v) w := by kernel_rfl
theorem mth_9 (v : Value) (w : World) : (method 300 173 v "loop.example/g00238/impl.ins").run Tryz.prog w = .ok (157, v) w := by kernel_rfl
theorem mth_10 (v : Value) (w : World) : (method 300 175 v "loop.example/g00238/impl.ins").run Tryz.prog w = .ok (158, v) w := by kernel_rfl
theorem mth_11 (v : Value) (w : World) : (method 300 176 v "loop.example/g00238/impl.ins").run Tryz.prog w = .ok (159, v) w := by kernel_rfl
theorem mth_12 (v : Value) (w : World) : (method 300 177 v "loop.example/g00238/impl.ins").run Tryz.prog w = .ok (160, v) w := by kernel_rfl
theorem mth_13 (v : Value) (w : World) : (method 300 179 v "loop.example/g00238/impl.ins").run Tryz.prog w = .ok (161, v) w := by kernel_rfl
theorem boxed5 {w w1 : World} {v0 v1 v2 v3 v4 : Value} {T : TypeId} (hb : Below (w.alloc (.cells #[v0, v1, v2, v3, v4] T)).heap.size (w.alloc (.cells #[v0, v1, v2, v3, v4] T)) w1) :
  w1.cell? ⟨w.heap.size, 0, none⟩ = some v0 ∧ w1.cell? ⟨w.heap.size, 1, none⟩ = some v1 ∧ w1.cell? ⟨w.heap.size, 2, none⟩ = some v2 ∧ w1.cell? ⟨w.heap.size, 3, none⟩ = some v3 ∧ w1.cell? ⟨w.heap.size, 4, none⟩ = some v4 ∧ w.heap.size < w1.heap.size := by
 refine ⟨?_, ?_, ?_, ?_, ?_, ?_⟩
 iterate 5 (· rw [hb.cell (by simp)]; simp [go_sem])
 ·have := hb.size; simp at this; omega
theorem carry5 {w1 w2 : World} {B : Nat} {v0 v1 v2 v3 v4 : Value} (hb : Below w1.drew.heap.size w1.drew w2) (hz : B < w1.heap.size) (c0 : w1.cell? ⟨B, 0, none⟩ = some v0) (c1 : w1.cell? ⟨B, 1, none⟩ = some v1) (c2 : w1.cell? ⟨B, 2, none⟩ = some v2) (c3 : w1.cell? ⟨B, 3, none⟩ = some v3) (c4 : w1.cell? ⟨B, 4, none⟩ = some v4) :
  w2.cell? ⟨B, 0, none⟩ = some v0 ∧ w2.cell? ⟨B, 1, none⟩ = some v1 ∧ w2.cell? ⟨B, 2, none⟩ = some v2 ∧ w2.cell? ⟨B, 3, none⟩ = some v3 ∧ w2.cell? ⟨B, 4, none⟩ = some v4 ∧ w1.heap.size ≤ w2.heap.size :=
 ⟨(hb.cell hz).trans c0, (hb.cell hz).trans c1, (hb.cell hz).trans c2, (hb.cell hz).trans c3, (hb.cell hz).trans c4, hb.size⟩
theorem areChans_is (c : Int) (v : Bool) (w : World) (h : Plain.chansB c = v) : Calls Tryz.prog 113 #[.int .i64 c] w fun e w' => e = .returned (.bool v) ∧ w' = w := by
 subst h
 exact areChans_any c w
theorem eqNo (o r a b n o' r' a' b' n' : Int) (w : World) (h : ¬ (o = o' ∧ r = r' ∧ a = a' ∧ b = b' ∧ n = n')) : (binOp .eql 111 (.agg #[.int .i64 o, .int .i64 r, .int .i64 a, .int .i64 b, .int .i64 n]) (.agg #[.int .i64 o', .int .i64 r', .int .i64 a', .int .i64 b', .int .i64 n'])).run Tryz.prog w = .ok (.bool false) w := by
 have e : (binOp .eql 111 (.agg #[.int .i64 o, .int .i64 r, .int .i64 a, .int .i64 b, .int .i64 n]) (.agg #[.int .i64 o', .int .i64 r', .int .i64 a', .int .i64 b', .int .i64 n'])).run Tryz.prog w = .ok (.bool (decide (o = o' ∧ r = r' ∧ a = a' ∧ b = b' ∧ n = n'))) w := by
  simp [go_sem]
  by_cases h1 : o = o' <;> by_cases h2 : r = r' <;> by_cases h3 : a = a' <;> by_cases h4 : b = b' <;> by_cases h5 : n = n' <;> simp [h1, h2, h3, h4, h5]
 rw [e, decide_eq_false h]
end
section
set_option linter.unusedSimpArgs false
set_option linter.unusedVariables false
set_option maxRecDepth 100000
open Go.RowKit
theorem toIns_any (o r a b n : Int) (w : World) : Calls Tryz.prog 90 #[.agg #[.int .i64 o, .int .i64 r, .int .i64 a, .int .i64 b, .int .i64 n]] w fun e w' => e = .returned (.agg #[.int .i64 o, .int .i64 r, .int .i64 a, .int .i64 b, .int .i64 n]) ∧ Below w.heap.size w w' := by
 go_enter Tryz.func90, Tryz.ntmps90
 go_wp2
 exact bodyPost_ret (v := .agg #[.int .i64 o, .int .i64 r, .int .i64 a, .int .i64 b, .int .i64 n]) (by simp [results, Tryz.results90, go_sem]) rfl ⟨rfl, (((Below.refl _ _).alloc (Nat.le_refl _) _).alloc (by simp) _).alloc (by simp; omega) _⟩
end
section
set_option linter.unusedSimpArgs false
set_option linter.unusedVariables false
set_option maxRecDepth 100000
open Go.RowKit
structure I5 where
 o : Int
 r : Int
 a : Int
 b : Int
 n : Int
def z5 : I5 := ⟨0, 0, 0, 0, 0⟩
def At5 (w : World) (g off : Nat) (x : I5) : Prop :=
 w.cell? ⟨g, off, none⟩ = some (.int .i64 x.o) ∧ w.cell? ⟨g, off + 1, none⟩ = some (.int .i64 x.r) ∧ w.cell? ⟨g, off + 2, none⟩ = some (.int .i64 x.a) ∧ w.cell? ⟨g, off + 3, none⟩ = some (.int .i64 x.b) ∧ w.cell? ⟨g, off + 4, none⟩ = some (.int .i64 x.n)
theorem At5.keep {w w' : World} {B g off : Nat} {x : I5} (h : At5 w g off x) (hb : Below B w w') (hg : g < B) : At5 w' g off x :=
 ⟨(hb.cell hg).trans h.1, (hb.cell hg).trans h.2.1, (hb.cell hg).trans h.2.2.1, (hb.cell hg).trans h.2.2.2.1, (hb.cell hg).trans h.2.2.2.2⟩
/- a list of places below block B -/
def InsB (w : World) (B : Nat) (s : Option Addr) (l : List I5) : Prop :=
 l = [] ∨ ∃ g off, s = some ⟨g, off, none⟩ ∧ g < B ∧ ∀ i, i < l.length → At5 w g (off + i * 5) (l.getD i z5)
theorem mk25 (n : Nat) (hn : n ≤ 1048576) (w : World) : (Instr.makeSlice 96 (.int .i64 (n : Int)) (.int .i64 (n : Int))).run Tryz.prog w = .ok (.slice (some ⟨w.heap.size, 0, none⟩) n n) (w.alloc (.cells (madeCells #[.int .i64 0, .int .i64 0, .int .i64 0, .int .i64 0, .int .i64 0] (n * 5)) 111)) := by
 have h := run_make (P := Tryz.prog) w 96 111 _ (.agg #[.int .i64 0, .int .i64 0, .int .i64 0, .int .i64 0, .int .i64 0]) Tryz.underlying96 rfl rfl .i64 .i64 n n (by omega) (Int.le_refl _) (by show (40 : Int) * _ ≤ _; omega) (by omega)
 have e : (Value.agg #[.int .i64 0, .int .i64 0, .int .i64 0, .int .i64 0, .int .i64 0]).cells = #[.int .i64 0, .int .i64 0, .int .i64 0, .int .i64 0, .int .i64 0] := rfl
 have e' : ∀ t, Tryz.prog.info? 111 = some t → t.size = 5 := by intro t h; cases h; rfl
 rw [e, e' _ rfl] at h
 simpa using h
/- what the store of a place into a list leaves -/
def set5 (w : World) (g o : Nat) (x : I5) : World := ((((w.setCell ⟨g, o, none⟩ (.int .i64 x.o)).setCell ⟨g, o + 1, none⟩ (.int .i64 x.r)).setCell ⟨g, o + 2, none⟩ (.int .i64 x.a)).setCell ⟨g, o + 3, none⟩ (.int .i64 x.b)).setCell ⟨g, o + 4, none⟩ (.int .i64 x.n)
theorem set5_below {B g o : Nat} {w w' : World} {x : I5} (h : Below B w w') (hg : B ≤ g) : Below B w (set5 w' g o x) := ((((h.setCell (p := ⟨g, o, none⟩) hg _).setCell (p := ⟨g, o + 1, none⟩) hg _).setCell (p := ⟨g, o + 2, none⟩) hg _).setCell (p := ⟨g, o + 3, none⟩) hg _).setCell (p := ⟨g, o + 4, none⟩) hg _
theorem set5_size {g o : Nat} {w : World} {x : I5} : (set5 w g o x).heap.size = w.heap.size := by simp [set5]
theorem set5_frozen {g o : Nat} {w : World} {x : I5} {b : Addr} : (set5 w g o x).frozen? b = w.frozen? b := by simp [set5]
theorem set5_other {g o j : Nat} {w : World} {x : I5} (h : j < o ∨ o + 5 ≤ j) : (set5 w g o x).cell? ⟨g, j, none⟩ = w.cell? ⟨g, j, none⟩ := by
 unfold set5
 rw [setC_off (by omega), setC_off (by omega), setC_off (by omega), setC_off (by omega), setC_off (by omega)]
theorem set5_some {g o j : Nat} {w : World} {x : I5} (h : (w.cell? ⟨g, j, none⟩).isSome = true) : ((set5 w g o x).cell? ⟨g, j, none⟩).isSome = true :=
 setC_some (setC_some (setC_some (setC_some (setC_some h))))
theorem set5_at {g o : Nat} {w : World} {x : I5} (h0 : (w.cell? ⟨g, o, none⟩).isSome = true) (h1 : (w.cell? ⟨g, o + 1, none⟩).isSome = true) (h2 : (w.cell? ⟨g, o + 2, none⟩).isSome = true) (h3 : (w.cell? ⟨g, o + 3, none⟩).isSome = true) (h4 : (w.cell? ⟨g, o + 4, none⟩).isSome = true) : At5 (set5 w g o x) g o x := by
 unfold set5
 refine ⟨?_, ?_, ?_, ?_, ?_⟩
 ·rw [setC_off (by omega), setC_off (by omega), setC_off (by omega), setC_off (by omega), setC_at h0]
 ·rw [setC_off (by omega), setC_off (by omega), setC_off (by omega), setC_at (setC_some h1)]
 ·rw [setC_off (by omega), setC_off (by omega), setC_at (setC_some (setC_some h2))]
 ·rw [setC_off (by omega), setC_at (setC_some (setC_some (setC_some h3)))]
 ·rw [setC_at (setC_some (setC_some (setC_some (setC_some h4))))]
theorem At5.set5_off {w : World} {g o o' : Nat} {x y : I5} (h : At5 w g o' y) (hd : o' + 5 ≤ o ∨ o + 5 ≤ o') : At5 (set5 w g o x) g o' y := by
 obtain ⟨h0, h1, h2, h3, h4⟩ := h
 exact ⟨(set5_other (by omega)).trans h0, (set5_other (by omega)).trans h1, (set5_other (by omega)).trans h2, (set5_other (by omega)).trans h3, (set5_other (by omega)).trans h4⟩
set_option maxHeartbeats 400000 in
theorem toInsS_some (g off c : Nat) (l : List I5) (w : World) (hg : g < w.heap.size) (hl : l.length ≤ 1048576) (hc : ∀ i, i < l.length → At5 w g (off + i * 5) (l.getD i z5)) :
  Calls Tryz.prog 66 #[.slice (some ⟨g, off, none⟩) l.length c] w fun e w' => e = .returned (.slice (some ⟨w.heap.size, 0, none⟩) l.length l.length) ∧ Below w.heap.size w w' ∧ w.heap.size < w'.heap.size ∧ ∀ i, i < l.length → At5 w' w.heap.size (0 + i * 5) (l.getD i z5) := by
 have hmk := mk25 l.length hl
 have HC : Hid (∀ i, i < l.length → At5 w g (off + i * 5) (l.getD i z5)) := hc
 clear hc
 go_enter Tryz.func66, Tryz.ntmps66
 go_wp2
 clear hmk
 go_loopw [4] (fun i wr => ∃ k : Nat, k ≤ l.length ∧ i = .int .i64 k ∧ Below w.heap.size w wr ∧ w.heap.size < wr.heap.size ∧ (∀ j, j < l.length * 5 → (wr.cell? ⟨w.heap.size, j, none⟩).isSome = true) ∧ (∀ j, j < l.length * 5 → wr.frozen? ⟨w.heap.size, j, none⟩ = false) ∧ (∀ i, i < k → At5 wr w.heap.size (0 + i * 5) (l.getD i z5))) (fun i _ => l.length - (intOf i).toNat)
 case atStart => exact ⟨0, Nat.zero_le _, rfl, (Below.refl _ _).alloc (Nat.le_refl _) _, by simp, fun j hj => new_cell (by rw [size_madeCells]; exact hj), fun j hj => new_frozen, fun i hi => absurd hi (Nat.not_lt_zero _)⟩
 case round =>
  obtain ⟨k, hk, rfl, hb, hsz, hso, hfz, hdone⟩ := hrel
  have HB : Hid (Below w.heap.size w wr) := hb
  have HSO : Hid (∀ j, j < l.length * 5 → (wr.cell? ⟨w.heap.size, j, none⟩).isSome = true) := hso
  have HFZ : Hid (∀ j, j < l.length * 5 → wr.frozen? ⟨w.heap.size, j, none⟩ = false) := hfz
  have HD : Hid (∀ i, i < k → At5 wr w.heap.size (0 + i * 5) (l.getD i z5)) := hdone
  clear hb hso hfz hdone
  by_cases hlt : k < l.length
  ·obtain ⟨f0, f1, f2, f3, f4⟩ := (HC.out k hlt).keep HB.out hg
   generalize hx : l.getD k z5 = x at f0 f1 f2 f3 f4
   have HX : Hid (l.getD k z5 = x) := hx
   clear hx
   obtain ⟨xo, xr, xa, xb, xn⟩ := x
   have b0 : (0 : Int) ≤ (k : Int) := by omega
   have b1 : (k : Int) < (l.length : Int) := by omega
   go_wp2_with fail
   refine (toIns_any _ _ _ _ _ _).mono ?_
   rintro e w1 ⟨rfl, hb1⟩
   have HB1 : Hid (Below wr.heap.size wr w1) := hb1
   clear hb1 f0 f1 f2 f3 f4
   have C : ∀ j, j < 5 → ∃ u, w1.cell? ⟨w.heap.size, k * 5 + j, none⟩ = some u := fun j hj => by
    rw [HB1.out.cell (p := ⟨w.heap.size, k * 5 + j, none⟩) hsz]
    exact Option.isSome_iff_exists.1 (HSO.out (k * 5 + j) (by omega))
   have Z : ∀ j, j < 5 → w1.frozen? ⟨w.heap.size, k * 5 + j, none⟩ = false := fun j hj => by
    rw [HB1.out.frozen (p := ⟨w.heap.size, k * 5 + j, none⟩) hsz]
    exact HFZ.out (k * 5 + j) (by omega)
   obtain ⟨u0, g0⟩ := C 0 (by omega)
   obtain ⟨u1, g1⟩ := C 1 (by omega)
   obtain ⟨u2, g2⟩ := C 2 (by omega)
   obtain ⟨u3, g3⟩ := C 3 (by omega)
   obtain ⟨u4, g4⟩ := C 4 (by omega)
   have z0 := Z 0 (by omega)
   have z1 := Z 1 (by omega)
   have z2 := Z 2 (by omega)
   have z3 := Z 3 (by omega)
   have z4 := Z 4 (by omega)
   rw [Nat.add_zero] at g0 z0
   clear C Z
   go_wp2
   go_roundw
   case rel =>
    show ∃ k' : Nat, _ ∧ _ ∧ Below w.heap.size w (set5 w1 w.heap.size (k * 5) ⟨xo, xr, xa, xb, xn⟩) ∧ _ < (set5 w1 w.heap.size (k * 5) ⟨xo, xr, xa, xb, xn⟩).heap.size ∧ (∀ j, _ → ((set5 w1 w.heap.size (k * 5) ⟨xo, xr, xa, xb, xn⟩).cell? _).isSome = true) ∧ (∀ j, _ → (set5 w1 w.heap.size (k * 5) ⟨xo, xr, xa, xb, xn⟩).frozen? _ = false) ∧ (∀ i, _ → At5 (set5 w1 w.heap.size (k * 5) ⟨xo, xr, xa, xb, xn⟩) _ _ _)
    have hs1 := HB1.out.size
    refine ⟨k + 1, by omega, by go_num, set5_below (HB.out.trans (HB1.out.mono (by omega))) (Nat.le_refl _), by rw [set5_size]; omega, ?_, ?_, ?_⟩
    ·intro j hj
     refine set5_some ?_
     rw [HB1.out.cell (p := ⟨w.heap.size, j, none⟩) hsz]
     exact HSO.out j hj
    ·intro j hj
     rw [set5_frozen, HB1.out.frozen (p := ⟨w.heap.size, j, none⟩) hsz]
     exact HFZ.out j hj
    ·intro i hi
     by_cases e : i = k
     ·subst e
      rw [HX.out, Nat.zero_add]
      exact set5_at (by rw [g0]; rfl) (by rw [g1]; rfl) (by rw [g2]; rfl) (by rw [g3]; rfl) (by rw [g4]; rfl)
     ·exact ((HD.out i (by omega)).keep HB1.out hsz).set5_off (by omega)
   case measure => simp [intOf]; omega
  ·go_wp2
   go_ret
   have : k = l.length := by omega
   subst this
   exact ⟨rfl, HB.out, hsz, HD.out⟩
set_option maxHeartbeats 400000 in
theorem toInsS_none (s : Option Addr) (c : Nat) (w : World) :
  Calls Tryz.prog 66 #[.slice s 0 c] w fun e w' => e = .returned (.slice (some ⟨w.heap.size, 0, none⟩) 0 0) ∧ Below w.heap.size w w' ∧ w.heap.size < w'.heap.size := by
 have hmk := mk25 0 (by omega)
 simp only [Int.natCast_zero] at hmk
 go_enter Tryz.func66, Tryz.ntmps66
 go_wp2
 clear hmk
 go_loopw [4] (fun i wr => i = .int .i64 0 ∧ Below w.heap.size w wr ∧ w.heap.size < wr.heap.size) (fun _ _ => 0)
 case atStart => exact ⟨rfl, (Below.refl _ _).alloc (Nat.le_refl _) _, by simp⟩
 case round =>
  obtain ⟨rfl, hb, hsz⟩ := hrel
  go_wp2
  go_ret
  exact ⟨rfl, hb, hsz⟩
end
section
set_option linter.unusedSimpArgs false
set_option linter.unusedVariables false
set_option maxRecDepth 100000
open Go.RowKit
def InsR (w : World) (lo hi : Nat) (s : Option Addr) (l : List I5) : Prop :=
 l = [] ∨ ∃ g off, s = some ⟨g, off, none⟩ ∧ lo ≤ g ∧ g < hi ∧ ∀ i, i < l.length → At5 w g (off + i * 5) (l.getD i z5)
def BodR (w : World) (lo hi g off : Nat) (l : List I5) : Prop := ∃ s c, w.cell? ⟨g, off, none⟩ = some (.slice s l.length c) ∧ InsR w lo hi s l
def BodsR (w : World) (lo hi : Nat) (s : Option Addr) (l : List (List I5)) : Prop :=
 l = [] ∨ ∃ g off, s = some ⟨g, off, none⟩ ∧ lo ≤ g ∧ g < hi ∧ ∀ i, i < l.length → BodR w lo hi g (off + i) (l.getD i [])
theorem At5.of_keep {w w' : World} {lo hi g off : Nat} {x : I5} (h : At5 w g off x) (hb : Keep lo hi w w') (h1 : lo ≤ g) (h2 : g < hi) : At5 w' g off x :=
 ⟨(hb.cell h1 h2).trans h.1, (hb.cell h1 h2).trans h.2.1, (hb.cell h1 h2).trans h.2.2.1, (hb.cell h1 h2).trans h.2.2.2.1, (hb.cell h1 h2).trans h.2.2.2.2⟩
theorem InsR.keep {w w' : World} {lo hi : Nat} {s : Option Addr} {l : List I5} (h : InsR w lo hi s l) (hb : Keep lo hi w w') : InsR w' lo hi s l := by
 rcases h with h | ⟨g, o, hs, h1, h2, hc⟩
 ·exact .inl h
 ·exact .inr ⟨g, o, hs, h1, h2, fun i hi => (hc i hi).of_keep hb h1 h2⟩
theorem BodR.keep {w w' : World} {lo hi g off : Nat} {l : List I5} (h : BodR w lo hi g off l) (hb : Keep lo hi w w') (hc : w'.cell? ⟨g, off, none⟩ = w.cell? ⟨g, off, none⟩) : BodR w' lo hi g off l := by
 obtain ⟨s, c, h1, h2⟩ := h
 exact ⟨s, c, hc.trans h1, h2.keep hb⟩
theorem BodsR.keep {w w' : World} {lo hi : Nat} {s : Option Addr} {l : List (List I5)} (h : BodsR w lo hi s l) (hb : Keep lo hi w w') : BodsR w' lo hi s l := by
 rcases h with h | ⟨g, o, hs, h1, h2, hc⟩
 ·exact .inl h
 ·exact .inr ⟨g, o, hs, h1, h2, fun i hi => (hc i hi).keep hb (hb.cell h1 h2)⟩
theorem InsR.mono {w : World} {lo hi lo' hi' : Nat} {s : Option Addr} {l : List I5} (h : InsR w lo hi s l) (h1 : lo' ≤ lo) (h2 : hi ≤ hi') : InsR w lo' hi' s l := by
 rcases h with h | ⟨g, o, hs, a, b, hc⟩
 ·exact .inl h
 ·exact .inr ⟨g, o, hs, by omega, by omega, hc⟩
theorem BodR.mono {w : World} {lo hi lo' hi' g off : Nat} {l : List I5} (h : BodR w lo hi g off l) (h1 : lo' ≤ lo) (h2 : hi ≤ hi') : BodR w lo' hi' g off l := by
 obtain ⟨s, c, a, b⟩ := h
 exact ⟨s, c, a, b.mono h1 h2⟩
theorem BodsR.mono {w : World} {lo hi lo' hi' : Nat} {s : Option Addr} {l : List (List I5)} (h : BodsR w lo hi s l) (h1 : lo' ≤ lo) (h2 : hi ≤ hi') : BodsR w lo' hi' s l := by
 rcases h with h | ⟨g, o, hs, a, b, hc⟩
 ·exact .inl h
 ·exact .inr ⟨g, o, hs, by omega, by omega, fun i hi => (hc i hi).mono h1 h2⟩
theorem InsR.insB {w : World} {lo hi : Nat} {s : Option Addr} {l : List I5} (h : InsR w lo hi s l) : InsB w hi s l := by
 rcases h with h | ⟨g, o, hs, a, b, hc⟩
 ·exact .inl h
 ·exact .inr ⟨g, o, hs, b, hc⟩
theorem toInsS_new (s : Option Addr) (c lo hi : Nat) (l : List I5) (w : World) (h : InsR w lo hi s l) (hB : hi ≤ w.heap.size) (hl : l.length ≤ 1048576) :
  Calls Tryz.prog 66 #[.slice s l.length c] w fun e w' => ∃ s' : Option Addr, e = .returned (.slice s' l.length l.length) ∧ Below w.heap.size w w' ∧ w.heap.size < w'.heap.size ∧ InsR w' w.heap.size w'.heap.size s' l := by
 rcases h with rfl | ⟨g, off, rfl, hg, hg', hc⟩
 ·refine (toInsS_none s c w).mono ?_
  rintro e w' ⟨rfl, hb, hsz⟩
  exact ⟨_, rfl, hb, hsz, .inl rfl⟩
 ·refine (toInsS_some g off c l w (by omega) hl hc).mono ?_
  rintro e w' ⟨rfl, hb, hsz, hc'⟩
  exact ⟨_, rfl, hb, hsz, .inr ⟨_, _, rfl, Nat.le_refl _, hsz, hc'⟩⟩
theorem mkSS (n : Nat) (hn : n ≤ 1048576) (w : World) : (Instr.makeSlice 40 (.int .i64 (n : Int)) (.int .i64 (n : Int))).run Tryz.prog w = .ok (.slice (some ⟨w.heap.size, 0, none⟩) n n) (w.alloc (.cells (madeCells #[.slice none 0 0] (n * 1)) 96)) := by
 have h := run_make (P := Tryz.prog) w 40 96 _ (.slice none 0 0) Tryz.underlying40 rfl rfl .i64 .i64 n n (by omega) (Int.le_refl _) (by show (24 : Int) * _ ≤ _; omega) (by omega)
 have e : (Value.slice none 0 0).cells = #[.slice none 0 0] := rfl
 have e' : ∀ t, Tryz.prog.info? 96 = some t → t.size = 1 := by intro t h; cases h; rfl
 rw [e, e' _ rfl] at h
 simpa using h
end
section
set_option linter.unusedSimpArgs false
set_option linter.unusedVariables false
set_option maxRecDepth 100000
open Go.ChangeShapes Go.WideShapes Go.ChangeAt Go.RowKit
theorem cellsInt : Tryz.prog.cellsOf 3 = 1 := by kernel_rfl
theorem cellsIns : Tryz.prog.cellsOf 135 = 5 := by kernel_rfl
theorem list5 {α : Type} {cs : List α} (h : cs.length = 5) : ∃ c0 c1 c2 c3 c4, cs = [c0, c1, c2, c3, c4] := by
 match cs, h with
 | [c0, c1, c2, c3, c4], _ => exact ⟨c0, c1, c2, c3, c4, rfl⟩
theorem ins_cells {H : Type} {enc : TypeId × Value → H} {w : World} {base : Nat} {spare : TypeId → Bool} {held : Bool} {fuel : Nat} {cs : List Value} {x : DataW H × List MemPlace}
  (h : DataW.trod enc Tryz.prog w base spare held fuel 135 cs = some x) :
  ∃ o r a b n : Int, cs = [.int .i64 o, .int .i64 r, .int .i64 a, .int .i64 b, .int .i64 n] ∧ (Lit.int .i64 o).wf = true ∧ (Lit.int .i64 r).wf = true ∧ (Lit.int .i64 a).wf = true ∧ (Lit.int .i64 b).wf = true ∧ (Lit.int .i64 n).wf = true := by
 obtain ⟨xs, n, _, rfl, hl, hlen, hf⟩ := DataW.trod_struct Tryz.underlying135 h
 rw [cellsIns] at hl
 obtain ⟨c0, c1, c2, c3, c4, rfl⟩ := list5 hl
 obtain ⟨y0, y1, y2, y3, y4, rfl⟩ := list5 (hlen.trans rfl)
 have g0 := hf 0 _ rfl
 have g1 := hf 1 _ rfl
 have g2 := hf 2 _ rfl
 have g3 := hf 3 _ rfl
 have g4 := hf 4 _ rfl
 simp [cellsInt] at g0 g1 g2 g3 g4
 obtain ⟨o, e0, -, w0⟩ := DataW.trod_int Tryz.underlying3 g0
 obtain ⟨r, e1, -, w1⟩ := DataW.trod_int Tryz.underlying3 g1
 obtain ⟨a, e2, -, w2⟩ := DataW.trod_int Tryz.underlying3 g2
 obtain ⟨b, e3, -, w3⟩ := DataW.trod_int Tryz.underlying3 g3
 obtain ⟨c, e4, -, w4⟩ := DataW.trod_int Tryz.underlying3 g4
 simp at e0 e1 e2 e3 e4
 subst e0 e1 e2 e3 e4
 exact ⟨o, r, a, b, c, rfl, w0, w1, w2, w3, w4⟩
end
section
set_option linter.unusedSimpArgs false
set_option linter.unusedVariables false
set_option maxRecDepth 100000
open Go.ChangeShapes Go.WideShapes Go.ChangeAt Go.RowKit Go.Deep
theorem cell_lt {w : World} {a : Addr} {v : Value} (h : w.cell? a = some v) : a.block < w.heap.size := by
 apply Classical.byContradiction
 intro hn
 have : w.heap[a.block]? = none := by simp; omega
 simp [World.cell?, this] at h
theorem add_plain (g off n : Nat) : (Addr.add ⟨g, off, none⟩ n) = ⟨g, off + n, none⟩ := by
 by_cases h : n = 0
 ·subst h; rfl
 ·simp [Addr.add, h]
theorem insS_spot {H : Type} {enc : TypeId × Value → H} {w : World} {base : Nat} {spare : TypeId → Bool} {held : Bool} {n : Nat} {a : Addr} {cs : List Value} {x : DataW H × List MemPlace}
  (hc : w.cells? base (a.add (0 * 5)) 5 = some cs) (h : DataW.trod enc Tryz.prog w base spare held n 135 cs = some x) :
  a.spot = none ∧ a.block < w.heap.size := by
 obtain ⟨o, r, b, c, d, rfl, -⟩ := ins_cells h
 obtain ⟨-, -, hcell⟩ := World.cells?_some hc
 have c0 : w.cell? a = some (.int .i64 o) := by simpa [Addr.add] using hcell 0 (by omega)
 exact ⟨World.cell?_spot c0, cell_lt c0⟩
theorem insS_at {H : Type} {enc : TypeId × Value → H} {w : World} {base : Nat} {spare : TypeId → Bool} {held : Bool} {n g off i : Nat} {cs : List Value} {x : DataW H × List MemPlace}
  (hc : w.cells? base (Addr.add ⟨g, off, none⟩ (i * 5)) 5 = some cs) (h : DataW.trod enc Tryz.prog w base spare held n 135 cs = some x) :
  ∃ y : I5, At5 w g (off + i * 5) y := by
 obtain ⟨o, r, b, c, d, rfl, -⟩ := ins_cells h
 obtain ⟨-, -, hcell⟩ := World.cells?_some hc
 rw [add_plain] at hcell
 have c0 := hcell 0 (by omega)
 have c1 := hcell 1 (by omega)
 have c2 := hcell 2 (by omega)
 have c3 := hcell 3 (by omega)
 have c4 := hcell 4 (by omega)
 rw [add_plain] at c0 c1 c2 c3 c4
 exact ⟨⟨o, r, b, c, d⟩, c0, c1, c2, c3, c4⟩
end
end Go.Proofs.YtfokbjkgdiploaaGreat
