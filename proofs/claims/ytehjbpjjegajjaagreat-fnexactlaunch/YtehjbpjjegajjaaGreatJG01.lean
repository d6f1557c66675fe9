/- Small facts on boxed structs, method tables and comparisons of the program; no condition. laws.toIns hands its Ins on, field by field, in new memory. No condition. Lists of places as they lie in memory, and how the laws copy them. Conditions: lists of at most 1048576 places. Lists of integers, of places and of bodies as they lie in memory between two blocks, and how the laws copy them into new memory. Conditions: each list of at most 1048576. How arguments of the laws read: an Ins is five integers. No condition. How a list of places that came in reads: each place is five integers. No condition. How the laws copy a program into new memory, and count how great it is. Conditions: each list of at most 1048576 where it is copied. -/
import Derived.Test.YtehjbpjjegajjaaGreatJG00
import Derived.Test.YtehjbpjjegajjaaGreatChecked
import Derived.WalkKit
import Derived.KernelRfl
import Derived.WalkSpells
import Derived.WalkLawsBesides
import Derived.Test.YtehjbpjjegajjaaGreatJLeaves
import Derived.Laws.MakeOwn
import Derived.Deep.QuietTactic
import Derived.BigQuiet
import Derived.Test.YtehjbpjjegajjaaGreatRows
import Derived.ProofKit
import Derived.OpenShut
import Derived.ShutString
import Derived.ChangeOld
import Derived.Below
import Derived.Deep.Slices
namespace Go.Proofs.YtehjbpjjegajjaaGreat
section
set_option linter.unusedSimpArgs false
set_option linter.unusedVariables false
set_option maxRecDepth 100000
open Go.RowKit
theorem neqN (u : TypeId) (v : Value) (w : World) : (binOp .neq 136 (.iface u v) .nilIface).run Tryz.prog w = .ok (.bool true) w := by kernel_rfl
theorem neqNil (w : World) : (binOp .neq 136 .nilIface .nilIface).run Tryz.prog w = .ok (.bool false) w := by kernel_rfl
theorem mth_1 (v : Value) (w : World) : (method 312 147 v "loop.example/g00238/impl.ins").run Tryz.prog w = .ok (198, v) w := by kernel_rfl
theorem mth_2 (v : Value) (w : World) : (method 312 149 v "loop.example/g00238/impl.ins").run Tryz.prog w = .ok (199, v) w := by kernel_rfl
theorem mth_3 (v : Value) (w : World) : (method 312 150 v "loop.example/g00238/impl.ins").run Tryz.prog w = .ok (200, v) w := by kernel_rfl
theorem mth_4 (v : Value) (w : World) : (method 312 151 v "loop.example/g00238/impl.ins").run Tryz.prog w = .ok (201, v) w := by kernel_rfl
theorem mth_5 (v : Value) (w : World) : (method 312 153 v "loop.example/g00238/impl.ins").run Tryz.prog w = .ok (202, v) w := by kernel_rfl
theorem mth_6 (v : Value) (w : World) : (method 312 155 v "loop.example/g00238/impl.ins").run Tryz.prog w = .ok (203, v) w := by kernel_rfl
theorem mth_7 (v : Value) (w : World) : (method 312 157 v "loop.example/g00238/impl.ins").run Tryz.prog w = .ok (204, v) w := by kernel_rfl
theorem mth_8 (v : Value) (w : World) : (method 312 158 v "loop.example/g00238/impl.ins").run Tryz.prog w = .ok (205, v) w := by kernel_rfl
theorem mth_9 (v : Value) (w : World) : (method 312 160 v "loop.example/g00238/impl.ins").run Tryz.prog w = .ok (206, v) w := by kernel_rfl
theorem mth_10 (v : Value) (w : World) : (method 312 162 v "loop.example/g00238/impl.ins").run Tryz.prog w = .ok (207, v) w := by kernel_rfl
theorem mth_11 (v : Value) (w : World) : (method 312 163 v "loop.example/g00238/impl.ins").run Tryz.prog w = .ok (208, v) w := by kernel_rfl
theorem mth_12 (v : Value) (w : World) : (method 312 164 v "loop.example/g00238/impl.ins").run Tryz.prog w = .ok (209, v) w := by kernel_rfl
theorem mth_13 (v : Value) (w : World) : (method 312 166 v "loop.example/g00238/impl.ins").run Tryz.prog w = .ok (210, v) w := by kernel_rfl
theorem boxed5 {w w1 : World} {v0 v1 v2 v3 v4 : Value} {T : TypeId} (hb : Below (w.alloc (.cells #[v0, v1, v2, v3, v4] T)).heap.size (w.alloc (.cells #[v0, v1, v2, v3, v4] T)) w1) :
  w1.cell? ⟨w.heap.size, 0, none⟩ = some v0 ∧ w1.cell? ⟨w.heap.size, 1, none⟩ = some v1 ∧ w1.cell? ⟨w.heap.size, 2, none⟩ = some v2 ∧ w1.cell? ⟨w.heap.size, 3, none⟩ = some v3 ∧ w1.cell? ⟨w.heap.size, 4, none⟩ = some v4 ∧ w.heap.size < w1.heap.size := by
 refine ⟨?_, ?_, ?_, ?_, ?_, ?_⟩
 iterate 5 (· rw [hb.cell (by simp)]; simp [go_sem])
 ·have := hb.size; simp at this; omega
theorem carry5 {w1 w2 : World} {B : Nat} {v0 v1 v2 v3 v4 : Value} (hb : Below w1.drew.heap.size w1.drew w2) (hz : B < w1.heap.size) (c0 : w1.cell? ⟨B, 0, none⟩ = some v0) (c1 : w1.cell? ⟨B, 1, none⟩ = some v1) (c2 : w1.cell? ⟨B, 2, none⟩ = some v2) (c3 : w1.cell? ⟨B, 3, none⟩ = some v3) (c4 : w1.cell? ⟨B, 4, none⟩ = some v4) :
  w2.cell? ⟨B, 0, none⟩ = some v0 ∧ w2.cell? ⟨B, 1, none⟩ = some v1 ∧ w2.cell? ⟨B, 2, none⟩ = some v2 ∧ w2.cell? ⟨B, 3, none⟩ = some v3 ∧ w2.cell? ⟨B, 4, none⟩ = some v4 ∧ w1.heap.size ≤ w2.heap.size :=
 ⟨(hb.cell hz).trans c0, (hb.cell hz).trans c1, (hb.cell hz).trans c2, (hb.cell hz).trans c3, (hb.cell hz).trans c4, hb.size⟩
theorem areChans_is (c : Int) (v : Bool) (w : World) (h : Plain.chansB c = v) : Calls Tryz.prog 102 #[.int .i64 c] w fun e w' => e = .returned (.bool v) ∧ w' = w := by
 subst h
 exact areChans_any c w
theorem eqNo (o r a b n o' r' a' b' n' : Int) (w : World) (h : ¬ (o = o' ∧ r = r' ∧ a = a' ∧ b = b' ∧ n = n')) : (binOp .eql 73 (.agg #[.int .i64 o, .int .i64 r, .int .i64 a, .int .i64 b, .int .i64 n]) (.agg #[.int .i64 o', .int .i64 r', .int .i64 a', .int .i64 b', .int .i64 n'])).run Tryz.prog w = .ok (.bool false) w := by
 have e : (binOp .eql 73 (.agg #[.int .i64 o, .int .i64 r, .int .i64 a, .int .i64 b, .int .i64 n]) (.agg #[.int .i64 o', .int .i64 r', .int .i64 a', .int .i64 b', .int .i64 n'])).run Tryz.prog w = .ok (.bool (decide (o = o' ∧ r = r' ∧ a = a' ∧ b = b' ∧ n = n'))) w := by
  simp [go_sem]
  by_cases h1 : o = o' <;> by_cases h2 : r = r' <;> by_cases h3 : a = a' <;> by_cases h4 : b = b' <;> by_cases h5 : n = n' <;> simp [h1, h2, h3, h4, h5]
 rw [e, decide_eq_false h]
end
section
set_option linter.unusedSimpArgs false
set_option linter.unusedVariables false
set_option maxRecDepth 100000
open Go.RowKit
theorem toIns_any (o r a b n : Int) (w : World) : Calls Tryz.prog 81 #[.agg #[.int .i64 o, .int .i64 r, .int .i64 a, .int .i64 b, .int .i64 n]] w fun e w' => e = .returned (.agg #[.int .i64 o, .int .i64 r, .int .i64 a, .int .i64 b, .int .i64 n]) ∧ Below w.heap.size w w' := by
 go_enter Tryz.func81, Tryz.ntmps81
 go_wp2
 exact bodyPost_ret (v := .agg #[.int .i64 o, .int .i64 r, .int .i64 a, .int .i64 b, .int .i64 n]) (by simp [results, Tryz.results81, go_sem]) rfl ⟨rfl, (((Below.refl _ _).alloc (Nat.le_refl _) _).alloc (by simp) _).alloc (by simp; omega) _⟩
end
section
set_option linter.unusedSimpArgs false
set_option linter.unusedVariables false
set_option maxRecDepth 100000
open Go.RowKit
structure I5 where
 o : Int
 r : Int
 a : Int
 b : Int
 n : Int
def z5 : I5 := ⟨0, 0, 0, 0, 0⟩
def At5 (w : World) (g off : Nat) (x : I5) : Prop :=
 w.cell? ⟨g, off, none⟩ = some (.int .i64 x.o) ∧ w.cell? ⟨g, off + 1, none⟩ = some (.int .i64 x.r) ∧ w.cell? ⟨g, off + 2, none⟩ = some (.int .i64 x.a) ∧ w.cell? ⟨g, off + 3, none⟩ = some (.int .i64 x.b) ∧ w.cell? ⟨g, off + 4, none⟩ = some (.int .i64 x.n)
theorem At5.keep {w w' : World} {B g off : Nat} {x : I5} (h : At5 w g off x) (hb : Below B w w') (hg : g < B) : At5 w' g off x :=
 ⟨(hb.cell hg).trans h.1, (hb.cell hg).trans h.2.1, (hb.cell hg).trans h.2.2.1, (hb.cell hg).trans h.2.2.2.1, (hb.cell hg).trans h.2.2.2.2⟩
/- a list of places below block B -/
def InsB (w : World) (B : Nat) (s : Option Addr) (l : List I5) : Prop :=
 l = [] ∨ ∃ g off, s = some ⟨g, off, none⟩ ∧ g < B ∧ ∀ i, i < l.length → At5 w g (off + i * 5) (l.getD i z5)
theorem InsB.mono {w : World} {B B' : Nat} {s : Option Addr} {l : List I5} (h : InsB w B s l) (hB : B ≤ B') : InsB w B' s l := by
 rcases h with h | ⟨g, o, hs, hg, hc⟩
 ·exact .inl h
 ·exact .inr ⟨g, o, hs, by omega, hc⟩
theorem mk25 (n : Nat) (hn : n ≤ 1048576) (w : World) : (Instr.makeSlice 70 (.int .i64 (n : Int)) (.int .i64 (n : Int))).run Tryz.prog w = .ok (.slice (some ⟨w.heap.size, 0, none⟩) n n) (w.alloc (.cells (madeCells #[.int .i64 0, .int .i64 0, .int .i64 0, .int .i64 0, .int .i64 0] (n * 5)) 73)) := by
 have h := run_make (P := Tryz.prog) w 70 73 _ (.agg #[.int .i64 0, .int .i64 0, .int .i64 0, .int .i64 0, .int .i64 0]) Tryz.underlying70 rfl rfl .i64 .i64 n n (by omega) (Int.le_refl _) (by show (40 : Int) * _ ≤ _; omega) (by omega)
 have e : (Value.agg #[.int .i64 0, .int .i64 0, .int .i64 0, .int .i64 0, .int .i64 0]).cells = #[.int .i64 0, .int .i64 0, .int .i64 0, .int .i64 0, .int .i64 0] := rfl
 have e' : ∀ t, Tryz.prog.info? 73 = some t → t.size = 5 := by intro t h; cases h; rfl
 rw [e, e' _ rfl] at h
 simpa using h
/- what the store of a place into a list leaves -/
def set5 (w : World) (g o : Nat) (x : I5) : World := ((((w.setCell ⟨g, o, none⟩ (.int .i64 x.o)).setCell ⟨g, o + 1, none⟩ (.int .i64 x.r)).setCell ⟨g, o + 2, none⟩ (.int .i64 x.a)).setCell ⟨g, o + 3, none⟩ (.int .i64 x.b)).setCell ⟨g, o + 4, none⟩ (.int .i64 x.n)
theorem set5_below {B g o : Nat} {w w' : World} {x : I5} (h : Below B w w') (hg : B ≤ g) : Below B w (set5 w' g o x) := ((((h.setCell (p := ⟨g, o, none⟩) hg _).setCell (p := ⟨g, o + 1, none⟩) hg _).setCell (p := ⟨g, o + 2, none⟩) hg _).setCell (p := ⟨g, o + 3, none⟩) hg _).setCell (p := ⟨g, o + 4, none⟩) hg _
theorem set5_size {g o : Nat} {w : World} {x : I5} : (set5 w g o x).heap.size = w.heap.size := by simp [set5]
end
section
set_option linter.unusedSimpArgs false
set_option linter.unusedVariables false
set_option maxRecDepth 100000
open Go.RowKit
def InsR (w : World) (lo hi : Nat) (s : Option Addr) (l : List I5) : Prop :=
 l = [] ∨ ∃ g off, s = some ⟨g, off, none⟩ ∧ lo ≤ g ∧ g < hi ∧ ∀ i, i < l.length → At5 w g (off + i * 5) (l.getD i z5)
def BodR (w : World) (lo hi g off : Nat) (l : List I5) : Prop := ∃ s c, w.cell? ⟨g, off, none⟩ = some (.slice s l.length c) ∧ InsR w lo hi s l
def BodsR (w : World) (lo hi : Nat) (s : Option Addr) (l : List (List I5)) : Prop :=
 l = [] ∨ ∃ g off, s = some ⟨g, off, none⟩ ∧ lo ≤ g ∧ g < hi ∧ ∀ i, i < l.length → BodR w lo hi g (off + i) (l.getD i [])
theorem At5.of_keep {w w' : World} {lo hi g off : Nat} {x : I5} (h : At5 w g off x) (hb : Keep lo hi w w') (h1 : lo ≤ g) (h2 : g < hi) : At5 w' g off x :=
 ⟨(hb.cell h1 h2).trans h.1, (hb.cell h1 h2).trans h.2.1, (hb.cell h1 h2).trans h.2.2.1, (hb.cell h1 h2).trans h.2.2.2.1, (hb.cell h1 h2).trans h.2.2.2.2⟩
theorem InsR.keep {w w' : World} {lo hi : Nat} {s : Option Addr} {l : List I5} (h : InsR w lo hi s l) (hb : Keep lo hi w w') : InsR w' lo hi s l := by
 rcases h with h | ⟨g, o, hs, h1, h2, hc⟩
 ·exact .inl h
 ·exact .inr ⟨g, o, hs, h1, h2, fun i hi => (hc i hi).of_keep hb h1 h2⟩
theorem BodR.keep {w w' : World} {lo hi g off : Nat} {l : List I5} (h : BodR w lo hi g off l) (hb : Keep lo hi w w') (hc : w'.cell? ⟨g, off, none⟩ = w.cell? ⟨g, off, none⟩) : BodR w' lo hi g off l := by
 obtain ⟨s, c, h1, h2⟩ := h
 exact ⟨s, c, hc.trans h1, h2.keep hb⟩
theorem BodsR.keep {w w' : World} {lo hi : Nat} {s : Option Addr} {l : List (List I5)} (h : BodsR w lo hi s l) (hb : Keep lo hi w w') : BodsR w' lo hi s l := by
 rcases h with h | ⟨g, o, hs, h1, h2, hc⟩
 ·exact .inl h
 ·exact .inr ⟨g, o, hs, h1, h2, fun i hi => (hc i hi).keep hb (hb.cell h1 h2)⟩
theorem InsR.mono {w : World} {lo hi lo' hi' : Nat} {s : Option Addr} {l : List I5} (h : InsR w lo hi s l) (h1 : lo' ≤ lo) (h2 : hi ≤ hi') : InsR w lo' hi' s l := by
 rcases h with h | ⟨g, o, hs, a, b, hc⟩
 ·exact .inl h
 ·exact .inr ⟨g, o, hs, by omega, by omega, hc⟩
theorem InsR.insB {w : World} {lo hi : Nat} {s : Option Addr} {l : List I5} (h : InsR w lo hi s l) : InsB w hi s l := by
 rcases h with h | ⟨g, o, hs, a, b, hc⟩
 ·exact .inl h
 ·exact .inr ⟨g, o, hs, b, hc⟩
theorem mkSS (n : Nat) (hn : n ≤ 1048576) (w : World) : (Instr.makeSlice 37 (.int .i64 (n : Int)) (.int .i64 (n : Int))).run Tryz.prog w = .ok (.slice (some ⟨w.heap.size, 0, none⟩) n n) (w.alloc (.cells (madeCells #[.slice none 0 0] (n * 1)) 70)) := by
 have h := run_make (P := Tryz.prog) w 37 70 _ (.slice none 0 0) Tryz.underlying37 rfl rfl .i64 .i64 n n (by omega) (Int.le_refl _) (by show (24 : Int) * _ ≤ _; omega) (by omega)
 have e : (Value.slice none 0 0).cells = #[.slice none 0 0] := rfl
 have e' : ∀ t, Tryz.prog.info? 70 = some t → t.size = 1 := by intro t h; cases h; rfl
 rw [e, e' _ rfl] at h
 simpa using h
end
section
set_option linter.unusedSimpArgs false
set_option linter.unusedVariables false
set_option maxRecDepth 100000
open Go.ChangeShapes Go.WideShapes Go.ChangeAt Go.RowKit
theorem cellsInt : Tryz.prog.cellsOf 3 = 1 := by kernel_rfl
theorem cellsIns : Tryz.prog.cellsOf 110 = 5 := by kernel_rfl
theorem list5 {α : Type} {cs : List α} (h : cs.length = 5) : ∃ c0 c1 c2 c3 c4, cs = [c0, c1, c2, c3, c4] := by
 match cs, h with
 | [c0, c1, c2, c3, c4], _ => exact ⟨c0, c1, c2, c3, c4, rfl⟩
theorem ins_cells {H : Type} {enc : TypeId × Value → H} {w : World} {base : Nat} {spare : TypeId → Bool} {held : Bool} {fuel : Nat} {cs : List Value} {x : DataW H × List MemPlace}
  (h : DataW.trod enc Tryz.prog w base spare held fuel 110 cs = some x) :
  ∃ o r a b n : Int, cs = [.int .i64 o, .int .i64 r, .int .i64 a, .int .i64 b, .int .i64 n] ∧ (Lit.int .i64 o).wf = true ∧ (Lit.int .i64 r).wf = true ∧ (Lit.int .i64 a).wf = true ∧ (Lit.int .i64 b).wf = true ∧ (Lit.int .i64 n).wf = true := by
 obtain ⟨xs, n, _, rfl, hl, hlen, hf⟩ := DataW.trod_struct Tryz.underlying110 h
 rw [cellsIns] at hl
 obtain ⟨c0, c1, c2, c3, c4, rfl⟩ := list5 hl
 obtain ⟨y0, y1, y2, y3, y4, rfl⟩ := list5 (hlen.trans rfl)
 have g0 := hf 0 _ rfl
 have g1 := hf 1 _ rfl
 have g2 := hf 2 _ rfl
 have g3 := hf 3 _ rfl
 have g4 := hf 4 _ rfl
 simp [cellsInt] at g0 g1 g2 g3 g4
 obtain ⟨o, e0, -, w0⟩ := DataW.trod_int Tryz.underlying3 g0
 obtain ⟨r, e1, -, w1⟩ := DataW.trod_int Tryz.underlying3 g1
 obtain ⟨a, e2, -, w2⟩ := DataW.trod_int Tryz.underlying3 g2
 obtain ⟨b, e3, -, w3⟩ := DataW.trod_int Tryz.underlying3 g3
 obtain ⟨c, e4, -, w4⟩ := DataW.trod_int Tryz.underlying3 g4
 simp at e0 e1 e2 e3 e4
 subst e0 e1 e2 e3 e4
 exact ⟨o, r, a, b, c, rfl, w0, w1, w2, w3, w4⟩
end
section
set_option linter.unusedSimpArgs false
set_option linter.unusedVariables false
set_option maxRecDepth 100000
open Go.ChangeShapes Go.WideShapes Go.ChangeAt Go.RowKit Go.Deep
theorem cell_lt {w : World} {a : Addr} {v : Value} (h : w.cell? a = some v) : a.block < w.heap.size := by
 apply Classical.byContradiction
 intro hn
 have : w.heap[a.block]? = none := by simp; omega
 simp [World.cell?, this] at h
theorem add_plain (g off n : Nat) : (Addr.add ⟨g, off, none⟩ n) = ⟨g, off + n, none⟩ := by
 by_cases h : n = 0
 ·subst h; rfl
 ·simp [Addr.add, h]
theorem insS_spot {H : Type} {enc : TypeId × Value → H} {w : World} {base : Nat} {spare : TypeId → Bool} {held : Bool} {n : Nat} {a : Addr} {cs : List Value} {x : DataW H × List MemPlace}
  (hc : w.cells? base (a.add (0 * 5)) 5 = some cs) (h : DataW.trod enc Tryz.prog w base spare held n 110 cs = some x) :
  a.spot = none ∧ a.block < w.heap.size := by
 obtain ⟨o, r, b, c, d, rfl, -⟩ := ins_cells h
 obtain ⟨-, -, hcell⟩ := World.cells?_some hc
 have c0 : w.cell? a = some (.int .i64 o) := by simpa [Addr.add] using hcell 0 (by omega)
 exact ⟨World.cell?_spot c0, cell_lt c0⟩
theorem insS_at {H : Type} {enc : TypeId × Value → H} {w : World} {base : Nat} {spare : TypeId → Bool} {held : Bool} {n g off i : Nat} {cs : List Value} {x : DataW H × List MemPlace}
  (hc : w.cells? base (Addr.add ⟨g, off, none⟩ (i * 5)) 5 = some cs) (h : DataW.trod enc Tryz.prog w base spare held n 110 cs = some x) :
  ∃ y : I5, At5 w g (off + i * 5) y := by
 obtain ⟨o, r, b, c, d, rfl, -⟩ := ins_cells h
 obtain ⟨-, -, hcell⟩ := World.cells?_some hc
 rw [add_plain] at hcell
 have c0 := hcell 0 (by omega)
 have c1 := hcell 1 (by omega)
 have c2 := hcell 2 (by omega)
 have c3 := hcell 3 (by omega)
 have c4 := hcell 4 (by omega)
 rw [add_plain] at c0 c1 c2 c3 c4
 exact ⟨⟨o, r, b, c, d⟩, c0, c1, c2, c3, c4⟩
end
section
set_option linter.unusedSimpArgs false
set_option linter.unusedVariables false
set_option maxRecDepth 100000
open Go.RowKit
structure PD where
 caps : List Int
 bods : List (List I5)
def ProgR (w : World) (lo hi : Nat) (s s' : Option Addr) (p : PD) : Prop := IntsR w lo hi s p.caps ∧ BodsR w lo hi s' p.bods
def Fits (p : PD) : Prop := p.caps.length ≤ 1048576 ∧ p.bods.length ≤ 1048576 ∧ ∀ i, i < p.bods.length → (p.bods.getD i []).length ≤ 1048576
theorem szInsS_all (s : Option Addr) (n c : Nat) (q : Int) (w : World) (hn : n ≤ maxLen) (hq : 0 ≤ q) (hq' : q ≤ 1048576) : Calls Tryz.prog 37 #[.slice s n c, .int .i64 q] w fun e w' => e = .returned (.int .i64 (if q < n then -1 else q - (n : Int))) ∧ w' = w := by
 unfold maxLen at hn
 by_cases h : q < n
 ·rw [if_pos h]
  have h1 : q - (n : Int) < 0 := by omega
  go_enter Tryz.func37, Tryz.ntmps37
  go_wp2
  go_ret
  exact ⟨rfl, rfl⟩
 ·rw [if_neg h]
  have h1 : ¬ q - (n : Int) < 0 := by omega
  go_enter Tryz.func37, Tryz.ntmps37
  go_wp2
  go_ret
  exact ⟨rfl, rfl⟩
theorem ProgR.keep' {w w' : World} {lo hi : Nat} {s s' : Option Addr} {p : PD} (h : ProgR w lo hi s s' p) (hb : Keep lo hi w w') : ProgR w' lo hi s s' p := ⟨h.1.keep hb, h.2.keep hb⟩
end
end Go.Proofs.YtehjbpjjegajjaaGreat
