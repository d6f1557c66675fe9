/- Small facts on boxed structs, method tables and comparisons of the program; no condition. laws.toIns hands its Ins on, field by field, in new memory. No condition. Lists of places as they lie in memory, and how the laws copy them. Conditions: lists of at most 1048576 places. Lists of integers, of places and of bodies as they lie in memory between two blocks, and how the laws copy them into new memory. Conditions: each list of at most 1048576. How the laws copy a program into new memory, and count how great it is. Conditions: each list of at most 1048576 where it is copied. Rows of integers that a call has made, written over with running numbers and looked at again. Conditions: at most 2^20 + 1 integers. Rows of threads and of channels that a call has made, written over with running numbers and looked at again. Conditions: the numbers stay below 10^15. Rows of notes that a call has made, written over with running numbers. Conditions: the numbers stay below 10^15. A source that a call has made, written over with running numbers. Conditions: the numbers stay below 10^15. Rows of numbers as they come in, and append of such a row to a row of the call's own. Conditions: at most 2^40 numbers. -/
import Derived.Test.YtknffngbdakblaaGreatJG00
import Derived.Test.YtknffngbdakblaaGreatChecked
import Derived.WalkKit
import Derived.KernelRfl
import Derived.WalkSpells
import Derived.WalkLawsBesides
import Derived.Test.YtknffngbdakblaaGreatJLeaves
import Derived.Laws.MakeOwn
import Derived.Deep.QuietTactic
import Derived.BigQuiet
import Derived.Laws.AppendOwnNone
import Derived.BigRegion
import Derived.Deep.RegionLaw
namespace Go.Proofs.YtknffngbdakblaaGreat
section
set_option linter.unusedSimpArgs false
set_option linter.unusedVariables false
set_option maxRecDepth 100000
open Go.RowKit
theorem neqN (u : TypeId) (v : Value) (w : World) : (binOp .neq 123 (.iface u v) .nilIface).run Tryz.prog w = .ok (.bool true) w := by kernel_rfl
theorem neqNil (w : World) : (binOp .neq 123 .nilIface .nilIface).run Tryz.prog w = .ok (.bool false) w := by kernel_rfl
theorem mth_1 (v : Value) (w : World) : (method 272 132 v "loop.example/g00238/impl.ins").run Tryz.prog w = .ok (124, v) w := by kernel_rfl
theorem mth_2 (v : Value) (w : World) : (method 272 134 v "loop.example/g00238/impl.ins").run Tryz.prog w = .ok (125, v) w := by kernel_rfl
theorem mth_3 (v : Value) (w : World) : (method 272 135 v "loop.example/g00238/impl.ins").run Tryz.prog w = .ok (126, v) w := by kernel_rfl
theorem mth_4 (v : Value) (w : World) : (method 272 136 v "loop.example/g00238/impl.ins").run Tryz.prog w = .ok (127, v) w := by kernel_rfl
theorem mth_5 (v : Value) (w : World) : (method 272 138 v "loop.example/g00238/impl.ins").run Tryz.prog w = .ok (128, v) w := by kernel_rfl
theorem mth_6 (v : Value) (w : World) : (method 272 140 v "loop.example/g00238/impl.ins").run Tryz.prog w = .ok (129, v) w := by kernel_rfl
theorem mth_7 (v : Value) (w : World) : (method 272 142 v "loop.example/g00238/impl.ins").run Tryz.prog w = .ok (130, v) w := by kernel_rfl
theorem mth_8 (v : Value) (w : World) : (method 272 143 v "loop.example/g00238/impl.ins").run Tryz.prog w = .ok (131, v) w := by kernel_rfl
theorem mth_9 (v : Value) (w : World) : (method 272 145 v "loop.example/g00238/impl.ins").run Tryz.prog w = .ok (132, v) w := by kernel_rfl
theorem mth_10 (v : Value) (w : World) : (method 272 147 v "loop.example/g00238/impl.ins").run Tryz.prog w = .ok (133, v) w := by kernel_rfl
theorem mth_11 (v : Value) (w : World) : (method 272 148 v "loop.example/g00238/impl.ins").run Tryz.prog w = .ok (134, v) w := by kernel_rfl
theorem mth_12 (v : Value) (w : World) : (method 272 149 v "loop.example/g00238/impl.ins").run Tryz.prog w = .ok (135, v) w := by kernel_rfl
theorem mth_13 (v : Value) (w : World) : (method 272 151 v "loop.example/g00238/impl.ins").run Tryz.prog w = .ok (136, v) w := by kernel_rfl
theorem boxed5 {w w1 : World} {v0 v1 v2 v3 v4 : Value} {T : TypeId} (hb : Below (w.alloc (.cells #[v0, v1, v2, v3, v4] T)).heap.size (w.alloc (.cells #[v0, v1, v2, v3, v4] T)) w1) :
  w1.cell? ⟨w.heap.size, 0, none⟩ = some v0 ∧ w1.cell? ⟨w.heap.size, 1, none⟩ = some v1 ∧ w1.cell? ⟨w.heap.size, 2, none⟩ = some v2 ∧ w1.cell? ⟨w.heap.size, 3, none⟩ = some v3 ∧ w1.cell? ⟨w.heap.size, 4, none⟩ = some v4 ∧ w.heap.size < w1.heap.size := by
 refine ⟨?_, ?_, ?_, ?_, ?_, ?_⟩
 iterate 5 (· rw [hb.cell (by simp)]; simp [go_sem])
 ·have := hb.size; simp at this; omega
theorem carry5 {w1 w2 : World} {B : Nat} {v0 v1 v2 v3 v4 : Value} (hb : Below w1.drew.heap.size w1.drew w2) (hz : B < w1.heap.size) (c0 : w1.cell? ⟨B, 0, none⟩ = some v0) (c1 : w1.cell? ⟨B, 1, none⟩ = some v1) (c2 : w1.cell? ⟨B, 2, none⟩ = some v2) (c3 : w1.cell? ⟨B, 3, none⟩ = some v3) (c4 : w1.cell? ⟨B, 4, none⟩ = some v4) :
  w2.cell? ⟨B, 0, none⟩ = some v0 ∧ w2.cell? ⟨B, 1, none⟩ = some v1 ∧ w2.cell? ⟨B, 2, none⟩ = some v2 ∧ w2.cell? ⟨B, 3, none⟩ = some v3 ∧ w2.cell? ⟨B, 4, none⟩ = some v4 ∧ w1.heap.size ≤ w2.heap.size :=
 ⟨(hb.cell hz).trans c0, (hb.cell hz).trans c1, (hb.cell hz).trans c2, (hb.cell hz).trans c3, (hb.cell hz).trans c4, hb.size⟩
theorem areChans_is (c : Int) (v : Bool) (w : World) (h : Plain.chansB c = v) : Calls Tryz.prog 83 #[.int .i64 c] w fun e w' => e = .returned (.bool v) ∧ w' = w := by
 subst h
 exact areChans_any c w
theorem eqNo (o r a b n o' r' a' b' n' : Int) (w : World) (h : ¬ (o = o' ∧ r = r' ∧ a = a' ∧ b = b' ∧ n = n')) : (binOp .eql 85 (.agg #[.int .i64 o, .int .i64 r, .int .i64 a, .int .i64 b, .int .i64 n]) (.agg #[.int .i64 o', .int .i64 r', .int .i64 a', .int .i64 b', .int .i64 n'])).run Tryz.prog w = .ok (.bool false) w := by
 have e : (binOp .eql 85 (.agg #[.int .i64 o, .int .i64 r, .int .i64 a, .int .i64 b, .int .i64 n]) (.agg #[.int .i64 o', .int .i64 r', .int .i64 a', .int .i64 b', .int .i64 n'])).run Tryz.prog w = .ok (.bool (decide (o = o' ∧ r = r' ∧ a = a' ∧ b = b' ∧ n = n'))) w := by
  simp [go_sem]
  by_cases h1 : o = o' <;> by_cases h2 : r = r' <;> by_cases h3 : a = a' <;> by_cases h4 : b = b' <;> by_cases h5 : n = n' <;> simp [h1, h2, h3, h4, h5]
 rw [e, decide_eq_false h]
end
section
set_option linter.unusedSimpArgs false
set_option linter.unusedVariables false
set_option maxRecDepth 100000
open Go.RowKit
end
section
set_option linter.unusedSimpArgs false
set_option linter.unusedVariables false
set_option maxRecDepth 100000
open Go.RowKit
structure I5 where
 o : Int
 r : Int
 a : Int
 b : Int
 n : Int
def z5 : I5 := ⟨0, 0, 0, 0, 0⟩
def At5 (w : World) (g off : Nat) (x : I5) : Prop :=
 w.cell? ⟨g, off, none⟩ = some (.int .i64 x.o) ∧ w.cell? ⟨g, off + 1, none⟩ = some (.int .i64 x.r) ∧ w.cell? ⟨g, off + 2, none⟩ = some (.int .i64 x.a) ∧ w.cell? ⟨g, off + 3, none⟩ = some (.int .i64 x.b) ∧ w.cell? ⟨g, off + 4, none⟩ = some (.int .i64 x.n)
theorem At5.keep {w w' : World} {B g off : Nat} {x : I5} (h : At5 w g off x) (hb : Below B w w') (hg : g < B) : At5 w' g off x :=
 ⟨(hb.cell hg).trans h.1, (hb.cell hg).trans h.2.1, (hb.cell hg).trans h.2.2.1, (hb.cell hg).trans h.2.2.2.1, (hb.cell hg).trans h.2.2.2.2⟩
/- a list of places below block B -/
def InsB (w : World) (B : Nat) (s : Option Addr) (l : List I5) : Prop :=
 l = [] ∨ ∃ g off, s = some ⟨g, off, none⟩ ∧ g < B ∧ ∀ i, i < l.length → At5 w g (off + i * 5) (l.getD i z5)
end
section
set_option linter.unusedSimpArgs false
set_option linter.unusedVariables false
set_option maxRecDepth 100000
open Go.RowKit
def InsR (w : World) (lo hi : Nat) (s : Option Addr) (l : List I5) : Prop :=
 l = [] ∨ ∃ g off, s = some ⟨g, off, none⟩ ∧ lo ≤ g ∧ g < hi ∧ ∀ i, i < l.length → At5 w g (off + i * 5) (l.getD i z5)
def BodR (w : World) (lo hi g off : Nat) (l : List I5) : Prop := ∃ s c, w.cell? ⟨g, off, none⟩ = some (.slice s l.length c) ∧ InsR w lo hi s l
def BodsR (w : World) (lo hi : Nat) (s : Option Addr) (l : List (List I5)) : Prop :=
 l = [] ∨ ∃ g off, s = some ⟨g, off, none⟩ ∧ lo ≤ g ∧ g < hi ∧ ∀ i, i < l.length → BodR w lo hi g (off + i) (l.getD i [])
theorem At5.of_keep {w w' : World} {lo hi g off : Nat} {x : I5} (h : At5 w g off x) (hb : Keep lo hi w w') (h1 : lo ≤ g) (h2 : g < hi) : At5 w' g off x :=
 ⟨(hb.cell h1 h2).trans h.1, (hb.cell h1 h2).trans h.2.1, (hb.cell h1 h2).trans h.2.2.1, (hb.cell h1 h2).trans h.2.2.2.1, (hb.cell h1 h2).trans h.2.2.2.2⟩
theorem InsR.keep {w w' : World} {lo hi : Nat} {s : Option Addr} {l : List I5} (h : InsR w lo hi s l) (hb : Keep lo hi w w') : InsR w' lo hi s l := by
 rcases h with h | ⟨g, o, hs, h1, h2, hc⟩
 ·exact .inl h
 ·exact .inr ⟨g, o, hs, h1, h2, fun i hi => (hc i hi).of_keep hb h1 h2⟩
theorem BodR.keep {w w' : World} {lo hi g off : Nat} {l : List I5} (h : BodR w lo hi g off l) (hb : Keep lo hi w w') (hc : w'.cell? ⟨g, off, none⟩ = w.cell? ⟨g, off, none⟩) : BodR w' lo hi g off l := by
 obtain ⟨s, c, h1, h2⟩ := h
 exact ⟨s, c, hc.trans h1, h2.keep hb⟩
theorem BodsR.keep {w w' : World} {lo hi : Nat} {s : Option Addr} {l : List (List I5)} (h : BodsR w lo hi s l) (hb : Keep lo hi w w') : BodsR w' lo hi s l := by
 rcases h with h | ⟨g, o, hs, h1, h2, hc⟩
 ·exact .inl h
 ·exact .inr ⟨g, o, hs, h1, h2, fun i hi => (hc i hi).keep hb (hb.cell h1 h2)⟩
theorem InsR.mono {w : World} {lo hi lo' hi' : Nat} {s : Option Addr} {l : List I5} (h : InsR w lo hi s l) (h1 : lo' ≤ lo) (h2 : hi ≤ hi') : InsR w lo' hi' s l := by
 rcases h with h | ⟨g, o, hs, a, b, hc⟩
 ·exact .inl h
 ·exact .inr ⟨g, o, hs, by omega, by omega, hc⟩
theorem BodR.mono {w : World} {lo hi lo' hi' g off : Nat} {l : List I5} (h : BodR w lo hi g off l) (h1 : lo' ≤ lo) (h2 : hi ≤ hi') : BodR w lo' hi' g off l := by
 obtain ⟨s, c, a, b⟩ := h
 exact ⟨s, c, a, b.mono h1 h2⟩
theorem BodsR.mono {w : World} {lo hi lo' hi' : Nat} {s : Option Addr} {l : List (List I5)} (h : BodsR w lo hi s l) (h1 : lo' ≤ lo) (h2 : hi ≤ hi') : BodsR w lo' hi' s l := by
 rcases h with h | ⟨g, o, hs, a, b, hc⟩
 ·exact .inl h
 ·exact .inr ⟨g, o, hs, by omega, by omega, fun i hi => (hc i hi).mono h1 h2⟩
theorem InsR.insB {w : World} {lo hi : Nat} {s : Option Addr} {l : List I5} (h : InsR w lo hi s l) : InsB w hi s l := by
 rcases h with h | ⟨g, o, hs, a, b, hc⟩
 ·exact .inl h
 ·exact .inr ⟨g, o, hs, b, hc⟩
end
section
set_option linter.unusedSimpArgs false
set_option linter.unusedVariables false
set_option maxRecDepth 100000
open Go.RowKit
structure PD where
 caps : List Int
 bods : List (List I5)
def ProgR (w : World) (lo hi : Nat) (s s' : Option Addr) (p : PD) : Prop := IntsR w lo hi s p.caps ∧ BodsR w lo hi s' p.bods
def Fits (p : PD) : Prop := p.caps.length ≤ 1048576 ∧ p.bods.length ≤ 1048576 ∧ ∀ i, i < p.bods.length → (p.bods.getD i []).length ≤ 1048576
theorem ProgR.keep' {w w' : World} {lo hi : Nat} {s s' : Option Addr} {p : PD} (h : ProgR w lo hi s s' p) (hb : Keep lo hi w w') : ProgR w' lo hi s s' p := ⟨h.1.keep hb, h.2.keep hb⟩
end
section
set_option linter.unusedSimpArgs false
set_option linter.unusedVariables false
set_option maxRecDepth 100000
open Go.RowKit
end
section
set_option linter.unusedSimpArgs false
set_option linter.unusedVariables false
set_option maxRecDepth 100000
open Go.RowKit
end
section
set_option linter.unusedSimpArgs false
set_option linter.unusedVariables false
set_option maxRecDepth 100000
open Go.RowKit
end
section
set_option linter.unusedSimpArgs false
set_option linter.unusedVariables false
set_option maxRecDepth 100000
open Go.RowKit
theorem OwnQ.keepB {w w' : World} {base : Nat} {e : TypeId} {v : Value} {L : List (Rec × Value)} (h : OwnQ w base e v L) (h1 : ∀ k, v.ownBlock = some k → w'.heap[k]? = w.heap[k]?) (h2 : ∀ (i : Nat) (x : Rec × Value), L[i]? = some x → ∀ k, x.2.ownBlock = some k → w'.heap[k]? = w.heap[k]?) : OwnQ w' base e v L :=
 ⟨ownKeep' h.row h1, fun i x hx => ownKeep' (h.inn i x hx) (h2 i x hx), h.sep⟩
def HitQ (v : Value) (L : List (Rec × Value)) (k : Nat) : Prop := v.ownBlock = some k ∨ ∃ (i : Nat) (x : Rec × Value), L[i]? = some x ∧ x.2.ownBlock = some k
def HitS (v1 v2 v3 : Value) (L1 L2 : List (Rec × Value)) (k : Nat) : Prop := HitQ v1 L1 k ∨ HitQ v2 L2 k ∨ v3.ownBlock = some k
theorem OwnQ.hit {w : World} {base : Nat} {e : TypeId} {v : Value} {L : List (Rec × Value)} (h : OwnQ w base e v L) {k : Nat} (hk : HitQ v L k) : base ≤ k ∧ k < w.heap.size := by
 rcases hk with hk | ⟨i, x, hx, hk⟩
 ·exact World.ownsRow.lt h.row _ hk
 ·exact World.ownsRow.lt (h.inn i x hx) _ hk
theorem OwnS.hit {w : World} {base : Nat} {v1 v2 v3 : Value} {L1 L2 : List (Rec × Value)} {d : SD} (h : OwnS w base v1 v2 v3 L1 L2 d) {k : Nat} (hk : HitS v1 v2 v3 L1 L2 k) : base ≤ k ∧ k < w.heap.size := by
 rcases hk with hk | hk | hk
 ·exact h.t.hit hk
 ·exact h.c.hit hk
 ·exact World.ownsRow.lt h.n _ hk
theorem OwnS.l1 {w : World} {base : Nat} {v1 v2 v3 : Value} {L1 L2 : List (Rec × Value)} {d : SD} (h : OwnS w base v1 v2 v3 L1 L2 d) : L1.length = d.ths.length := by have := congrArg List.length h.e1; simpa using this
theorem OwnS.l2 {w : World} {base : Nat} {v1 v2 v3 : Value} {L1 L2 : List (Rec × Value)} {d : SD} (h : OwnS w base v1 v2 v3 L1 L2 d) : L2.length = d.chs.length := by have := congrArg List.length h.e2; simpa using this
theorem OwnS.at1 {w : World} {base : Nat} {v1 v2 v3 : Value} {L1 L2 : List (Rec × Value)} {d : SD} (h : OwnS w base v1 v2 v3 L1 L2 d) {i : Nat} {x : Rec × Value} (hx : L1[i]? = some x) : ∃ t, d.ths[i]? = some t ∧ x.1 = t.rec3 := by
 have e := congrArg (fun l => l[i]?) h.e1
 simp only [List.getElem?_map, hx, Option.map_some] at e
 obtain ⟨t, ht, e'⟩ := Option.map_eq_some_iff.1 e.symm
 exact ⟨t, ht, e'.symm⟩
theorem OwnS.at2 {w : World} {base : Nat} {v1 v2 v3 : Value} {L1 L2 : List (Rec × Value)} {d : SD} (h : OwnS w base v1 v2 v3 L1 L2 d) {i : Nat} {x : Rec × Value} (hx : L2[i]? = some x) : ∃ t, d.chs[i]? = some t ∧ x.1 = t.rec3 := by
 have e := congrArg (fun l => l[i]?) h.e2
 simp only [List.getElem?_map, hx, Option.map_some] at e
 obtain ⟨t, ht, e'⟩ := Option.map_eq_some_iff.1 e.symm
 exact ⟨t, ht, e'.symm⟩
end
section
set_option linter.unusedSimpArgs false
set_option linter.unusedVariables false
set_option maxRecDepth 100000
open Go.RowKit
def RowI (w : World) (B : Nat) (s : Option Addr) (l : List Int) : Prop :=
 l = [] ∨ ∃ g o, s = some ⟨g, o, none⟩ ∧ g < B ∧ ∀ i, i < l.length → w.cell? ⟨g, o + i, none⟩ = some (.int .i64 (l.getD i 0))
theorem RowI.keep {w w' : World} {B : Nat} {s : Option Addr} {l : List Int} (h : RowI w B s l) (hb : ∀ k, k < B → w'.heap[k]? = w.heap[k]?) : RowI w' B s l := by
 rcases h with h | ⟨g, o, hs, hg, hc⟩
 ·exact .inl h
 ·exact .inr ⟨g, o, hs, hg, fun i hi => (World.cell?_of_block (w := w) (a := ⟨g, o + i, none⟩) (hb g hg)).trans (hc i hi)⟩
theorem RowI.below {w w' : World} {B : Nat} {s : Option Addr} {l : List Int} (h : RowI w B s l) (hb : Below B w w') : RowI w' B s l := h.keep hb.block
theorem RowI.mono {w : World} {B B' : Nat} {s : Option Addr} {l : List Int} (h : RowI w B s l) (hb : B ≤ B') : RowI w B' s l := by
 rcases h with h | ⟨g, o, hs, hg, hc⟩
 ·exact .inl h
 ·exact .inr ⟨g, o, hs, by omega, hc⟩
theorem cellOff {w : World} {g i j : Nat} {v : Value} (h : ¬ i = j) : (w.setCell ⟨g, i, none⟩ v).cell? ⟨g, j, none⟩ = w.cell? ⟨g, j, none⟩ := by
 apply World.cell?_setCell_other
 intro e
 injection e with e1 e2
 exact h e2
theorem cellAt {w : World} {g i : Nat} {v u : Value} (h : w.cell? ⟨g, i, none⟩ = some u) : (w.setCell ⟨g, i, none⟩ v).cell? ⟨g, i, none⟩ = some v := by
 apply World.cell?_setCell_same
 exact h
theorem OwnN.low {w : World} {b b' : Nat} {v : Value} {ls : List Int} (h : OwnN w b v ls) (hb : b' ≤ b) : OwnN w b' v ls := by
 obtain ⟨h1, h2⟩ := h
 refine ⟨h1, ?_⟩
 rcases h2 with h2 | ⟨g, cap, cur, a, b0, c, d⟩
 ·exact .inl h2
 ·exact .inr ⟨g, cap, cur, a, Nat.le_trans hb b0, c, d⟩
theorem OwnN.set {w : World} {base : Nat} {v : Value} {ls : List Int} (h : OwnN w base v ls) {a : Addr} (ha : a.block < base) (u : Value) : OwnN (w.setCell a u) base v ls := ownsRow_setCell_below h ha u
theorem OwnN.far {w : World} {base g n cap : Nat} {ls : List Int} (h : OwnN w base (.slice (some ⟨g, 0, none⟩) n cap) ls) {a : Addr} (ha : a.block ≠ g) (u : Value) : OwnN (w.setCell a u) base (.slice (some ⟨g, 0, none⟩) n cap) ls := by
 obtain ⟨h1, h2⟩ := h
 refine ⟨h1, ?_⟩
 rcases h2 with ⟨h2, -⟩ | ⟨g', cap', cur, hv, hb, hg, h3⟩
 ·cases h2
 ·obtain rfl : g = g' := by injection hv with e; injection e with e; injection e
  exact .inr ⟨g, cap', cur, hv, hb, (Below.heap_setCell w a u g (fun e => ha e.symm)).trans hg, h3⟩
theorem OwnN.off {w : World} {base : Nat} {v : Value} {ls : List Int} (h : OwnN w base v ls) {a : Addr} (ha : ∀ g cap, v = .slice (some ⟨g, 0, none⟩) ls.length cap → a.block ≠ g) (u : Value) : OwnN (w.setCell a u) base v ls := by
 obtain ⟨h1, h2⟩ := h
 refine ⟨h1, ?_⟩
 rcases h2 with h2 | ⟨g, cap, cur, hv, hb, hg, h3⟩
 ·exact .inl h2
 ·exact .inr ⟨g, cap, cur, hv, hb, (Below.heap_setCell w a u g (fun e => ha g cap hv e.symm)).trans hg, h3⟩
theorem OwnN.lt {w : World} {base : Nat} {v : Value} {ls : List Int} (h : OwnN w base v ls) (hn : 0 < ls.length) : ∃ g cap, v = .slice (some ⟨g, 0, none⟩) ls.length cap ∧ base ≤ g ∧ g < w.heap.size := World.ownsRow.form h hn
theorem OwnN.row {w : World} {base : Nat} {v : Value} {ls : List Int} (h : OwnN w base v ls) : ∃ s c, v = .slice s ls.length c ∧ RowI w w.heap.size s ls := by
 by_cases h0 : ls.length = 0
 ·obtain ⟨s, c, hv⟩ := h.sl
  exact ⟨s, c, hv, .inl (List.length_eq_zero_iff.1 h0)⟩
 ·obtain ⟨g, cap, rfl, -, hlt⟩ := h.lt (by omega)
  exact ⟨_, _, rfl, .inr ⟨g, 0, rfl, hlt, fun i hi => by rw [Nat.zero_add]; exact h.cell hi⟩⟩
theorem ownN_nil (w : World) (base : Nat) : OwnN w base (.slice none 0 0) [] := World.ownsRow_nil _ _ _ _
theorem run_append_zero (w : World) (base : Nat) (v : Value) (ls : List Int) (hown : OwnN w base v ls) (s : Option Addr) (c : Nat) :
  (Builtin.append_ #[24, 24] 24 #[v, .slice s 0 c]).run Tryz.prog w = .ok v w := by
 obtain ⟨i0, hi, hz0, hz1, hz2⟩ := infoInt
 rcases hown.2 with ⟨rfl, -⟩ | ⟨g, cap, cur, rfl, _, _, hnc, _⟩
 ·cases s <;> simp [Builtin.append_, run_underlying Tryz.underlying24, sizeOf, typeInfo, hi, Builtin.lenOf, Builtin.firstCells, loadCells, loadCellsFrom, storeCells]
 ·cases s <;> simp [Builtin.append_, run_underlying Tryz.underlying24, sizeOf, typeInfo, hi, Builtin.lenOf, Builtin.firstCells, hnc, storeCells, loadCells, loadCellsFrom, storeCells]
theorem app_none {ops : Array Oper} {rest : List Oper} {o : Oper} {a : Act} {Q : Exit → Act → World → Prop} (hgd : o.guard = none) (s x : Operand) (hty : o.type = 24) (ho : o.op = .call { callee := .builtin .append, args := #[s, x], argTypes := #[24, 24] })
  (w : World) (base : Nat) (v : Value) (ls : List Int) (hs : a.eval s = v) (hown : OwnN w base v ls) (sx : Option Addr) (cx : Nat) (hx : a.eval x = .slice sx 0 cx)
  (h : wpList Tryz.prog ops Q rest (a.put o.dst v) w) : wpList Tryz.prog ops Q (o :: rest) a w := by
 refine wpList_plain hgd fun K hK => ?_
 have hrun := run_append_zero w base v ls hown sx cx
 unfold Oper.wp
 simp [execOp, ho, resolve, invoke, builtin, hs, hx, hty, hrun, Result.andThen]
 exact hK _ _ h
theorem step_none {ops : Array Oper} {o : Oper} {a : Act} {K : Act → World → Prop} {Q : Exit → Act → World → Prop} {E : Prop} (hgd : o.guard = none) (s x : Operand) (hty : o.type = 24) (ho : o.op = .call { callee := .builtin .append, args := #[s, x], argTypes := #[24, 24] })
  (w : World) (base : Nat) (v : Value) (ls : List Int) (hs : a.eval s = v) (hown : OwnN w base v ls) (sx : Option Addr) (cx : Nat) (hx : a.eval x = .slice sx 0 cx)
  (h : K (a.put o.dst v) w) : if Region.wanted o (yielded ops a.tmps) = true then Oper.wp Tryz.prog o a w K Q else E := by
 have hw : Region.wanted o (yielded ops a.tmps) = true := by simp [Region.wanted, hgd]
 rw [if_pos hw]
 have hrun := run_append_zero w base v ls hown sx cx
 unfold Oper.wp
 simp [execOp, ho, resolve, invoke, builtin, hs, hx, hty, hrun, Result.andThen]
 exact h
theorem news_row {w : World} {g o : Nat} {l : List Int} (hc : ∀ i, i < l.length → w.cell? ⟨g, o + i, none⟩ = some (.int .i64 (l.getD i 0))) : ∀ j u, (l.map (Value.int .i64))[j]? = some u → w.cell? (Addr.add ⟨g, o, none⟩ j) = some u := by
 intro j u hu
 rw [List.getElem?_map] at hu
 by_cases hj : j < l.length
 ·have e : (Addr.add ⟨g, o, none⟩ j) = ⟨g, o + j, none⟩ := by
   by_cases h : j = 0
   ·subst h; rfl
   ·simp [Addr.add, h]
  rw [e, hc j hj]
  rw [List.getElem?_eq_getElem hj] at hu
  simp at hu
  rw [← hu]
  simp [List.getD_eq_getElem?_getD, List.getElem?_eq_getElem hj]
 ·rw [List.getElem?_eq_none (by omega)] at hu
  cases hu
theorem app_row {ops : Array Oper} {rest : List Oper} {o : Oper} {a : Act} {Q : Exit → Act → World → Prop} (hgd : o.guard = none) (s x : Operand) (ho : o.op = .call { callee := .builtin .append, args := #[s, x], argTypes := #[24, 24] })
  (w : World) (base : Nat) (v : Value) (ls : List Int) (hs : a.eval s = v) (hown : OwnN w base v ls) (g0 o0 c : Nat) (l : List Int) (hx : a.eval x = .slice (some ⟨g0, o0, none⟩) l.length c) (hc : ∀ i, i < l.length → w.cell? ⟨g0, o0 + i, none⟩ = some (.int .i64 (l.getD i 0)))
  (hl : 0 < l.length) (hn : ls.length + l.length ≤ 1099511627776) (hbase : base ≤ w.heap.size)
  (h : ∀ g cap w', OwnN w' base (.slice (some ⟨g, 0, none⟩) (ls.length + l.length) cap) (ls ++ l) → Below base w w' → g < w'.heap.size → base ≤ g → wpList Tryz.prog ops Q rest (a.put o.dst (.slice (some ⟨g, 0, none⟩) (ls.length + l.length) cap)) w') :
  wpList Tryz.prog ops Q (o :: rest) a w := by
 obtain ⟨i0, hi, hz0, hz1, hz2⟩ := infoInt
 refine wpList_append_lies _ hgd s x 24 ho base 3 i0 _ 1 8 Tryz.underlying24 hi hz0 hz1 hz2 rfl (by decide) v ls.length _ hs hown ⟨g0, o0, none⟩ l.length c (l.map (Value.int .i64)) hx (by simp) (news_row hc) (fun u hu => by obtain ⟨z, -, rfl⟩ := List.mem_map.1 hu; rfl) hl (by unfold maxLen; omega) (by omega) hbase _ rfl ?_
 intro g cap w' q1 q2 q3 q4
 have hb : Below base w w' := Below.grown (Below.refl _ _) q2 hbase (fun j hj => (World.ownsRow.lt hown _ hj).1)
 have ho' : OwnN w' base (.slice (some ⟨g, 0, none⟩) (ls.length + l.length) cap) (ls ++ l) := by
  show w'.ownsRow base 3 1 _ (ls ++ l).length ((ls ++ l).map (Value.int .i64))
  rw [List.map_append, List.length_append]
  exact q1
 refine h g cap w' ho' hb q4 ?_
 rcases q3 with q3 | q3
 ·exact (World.ownsRow.lt hown _ q3).1
 ·omega
theorem step_row {ops : Array Oper} {o : Oper} {a : Act} {K : Act → World → Prop} {Q : Exit → Act → World → Prop} {E : Prop} (hgd : o.guard = none) (s x : Operand) (ho : o.op = .call { callee := .builtin .append, args := #[s, x], argTypes := #[24, 24] })
  (w : World) (base : Nat) (v : Value) (ls : List Int) (hs : a.eval s = v) (hown : OwnN w base v ls) (g0 o0 c : Nat) (l : List Int) (hx : a.eval x = .slice (some ⟨g0, o0, none⟩) l.length c) (hc : ∀ i, i < l.length → w.cell? ⟨g0, o0 + i, none⟩ = some (.int .i64 (l.getD i 0)))
  (hl : 0 < l.length) (hn : ls.length + l.length ≤ 1099511627776) (hbase : base ≤ w.heap.size)
  (h : ∀ g cap w', OwnN w' base (.slice (some ⟨g, 0, none⟩) (ls.length + l.length) cap) (ls ++ l) → Below base w w' → g < w'.heap.size → base ≤ g → K (a.put o.dst (.slice (some ⟨g, 0, none⟩) (ls.length + l.length) cap)) w') :
  if Region.wanted o (yielded ops a.tmps) = true then Oper.wp Tryz.prog o a w K Q else E := by
 obtain ⟨i0, hi, hz0, hz1, hz2⟩ := infoInt
 refine step_append_lies _ hgd s x 24 ho base 3 i0 _ 1 8 Tryz.underlying24 hi hz0 hz1 hz2 rfl (by decide) v ls.length _ hs hown ⟨g0, o0, none⟩ l.length c (l.map (Value.int .i64)) hx (by simp) (news_row hc) (fun u hu => by obtain ⟨z, -, rfl⟩ := List.mem_map.1 hu; rfl) hl (by unfold maxLen; omega) (by omega) hbase _ rfl ?_
 intro g cap w' q1 q2 q3 q4
 have hb : Below base w w' := Below.grown (Below.refl _ _) q2 hbase (fun j hj => (World.ownsRow.lt hown _ hj).1)
 have ho' : OwnN w' base (.slice (some ⟨g, 0, none⟩) (ls.length + l.length) cap) (ls ++ l) := by
  show w'.ownsRow base 3 1 _ (ls ++ l).length ((ls ++ l).map (Value.int .i64))
  rw [List.map_append, List.length_append]
  exact q1
 refine h g cap w' ho' hb q4 ?_
 rcases q3 with q3 | q3
 ·exact (World.ownsRow.lt hown _ q3).1
 ·omega
theorem own_block_lt {w : World} {base : Nat} {v : Value} {ls : List Int} (h : OwnN w base v ls) {k : Nat} (hk : v.ownBlock = some k) : base ≤ k ∧ k < w.heap.size := World.ownsRow.lt h _ hk
theorem app_one {ops : Array Oper} {rest : List Oper} {o : Oper} {a : Act} {Q : Exit → Act → World → Prop} (hgd : o.guard = none) (s x : Operand) (ho : o.op = .call { callee := .builtin .append, args := #[s, x], argTypes := #[24, 24] })
  (w : World) (z : Int) (base : Nat) (v : Value) (ls : List Int) (hs : a.eval s = v) (hown : OwnN w base v ls) (hx : a.eval x = .slice (some ⟨w.heap.size, 0, none⟩) 1 1) (hn : ls.length ≤ 1099511627775) (hbase : base ≤ w.heap.size)
  (h : ∀ g cap w', OwnN w' base (.slice (some ⟨g, 0, none⟩) (ls.length + 1) cap) (ls ++ [z]) → Below base w w' → (∀ k, k < w.heap.size → v.ownBlock ≠ some k → w'.heap[k]? = w.heap[k]? ∧ k ≠ g) → wpList Tryz.prog ops Q rest (a.put o.dst (.slice (some ⟨g, 0, none⟩) (ls.length + 1) cap)) w') :
  wpList Tryz.prog ops Q (o :: rest) a (w.alloc (.cells #[.int .i64 z] 3)) := by
 obtain ⟨i0, hi, hz0, hz1, hz2⟩ := infoInt
 have h1' := hown.alloc (.cells #[.int .i64 z] 3)
 refine wpList_append_lies _ hgd s x 24 ho base 3 i0 _ 1 8 Tryz.underlying24 hi hz0 hz1 hz2 rfl (by decide) v ls.length _ hs h1' ⟨w.heap.size, 0, none⟩ 1 1 [.int .i64 z] hx rfl (newN1 w _) (fun u hu => by simp at hu; subst hu; rfl) (by decide) (by unfold maxLen; omega) (by omega) (by simp; omega) _ rfl ?_
 intro g cap w' q1 q2 q3 q4
 have hb : Below base w w' := Below.grown (((Below.refl _ _).alloc hbase _)) q2 (by simp; omega) (fun j hj => (World.ownsRow.lt h1' _ hj).1)
 refine h g cap w' ?_ hb (fun k hk hne => ?_)
 ·show w'.ownsRow base 3 1 _ (ls ++ [z]).length ((ls ++ [z]).map (Value.int .i64))
  rw [List.map_append, List.length_append]
  exact q1
 ·refine ⟨(q2.block k (by simp; omega) (fun e => hne e.symm)).trans (Below.heap_alloc _ _ _ hk), ?_⟩
  rintro rfl
  rcases q3 with q3 | q3
  ·exact hne q3
  ·simp at q3; omega
end
end Go.Proofs.YtknffngbdakblaaGreat
