/- laws.toStep hands its Step on, field by field, in new memory. No condition. Lists of integers as they lie in memory, and what the laws' small functions make of them. Conditions: the lists are of at most a thousand million numbers. Lists of integers as they lie in memory between two blocks, and how the laws copy and count them. Conditions: at most 1048576 integers where they are copied. Lists of steps as they lie in memory, and how the laws copy them. Conditions: lists of at most 1048576 steps. Rows of numbers that a call has made: how they lie, what keeps them, and append of one number, and of three noughts. Conditions: fewer than 2^40 numbers. Rows of integers that a call has made: kept, copied, written over, looked at again; boxes; what a call that writes over a row leaves. Conditions: at most 2^20 + 1 integers. Memories as they lie: cells, each a row of writes, each write with its view; read, and owned with the places of their integers. No condition. A row of integers that is not empty lies somewhere. No condition. Append of one integer, of a row of integers, onto a row that a call has made. Conditions: fewer than 2^30 of them. Views: what the program and the specification make of rows of integers (copied, cut, learn, knows, Join, Knows). Conditions: at most 2^20 + 1 integers a row. -/
import Derived.Test.YtepfpbcjklaenaaNG00
import Derived.Test.YtepfpbcjklaenaaNC7Leaf
import Derived.Test.YtepfpbcjklaenaaChecked
import Derived.WalkKit
import Derived.KernelRfl
import Derived.WalkSpells
import Derived.WalkLawsBesides
import Derived.Deep.QuietTactic
import Derived.BigQuiet
import Derived.Laws.MakeOwn
import Derived.Below
import Derived.Laws.OwnMore
import Derived.Deep.AppendLies
import Derived.Laws.AppendOwnNone
import Derived.BigRegion
import Derived.Deep.RegionLaw
import Derived.Deep.RegionHeld3
import Derived.Laws.CopyOwn
namespace Go.Proofs.Ytepfpbcjklaenaa
section
set_option linter.unusedSimpArgs false
set_option linter.unusedVariables false
set_option maxRecDepth 100000
open Go.RowKit
end
section
set_option linter.unusedSimpArgs false
set_option linter.unusedVariables false
set_option maxRecDepth 100000
open Go.RowKit
def Ints (w : World) (s : Option Addr) (l : List Int) : Prop :=
 l = [] ∨ ∃ g o, s = some ⟨g, o, none⟩ ∧ g < w.heap.size ∧ ∀ i, i < l.length → w.cell? ⟨g, o + i, none⟩ = some (.int .i64 (l.getD i 0))
theorem ret_bool' {x y : Bool} (h : x = y) : Ending.returned (.bool x) = Ending.returned (.bool y) := by rw [h]
theorem getD_eq_all (l l' : List Int) (h : l.length = l'.length) (hj : ∀ j, j < l.length → l.getD j 0 = l'.getD j 0) : l = l' := by
 apply List.ext_getElem h
 intro i h1 h2
 have := hj i h1
 simpa [List.getD_eq_getElem?_getD, h1, h2] using this
end
section
set_option linter.unusedSimpArgs false
set_option linter.unusedVariables false
set_option maxRecDepth 100000
open Go.RowKit
theorem setC_at {w : World} {g i : Nat} {v : Value} (h : (w.cell? ⟨g, i, none⟩).isSome = true) : (w.setCell ⟨g, i, none⟩ v).cell? ⟨g, i, none⟩ = some v := World.cell?_setCell_same' w _ v h
theorem setC_off {w : World} {g i j : Nat} {v : Value} (h : i ≠ j) : (w.setCell ⟨g, i, none⟩ v).cell? ⟨g, j, none⟩ = w.cell? ⟨g, j, none⟩ := by
 apply World.cell?_setCell_other
 intro e
 injection e with e1 e2
 exact h e2
def Keep (lo hi : Nat) (w w' : World) : Prop := ∀ k, lo ≤ k → k < hi → w'.heap[k]? = w.heap[k]?
theorem Keep.of_below {lo hi B : Nat} {w w' : World} (hb : Below B w w') (h : hi ≤ B) : Keep lo hi w w' := fun k _ hk => hb.block k (by omega)
theorem Keep.cell {lo hi : Nat} {w w' : World} (h : Keep lo hi w w') {p : Addr} (h1 : lo ≤ p.block) (h2 : p.block < hi) : w'.cell? p = w.cell? p := World.cell?_of_block (w := w) (h p.block h1 h2)
def IntsR (w : World) (lo hi : Nat) (s : Option Addr) (l : List Int) : Prop :=
 l = [] ∨ ∃ g off, s = some ⟨g, off, none⟩ ∧ lo ≤ g ∧ g < hi ∧ ∀ i, i < l.length → w.cell? ⟨g, off + i, none⟩ = some (.int .i64 (l.getD i 0))
theorem IntsR.keep {w w' : World} {lo hi : Nat} {s : Option Addr} {l : List Int} (h : IntsR w lo hi s l) (hb : Keep lo hi w w') : IntsR w' lo hi s l := by
 rcases h with h | ⟨g, o, hs, h1, h2, hc⟩
 ·exact .inl h
 ·exact .inr ⟨g, o, hs, h1, h2, fun i hi => (hb.cell h1 h2).trans (hc i hi)⟩
theorem IntsR.mono {w : World} {lo hi lo' hi' : Nat} {s : Option Addr} {l : List Int} (h : IntsR w lo hi s l) (h1 : lo' ≤ lo) (h2 : hi ≤ hi') : IntsR w lo' hi' s l := by
 rcases h with h | ⟨g, o, hs, a, b, hc⟩
 ·exact .inl h
 ·exact .inr ⟨g, o, hs, by omega, by omega, hc⟩
theorem mkInt (n : Nat) (hn : n ≤ 1048576) (w : World) : (Instr.makeSlice 41 (.int .i64 (n : Int)) (.int .i64 (n : Int))).run Try.prog w = .ok (.slice (some ⟨w.heap.size, 0, none⟩) n n) (w.alloc (.cells (madeCells #[.int .i64 0] (n * 1)) 3)) := by
 have h := run_make (P := Try.prog) w 41 3 _ (.int .i64 0) Try.underlying41 rfl rfl .i64 .i64 n n (by omega) (Int.le_refl _) (by show (8 : Int) * _ ≤ _; omega) (by omega)
 have e : (Value.int .i64 0).cells = #[.int .i64 0] := rfl
 have e' : ∀ t, Try.prog.info? 3 = some t → t.size = 1 := by intro t h; cases h; rfl
 rw [e, e' _ rfl] at h
 simpa using h
theorem setC_blk {w : World} {g g' i j : Nat} {v : Value} (h : g ≠ g') : (w.setCell ⟨g, i, none⟩ v).cell? ⟨g', j, none⟩ = w.cell? ⟨g', j, none⟩ := by
 apply World.cell?_setCell_other
 intro e
 injection e with e1 e2
 exact h e1
end
section
set_option linter.unusedSimpArgs false
set_option linter.unusedVariables false
set_option maxRecDepth 100000
open Go.RowKit
structure I5 where
 o : Int
 r : Int
 a : Int
 b : Int
 n : Int
def z5 : I5 := ⟨0, 0, 0, 0, 0⟩
def At5 (w : World) (g off : Nat) (x : I5) : Prop :=
 w.cell? ⟨g, off, none⟩ = some (.int .i64 x.o) ∧ w.cell? ⟨g, off + 1, none⟩ = some (.int .i64 x.r) ∧ w.cell? ⟨g, off + 2, none⟩ = some (.int .i64 x.a) ∧ w.cell? ⟨g, off + 3, none⟩ = some (.int .i64 x.b) ∧ w.cell? ⟨g, off + 4, none⟩ = some (.int .i64 x.n)
theorem At5.keep {w w' : World} {B g off : Nat} {x : I5} (h : At5 w g off x) (hb : Below B w w') (hg : g < B) : At5 w' g off x :=
 ⟨(hb.cell hg).trans h.1, (hb.cell hg).trans h.2.1, (hb.cell hg).trans h.2.2.1, (hb.cell hg).trans h.2.2.2.1, (hb.cell hg).trans h.2.2.2.2⟩
/- a list of steps below block B -/
def InsB (w : World) (B : Nat) (s : Option Addr) (l : List I5) : Prop :=
 l = [] ∨ ∃ g off, s = some ⟨g, off, none⟩ ∧ g < B ∧ ∀ i, i < l.length → At5 w g (off + i * 5) (l.getD i z5)
theorem InsB.mono {w : World} {B B' : Nat} {s : Option Addr} {l : List I5} (h : InsB w B s l) (hB : B ≤ B') : InsB w B' s l := by
 rcases h with h | ⟨g, o, hs, hg, hc⟩
 ·exact .inl h
 ·exact .inr ⟨g, o, hs, by omega, hc⟩
end
section
set_option linter.unusedSimpArgs false
set_option linter.unusedVariables false
set_option maxRecDepth 100000
open Go.RowKit
def OwnN (w : World) (base : Nat) (v : Value) (ls : List Int) : Prop := w.ownsRow base 3 1 v ls.length (ls.map (Value.int .i64))
theorem infoInt : ∃ i, Try.prog.info? 3 = some i ∧ i.zero = some (.int .i64 0) ∧ i.size = 1 ∧ i.bytes = 8 := ⟨_, rfl, rfl, rfl, rfl⟩
theorem ownN_empty {w : World} {base : Nat} (hb : base ≤ w.heap.size) : OwnN (w.alloc (.cells #[] 3)) base (.slice (some ⟨w.heap.size, 0, none⟩) 0 0) [] :=
 World.ownsRow_lit w #[] 0 hb (by unfold maxLen; omega) rfl
theorem OwnN.keep {w w' : World} {base : Nat} {v : Value} {ls : List Int} (h : OwnN w base v ls) (hb : ∀ k, base ≤ k → k < w.heap.size → w'.heap[k]? = w.heap[k]?) : OwnN w' base v ls := by
 obtain ⟨h1, h2⟩ := h
 refine ⟨h1, ?_⟩
 rcases h2 with h2 | ⟨g, cap, cur, a, b, c, d⟩
 ·exact .inl h2
 ·have hlt : g < w.heap.size := (Array.getElem?_eq_some_iff.1 c).1
  exact .inr ⟨g, cap, cur, a, b, (hb g b hlt).trans c, d⟩
theorem OwnN.below {w w' : World} {base : Nat} {v : Value} {ls : List Int} (h : OwnN w base v ls) (hb : Below w.heap.size w w') : OwnN w' base v ls := h.keep fun k _ hk => hb.block k hk
theorem OwnN.alloc {w : World} {base : Nat} {v : Value} {ls : List Int} (h : OwnN w base v ls) (o : Obj) : OwnN (w.alloc o) base v ls := h.keep fun k _ hk => Below.heap_alloc _ _ _ hk
theorem OwnN.cell {w : World} {base g cap : Nat} {ls : List Int} (h : OwnN w base (.slice (some ⟨g, 0, none⟩) ls.length cap) ls) {i : Nat} (hi : i < ls.length) : w.cell? ⟨g, i, none⟩ = some (.int .i64 (ls.getD i 0)) := by
 rw [World.ownsRow.cellAt h i (by omega)]
 simp [List.getD_eq_getElem?_getD, List.getElem?_eq_getElem hi]
theorem OwnN.sl {w : World} {base : Nat} {v : Value} {ls : List Int} (h : OwnN w base v ls) : ∃ s cap, v = .slice s ls.length cap := by
 rcases h.2 with ⟨h1, h2⟩ | ⟨g, cap, cur, a, -⟩
 ·exact ⟨none, 0, by rw [h1, h2]⟩
 ·exact ⟨_, _, a⟩
theorem newN1 (w : World) (u : Value) : ∀ j v, [u][j]? = some v → (w.alloc (.cells #[u] 3)).cell? (Addr.add ⟨w.heap.size, 0, none⟩ j) = some v := by
 intro j v h
 match j, h with
 | 0, h => simpa [Addr.add, go_sem] using h
 | j + 1, h => simp at h
end
section
set_option linter.unusedSimpArgs false
set_option linter.unusedVariables false
set_option maxRecDepth 100000
open Go.RowKit
theorem ownKeep' {w w' : World} {base : Nat} {e : TypeId} {size n : Nat} {v : Value} {xs : List Value} (h : w.ownsRow base e size v n xs) (hb : ∀ k, v.ownBlock = some k → w'.heap[k]? = w.heap[k]?) : w'.ownsRow base e size v n xs := by
 obtain ⟨h1, h2⟩ := h
 refine ⟨h1, ?_⟩
 rcases h2 with h2 | ⟨g, cap, cur, rfl, b0, c, d⟩
 ·exact .inl h2
 ·exact .inr ⟨g, cap, cur, rfl, b0, (hb g rfl).trans c, d⟩
theorem ownLow' {w : World} {b b' : Nat} {e : TypeId} {size n : Nat} {v : Value} {xs : List Value} (h : w.ownsRow b e size v n xs) (hb : b' ≤ b) : w.ownsRow b' e size v n xs := by
 obtain ⟨h1, h2⟩ := h
 refine ⟨h1, ?_⟩
 rcases h2 with h2 | ⟨g, cap, cur, a, b0, c, d⟩
 ·exact .inl h2
 ·exact .inr ⟨g, cap, cur, a, Nat.le_trans hb b0, c, d⟩
theorem ownType' {w : World} {base base' : Nat} {e e' : TypeId} {size size' n n' : Nat} {v v' : Value} {xs xs' : List Value} (h : w.ownsRow base e size v n xs) (h' : w.ownsRow base' e' size' v' n' xs') (hne : e ≠ e') {k : Nat} (hk : v.ownBlock = some k) : v'.ownBlock ≠ some k := by
 intro hk'
 rcases h.2 with ⟨rfl, -⟩ | ⟨g, cap, cur, rfl, -, c, -⟩
 ·cases hk
 rcases h'.2 with ⟨rfl, -⟩ | ⟨g', cap', cur', rfl, -, c', -⟩
 ·cases hk'
 ·simp only [Value.ownBlock, Option.some.injEq] at hk hk'
  subst hk
  subst hk'
  rw [c] at c'
  injection c' with c'
  injection c' with c1 c2
  exact hne c2
theorem ownSl {w : World} {base : Nat} {e : TypeId} {size n : Nat} {v : Value} {xs : List Value} (h : w.ownsRow base e size v n xs) : ∃ s c, v = .slice s n c := by
 rcases h.2 with ⟨h1, h2⟩ | ⟨g, cap, cur, a, -⟩
 ·exact ⟨none, 0, by rw [h1, h2]⟩
 ·exact ⟨_, _, a⟩
theorem ownN_ints {w : World} {base : Nat} {v : Value} {l : List Int} (h : OwnN w base v l) : ∃ s c, v = .slice s l.length c ∧ IntsR w base w.heap.size s l := by
 rcases Nat.eq_zero_or_pos l.length with h0 | hpos
 ·obtain ⟨s, c, e⟩ := ownSl h
  exact ⟨s, c, e, .inl (List.length_eq_zero_iff.1 h0)⟩
 ·obtain ⟨g, cap, rfl, -⟩ := World.ownsRow.form h hpos
  have hlt := World.ownsRow.lt h g rfl
  refine ⟨_, _, rfl, .inr ⟨g, 0, rfl, hlt.1, hlt.2, fun i hi => ?_⟩⟩
  rw [Nat.zero_add, World.ownsRow.cellAt h i (by omega), List.getElem?_map, List.getD_eq_getElem?_getD, List.getElem?_eq_getElem hi]
  rfl
theorem setApp {α : Type} (b : List α) (i : Nat) (x : α) : ∀ a : List α, (a ++ b).set (a.length + i) x = a ++ b.set i x
 | [] => by simp
 | y :: r => by
  have e : (y :: r).length + i = (r.length + i) + 1 := by simp; omega
  rw [e]
  simp [setApp b i x r]
/- blocks below hi and not from lo on are as they were -/
structure Exc (lo hi : Nat) (w w' : World) : Prop where
 os : w'.os = w.os
 tape : w'.tape = w.tape
 out : w'.output = w.output
 size : w.heap.size ≤ w'.heap.size
 blk : ∀ k, k < w.heap.size → (k < lo ∨ hi ≤ k) → w'.heap[k]? = w.heap[k]?
theorem Exc.below {lo hi B : Nat} {w w' : World} (h : Exc lo hi w w') (h1 : B ≤ lo) (h2 : B ≤ w.heap.size) : Below B w w' := ⟨h.os, h.tape, h.out, h.size, fun k hk => h.blk k (by omega) (.inl (by omega))⟩
theorem ownN_intsR {w : World} {base g c : Nat} {l : List Int} (h : OwnN w base (.slice (some ⟨g, 0, none⟩) l.length c) l) : IntsR w base w.heap.size (some ⟨g, 0, none⟩) l := by
 obtain ⟨s, c', e, hi⟩ := ownN_ints h
 injection e with e1 e2 e3
 rw [e1]
 exact hi
theorem below_drewN (w : World) (n : Nat) : Below w.heap.size w (w.drewN n) := ⟨rfl, rfl, rfl, Nat.le_refl _, fun _ _ => rfl⟩
structure Bo1 (G : Nat) (W : World) (a : Value) : Prop where
 c0 : W.cell? ⟨G, 0, none⟩ = some a
theorem Bo1.new (w : World) (a : Value) (T : TypeId) : ∃ W, w.alloc (.cells #[a] T) = W ∧ Bo1 w.heap.size W a ∧ Below w.heap.size w W ∧ W.heap.size = w.heap.size + 1 :=
 ⟨_, rfl, ⟨by simp [go_sem]⟩, (Below.refl _ _).alloc (Nat.le_refl _) _, by simp⟩
end
section
set_option linter.unusedSimpArgs false
set_option linter.unusedVariables false
set_option maxRecDepth 100000
open Go.RowKit
structure WD where
 v : Int
 vw : List Int
def WR (w : World) (lo hi g off : Nat) (x : WD) : Prop :=
 ∃ s c, w.cell? ⟨g, off, none⟩ = some (.int .i64 x.v) ∧ w.cell? ⟨g, off + 1, none⟩ = some (.slice s x.vw.length c) ∧ IntsR w lo hi s x.vw
def WsR (w : World) (lo hi : Nat) (s : Option Addr) (l : List WD) : Prop :=
 l = [] ∨ ∃ g off, s = some ⟨g, off, none⟩ ∧ lo ≤ g ∧ g < hi ∧ ∀ (i : Nat) (x : WD), l[i]? = some x → WR w lo hi g (off + i * 2) x
def RwR (w : World) (lo hi g off : Nat) (l : List WD) : Prop := ∃ s c, w.cell? ⟨g, off, none⟩ = some (.slice s l.length c) ∧ WsR w lo hi s l
def MemR (w : World) (lo hi : Nat) (s : Option Addr) (m : List (List WD)) : Prop :=
 m = [] ∨ ∃ g off, s = some ⟨g, off, none⟩ ∧ lo ≤ g ∧ g < hi ∧ ∀ (i : Nat) (l : List WD), m[i]? = some l → RwR w lo hi g (off + i) l
theorem WR.keep {w w' : World} {lo hi g off : Nat} {x : WD} (h : WR w lo hi g off x) (hb : Keep lo hi w w') (hc : ∀ j, w'.cell? ⟨g, j, none⟩ = w.cell? ⟨g, j, none⟩) : WR w' lo hi g off x := by
 obtain ⟨s, c, h1, h2, h3⟩ := h
 exact ⟨s, c, (hc _).trans h1, (hc _).trans h2, h3.keep hb⟩
theorem WsR.keep {w w' : World} {lo hi : Nat} {s : Option Addr} {l : List WD} (h : WsR w lo hi s l) (hb : Keep lo hi w w') : WsR w' lo hi s l := by
 rcases h with h | ⟨g, o, hs, h1, h2, hc⟩
 ·exact .inl h
 ·exact .inr ⟨g, o, hs, h1, h2, fun i r hi => (hc i r hi).keep hb (fun j => hb.cell h1 h2)⟩
theorem RwR.keep {w w' : World} {lo hi g off : Nat} {l : List WD} (h : RwR w lo hi g off l) (hb : Keep lo hi w w') (hc : ∀ j, w'.cell? ⟨g, j, none⟩ = w.cell? ⟨g, j, none⟩) : RwR w' lo hi g off l := by
 obtain ⟨s, c, h1, h2⟩ := h
 exact ⟨s, c, (hc _).trans h1, h2.keep hb⟩
theorem MemR.keep {w w' : World} {lo hi : Nat} {s : Option Addr} {m : List (List WD)} (h : MemR w lo hi s m) (hb : Keep lo hi w w') : MemR w' lo hi s m := by
 rcases h with h | ⟨g, o, hs, h1, h2, hc⟩
 ·exact .inl h
 ·exact .inr ⟨g, o, hs, h1, h2, fun i r hi => (hc i r hi).keep hb (fun j => hb.cell h1 h2)⟩
theorem WR.mono {w : World} {lo hi lo' hi' g off : Nat} {x : WD} (h : WR w lo hi g off x) (h1 : lo' ≤ lo) (h2 : hi ≤ hi') : WR w lo' hi' g off x := by
 obtain ⟨s, c, a, b, d⟩ := h
 exact ⟨s, c, a, b, d.mono h1 h2⟩
theorem WsR.mono {w : World} {lo hi lo' hi' : Nat} {s : Option Addr} {l : List WD} (h : WsR w lo hi s l) (h1 : lo' ≤ lo) (h2 : hi ≤ hi') : WsR w lo' hi' s l := by
 rcases h with h | ⟨g, o, hs, a, b, hc⟩
 ·exact .inl h
 ·exact .inr ⟨g, o, hs, by omega, by omega, fun i r hi => (hc i r hi).mono h1 h2⟩
theorem MemR.mono {w : World} {lo hi lo' hi' : Nat} {s : Option Addr} {m : List (List WD)} (h : MemR w lo hi s m) (h1 : lo' ≤ lo) (h2 : hi ≤ hi') : MemR w lo' hi' s m := by
 rcases h with h | ⟨g, o, hs, a, b, hc⟩
 ·exact .inl h
 ·exact .inr ⟨g, o, hs, by omega, by omega, fun i r hi => by obtain ⟨s', c', e1, e2⟩ := hc i r hi; exact ⟨s', c', e1, e2.mono h1 h2⟩⟩
theorem MemR.row {w : World} {lo hi : Nat} {s : Option Addr} {m : List (List WD)} (h : MemR w lo hi s m) {i : Nat} {l : List WD} (hi' : m[i]? = some l) : ∃ g off s' c', s = some ⟨g, off, none⟩ ∧ lo ≤ g ∧ g < hi ∧ w.cell? ⟨g, off + i, none⟩ = some (.slice s' l.length c') ∧ WsR w lo hi s' l := by
 rcases h with rfl | ⟨g, o, hs, a, b, hc⟩
 ·simp at hi'
 ·obtain ⟨s', c', e1, e2⟩ := hc i l hi'
  exact ⟨g, o, s', c', hs, a, b, e1, e2⟩
theorem WsR.at {w : World} {lo hi : Nat} {s : Option Addr} {l : List WD} (h : WsR w lo hi s l) {i : Nat} {x : WD} (hi' : l[i]? = some x) : ∃ g off s' c', s = some ⟨g, off, none⟩ ∧ lo ≤ g ∧ g < hi ∧ w.cell? ⟨g, off + i * 2, none⟩ = some (.int .i64 x.v) ∧ w.cell? ⟨g, off + i * 2 + 1, none⟩ = some (.slice s' x.vw.length c') ∧ IntsR w lo hi s' x.vw := by
 rcases h with rfl | ⟨g, o, hs, a, b, hc⟩
 ·simp at hi'
 ·obtain ⟨s', c', e1, e2, e3⟩ := hc i x hi'
  exact ⟨g, o, s', c', hs, a, b, e1, e2, e3⟩
def szV : List WD → Nat
 | [] => 0
 | x :: r => x.vw.length + szV r
def szR : List (List WD) → Nat
 | [] => 0
 | l :: r => l.length + szV l + szR r
def MFits (m : List (List WD)) : Prop := m.length + szR m ≤ 1048576
theorem szV_take : ∀ (l : List WD) (k : Nat) (x : WD), l[k]? = some x → szV (l.take (k + 1)) = szV (l.take k) + x.vw.length
 | [], k, x, h => by simp at h
 | y :: r, 0, x, h => by simp at h; subst h; simp [szV]
 | y :: r, k + 1, x, h => by
  have := szV_take r k x (by simpa using h)
  simp [szV, this]
  omega
theorem szR_take : ∀ (m : List (List WD)) (k : Nat) (l : List WD), m[k]? = some l → szR (m.take (k + 1)) = szR (m.take k) + (l.length + szV l)
 | [], k, x, h => by simp at h
 | y :: r, 0, x, h => by simp at h; subst h; simp [szR]
 | y :: r, k + 1, x, h => by
  have := szR_take r k x (by simpa using h)
  simp [szR, this]
  omega
theorem szV_at : ∀ (l : List WD) (k : Nat) (x : WD), l[k]? = some x → x.vw.length ≤ szV l
 | [], k, x, h => by simp at h
 | y :: r, 0, x, h => by simp at h; subst h; simp [szV]
 | y :: r, k + 1, x, h => by
  have := szV_at r k x (by simpa using h)
  simp [szV]
  omega
theorem szR_at : ∀ (m : List (List WD)) (k : Nat) (l : List WD), m[k]? = some l → l.length + szV l ≤ szR m
 | [], k, x, h => by simp at h
 | y :: r, 0, x, h => by simp at h; subst h; simp [szR]
 | y :: r, k + 1, x, h => by
  have := szR_at r k x (by simpa using h)
  simp [szR]
  omega
theorem MFits.n {m : List (List WD)} (h : MFits m) : m.length ≤ 1048576 := by unfold MFits at h; omega
theorem MFits.r {m : List (List WD)} (h : MFits m) {i : Nat} {l : List WD} (hi : m[i]? = some l) : l.length + szV l ≤ 1048576 := by have := szR_at m i l hi; unfold MFits at h; omega
/- the places of a memory's integers, in the order in which they are written over -/
structure VS where
 s : Option Addr
 n : Nat
 c : Nat
structure RS where
 s : Option Addr
 c : Nat
 vs : List VS
def adr : Option Addr → Nat → Addr
 | some a, i => ⟨a.block, a.off + i, none⟩
 | none, _ => ⟨0, 0, none⟩
def vAs (x : VS) : List Addr := (List.range x.n).map (adr x.s)
def rAs (s : Option Addr) : List VS → Nat → List Addr
 | [], _ => []
 | x :: r, k => adr s (k * 2) :: (vAs x ++ rAs s r (k + 1))
def mAs : List RS → List Addr
 | [] => []
 | r :: t => rAs r.s r.vs 0 ++ mAs t
theorem rAs_app (s : Option Addr) (x : VS) : ∀ (vs : List VS) (k : Nat), rAs s (vs ++ [x]) k = rAs s vs k ++ adr s ((k + vs.length) * 2) :: vAs x
 | [], k => by simp [rAs]
 | y :: r, k => by
  have h := rAs_app s x r (k + 1)
  have e : k + 1 + r.length = k + (r.length + 1) := by omega
  simp [rAs, h, e]
theorem mAs_app (x : RS) : ∀ (S : List RS), mAs (S ++ [x]) = mAs S ++ rAs x.s x.vs 0
 | [] => by simp [mAs]
 | r :: t => by simp [mAs, mAs_app x t]
theorem mem_vAs {x : VS} {a : Addr} : a ∈ vAs x ↔ ∃ i, i < x.n ∧ a = adr x.s i := by
 simp [vAs]
 constructor
 ·rintro ⟨i, h, rfl⟩; exact ⟨i, h, rfl⟩
 ·rintro ⟨i, h, rfl⟩; exact ⟨i, h, rfl⟩
theorem mem_rAs {s : Option Addr} {a : Addr} : ∀ {vs : List VS} {k : Nat}, a ∈ rAs s vs k ↔ (∃ i, i < vs.length ∧ a = adr s ((k + i) * 2)) ∨ ∃ x ∈ vs, a ∈ vAs x
 | [], k => by simp [rAs]
 | y :: r, k => by
  simp only [rAs, List.mem_cons, List.mem_append, mem_rAs (vs := r) (k := k + 1)]
  constructor
  ·rintro (h | h | ⟨i, h, e⟩ | ⟨x, h, e⟩)
   ·exact .inl ⟨0, by simp, by simpa using h⟩
   ·exact .inr ⟨y, .inl rfl, h⟩
   ·exact .inl ⟨i + 1, by simpa using h, by rw [e]; congr 2; omega⟩
   ·exact .inr ⟨x, .inr h, e⟩
  ·rintro (⟨i, h, e⟩ | ⟨x, h | h, e⟩)
   ·rcases Nat.eq_zero_or_pos i with rfl | hp
    ·exact .inl (by simpa using e)
    ·refine .inr (.inr (.inl ⟨i - 1, by simp at h; omega, ?_⟩))
     rw [e]; congr 2; omega
   ·subst h; exact .inr (.inl e)
   ·exact .inr (.inr (.inr ⟨x, h, e⟩))
theorem mem_mAs {a : Addr} : ∀ {S : List RS}, a ∈ mAs S ↔ ∃ r ∈ S, a ∈ rAs r.s r.vs 0
 | [] => by simp [mAs]
 | r :: t => by simp [mAs, mem_mAs (S := t)]
theorem vAs_len (x : VS) : (vAs x).length = x.n := by simp [vAs]
theorem vAs_at {x : VS} {i : Nat} (h : i < x.n) : (vAs x)[i]? = some (adr x.s i) := by simp [vAs, h]
theorem vAs_nodup {x : VS} {g o : Nat} (h : x.s = some ⟨g, o, none⟩) : (vAs x).Nodup := by
 unfold vAs
 rw [h]
 refine List.Pairwise.map _ (fun a b hab e => ?_) List.nodup_range
 simp [adr] at e
 exact hab e
/- owned: with the places -/
structure VO (w : World) (lo hi : Nat) (x : VS) (l : List Int) : Prop where
 n : x.n = l.length
 c : l = [] ∨ ∃ g o, x.s = some ⟨g, o, none⟩ ∧ lo ≤ g ∧ g < hi ∧ ∀ i, i < l.length → w.cell? ⟨g, o + i, none⟩ = some (.int .i64 (l.getD i 0)) ∧ w.frozen? ⟨g, o + i, none⟩ = false
structure RO (w : World) (lo hi : Nat) (r : RS) (l : List WD) : Prop where
 n : r.vs.length = l.length
 c : l = [] ∨ ∃ g o, r.s = some ⟨g, o, none⟩ ∧ lo ≤ g ∧ g < hi ∧ ∀ (i : Nat) (x : VS) (y : WD), r.vs[i]? = some x → l[i]? = some y → w.cell? ⟨g, o + i * 2, none⟩ = some (.int .i64 y.v) ∧ w.frozen? ⟨g, o + i * 2, none⟩ = false ∧ w.cell? ⟨g, o + i * 2 + 1, none⟩ = some (.slice x.s x.n x.c)
 v : ∀ (i : Nat) (x : VS) (y : WD), r.vs[i]? = some x → l[i]? = some y → VO w lo hi x y.vw
 o : ∀ x ∈ r.vs, ∀ a ∈ vAs x, ∀ g o, r.s = some ⟨g, o, none⟩ → a.block ≠ g
 d : (rAs r.s r.vs 0).Nodup
structure MO (w : World) (lo hi : Nat) (so : Option Addr) (S : List RS) (m : List (List WD)) : Prop where
 n : S.length = m.length
 c : m = [] ∨ ∃ g o, so = some ⟨g, o, none⟩ ∧ lo ≤ g ∧ g < hi ∧ ∀ (i : Nat) (r : RS), S[i]? = some r → w.cell? ⟨g, o + i, none⟩ = some (.slice r.s r.vs.length r.c)
 r : ∀ (i : Nat) (r : RS) (l : List WD), S[i]? = some r → m[i]? = some l → RO w lo hi r l
 d : (mAs S).Nodup
theorem Keep.frozen {lo hi : Nat} {w w' : World} (h : Keep lo hi w w') {p : Addr} (h1 : lo ≤ p.block) (h2 : p.block < hi) : w'.frozen? p = w.frozen? p := World.frozen?_of_block (w := w) (h p.block h1 h2)
theorem VO.keep {w w' : World} {lo hi : Nat} {x : VS} {l : List Int} (h : VO w lo hi x l) (hb : Keep lo hi w w') : VO w' lo hi x l := by
 refine ⟨h.n, ?_⟩
 rcases h.c with h | ⟨g, o, hs, h1, h2, hc⟩
 ·exact .inl h
 ·exact .inr ⟨g, o, hs, h1, h2, fun i hi => ⟨(hb.cell (p := ⟨g, o + i, none⟩) h1 h2).trans (hc i hi).1, (hb.frozen (p := ⟨g, o + i, none⟩) h1 h2).trans (hc i hi).2⟩⟩
theorem RO.keep {w w' : World} {lo hi : Nat} {r : RS} {l : List WD} (h : RO w lo hi r l) (hb : Keep lo hi w w') : RO w' lo hi r l := by
 refine ⟨h.n, ?_, fun i x y hx hy => (h.v i x y hx hy).keep hb, h.o, h.d⟩
 rcases h.c with h | ⟨g, o, hs, h1, h2, hc⟩
 ·exact .inl h
 ·refine .inr ⟨g, o, hs, h1, h2, fun i x y hx hy => ?_⟩
  obtain ⟨a, b, c⟩ := hc i x y hx hy
  exact ⟨(hb.cell (p := ⟨g, o + i * 2, none⟩) h1 h2).trans a, (hb.frozen (p := ⟨g, o + i * 2, none⟩) h1 h2).trans b, (hb.cell (p := ⟨g, o + i * 2 + 1, none⟩) h1 h2).trans c⟩
theorem MO.keep {w w' : World} {lo hi : Nat} {so : Option Addr} {S : List RS} {m : List (List WD)} (h : MO w lo hi so S m) (hb : Keep lo hi w w') : MO w' lo hi so S m := by
 refine ⟨h.n, ?_, fun i r l hr hl => (h.r i r l hr hl).keep hb, h.d⟩
 rcases h.c with h | ⟨g, o, hs, h1, h2, hc⟩
 ·exact .inl h
 ·exact .inr ⟨g, o, hs, h1, h2, fun i r hr => (hb.cell (p := ⟨g, o + i, none⟩) h1 h2).trans (hc i r hr)⟩
theorem VO.mono {w : World} {lo hi lo' hi' : Nat} {x : VS} {l : List Int} (h : VO w lo hi x l) (a : lo' ≤ lo) (b : hi ≤ hi') : VO w lo' hi' x l := by
 refine ⟨h.n, ?_⟩
 rcases h.c with h | ⟨g, o, hs, h1, h2, hc⟩
 ·exact .inl h
 ·exact .inr ⟨g, o, hs, by omega, by omega, hc⟩
theorem RO.mono {w : World} {lo hi lo' hi' : Nat} {r : RS} {l : List WD} (h : RO w lo hi r l) (a : lo' ≤ lo) (b : hi ≤ hi') : RO w lo' hi' r l := by
 refine ⟨h.n, ?_, fun i x y hx hy => (h.v i x y hx hy).mono a b, h.o, h.d⟩
 rcases h.c with h | ⟨g, o, hs, h1, h2, hc⟩
 ·exact .inl h
 ·exact .inr ⟨g, o, hs, by omega, by omega, hc⟩
theorem MO.mono {w : World} {lo hi lo' hi' : Nat} {so : Option Addr} {S : List RS} {m : List (List WD)} (h : MO w lo hi so S m) (a : lo' ≤ lo) (b : hi ≤ hi') : MO w lo' hi' so S m := by
 refine ⟨h.n, ?_, fun i r l hr hl => (h.r i r l hr hl).mono a b, h.d⟩
 rcases h.c with h | ⟨g, o, hs, h1, h2, hc⟩
 ·exact .inl h
 ·exact .inr ⟨g, o, hs, by omega, by omega, hc⟩
theorem at_same {α β : Type} {a : List α} {b : List β} (h : a.length = b.length) {i : Nat} {y : β} (hy : b[i]? = some y) : ∃ x, a[i]? = some x := by
 have := (List.getElem?_eq_some_iff.1 hy).1
 exact ⟨_, List.getElem?_eq_getElem (by omega)⟩
theorem VO.ints {w : World} {lo hi : Nat} {x : VS} {l : List Int} (h : VO w lo hi x l) : IntsR w lo hi x.s l := by
 rcases h.c with h | ⟨g, o, hs, h1, h2, hc⟩
 ·exact .inl h
 ·exact .inr ⟨g, o, hs, h1, h2, fun i hi => (hc i hi).1⟩
theorem RO.ws {w : World} {lo hi : Nat} {r : RS} {l : List WD} (h : RO w lo hi r l) : WsR w lo hi r.s l := by
 rcases h.c with e | ⟨g, o, hs, h1, h2, hc⟩
 ·exact .inl e
 ·refine .inr ⟨g, o, hs, h1, h2, fun i y hy => ?_⟩
  obtain ⟨x, hx⟩ := at_same h.n hy
  obtain ⟨a, b, c⟩ := hc i x y hx hy
  have hv := h.v i x y hx hy
  exact ⟨x.s, x.c, a, by rw [c, hv.n], hv.ints⟩
theorem MO.mem {w : World} {lo hi : Nat} {so : Option Addr} {S : List RS} {m : List (List WD)} (h : MO w lo hi so S m) : MemR w lo hi so m := by
 rcases h.c with e | ⟨g, o, hs, h1, h2, hc⟩
 ·exact .inl e
 ·refine .inr ⟨g, o, hs, h1, h2, fun i l hl => ?_⟩
  obtain ⟨r, hr⟩ := at_same h.n hl
  have hv := h.r i r l hr hl
  exact ⟨r.s, r.c, by rw [hc i r hr, hv.n], hv.ws⟩
/- where the places lie -/
theorem VO.blk {w : World} {lo hi : Nat} {x : VS} {l : List Int} (h : VO w lo hi x l) {a : Addr} (ha : a ∈ vAs x) : lo ≤ a.block ∧ a.block < hi := by
 obtain ⟨i, hi', rfl⟩ := mem_vAs.1 ha
 rcases h.c with e | ⟨g, o, hs, h1, h2, hc⟩
 ·have := h.n; rw [e] at this; simp at this; omega
 ·rw [hs]; exact ⟨h1, h2⟩
theorem RO.blk {w : World} {lo hi : Nat} {r : RS} {l : List WD} (h : RO w lo hi r l) {a : Addr} (ha : a ∈ rAs r.s r.vs 0) : lo ≤ a.block ∧ a.block < hi := by
 rcases mem_rAs.1 ha with ⟨i, hi', rfl⟩ | ⟨x, hx, hax⟩
 ·rcases h.c with e | ⟨g, o, hs, h1, h2, hc⟩
  ·have := h.n; rw [e] at this; simp at this; rw [this] at hi'; simp at hi'
  ·rw [hs]; exact ⟨h1, h2⟩
 ·obtain ⟨i, hi', e⟩ := List.getElem_of_mem hx
  have hl : i < l.length := by have := h.n; omega
  exact (h.v i x l[i] (by rw [List.getElem?_eq_getElem hi', e]) (List.getElem?_eq_getElem hl)).blk hax
theorem MO.blk {w : World} {lo hi : Nat} {so : Option Addr} {S : List RS} {m : List (List WD)} (h : MO w lo hi so S m) {a : Addr} (ha : a ∈ mAs S) : lo ≤ a.block ∧ a.block < hi := by
 obtain ⟨r, hr, har⟩ := mem_mAs.1 ha
 obtain ⟨i, hi', e⟩ := List.getElem_of_mem hr
 have hl : i < m.length := by have := h.n; omega
 exact (h.r i r m[i] (by rw [List.getElem?_eq_getElem hi', e]) (List.getElem?_eq_getElem hl)).blk har
theorem RO.nil (w : World) (lo hi : Nat) (s : Option Addr) (c : Nat) : RO w lo hi ⟨s, c, []⟩ [] := ⟨rfl, .inl rfl, fun i x y hx => by simp at hx, fun x hx => by simp at hx, by simp [rAs]⟩
theorem MO.nil (w : World) (lo hi : Nat) (s : Option Addr) : MO w lo hi s [] [] := ⟨rfl, .inl rfl, fun i x y hx => by simp at hx, by simp [mAs]⟩
theorem getElem?_push {α : Type} {l : List α} {y x : α} {i : Nat} (h : (l ++ [y])[i]? = some x) : l[i]? = some x ∨ (i = l.length ∧ x = y) := by
 by_cases hi : i < l.length
 ·rw [List.getElem?_append_left hi] at h; exact .inl h
 ·have := (List.getElem?_eq_some_iff.1 h).1
  simp at this
  have e : i = l.length := by omega
  subst e
  simp at h
  exact .inr ⟨rfl, h.symm⟩
theorem RO.far2 {w w' : World} {lo hi : Nat} {r : RS} {l : List WD} (h : RO w lo hi r l) (hk : ∀ a ∈ rAs r.s r.vs 0, w'.heap[a.block]? = w.heap[a.block]?) : RO w' lo hi r l := by
 refine ⟨h.n, ?_, fun i x y e1 e2 => ?_, h.o, h.d⟩
 ·rcases h.c with h0 | ⟨g, o, es, b1, b2, hc⟩
  ·exact .inl h0
  ·refine .inr ⟨g, o, es, b1, b2, fun i x y e1 e2 => ?_⟩
   have hi' := (List.getElem?_eq_some_iff.1 e1).1
   have hne : w'.heap[g]? = w.heap[g]? := by
    have := hk (adr r.s (i * 2)) (mem_rAs.2 (.inl ⟨i, hi', by rw [Nat.zero_add]⟩))
    rw [es] at this
    exact this
   obtain ⟨a, b, c⟩ := hc i x y e1 e2
   exact ⟨(World.cell?_of_block (w := w) hne).trans a, (World.frozen?_of_block (w := w) hne).trans b, (World.cell?_of_block (w := w) hne).trans c⟩
 ·have hv := h.v i x y e1 e2
  refine ⟨hv.n, ?_⟩
  rcases hv.c with h0 | ⟨g, o, es, b1, b2, hc⟩
  ·exact .inl h0
  ·refine .inr ⟨g, o, es, b1, b2, fun j hj => ?_⟩
   have hne : w'.heap[g]? = w.heap[g]? := by
    have := hk (adr x.s j) (mem_rAs.2 (.inr ⟨x, List.mem_of_getElem? e1, mem_vAs.2 ⟨j, by rw [hv.n]; exact hj, rfl⟩⟩))
    rw [es] at this
    exact this
   exact ⟨(World.cell?_of_block (w := w) hne).trans (hc j hj).1, (World.frozen?_of_block (w := w) hne).trans (hc j hj).2⟩
/- a row grows by one write -/
theorem RO.push {w w' : World} {lo hi G O c : Nat} {vs : List VS} {l : List WD} (x : VS) (y : WD) (h : RO w lo hi ⟨some ⟨G, O, none⟩, c, vs⟩ l) (hG : lo ≤ G ∧ G < hi)
  (hs : ∀ a : Addr, a ≠ ⟨G, O + l.length * 2, none⟩ → a ≠ ⟨G, O + l.length * 2 + 1, none⟩ → w'.cell? a = w.cell? a ∧ w'.frozen? a = w.frozen? a)
  (h1 : w'.cell? ⟨G, O + l.length * 2, none⟩ = some (.int .i64 y.v)) (h2 : w'.frozen? ⟨G, O + l.length * 2, none⟩ = false) (h3 : w'.cell? ⟨G, O + l.length * 2 + 1, none⟩ = some (.slice x.s x.n x.c))
  (hx : VO w' lo hi x y.vw) (hxg : ∀ a ∈ vAs x, a.block ≠ G) (hxd : (vAs x).Nodup) (hd : ∀ x' ∈ vs, ∀ a ∈ vAs x', a ∉ vAs x) : RO w' lo hi ⟨some ⟨G, O, none⟩, c, vs ++ [x]⟩ (l ++ [y]) := by
 have hn : vs.length = l.length := h.n
 have far : ∀ x' ∈ vs, ∀ a ∈ vAs x', w'.cell? a = w.cell? a ∧ w'.frozen? a = w.frozen? a := fun x' hx' a ha => by
  have := h.o x' hx' a ha G O rfl
  exact hs a (fun e => this (by rw [e])) (fun e => this (by rw [e]))
 refine ⟨by simp [hn], .inr ⟨G, O, rfl, hG.1, hG.2, fun i x1 y1 e1 e2 => ?_⟩, fun i x1 y1 e1 e2 => ?_, fun x' hx' a ha g o e => ?_, ?_⟩
 ·rcases getElem?_push e1 with e1 | ⟨i1, rfl⟩
  ·rcases getElem?_push e2 with e2 | ⟨i2, rfl⟩
   ·rcases h.c with h0 | ⟨g, o, e, -, -, hc⟩
    ·rw [h0] at e2; simp at e2
    ·injection e with e; injection e with e3 e4 e5
     subst e3 e4
     obtain ⟨a, b, c⟩ := hc i x1 y1 e1 e2
     have hi2 := (List.getElem?_eq_some_iff.1 e2).1
     have q1 := hs ⟨G, O + i * 2, none⟩ (by intro e; injection e with a1 a2; omega) (by intro e; injection e with a1 a2; omega)
     have q2 := hs ⟨G, O + i * 2 + 1, none⟩ (by intro e; injection e with a1 a2; omega) (by intro e; injection e with a1 a2; omega)
     exact ⟨q1.1.trans a, q1.2.trans b, q2.1.trans c⟩
   ·have := (List.getElem?_eq_some_iff.1 e1).1
    have h9 : vs.length = l.length := hn
    omega
  ·rcases getElem?_push e2 with e2 | ⟨i2, rfl⟩
   ·have := (List.getElem?_eq_some_iff.1 e2).1
    omega
   ·subst i2
    exact ⟨h1, h2, h3⟩
 ·rcases getElem?_push e1 with e1 | ⟨i1, rfl⟩
  ·rcases getElem?_push e2 with e2 | ⟨i2, rfl⟩
   ·have hv := h.v i x1 y1 e1 e2
    refine ⟨hv.n, ?_⟩
    rcases hv.c with h0 | ⟨g, o, es, b1, b2, hc⟩
    ·exact .inl h0
    ·refine .inr ⟨g, o, es, b1, b2, fun j hj => ?_⟩
     have q := far x1 (List.mem_of_getElem? e1) ⟨g, o + j, none⟩ (mem_vAs.2 ⟨j, by rw [hv.n]; exact hj, by rw [es]; rfl⟩)
     exact ⟨q.1.trans (hc j hj).1, q.2.trans (hc j hj).2⟩
   ·have := (List.getElem?_eq_some_iff.1 e1).1
    omega
  ·rcases getElem?_push e2 with e2 | ⟨i2, rfl⟩
   ·have := (List.getElem?_eq_some_iff.1 e2).1
    omega
   ·exact hx
 ·injection e with e; injection e with e3 e4 e5
  subst e3
  rcases List.mem_append.1 hx' with hx' | hx'
  ·exact h.o x' hx' a ha G O rfl
  ·simp at hx'
   subst hx'
   exact hxg a ha
 ·show (rAs (some ⟨G, O, none⟩) (vs ++ [x]) 0).Nodup
  rw [rAs_app, Nat.zero_add]
  refine List.nodup_append.2 ⟨h.d, List.nodup_cons.2 ⟨fun hm => hxg _ hm rfl, hxd⟩, fun a ha b hb e => ?_⟩
  subst e
  rcases mem_rAs.1 ha with ⟨i, hi', e⟩ | ⟨x', hx', hax⟩
  ·simp only [Nat.zero_add] at e
   rcases List.mem_cons.1 hb with hb | hb
   ·rw [e] at hb
    simp [adr] at hb
    omega
   ·exact hxg _ hb (by rw [e]; rfl)
  ·rcases List.mem_cons.1 hb with hb | hb
   ·exact h.o x' hx' a hax G O rfl (by rw [hb]; rfl)
   ·exact hd x' hx' a hax hb
end
section
set_option linter.unusedSimpArgs false
set_option linter.unusedVariables false
set_option maxRecDepth 100000
open Go.RowKit
theorem IntsR.pos {w : World} {lo hi : Nat} {s : Option Addr} {l : List Int} (h : IntsR w lo hi s l) (hl : 0 < l.length) : ∃ g off, s = some ⟨g, off, none⟩ ∧ lo ≤ g ∧ g < hi ∧ ∀ i, i < l.length → w.cell? ⟨g, off + i, none⟩ = some (.int .i64 (l.getD i 0)) := by
 rcases h with rfl | h
 ·simp at hl
 ·exact h
end
section
set_option linter.unusedSimpArgs false
set_option linter.unusedVariables false
set_option maxRecDepth 100000
open Go.RowKit
theorem news_row {w : World} {g o : Nat} {l : List Int} (hc : ∀ i, i < l.length → w.cell? ⟨g, o + i, none⟩ = some (.int .i64 (l.getD i 0))) : ∀ j u, (l.map (Value.int .i64))[j]? = some u → w.cell? (Addr.add ⟨g, o, none⟩ j) = some u := by
 intro j u hu
 rw [List.getElem?_map] at hu
 by_cases hj : j < l.length
 ·have e : (Addr.add ⟨g, o, none⟩ j) = ⟨g, o + j, none⟩ := by
   by_cases h : j = 0
   ·subst h; rfl
   ·simp [Addr.add, h]
  rw [e, hc j hj]
  rw [List.getElem?_eq_getElem hj] at hu
  simp at hu
  rw [← hu]
  simp [List.getD_eq_getElem?_getD, List.getElem?_eq_getElem hj]
 ·rw [List.getElem?_eq_none (by omega)] at hu
  cases hu
theorem app_row {ops : Array Oper} {rest : List Oper} {o : Oper} {a : Act} {Q : Exit → Act → World → Prop} (hgd : o.guard = none) (s x : Operand) (ho : o.op = .call { callee := .builtin .append, args := #[s, x], argTypes := #[41, 41] })
  (w : World) (base : Nat) (v : Value) (ls : List Int) (hs : a.eval s = v) (hown : OwnN w base v ls) (g0 o0 c : Nat) (l : List Int) (hx : a.eval x = .slice (some ⟨g0, o0, none⟩) l.length c) (hc : ∀ i, i < l.length → w.cell? ⟨g0, o0 + i, none⟩ = some (.int .i64 (l.getD i 0)))
  (hl : 0 < l.length) (hn : ls.length + l.length ≤ 1099511627776) (hbase : base ≤ w.heap.size)
  (h : ∀ g cap w', OwnN w' base (.slice (some ⟨g, 0, none⟩) (ls.length + l.length) cap) (ls ++ l) → Below base w w' → g < w'.heap.size → base ≤ g → wpList Try.prog ops Q rest (a.put o.dst (.slice (some ⟨g, 0, none⟩) (ls.length + l.length) cap)) w') :
  wpList Try.prog ops Q (o :: rest) a w := by
 obtain ⟨i0, hi, hz0, hz1, hz2⟩ := infoInt
 refine wpList_append_lies _ hgd s x 41 ho base 3 i0 _ 1 8 Try.underlying41 hi hz0 hz1 hz2 rfl (by decide) v ls.length _ hs hown ⟨g0, o0, none⟩ l.length c (l.map (Value.int .i64)) hx (by simp) (news_row hc) (fun u hu => by obtain ⟨z, -, rfl⟩ := List.mem_map.1 hu; rfl) hl (by unfold maxLen; omega) (by omega) hbase _ rfl ?_
 intro g cap w' q1 q2 q3 q4
 have hb : Below base w w' := Below.grown (Below.refl _ _) q2 hbase (fun j hj => (World.ownsRow.lt hown _ hj).1)
 have ho' : OwnN w' base (.slice (some ⟨g, 0, none⟩) (ls.length + l.length) cap) (ls ++ l) := by
  show w'.ownsRow base 3 1 _ (ls ++ l).length ((ls ++ l).map (Value.int .i64))
  rw [List.map_append, List.length_append]
  exact q1
 refine h g cap w' ho' hb q4 ?_
 rcases q3 with q3 | q3
 ·exact (World.ownsRow.lt hown _ q3).1
 ·omega
theorem step_row {ops : Array Oper} {o : Oper} {a : Act} {K : Act → World → Prop} {Q : Exit → Act → World → Prop} {E : Prop} (hgd : o.guard = none) (s x : Operand) (ho : o.op = .call { callee := .builtin .append, args := #[s, x], argTypes := #[41, 41] })
  (w : World) (base : Nat) (v : Value) (ls : List Int) (hs : a.eval s = v) (hown : OwnN w base v ls) (g0 o0 c : Nat) (l : List Int) (hx : a.eval x = .slice (some ⟨g0, o0, none⟩) l.length c) (hc : ∀ i, i < l.length → w.cell? ⟨g0, o0 + i, none⟩ = some (.int .i64 (l.getD i 0)))
  (hl : 0 < l.length) (hn : ls.length + l.length ≤ 1099511627776) (hbase : base ≤ w.heap.size)
  (h : ∀ g cap w', OwnN w' base (.slice (some ⟨g, 0, none⟩) (ls.length + l.length) cap) (ls ++ l) → Below base w w' → g < w'.heap.size → base ≤ g → K (a.put o.dst (.slice (some ⟨g, 0, none⟩) (ls.length + l.length) cap)) w') :
  if Region.wanted o (yielded ops a.tmps) = true then Oper.wp Try.prog o a w K Q else E := by
 obtain ⟨i0, hi, hz0, hz1, hz2⟩ := infoInt
 refine step_append_lies _ hgd s x 41 ho base 3 i0 _ 1 8 Try.underlying41 hi hz0 hz1 hz2 rfl (by decide) v ls.length _ hs hown ⟨g0, o0, none⟩ l.length c (l.map (Value.int .i64)) hx (by simp) (news_row hc) (fun u hu => by obtain ⟨z, -, rfl⟩ := List.mem_map.1 hu; rfl) hl (by unfold maxLen; omega) (by omega) hbase _ rfl ?_
 intro g cap w' q1 q2 q3 q4
 have hb : Below base w w' := Below.grown (Below.refl _ _) q2 hbase (fun j hj => (World.ownsRow.lt hown _ hj).1)
 have ho' : OwnN w' base (.slice (some ⟨g, 0, none⟩) (ls.length + l.length) cap) (ls ++ l) := by
  show w'.ownsRow base 3 1 _ (ls ++ l).length ((ls ++ l).map (Value.int .i64))
  rw [List.map_append, List.length_append]
  exact q1
 refine h g cap w' ho' hb q4 ?_
 rcases q3 with q3 | q3
 ·exact (World.ownsRow.lt hown _ q3).1
 ·omega
theorem run_append_zero (w : World) (base : Nat) (v : Value) (ls : List Int) (hown : OwnN w base v ls) (s : Option Addr) (c : Nat) :
  (Builtin.append_ #[41, 41] 41 #[v, .slice s 0 c]).run Try.prog w = .ok v w := by
 obtain ⟨i0, hi, hz0, hz1, hz2⟩ := infoInt
 rcases hown.2 with ⟨rfl, -⟩ | ⟨g, cap, cur, rfl, _, _, hnc, _⟩
 ·cases s <;> simp [Builtin.append_, run_underlying Try.underlying41, sizeOf, typeInfo, hi, Builtin.lenOf, Builtin.firstCells, loadCells, loadCellsFrom, storeCells]
 ·cases s <;> simp [Builtin.append_, run_underlying Try.underlying41, sizeOf, typeInfo, hi, Builtin.lenOf, Builtin.firstCells, hnc, storeCells, loadCells, loadCellsFrom, storeCells]
structure Copied (w w' : World) (sv : Option Addr) (cv : Nat) (base n : Nat) (s' : Option Addr) (c' : Nat) : Prop where
 far : ∀ k, k < w.heap.size → (Value.slice sv 0 cv).ownBlock ≠ some k → w'.heap[k]? = w.heap[k]?
 low : Below base w w'
 blk : ∀ k, (Value.slice s' n c').ownBlock = some k → w.heap.size ≤ k ∨ (Value.slice sv 0 cv).ownBlock = some k
theorem wp_copyI {o : Oper} {a : Act} {w : World} {K : Act → World → Prop} {Q : Exit → Act → World → Prop} (s x : Operand) (hty : o.type = 41) (ho : o.op = .call { callee := .builtin .append, args := #[s, x], argTypes := #[41, 41] })
  (base : Nat) (sv : Option Addr) (cv : Nat) (hs : a.eval s = .slice sv 0 cv) (hown : OwnN w base (.slice sv 0 cv) []) (sx : Option Addr) (c : Nat) (l : List Int) {lo hi : Nat} (hx : a.eval x = .slice sx l.length c) (hr : IntsR w lo hi sx l) (hn : l.length ≤ 1073741824) (hbase : base ≤ w.heap.size)
  (h : ∀ s' c' w', OwnN w' base (.slice s' l.length c') l → Copied w w' sv cv base l.length s' c' → K (a.put o.dst (.slice s' l.length c')) w') : Oper.wp Try.prog o a w K Q := by
 rcases hr with rfl | ⟨g, off, rfl, h1, h2, hc⟩
 ·have hrun := run_append_zero w base _ _ hown sx c
  unfold Oper.wp
  simp at hx
  simp [execOp, ho, resolve, invoke, builtin, hs, hx, hty, hrun, Result.andThen]
  exact h sv cv w hown ⟨fun _ _ _ => rfl, Below.refl _ _, fun k hk => .inr hk⟩
 ·rcases Nat.eq_zero_or_pos l.length with h0 | hl
  ·have e := List.length_eq_zero_iff.1 h0
   subst e
   have hrun := run_append_zero w base _ _ hown (some ⟨g, off, none⟩) c
   unfold Oper.wp
   simp at hx
   simp [execOp, ho, resolve, invoke, builtin, hs, hx, hty, hrun, Result.andThen]
   exact h sv cv w hown ⟨fun _ _ _ => rfl, Below.refl _ _, fun k hk => .inr hk⟩
  ·obtain ⟨i0, hi0, hz0, hz1, hz2⟩ := infoInt
   refine wp_append_lies w s x 41 ho base 3 i0 _ 1 8 Try.underlying41 hi0 hz0 hz1 hz2 rfl (by decide) _ 0 _ hs hown ⟨g, off, none⟩ l.length c (l.map (Value.int .i64)) hx (by simp) (news_row hc) (fun u hu => by obtain ⟨z, -, rfl⟩ := List.mem_map.1 hu; rfl) hl (by unfold maxLen; omega) (by omega) hbase _ rfl ?_
   intro g' cap w' q1 q2 q3 q4
   have hb : Below base w w' := Below.grown (Below.refl _ _) q2 hbase (fun j hj => (World.ownsRow.lt hown _ hj).1)
   rw [Nat.zero_add]
   rw [Nat.zero_add] at q1
   refine h _ _ w' (by show w'.ownsRow base 3 1 _ l.length (l.map (Value.int .i64)); exact q1) ⟨fun k hk hne => q2.block k hk (fun e => hne e.symm), hb, fun k hk => ?_⟩
   injection hk with hk
   rcases q3 with q3 | q3
   ·exact .inr (by rw [q3]; exact congrArg some hk)
   ·exact .inl (by have : g' = k := hk; omega)
theorem app_copyI {ops : Array Oper} {rest : List Oper} {o : Oper} {a : Act} {Q : Exit → Act → World → Prop} (hgd : o.guard = none) (s x : Operand) (hty : o.type = 41) (ho : o.op = .call { callee := .builtin .append, args := #[s, x], argTypes := #[41, 41] }) (w : World)
  (base : Nat) (sv : Option Addr) (cv : Nat) (hs : a.eval s = .slice sv 0 cv) (hown : OwnN w base (.slice sv 0 cv) []) (sx : Option Addr) (c : Nat) (l : List Int) {lo hi : Nat} (hx : a.eval x = .slice sx l.length c) (hr : IntsR w lo hi sx l) (hn : l.length ≤ 1073741824) (hbase : base ≤ w.heap.size)
  (h : ∀ s' c' w', OwnN w' base (.slice s' l.length c') l → Copied w w' sv cv base l.length s' c' → wpList Try.prog ops Q rest (a.put o.dst (.slice s' l.length c')) w') : wpList Try.prog ops Q (o :: rest) a w :=
 wpList_plain hgd fun _ hK => wp_copyI s x hty ho base sv cv hs hown sx c l hx hr hn hbase fun s' c' w' h1 h2 => hK _ _ (h s' c' w' h1 h2)
theorem step_copyI {ops : Array Oper} {o : Oper} {a : Act} {K : Act → World → Prop} {Q : Exit → Act → World → Prop} {E : Prop} (hgd : o.guard = none) (s x : Operand) (hty : o.type = 41) (ho : o.op = .call { callee := .builtin .append, args := #[s, x], argTypes := #[41, 41] }) (w : World)
  (base : Nat) (sv : Option Addr) (cv : Nat) (hs : a.eval s = .slice sv 0 cv) (hown : OwnN w base (.slice sv 0 cv) []) (sx : Option Addr) (c : Nat) (l : List Int) {lo hi : Nat} (hx : a.eval x = .slice sx l.length c) (hr : IntsR w lo hi sx l) (hn : l.length ≤ 1073741824) (hbase : base ≤ w.heap.size)
  (h : ∀ s' c' w', OwnN w' base (.slice s' l.length c') l → Copied w w' sv cv base l.length s' c' → K (a.put o.dst (.slice s' l.length c')) w') : if Region.wanted o (yielded ops a.tmps) = true then Oper.wp Try.prog o a w K Q else E := by
 have hw : Region.wanted o (yielded ops a.tmps) = true := by simp [Region.wanted, hgd]
 rw [if_pos hw]
 exact wp_copyI s x hty ho base sv cv hs hown sx c l hx hr hn hbase h
end
section
set_option linter.unusedSimpArgs false
set_option linter.unusedVariables false
set_option maxRecDepth 100000
open Go.RowKit
def mx (a b : Int) : Int := if a < b then b else a
def learnL : List Int → List Int → List Int
 | [], _ => []
 | a :: l, [] => a :: l
 | a :: l, b :: r => mx a b :: learnL l r
def joinL (a b : List Int) : List Int := List.zipWith mx a b
def knowsB (a b : List Int) : Bool := decide (a.length = b.length ∧ ∀ i, i < a.length → b.getD i 0 ≤ a.getD i 0)
theorem learn_len : ∀ (l r : List Int), (learnL l r).length = l.length
 | [], r => by cases r <;> rfl
 | a :: l, [] => rfl
 | a :: l, b :: r => by simp [learnL, learn_len l r]
theorem learn_nil : ∀ l : List Int, learnL l [] = l
 | [] => rfl
 | a :: l => rfl
theorem learn_at : ∀ (k : Nat) (l r : List Int), k < l.length → (learnL l (r.take k)).getD k 0 = l.getD k 0
 | 0, a :: l, r, _ => by rw [List.take_zero, learn_nil]
 | k + 1, a :: l, [], _ => by rw [List.take_nil, learn_nil]
 | k + 1, a :: l, b :: r, h => by simpa [learnL] using learn_at k l r (by simpa using h)
theorem learn_step : ∀ (k : Nat) (l r : List Int), k < l.length → k < r.length → learnL l (r.take (k + 1)) = (learnL l (r.take k)).set k (mx (l.getD k 0) (r.getD k 0))
 | 0, a :: l, b :: r, _, _ => by simp [learnL, learn_nil]
 | k + 1, a :: l, b :: r, h, h' => by simpa [learnL] using learn_step k l r (by simpa using h) (by simpa using h')
theorem learn_long : ∀ (l r : List Int), l.length ≤ r.length → learnL l (r.take l.length) = learnL l r
 | [], r, _ => by simp [learnL]
 | a :: l, [], h => by simp at h
 | a :: l, b :: r, h => by simpa [learnL] using learn_long l r (by simpa using h)
theorem learn_join : ∀ (l r : List Int), l.length ≤ r.length → learnL l r = joinL l r
 | [], r, _ => by simp [learnL, joinL]
 | a :: l, [], h => by simp at h
 | a :: l, b :: r, h => by simp [learnL, joinL, learn_join l r (by simpa using h)]
theorem join_take : ∀ (l r : List Int), joinL (l.take (min l.length r.length)) r = joinL l r
 | [], r => by simp [joinL]
 | a :: l, [] => by simp [joinL]
 | a :: l, b :: r => by
  have h := join_take l r
  simp only [joinL] at h ⊢
  rw [List.length_cons, List.length_cons, Nat.add_min_add_right, List.take_succ_cons, List.zipWith_cons_cons, List.zipWith_cons_cons, h]
theorem join_cut (l r : List Int) (h : r.length ≤ l.length) : joinL (l.take r.length) r = joinL l r := by
 have := join_take l r
 rwa [Nat.min_eq_right h] at this
theorem join_cut' (l r : List Int) (h : l.length ≤ r.length) : joinL l (r.take l.length) = joinL l r := by
 simp only [joinL]
 apply List.ext_getElem? fun i => ?_
 rw [List.getElem?_zipWith, List.getElem?_zipWith]
 by_cases hi : i < l.length
 ·rw [List.getElem?_take, if_pos hi]
 ·rw [List.getElem?_eq_none (show l.length ≤ i by omega)]
theorem join_len (l r : List Int) : (joinL l r).length = min l.length r.length := by simp [joinL]
theorem join_step (k : Nat) (l r : List Int) (h : k < l.length) (h' : k < r.length) : joinL (l.take (k + 1)) (r.take (k + 1)) = joinL (l.take k) (r.take k) ++ [mx (l.getD k 0) (r.getD k 0)] := by
 rw [List.take_add_one, List.take_add_one, List.getElem?_eq_getElem h, List.getElem?_eq_getElem h']
 simp only [joinL, Option.toList_some]
 rw [List.zipWith_append (by simp; omega)]
 simp [List.getD_eq_getElem?_getD, h, h']
theorem mx_l1 (a b : Int) : (if a > b then a else b) = mx a b := by unfold mx; split <;> split <;> omega
theorem l1Max_any (a b : Int) (w : World) : Calls Try.prog 62 #[.int .i64 a, .int .i64 b] w fun e w' => e = .returned (.int .i64 (mx a b)) ∧ w' = w := by
 rw [← mx_l1]
 by_cases h : a > b
 ·rw [if_pos h]
  go_enter Try.func62, Try.ntmps62
  go_wp2
  go_ret
  exact ⟨rfl, rfl⟩
 ·rw [if_neg h]
  go_enter Try.func62, Try.ntmps62
  go_wp2
  go_ret
  exact ⟨rfl, rfl⟩
theorem mkView (n : Nat) (hn : n ≤ 1048577) (w : World) : (Instr.makeSlice 79 (.int .i64 (n : Int)) (.int .i64 (n : Int))).run Try.prog w = .ok (.slice (some ⟨w.heap.size, 0, none⟩) n n) (w.alloc (.cells (madeCells #[.int .i64 0] (n * 1)) 3)) := by
 have h := run_make (P := Try.prog) w 79 3 _ (.int .i64 0) Try.underlying79 rfl rfl .i64 .i64 n n (by omega) (Int.le_refl _) (by show (8 : Int) * _ ≤ _; omega) (by omega)
 have e : (Value.int .i64 0).cells = #[.int .i64 0] := rfl
 have e' : ∀ t, Try.prog.info? 3 = some t → t.size = 1 := by intro t h; cases h; rfl
 rw [e, e' _ rfl] at h
 simpa using h
theorem cells_row {w : World} {g o : Nat} {l : List Int} (hc : ∀ i, i < l.length → w.cell? ⟨g, o + i, none⟩ = some (.int .i64 (l.getD i 0))) : ∀ j u, (l.map (Value.int .i64))[j]? = some u → w.cell? (Addr.add ⟨g, o, none⟩ j) = some u := by
 intro j u hu
 rw [List.getElem?_map] at hu
 by_cases hj : j < l.length
 ·have e : (Addr.add ⟨g, o, none⟩ j) = ⟨g, o + j, none⟩ := by
   by_cases h : j = 0
   ·subst h; rfl
   ·simp [Addr.add, h]
  rw [e, hc j hj]
  simpa [List.getD_eq_getElem?_getD, List.getElem?_eq_getElem hj] using hu
 ·rw [List.getElem?_eq_none (by omega)] at hu
  simp at hu
theorem ownN_mk {w : World} {base g : Nat} {l : List Int} {cs : List Value} (hb : base ≤ g) (hl : l.length ≤ maxLen) (h : w.heap[g]? = some (.cells cs.toArray 3 (0, 0))) (e : cs = l.map (Value.int .i64)) : OwnN w base (.slice (some ⟨g, 0, none⟩) l.length l.length) l := by
 subst e
 exact ⟨by simp, .inr ⟨g, l.length, _, rfl, hb, h, Nat.le_refl _, hl, by simp, by simp [List.take_of_length_le]⟩⟩
set_option maxHeartbeats 1000000 in
theorem copied_any (s : Option Addr) (c lo hi : Nat) (l : List Int) (w : World) (h : IntsR w lo hi s l) (hB : hi ≤ w.heap.size) (hl : l.length ≤ 1048577) :
  Calls Try.prog 67 #[.slice s l.length c] w fun e w' => e = .returned (.slice (some ⟨w.heap.size, 0, none⟩) l.length l.length) ∧ OwnN w' w.heap.size (.slice (some ⟨w.heap.size, 0, none⟩) l.length l.length) l ∧ Below w.heap.size w w' := by
 have hmk := mkView l.length hl
 have HC : Hid (IntsR w lo hi s l) := h
 clear h
 go_enter Try.func67, Try.ntmps67
 go_wp2_with (refine wpList_copy_splice rfl _ _ 79 79 rfl 3 Try.underlying79 rfl _ s _ _ _ _ rfl rfl w.heap.size 0 (madeCells #[.int .i64 0] l.length).toList 3 (by rw [Array.toArray_toList]; exact heap_alloc_new _ _) (l.map (Value.int .i64)) (by simp) (fun hp => ⟨rfl, by obtain ⟨g, off, e, h1, h2, h3⟩ := HC.out.pos (by simpa using hp); exact ⟨_, e, cells_row fun i hi => (((Below.refl _ _).alloc (Nat.le_refl _) _).cell (p := ⟨g, off + i, none⟩) (by show g < w.heap.size; omega)).trans (h3 i hi)⟩⟩) (by simp [size_madeCells]) (fun v hv => by obtain ⟨z, -, rfl⟩ := List.mem_map.1 hv; rfl) w.heap.size w ((Below.refl _ _).alloc (Nat.le_refl _) _) (Nat.le_refl _) ?_; intro w2 HG2 hB2)
 go_ret
 refine ⟨rfl, ownN_mk (Nat.le_refl _) (by unfold maxLen; omega) HG2.out ?_, hB2⟩
 simp [splice, size_madeCells]
set_option maxHeartbeats 2000000 in
theorem learn_any (base g cap : Nat) (l : List Int) (s' : Option Addr) (c' lo hi : Nat) (l' : List Int) (w : World) (h : OwnN w base (.slice (some ⟨g, 0, none⟩) l.length cap) l) (h' : IntsR w lo hi s' l') (hh : hi ≤ w.heap.size) (hav : ∀ g' o', s' = some ⟨g', o', none⟩ → 0 < l'.length → g' ≠ g) (hl : l.length ≤ 1048577) (hl' : l'.length ≤ 1048577) :
  Calls Try.prog 96 #[.slice (some ⟨g, 0, none⟩) l.length cap, .slice s' l'.length c'] w fun e w' => e = .returned (.tuple #[]) ∧ OwnN w' base (.slice (some ⟨g, 0, none⟩) l.length cap) (learnL l l') ∧ Exc g (g + 1) w w' ∧ w'.heap.size = w.heap.size := by
 have H : Hid (OwnN w base (.slice (some ⟨g, 0, none⟩) l.length cap) l) := h
 have H' : Hid (IntsR w lo hi s' l') := h'
 clear h h'
 by_cases hc : l'.length < l.length
 ·have hlm : l'.length ≤ l.length := by omega
  go_enter Try.func96, Try.ntmps96
  go_wp2
  go_loopw [4, 10] (fun u i wr => ∃ k : Nat, k ≤ l'.length ∧ i = .int .i64 k ∧ OwnN wr base (.slice (some ⟨g, 0, none⟩) l.length cap) (learnL l (l'.take k)) ∧ Exc g (g + 1) w wr ∧ wr.heap.size = w.heap.size) (fun _ i _ => l'.length - (intOf i).toNat)
  case atStart => exact ⟨0, Nat.zero_le _, rfl, by rw [List.take_zero, learn_nil]; exact H.out, ⟨rfl, rfl, rfl, Nat.le_refl _, fun _ _ _ => rfl⟩, rfl⟩
  case round =>
   obtain ⟨k, hk, rfl, ho, hx, hz⟩ := hrel
   have HO : Hid (OwnN wr base (.slice (some ⟨g, 0, none⟩) l.length cap) (learnL l (l'.take k))) := ho
   have HX : Hid (Exc g (g + 1) w wr) := hx
   have HZ : Hid (wr.heap.size = w.heap.size) := hz
   clear ho hx hz
   by_cases hlt : k < l'.length
   ·have hk1 : k < l.length := by omega
    have hk2 : k < l'.length := by omega
    obtain ⟨g', o', e', q1, q2, q3⟩ := H'.out.pos (by omega)
    subst e'
    have hr : wr.ownsRow base 3 1 (.slice (some ⟨g, 0, none⟩) l.length cap) l.length ((learnL l (l'.take k)).map (Value.int .i64)) := by have h := HO.out; unfold OwnN at h; rw [learn_len] at h; exact h
    have hgw := (World.ownsRow.lt H.out g rfl).2
    have e1 : wr.cell? ⟨g, k, none⟩ = some (.int .i64 (l.getD k 0)) := by
     rw [World.ownsRow.cellAt hr k (by omega), List.getElem?_map, ← learn_at k l l' hk1, List.getD_eq_getElem?_getD, List.getElem?_eq_getElem (by rw [learn_len]; omega)]
     rfl
    have e2 : wr.cell? ⟨g', o' + k, none⟩ = some (.int .i64 (l'.getD k 0)) := (World.cell?_of_block (w := w) (HX.out.blk g' (by omega) (by have := hav g' o' rfl (by omega); omega))).trans (q3 k hk2)
    have hfz : wr.frozen? ⟨g, k, none⟩ = false := World.ownsRow.frozenAt hr k
    have HRo := (show Hid _ from hr)
    have ST : Hid (learnL l (l'.take (k + 1)) = (learnL l (l'.take k)).set k (mx (l.getD k 0) (l'.getD k 0))) := learn_step k l l' hk1 hk2
    generalize l.getD k 0 = x at e1 ST
    generalize l'.getD k 0 = y at e2 ST
    clear hr q3
    have b0 : (0 : Int) ≤ (k : Int) := by omega
    have b1 : (k : Int) < (l.length : Int) := by omega
    have b2 : (k : Int) < (l'.length : Int) := by omega
    obtain ⟨z, hz⟩ : ∃ z : Int, (if y > x then y else x) = z := ⟨_, rfl⟩
    have HZz : Hid (mx x y = z) := hz
    go_wp2
    go_region
    go_wp2
    go_roundw
    case rel =>
     have p5 := (World.ownsRow.stored HRo.out k (.int .i64 z)).1
     have e0 : ((learnL l (l'.take k)).map (Value.int .i64)).set k (.int .i64 z) = (learnL l (l'.take (k + 1))).map (Value.int .i64) := by rw [ST.out, HZz.out, List.map_set]
     rw [e0] at p5
     refine ⟨k + 1, by omega, by go_num, ?_, ?_, ?_⟩
     ·unfold OwnN
      rw [learn_len]
      exact p5
     ·obtain ⟨x1, x2, x3, x4, x5⟩ := HX.out
      exact ⟨x1, x2, x3, by show w.heap.size ≤ (wr.setCell _ _).heap.size; simpa using x4, fun j hj hc => (Below.heap_setCell _ _ _ j (fun e => by have : j = g := e; omega)).trans (x5 j hj hc)⟩
     ·show (wr.setCell _ _).heap.size = _
      simpa using HZ.out
    case measure => simp [intOf]; omega
   ·go_wp2
    go_end0
    have : k = l'.length := by omega
    subst this
    have ho := HO.out
    rw [List.take_length] at ho
    exact ⟨rfl, ho, HX.out, HZ.out⟩
 ·have hlm : l.length ≤ l'.length := by omega
  go_enter Try.func96, Try.ntmps96
  go_wp2
  go_loopw [4, 10] (fun u i wr => ∃ k : Nat, k ≤ l.length ∧ i = .int .i64 k ∧ OwnN wr base (.slice (some ⟨g, 0, none⟩) l.length cap) (learnL l (l'.take k)) ∧ Exc g (g + 1) w wr ∧ wr.heap.size = w.heap.size) (fun _ i _ => l.length - (intOf i).toNat)
  case atStart => exact ⟨0, Nat.zero_le _, rfl, by rw [List.take_zero, learn_nil]; exact H.out, ⟨rfl, rfl, rfl, Nat.le_refl _, fun _ _ _ => rfl⟩, rfl⟩
  case round =>
   obtain ⟨k, hk, rfl, ho, hx, hz⟩ := hrel
   have HO : Hid (OwnN wr base (.slice (some ⟨g, 0, none⟩) l.length cap) (learnL l (l'.take k))) := ho
   have HX : Hid (Exc g (g + 1) w wr) := hx
   have HZ : Hid (wr.heap.size = w.heap.size) := hz
   clear ho hx hz
   by_cases hlt : k < l.length
   ·have hk1 : k < l.length := by omega
    have hk2 : k < l'.length := by omega
    obtain ⟨g', o', e', q1, q2, q3⟩ := H'.out.pos (by omega)
    subst e'
    have hr : wr.ownsRow base 3 1 (.slice (some ⟨g, 0, none⟩) l.length cap) l.length ((learnL l (l'.take k)).map (Value.int .i64)) := by have h := HO.out; unfold OwnN at h; rw [learn_len] at h; exact h
    have hgw := (World.ownsRow.lt H.out g rfl).2
    have e1 : wr.cell? ⟨g, k, none⟩ = some (.int .i64 (l.getD k 0)) := by
     rw [World.ownsRow.cellAt hr k (by omega), List.getElem?_map, ← learn_at k l l' hk1, List.getD_eq_getElem?_getD, List.getElem?_eq_getElem (by rw [learn_len]; omega)]
     rfl
    have e2 : wr.cell? ⟨g', o' + k, none⟩ = some (.int .i64 (l'.getD k 0)) := (World.cell?_of_block (w := w) (HX.out.blk g' (by omega) (by have := hav g' o' rfl (by omega); omega))).trans (q3 k hk2)
    have hfz : wr.frozen? ⟨g, k, none⟩ = false := World.ownsRow.frozenAt hr k
    have HRo := (show Hid _ from hr)
    have ST : Hid (learnL l (l'.take (k + 1)) = (learnL l (l'.take k)).set k (mx (l.getD k 0) (l'.getD k 0))) := learn_step k l l' hk1 hk2
    generalize l.getD k 0 = x at e1 ST
    generalize l'.getD k 0 = y at e2 ST
    clear hr q3
    have b0 : (0 : Int) ≤ (k : Int) := by omega
    have b1 : (k : Int) < (l.length : Int) := by omega
    have b2 : (k : Int) < (l'.length : Int) := by omega
    obtain ⟨z, hz⟩ : ∃ z : Int, (if y > x then y else x) = z := ⟨_, rfl⟩
    have HZz : Hid (mx x y = z) := hz
    go_wp2
    go_region
    go_wp2
    go_roundw
    case rel =>
     have p5 := (World.ownsRow.stored HRo.out k (.int .i64 z)).1
     have e0 : ((learnL l (l'.take k)).map (Value.int .i64)).set k (.int .i64 z) = (learnL l (l'.take (k + 1))).map (Value.int .i64) := by rw [ST.out, HZz.out, List.map_set]
     rw [e0] at p5
     refine ⟨k + 1, by omega, by go_num, ?_, ?_, ?_⟩
     ·unfold OwnN
      rw [learn_len]
      exact p5
     ·obtain ⟨x1, x2, x3, x4, x5⟩ := HX.out
      exact ⟨x1, x2, x3, by show w.heap.size ≤ (wr.setCell _ _).heap.size; simpa using x4, fun j hj hc => (Below.heap_setCell _ _ _ j (fun e => by have : j = g := e; omega)).trans (x5 j hj hc)⟩
     ·show (wr.setCell _ _).heap.size = _
      simpa using HZ.out
    case measure => simp [intOf]; omega
   ·go_wp2
    go_end0
    have : k = l.length := by omega
    subst this
    have ho := HO.out
    have e9 := learn_long l l' hlm; rw [e9] at ho
    exact ⟨rfl, ho, HX.out, HZ.out⟩
theorem cut_any (s : Option Addr) (n c k : Nat) (w : World) (hk : k ≤ c) : Calls Try.prog 78 #[.slice s n c, .int .i64 k] w fun e w' => e = .returned (.slice s k k) ∧ w' = w := by
 have h0 : (0 : Int) ≤ (k : Int) := by omega
 have h1 : (k : Int) ≤ (c : Int) := by omega
 go_enter Try.func78, Try.ntmps78
 go_wp2
 go_ret
 exact ⟨rfl, rfl⟩
set_option maxHeartbeats 2000000 in
theorem specJoin_any (s s' : Option Addr) (c c' lo hi lo' hi' : Nat) (l l' : List Int) (w : World) (h : IntsR w lo hi s l) (h' : IntsR w lo' hi' s' l') (hl : l.length ≤ 1048577) (hl' : l'.length ≤ 1048577) (hB : hi ≤ w.heap.size) (hB' : hi' ≤ w.heap.size) :
  Calls Try.prog 85 #[.slice s l.length c, .slice s' l'.length c'] w fun e w' => ∃ v, e = .returned v ∧ OwnN w' w.heap.size v (joinL l l') ∧ Below w.heap.size w w' := by
 have H : Hid (IntsR w lo hi s l) := h
 have H' : Hid (IntsR w lo' hi' s' l') := h'
 clear h h'
 go_enter Try.func85, Try.ntmps85
 go_wp2
 go_loopw [5, 6] (fun u i wr => ∃ k : Nat, k ≤ l.length ∧ k ≤ l'.length ∧ i = .int .i64 k ∧ OwnN wr w.heap.size u (joinL (l.take k) (l'.take k)) ∧ Below w.heap.size w wr) (fun _ i _ => l'.length - (intOf i).toNat)
 case atStart => exact ⟨0, Nat.zero_le _, Nat.zero_le _, rfl, by simpa [joinL] using ownN_empty (Nat.le_refl _), (Below.refl _ _).alloc (Nat.le_refl _) _⟩
 case round =>
  obtain ⟨k, hk, hk', rfl, ho, hb⟩ := hrel
  have HO : Hid (OwnN wr w.heap.size u5 (joinL (l.take k) (l'.take k))) := ho
  have HB : Hid (Below w.heap.size w wr) := hb
  have hs := hb.size
  clear ho hb
  by_cases hlt : k < l.length
  ·by_cases hlt' : k < l'.length
   ·obtain ⟨g, o, e1, a1, a2, a3⟩ := H.out.pos (by omega)
    obtain ⟨g', o', e1', a1', a2', a3'⟩ := H'.out.pos (by omega)
    subst e1 e1'
    have e1 := (HB.out.cell (p := ⟨g, o + k, none⟩) (show g < _ by omega)).trans (a3 k hlt)
    have e2 := (HB.out.cell (p := ⟨g', o' + k, none⟩) (show g' < _ by omega)).trans (a3' k hlt')
    have ST : Hid (joinL (l.take (k + 1)) (l'.take (k + 1)) = joinL (l.take k) (l'.take k) ++ [mx (l.getD k 0) (l'.getD k 0)]) := join_step k l l' hlt hlt'
    have TL : Hid ((joinL (l.take k) (l'.take k)).length = k) := by show (joinL (l.take k) (l'.take k)).length = k; rw [join_len]; simp; omega
    clear a3 a3'
    generalize l.getD k 0 = x at e1 ST
    generalize l'.getD k 0 = y at e2 ST
    generalize joinL (l.take k) (l'.take k) = lk at HO ST TL
    generalize hz : mx x y = z at ST
    have HZ : Hid (mx x y = z) := hz
    clear hz
    have b0 : (0 : Int) ≤ (k : Int) := by omega
    have b1 : (k : Int) < (l.length : Int) := by omega
    have b2 : (k : Int) < (l'.length : Int) := by omega
    have gl : g < wr.heap.size := by omega
    have gl' : g' < wr.heap.size := by omega
    go_wp2_with fail
    go_region_held3 (fun w' => w'.cell? ⟨g, o + k, none⟩ = some (.int .i64 x) ∧ w'.cell? ⟨g', o' + k, none⟩ = some (.int .i64 y)) (go_keep) (first | (go_at_call 62; refine (l1Max_any x y _).mono ?_; rintro e w' ⟨rfl, rfl⟩; rw [HZ.out]) | (refine step_row rfl _ _ rfl _ w.heap.size u5 lk rfl (HO.out.alloc (.cells #[.int .i64 z] 3)) wr.heap.size 0 1 [z] rfl (fun i hi => by simp at hi; subst hi; simp [go_sem]) (by simp) (by have := TL.out; simp; omega) (by simp; omega) ?_; intro g1 cap1 w1 ho1 hb1 hg1 hg1'; have t1 := (hb1.cell (p := ⟨g, o + k, none⟩) (show g < w.heap.size by omega)).trans ((show _ = wr.cell? ⟨g, o + k, none⟩ by simp [go_sem, gl]).trans e1); have t2 := (hb1.cell (p := ⟨g', o' + k, none⟩) (show g' < w.heap.size by omega)).trans ((show _ = wr.cell? ⟨g', o' + k, none⟩ by simp [go_sem, gl']).trans e2)))
    have HO1 : Hid (OwnN w1 w.heap.size (.slice (some ⟨g1, 0, none⟩) (lk.length + 1) cap1) (lk ++ [z])) := ho1
    have HB1 : Hid (Below w.heap.size w w1) := HB.out.trans ((show Below w.heap.size wr (wr.alloc (.cells #[.int .i64 z] 3)).drew from Below.drew ((Below.refl _ _).alloc hs _)).trans hb1)
    clear ho1 hb1 t1 t2
    go_wp2
    go_roundw
    case rel => exact ⟨k + 1, by omega, by omega, by go_num, by rw [ST.out]; exact HO1.out, HB1.out⟩
    case measure => simp [intOf]; omega
   ·have e0 : joinL (l.take k) (l'.take k) = joinL l l' := by
     have : k = l'.length := by omega
     subst this
     rw [List.take_length]
     have := join_cut l l' hk
     exact this
    go_wp2
    go_ret
    exact ⟨_, rfl, by have := HO.out; rw [e0] at this; exact this, HB.out⟩
  ·have e0 : joinL (l.take k) (l'.take k) = joinL l l' := by
    have : k = l.length := by omega
    subst this
    rw [List.take_length]
    have := join_cut' l l' hk'
    exact this
   go_wp2
   go_ret
   exact ⟨_, rfl, by have := HO.out; rw [e0] at this; exact this, HB.out⟩
end
end Go.Proofs.Ytepfpbcjklaenaa
