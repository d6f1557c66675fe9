/- ProgRead of the program, at every text of at most 2^20 bytes: what is no text is caught. Condition: the tables hold what their initialisers lay (Env). -/
import Derived.Test.YtajblippcnidiaaGreatDoorPRead5
import Derived.Defers
import Derived.Recover
import Derived.Laws.Pointers
namespace Go.Proofs.YtajblippcnidiaaGreatDoor
set_option linter.unusedSimpArgs false
set_option linter.unusedVariables false
set_option maxRecDepth 100000
open Go.RowKit

/- the two boxes of the answer -/
structure Two (X Y : Nat) (w : World) (a b : Value) (ok : Bool) : Prop where
  c0 : w.cell? ⟨X, 0, none⟩ = some a
  c1 : w.cell? ⟨X, 1, none⟩ = some b
  cy : w.cell? ⟨Y, 0, none⟩ = some (.bool ok)
  fx : ∀ j, w.frozen? ⟨X, j, none⟩ = false
  fy : ∀ j, w.frozen? ⟨Y, j, none⟩ = false
def putTwo (w : World) (X Y : Nat) (a b : Value) (ok : Bool) : World := ((w.setCell ⟨X, 0, none⟩ a).setCell ⟨X, 1, none⟩ b).setCell ⟨Y, 0, none⟩ (.bool ok)
theorem cellNe {w : World} {g g' i j : Nat} {v : Value} (h : ¬ g = g' ∨ ¬ i = j) : (w.setCell ⟨g, i, none⟩ v).cell? ⟨g', j, none⟩ = w.cell? ⟨g', j, none⟩ := by
  apply World.cell?_setCell_other
  intro e
  injection e with e1 e2
  rcases h with h | h
  · exact h e1
  · exact h e2
theorem cellEq {w : World} {g i : Nat} {v u : Value} (h : w.cell? ⟨g, i, none⟩ = some u) : (w.setCell ⟨g, i, none⟩ v).cell? ⟨g, i, none⟩ = some v := by
  apply World.cell?_setCell_same
  exact h
theorem Two.put {X Y : Nat} {w : World} {a b a' b' : Value} {ok ok' : Bool} (h : Two X Y w a b ok) (hXY : ¬ Y = X) : Two X Y (putTwo w X Y a' b' ok') a' b' ok' := by
  unfold putTwo
  have hYX : ¬ X = Y := fun e => hXY e.symm
  exact ⟨(cellNe (.inl hXY)).trans ((cellNe (.inr (by decide))).trans (cellEq h.c0)), (cellNe (.inl hXY)).trans (cellEq ((cellNe (.inr (by decide))).trans h.c1)), cellEq ((cellNe (.inl hYX)).trans ((cellNe (.inl hYX)).trans h.cy)),
    fun j => by rw [World.frozen?_setCell, World.frozen?_setCell, World.frozen?_setCell]; exact h.fx j, fun j => by rw [World.frozen?_setCell, World.frozen?_setCell, World.frozen?_setCell]; exact h.fy j⟩
theorem putTwo_below {a0 w : World} {B X Y : Nat} {a b : Value} {ok : Bool} (h : Below B a0 w) (hX : B ≤ X) (hY : B ≤ Y) : Below B a0 (putTwo w X Y a b ok) :=
  ((h.setCell (p := ⟨X, 0, none⟩) hX _).setCell (p := ⟨X, 1, none⟩) hX _).setCell (p := ⟨Y, 0, none⟩) hY _
theorem putTwo_far {w : World} {X Y k : Nat} {a b : Value} {ok : Bool} (h : k ≠ X) (h' : k ≠ Y) : (putTwo w X Y a b ok).heap[k]? = w.heap[k]? :=
  (Below.heap_setCell _ ⟨Y, 0, none⟩ _ k h').trans ((Below.heap_setCell _ ⟨X, 1, none⟩ _ k h).trans (Below.heap_setCell _ ⟨X, 0, none⟩ _ k h))

set_option maxHeartbeats 2000000 in
theorem catchP_panicking (X Y : Nat) (hXY : ¬ Y = X) (u : TypeId) (pv : Value) (older : List PanicEntry) (w : World) (a b : Value) (h : Two X Y w a b false) :
    CallsD Tryz.prog 23 #[.pointer (some ⟨X, 0, none⟩), .pointer (some ⟨Y, 0, none⟩)] (.panicking ({ v := .iface u pv, recovered := false } :: older)) w fun e u' w' =>
      e = .returned (.tuple #[]) ∧ u' = .panicking ({ v := .iface u pv, recovered := true } :: older) ∧ w' = putTwo w X Y (.slice none 0 0) (.slice none 0 0) false := by
  obtain ⟨c0, c1, cy, fx, fy⟩ := h
  have hYX : ¬ X = Y := fun h => hXY h.symm
  refine callsD_of_wpS Tryz.func23 rfl fun c₀ cs hu => ?_
  apply wpS_seq
  apply wpS_region
  simp [wpOpsS, go_sem, recoverD, hu, Tryz.ntmps23, Exit.thenS]
  refine wpS_cond (t := true) (by simp [Act.eval, Array.replicate]) ?_
  simp only [if_true]
  apply wpS_region
  simp [wpOpsS, go_sem, c0, c1, cy, fx, fy, hXY, hYX, bodyPostS, results, Tryz.results23, putTwo]

theorem catchP_idle (X Y : Nat) (w : World) :
    CallsD Tryz.prog 23 #[.pointer (some ⟨X, 0, none⟩), .pointer (some ⟨Y, 0, none⟩)] .returning w fun e u' w' => e = .returned (.tuple #[]) ∧ u' = .returning ∧ w' = w := by
  refine callsD_of_wpS Tryz.func23 rfl fun c₀ cs hu => ?_
  apply wpS_seq
  apply wpS_region
  simp [wpOpsS, go_sem, recoverD, hu, Tryz.ntmps23, Exit.thenS]
  refine wpS_cond (t := false) (by simp [Act.eval, Array.replicate]) ?_
  simp only [Bool.false_eq_true, if_false]
  refine wpS_of_wp (wp_skip ?_)
  cases c₀
  simp_all [bodyPostS, results, Tryz.results23]

def readPost (base : Nat) (r : Option PD) (e : Ending) (w' : World) : Prop :=
  match r with
  | none => e = .returned (.tuple #[.agg #[.slice none 0 0, .slice none 0 0], .bool false])
  | some p => ∃ v v', e = .returned (.tuple #[.agg #[v, v'], .bool true]) ∧ OwnN w' base v p.caps ∧ OwnB w' base v' p.bods ∧ Fits p

set_option maxHeartbeats 4000000 in
theorem implProgRead_any (l : List UInt8) (hl : l.length ≤ 1048576) (w : World) (hE : Env w w.heap.size) : Calls Tryz.prog 9 #[.string ⟨l.toArray⟩] w fun e w' => readPost w.heap.size (readP l) e w' ∧ Below w.heap.size w w' := by
  have hmf : ∀ (fn : Fn) (first cap : Array Value) (w : World), (Instr.makeFunc fn first cap).run Tryz.prog w = .ok (.func fn first cap) w := fun _ _ _ _ => rfl
  obtain ⟨A, hA, KA, zA, TA⟩ : ∃ A, (w.alloc (.cells #[.slice none 0 0, .slice none 0 0] 27)).alloc (.cells #[.bool false] 4) = A ∧ Below w.heap.size w A ∧ w.heap.size + 2 ≤ A.heap.size ∧ Two w.heap.size (w.heap.size + 1) A (.slice none 0 0) (.slice none 0 0) false :=
    ⟨_, rfl, ((Below.refl _ _).alloc (Nat.le_refl _) _).alloc (by simp) _, by simp, ⟨by simp [go_sem], by simp [go_sem], by simp [go_sem], fun j => by simp [go_sem], fun j => by simp [go_sem]⟩⟩
  have EA : Hid (Env A A.heap.size) := (hE.keep KA).mono (by omega)
  have HA := (show Hid _ from hA)
  have HT : Hid (Two w.heap.size (w.heap.size + 1) A (.slice none 0 0) (.slice none 0 0) false) := TA
  clear hA TA hE
  cases hr : readP l with
  | none =>
    have HR : Hid (readP l = none) := hr
    clear hr
    go_enter_defers Tryz.func9, Tryz.ntmps9
    go_wp2_with (go_at_call 24; rw [HA.out]; refine (readProg_any l hl _ EA.out).mono ?_; rintro e w1 ⟨he, hb1⟩; rw [HR.out] at he; have he' : e = .panicked [{ v := noT, recovered := false }] := he; clear he; subst he'; have K1 : Hid (Below A.heap.size A w1) := hb1; clear hb1)
    have T1 : Two w.heap.size (w.heap.size + 1) w1 (.slice none 0 0) (.slice none 0 0) false := ⟨(K1.out.cell (p := ⟨w.heap.size, 0, none⟩) (by simp; omega)).trans HT.out.c0, (K1.out.cell (p := ⟨w.heap.size, 1, none⟩) (by simp; omega)).trans HT.out.c1, (K1.out.cell (p := ⟨w.heap.size + 1, 0, none⟩) (by simp; omega)).trans HT.out.cy, fun j => (K1.out.frozen (p := ⟨w.heap.size, j, none⟩) (by simp; omega)).trans (HT.out.fx j), fun j => (K1.out.frozen (p := ⟨w.heap.size + 1, j, none⟩) (by simp; omega)).trans (HT.out.fy j)⟩
    have kw : Below w.heap.size w w1 := KA.trans (K1.out.mono (by omega))
    refine leaves_cons (f := 23) (args := #[.pointer (some ⟨w.heap.size, 0, none⟩), .pointer (some ⟨w.heap.size + 1, 0, none⟩)]) (by simp) (by simp [go_sem]) ?_
    refine (catchP_panicking w.heap.size (w.heap.size + 1) (by omega) 9 _ [] w1 _ _ T1).mono ?_
    rintro e u' w'' ⟨rfl, rfl, rfl⟩
    have T2 := T1.put (a' := .slice none 0 0) (b' := .slice none 0 0) (ok' := false) (by omega)
    have kz := putTwo_below (X := w.heap.size) (Y := w.heap.size + 1) (a := .slice none 0 0) (b := .slice none 0 0) (ok := false) kw (Nat.le_refl _) (by omega)
    obtain ⟨g0, g1, gy, -, -⟩ := T2
    generalize putTwo w1 w.heap.size (w.heap.size + 1) (.slice none 0 0) (.slice none 0 0) false = wz at kz g0 g1 gy
    simp [Leaves, settle, results, Tryz.results9, go_sem, g0, g1, gy, readPost, kz]
  | some p =>
    have HR : Hid (readP l = some p) := hr
    clear hr
    go_enter_defers Tryz.func9, Tryz.ntmps9
    go_wp2_with (go_at_call 24; rw [HA.out]; refine (readProg_any l hl _ EA.out).mono ?_; rintro e w1 ⟨he, hb1⟩; rw [HR.out] at he; obtain ⟨v, v', rfl, ho, hbd, hft⟩ := he; obtain ⟨sv, cv, rfl⟩ := ho.sl; obtain ⟨sv', cv', rfl⟩ := hbd.sl; have T1 : Two w.heap.size (w.heap.size + 1) w1 (.slice none 0 0) (.slice none 0 0) false := ⟨(hb1.cell (p := ⟨w.heap.size, 0, none⟩) (by simp; omega)).trans HT.out.c0, (hb1.cell (p := ⟨w.heap.size, 1, none⟩) (by simp; omega)).trans HT.out.c1, (hb1.cell (p := ⟨w.heap.size + 1, 0, none⟩) (by simp; omega)).trans HT.out.cy, fun j => (hb1.frozen (p := ⟨w.heap.size, j, none⟩) (by simp; omega)).trans (HT.out.fx j), fun j => (hb1.frozen (p := ⟨w.heap.size + 1, j, none⟩) (by simp; omega)).trans (HT.out.fy j)⟩; have HT1 : Hid (Two w.heap.size (w.heap.size + 1) w1 (.slice none 0 0) (.slice none 0 0) false) := T1; obtain ⟨c0, c1, cy, fx, fy⟩ := T1; have K1 : Hid (Below A.heap.size A w1) := hb1; have HO : Hid (OwnN w1 A.heap.size (.slice sv p.caps.length cv) p.caps) := ho; have HB : Hid (OwnB w1 A.heap.size (.slice sv' p.bods.length cv') p.bods) := hbd; have HF : Hid (Fits p) := hft; clear hb1 ho hbd hft)
    clear c0 c1 cy fx fy
    have kw : Below w.heap.size w w1 := KA.trans (K1.out.mono (by omega))
    refine leaves_cons (f := 23) (args := #[.pointer (some ⟨w.heap.size, 0, none⟩), .pointer (some ⟨w.heap.size + 1, 0, none⟩)]) (by simp) (by simp [go_sem]) ?_
    refine (catchP_idle w.heap.size (w.heap.size + 1) _).mono ?_
    rintro e u' w'' ⟨rfl, rfl, hw⟩
    have hw' : w'' = putTwo w1 w.heap.size (w.heap.size + 1) (.slice sv p.caps.length cv) (.slice sv' p.bods.length cv') true := hw
    have T2 := HT1.out.put (a' := .slice sv p.caps.length cv) (b' := .slice sv' p.bods.length cv') (ok' := true) (by omega)
    have kz := putTwo_below (X := w.heap.size) (Y := w.heap.size + 1) (a := .slice sv p.caps.length cv) (b := .slice sv' p.bods.length cv') (ok := true) kw (Nat.le_refl _) (by omega)
    have O2 : OwnN (putTwo w1 w.heap.size (w.heap.size + 1) (.slice sv p.caps.length cv) (.slice sv' p.bods.length cv') true) w.heap.size (.slice sv p.caps.length cv) p.caps := OwnN.mono (OwnN.keep HO.out (fun k h1 _ => putTwo_far (by omega) (by omega))) (by omega)
    have Q2 : OwnB (putTwo w1 w.heap.size (w.heap.size + 1) (.slice sv p.caps.length cv) (.slice sv' p.bods.length cv') true) w.heap.size (.slice sv' p.bods.length cv') p.bods := OwnB.low (OwnB.keep HB.out (fun k h1 _ => putTwo_far (by omega) (by omega))) (by omega)
    rw [← hw'] at T2 kz O2 Q2
    clear hw hw'
    obtain ⟨g0, g1, gy, -, -⟩ := T2
    have hpost : readPost w.heap.size (some p) (.returned (.tuple #[.agg #[.slice sv p.caps.length cv, .slice sv' p.bods.length cv'], .bool true])) w'' := ⟨_, _, rfl, O2, Q2, HF.out⟩
    clear O2 Q2 HO HB HT1 HT
    simp [Leaves, settle, results, Tryz.results9, go_sem, g0, g1, gy, kz]
    exact hpost

end Go.Proofs.YtajblippcnidiaaGreatDoor
