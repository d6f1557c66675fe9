/- InsRead of the program, at every line of at most 2^40 bytes: what readIns reads, and true; zero and false where it panics. Condition: the tables hold what their initialisers lay (Env). -/
import Derived.Test.YtfhhlahfldddfafDoorRead4
import Derived.Defers
import Derived.Recover
import Derived.Laws.Pointers
namespace Go.Proofs.YtfhhlahfldddfafDoor
set_option linter.unusedSimpArgs false
set_option linter.unusedVariables false
set_option maxRecDepth 100000
open Go.RowKit

def zerosAt (w : World) (X Y : Nat) : World := (((((w.setCell ⟨X, 0, none⟩ (.int .i64 0)).setCell ⟨X, 1, none⟩ (.int .i64 0)).setCell ⟨X, 2, none⟩ (.int .i64 0)).setCell ⟨X, 3, none⟩ (.int .i64 0)).setCell ⟨X, 4, none⟩ (.int .i64 0)).setCell ⟨Y, 0, none⟩ (.bool false)

set_option maxHeartbeats 2000000 in
theorem catch_panicking (X Y : Nat) (hXY : ¬ Y = X) (u : TypeId) (pv : Value) (older : List PanicEntry) (w : World) (hX : w.heap[X]? = some (box5 0 0 0 0 0)) (hY : w.heap[Y]? = some (.cells #[.bool false] 4)) :
    CallsD Tryd.prog 23 #[.pointer (some ⟨X, 0, none⟩), .pointer (some ⟨Y, 0, none⟩)] (.panicking ({ v := .iface u pv, recovered := false } :: older)) w fun e u' w' =>
      e = .returned (.tuple #[]) ∧ u' = .panicking ({ v := .iface u pv, recovered := true } :: older) ∧ w' = zerosAt w X Y := by
  obtain ⟨c0, c1, c2, c3, c4⟩ := box5_cells hX
  have fz := box5_frozen hX
  have cy : w.cell? ⟨Y, 0, none⟩ = some (.bool false) := by rw [cell_of_block hY]; rfl
  have fy : w.frozen? ⟨Y, 0, none⟩ = false := by simp [World.frozen?, hY]
  have hYX : ¬ X = Y := fun h => hXY h.symm
  refine callsD_of_wpS Tryd.func23 rfl fun c₀ cs hu => ?_
  apply wpS_seq
  apply wpS_region
  simp [wpOpsS, go_sem, recoverD, hu, Tryd.ntmps23, Exit.thenS]
  refine wpS_cond (t := true) (by simp [Act.eval, Array.replicate]) ?_
  simp only [if_true]
  apply wpS_region
  simp [wpOpsS, go_sem, c0, c1, c2, c3, c4, fz, cy, fy, hXY, hYX, bodyPostS, results, Tryd.results23, zerosAt]

theorem catch_idle (X Y : Nat) (w : World) :
    CallsD Tryd.prog 23 #[.pointer (some ⟨X, 0, none⟩), .pointer (some ⟨Y, 0, none⟩)] .returning w fun e u' w' => e = .returned (.tuple #[]) ∧ u' = .returning ∧ w' = w := by
  refine callsD_of_wpS Tryd.func23 rfl fun c₀ cs hu => ?_
  apply wpS_seq
  apply wpS_region
  simp [wpOpsS, go_sem, recoverD, hu, Tryd.ntmps23, Exit.thenS]
  refine wpS_cond (t := false) (by simp [Act.eval, Array.replicate]) ?_
  simp only [Bool.false_eq_true, if_false]
  refine wpS_of_wp (wp_skip ?_)
  cases c₀
  simp_all [bodyPostS, results, Tryd.results23]

theorem push_last (w : World) (o : Obj) : (w.alloc o).heap[w.heap.size]? = some o := by
  show (w.heap.push o)[w.heap.size]? = _
  simp
theorem zerosAt_x {w : World} {X Y : Nat} (hXY : ¬ Y = X) (hX : w.heap[X]? = some (box5 0 0 0 0 0)) : (zerosAt w X Y).heap[X]? = some (box5 0 0 0 0 0) := by
  unfold zerosAt
  rw [Below.heap_setCell _ _ _ _ (fun h => hXY h.symm)]
  exact store5 hX 0 0 0 0 0
theorem zerosAt_y {w : World} {X Y : Nat} (hXY : ¬ Y = X) (hY : w.heap[Y]? = some (.cells #[.bool false] 4)) : (zerosAt w X Y).heap[Y]? = some (.cells #[.bool false] 4) := by
  unfold zerosAt
  have h5 : (((((w.setCell ⟨X, 0, none⟩ (.int .i64 0)).setCell ⟨X, 1, none⟩ (.int .i64 0)).setCell ⟨X, 2, none⟩ (.int .i64 0)).setCell ⟨X, 3, none⟩ (.int .i64 0)).setCell ⟨X, 4, none⟩ (.int .i64 0)).heap[Y]? = some (.cells #[.bool false] 4) := by
    rw [Below.heap_setCell _ _ _ _ hXY, Below.heap_setCell _ _ _ _ hXY, Below.heap_setCell _ _ _ _ hXY, Below.heap_setCell _ _ _ _ hXY, Below.heap_setCell _ _ _ _ hXY]
    exact hY
  rw [set_block _ h5]
  rfl
theorem zerosAt_below {a w : World} {B X Y : Nat} (h : Below B a w) (hX : B ≤ X) (hY : B ≤ Y) : Below B a (zerosAt w X Y) := by
  unfold zerosAt
  exact (((((h.setCell (p := ⟨X, 0, none⟩) hX _).setCell (p := ⟨X, 1, none⟩) hX _).setCell (p := ⟨X, 2, none⟩) hX _).setCell (p := ⟨X, 3, none⟩) hX _).setCell (p := ⟨X, 4, none⟩) hX _).setCell (p := ⟨Y, 0, none⟩) hY _

theorem put_all {a w : World} {B X Y : Nat} (hXY : ¬ Y = X) (hX : w.heap[X]? = some (box5 0 0 0 0 0)) (hY : w.heap[Y]? = some (.cells #[.bool false] 4)) (hB : Below B a w) (bX : B ≤ X) (bY : B ≤ Y) (o r c b n : Int) {W : World}
    (hW : W = (((((w.setCell ⟨X, 0, none⟩ (.int .i64 o)).setCell ⟨X, 1, none⟩ (.int .i64 r)).setCell ⟨X, 2, none⟩ (.int .i64 c)).setCell ⟨X, 3, none⟩ (.int .i64 b)).setCell ⟨X, 4, none⟩ (.int .i64 n)).setCell ⟨Y, 0, none⟩ (.bool true)) :
    W.heap[X]? = some (box5 o r c b n) ∧ W.heap[Y]? = some (.cells #[.bool true] 4) ∧ Below B a W := by
  subst hW
  refine ⟨?_, ?_, (((((hB.setCell (p := ⟨X, 0, none⟩) bX _).setCell (p := ⟨X, 1, none⟩) bX _).setCell (p := ⟨X, 2, none⟩) bX _).setCell (p := ⟨X, 3, none⟩) bX _).setCell (p := ⟨X, 4, none⟩) bX _).setCell (p := ⟨Y, 0, none⟩) bY _⟩
  · rw [Below.heap_setCell _ _ _ _ (fun h => hXY h.symm)]
    exact store5 hX o r c b n
  · have h5 : (((((w.setCell ⟨X, 0, none⟩ (.int .i64 o)).setCell ⟨X, 1, none⟩ (.int .i64 r)).setCell ⟨X, 2, none⟩ (.int .i64 c)).setCell ⟨X, 3, none⟩ (.int .i64 b)).setCell ⟨X, 4, none⟩ (.int .i64 n)).heap[Y]? = some (.cells #[.bool false] 4) := by
      rw [Below.heap_setCell _ _ _ _ hXY, Below.heap_setCell _ _ _ _ hXY, Below.heap_setCell _ _ _ _ hXY, Below.heap_setCell _ _ _ _ hXY, Below.heap_setCell _ _ _ _ hXY]
      exact hY
    rw [set_block _ h5]
    rfl

def readV (x : Option R5) : Value :=
  match x with
  | some x => .tuple #[.agg #[.int .i64 x.o, .int .i64 x.r, .int .i64 x.a, .int .i64 x.b, .int .i64 x.n], .bool true]
  | none => .tuple #[.agg #[.int .i64 0, .int .i64 0, .int .i64 0, .int .i64 0, .int .i64 0], .bool false]

set_option maxHeartbeats 4000000 in
theorem implInsRead_any (l : List UInt8) (hl : l.length ≤ 1099511627775) (w : World) (hE : Env w w.heap.size) : Calls Tryd.prog 9 #[.string ⟨l.toArray⟩] w fun e w' => e = .returned (readV (readL l)) ∧ Below w.heap.size w w' := by
  have hmf : ∀ (fn : Fn) (first cap : Array Value) (w : World), (Instr.makeFunc fn first cap).run Tryd.prog w = .ok (.func fn first cap) w := fun _ _ _ _ => rfl
  have kb : Below w.heap.size w ((w.alloc (box5 0 0 0 0 0)).alloc (.cells #[.bool false] 4)) := ((Below.refl _ _).alloc (Nat.le_refl _) _).alloc (by simp) _
  have KB : Hid (Below w.heap.size w ((w.alloc (box5 0 0 0 0 0)).alloc (.cells #[.bool false] 4))) := kb
  have hX0 : ((w.alloc (box5 0 0 0 0 0)).alloc (.cells #[.bool false] 4)).heap[w.heap.size]? = some (box5 0 0 0 0 0) := by
    show ((w.heap.push (box5 0 0 0 0 0)).push _)[w.heap.size]? = _
    rw [Array.getElem?_push_lt (by simp)]
    simp
  have hY0 : ((w.alloc (box5 0 0 0 0 0)).alloc (.cells #[.bool false] 4)).heap[w.heap.size + 1]? = some (.cells #[.bool false] 4) := by
    have e : (w.alloc (box5 0 0 0 0 0)).heap.size = w.heap.size + 1 := by simp
    rw [← e]
    exact push_last _ _
  have HX0 := (show Hid _ from hX0)
  have HY0 := (show Hid _ from hY0)
  have EB : Hid (Env ((w.alloc (box5 0 0 0 0 0)).alloc (.cells #[.bool false] 4)) ((w.alloc (box5 0 0 0 0 0)).alloc (.cells #[.bool false] 4)).heap.size) := (hE.keep kb).mono (by simp; omega)
  clear kb hX0 hY0 hE
  cases hr : readL l with
  | none =>
    have HR : Hid (readL l = none) := hr
    clear hr
    go_enter_defers Tryd.func9, Tryd.ntmps9
    go_wp2_with (go_at_call 24; refine (readIns_any l hl _ EB.out).mono ?_; rintro e w1 ⟨he, hb1⟩; rw [HR.out] at he; have he' : e = .panicked [{ v := noT, recovered := false }] := he; clear he; subst he'; have K1 := (show Hid _ from hb1); clear hb1)
    have hx1 : w1.heap[w.heap.size]? = some (box5 0 0 0 0 0) := (K1.out.block _ (by simp; omega)).trans HX0.out
    have hy1 : w1.heap[w.heap.size + 1]? = some (.cells #[.bool false] 4) := (K1.out.block _ (by simp)).trans HY0.out
    have kw : Below w.heap.size w w1 := KB.out.trans (K1.out.mono (by simp; omega))
    refine leaves_cons (f := 23) (args := #[.pointer (some ⟨w.heap.size, 0, none⟩), .pointer (some ⟨w.heap.size + 1, 0, none⟩)]) (by simp) (by simp [go_sem]) ?_
    refine (catch_panicking w.heap.size (w.heap.size + 1) (by omega) 9 _ [] w1 hx1 hy1).mono ?_
    rintro e u' w'' ⟨rfl, rfl, rfl⟩
    have hx2 := zerosAt_x (Y := w.heap.size + 1) (by omega) hx1
    have hy2 := zerosAt_y (X := w.heap.size) (by omega) hy1
    have kz := zerosAt_below (X := w.heap.size) (Y := w.heap.size + 1) kw (Nat.le_refl _) (by omega)
    obtain ⟨g0, g1, g2, g3, g4⟩ := box5_cells hx2
    have gy := (cell_of_block (i := 0) hy2)
    simp at gy
    generalize zerosAt w1 w.heap.size (w.heap.size + 1) = wz at kz g0 g1 g2 g3 g4 gy
    simp [Leaves, settle, results, Tryd.results9, go_sem, g0, g1, g2, g3, g4, gy, readV, kz]
  | some x =>
    have HR : Hid (readL l = some x) := hr
    clear hr
    go_enter_defers Tryd.func9, Tryd.ntmps9
    go_wp2_with (go_at_call 24; refine (readIns_any l hl _ EB.out).mono ?_; rintro e w1 ⟨he, hb1⟩; rw [HR.out] at he; have he' : e = .returned (.agg #[.int .i64 x.o, .int .i64 x.r, .int .i64 x.a, .int .i64 x.b, .int .i64 x.n]) := he; clear he; subst he'; have hx1 : w1.heap[w.heap.size]? = some (box5 0 0 0 0 0) := (hb1.block _ (by simp; omega)).trans HX0.out; have hy1 : w1.heap[w.heap.size + 1]? = some (.cells #[.bool false] 4) := (hb1.block _ (by simp)).trans HY0.out; have K1 := (show Hid _ from hb1); have HX1 := (show Hid _ from hx1); have HY1 := (show Hid _ from hy1); obtain ⟨c0, c1, c2, c3, c4⟩ := box5_cells hx1; have fz := box5_frozen hx1; have cy : w1.cell? ⟨w.heap.size + 1, 0, none⟩ = some (.bool false) := (by rw [cell_of_block hy1]; rfl); have fy : w1.frozen? ⟨w.heap.size + 1, 0, none⟩ = false := (by simp [World.frozen?, hy1]); clear hb1 hx1 hy1)
    clear c0 c1 c2 c3 c4 fz cy fy
    have kw : Below w.heap.size w w1 := KB.out.trans (K1.out.mono (by simp; omega))
    refine leaves_cons (f := 23) (args := #[.pointer (some ⟨w.heap.size, 0, none⟩), .pointer (some ⟨w.heap.size + 1, 0, none⟩)]) (by simp) (by simp [go_sem]) ?_
    refine (catch_idle w.heap.size (w.heap.size + 1) _).mono ?_
    rintro e u' w'' ⟨rfl, rfl, hw⟩
    obtain ⟨hx2, hy2, kz⟩ := put_all (Y := w.heap.size + 1) (by omega) HX1.out HY1.out kw (Nat.le_refl _) (by omega) x.o x.r x.a x.b x.n hw
    clear hw
    obtain ⟨g0, g1, g2, g3, g4⟩ := box5_cells hx2
    have gy := (cell_of_block (i := 0) hy2)
    simp at gy
    simp [Leaves, settle, results, Tryd.results9, go_sem, g0, g1, g2, g3, g4, gy, readV, kz]

end Go.Proofs.YtfhhlahfldddfafDoor
