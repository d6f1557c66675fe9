/- What a walk through a law carries of a program that a call has made. Conditions: none of its own. -/
import Derived.Test.YthgjlpcglgeljaaGreatProgOwn
namespace Go.Proofs.YthgjlpcglgeljaaGreat
set_option linter.unusedSimpArgs false
set_option linter.unusedVariables false
set_option maxRecDepth 100000
open Go.RowKit

/- a program, its blocks between two -/
structure GB (w : World) (lo hi : Nat) (v v' : Value) (xs : List Value) (p : PD) : Prop where
  o : OwnG w lo v v' xs p
  h : ∀ k, HitG v xs p k → k < hi
  h' : ∀ k, v'.ownBlock = some k → k < hi
theorem GB.of {w : World} {lo : Nat} {v v' : Value} {xs : List Value} {p : PD} (h : OwnG w lo v v' xs p) : GB w lo w.heap.size v v' xs p := ⟨h, fun _ hk => (h.hit hk).2, fun _ hk => (World.ownsRow.lt h.b.1 _ hk).2⟩
theorem GB.keep {w w' : World} {lo hi : Nat} {v v' : Value} {xs : List Value} {p : PD} (h : GB w lo hi v v' xs p) (hk : Keep lo hi w w') : GB w' lo hi v v' xs p :=
  ⟨⟨ownKeep' h.o.c (fun k e => hk k (World.ownsRow.lt h.o.c _ e).1 (h.h k (.inl e))), ⟨ownKeep' h.o.b.1 (fun k e => hk k (World.ownsRow.lt h.o.b.1 _ e).1 (h.h' k e)), fun i hi => ownKeep' (h.o.b.2 i hi) (fun k e => hk k (World.ownsRow.lt (h.o.b.2 i hi) _ e).1 (h.h k (.inr ⟨i, hi, e⟩)))⟩, h.o.sep⟩, h.h, h.h'⟩
theorem markProg_exc {lo hi : Nat} {v v' : Value} {xs : List Value} {p : PD} {w : World} (q : Int) (h : GB w lo hi v v' xs p) (hf : Fits p) (hq : 0 ≤ q) (hq' : q ≤ 1000000000) :
    Calls Tryz.prog 10 #[.agg #[v, v'], .int .i64 q] w fun e w' => ∃ r : Int, e = .returned (.int .i64 r) ∧ 0 ≤ r ∧ r ≤ 500000000000000 ∧ Exc lo hi w w' := by
  refine (markProg_own lo v v' xs p q w h.o hf hq hq').mono ?_
  rintro e w' ⟨r, rfl, r0, r1, z, a, b, c, f⟩
  exact ⟨r, rfl, r0, r1, a, b, c, z, fun k hk hc => f k hk (fun e => by have := (h.o.hit e).1; have := h.h k e; omega)⟩

end Go.Proofs.YthgjlpcglgeljaaGreat
