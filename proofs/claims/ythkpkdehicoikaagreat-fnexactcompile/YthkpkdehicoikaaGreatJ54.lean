/- What a walk through a law carries of a program that a call has made. Conditions: none of its own. What the law of Compile carries: rows of rows of steps that were answered, marked and looked at again. Conditions: at most 2^20 rows of at most 2^20 steps. -/
import Derived.Test.YthkpkdehicoikaaGreatProgOwn
import Derived.Test.YthkpkdehicoikaaGreatJ52
namespace Go.Proofs.YthkpkdehicoikaaGreat
section
set_option linter.unusedSimpArgs false
set_option linter.unusedVariables false
set_option maxRecDepth 100000
open Go.RowKit

/- a program, its blocks between two -/
structure GB (w : World) (lo hi : Nat) (v v' : Value) (xs : List Value) (p : PD) : Prop where
  o : OwnG w lo v v' xs p
  h : ∀ k, HitG v xs p k → k < hi
  h' : ∀ k, v'.ownBlock = some k → k < hi
theorem GB.of {w : World} {lo : Nat} {v v' : Value} {xs : List Value} {p : PD} (h : OwnG w lo v v' xs p) : GB w lo w.heap.size v v' xs p := ⟨h, fun _ hk => (h.hit hk).2, fun _ hk => (World.ownsRow.lt h.b.1 _ hk).2⟩
theorem GB.keep {w w' : World} {lo hi : Nat} {v v' : Value} {xs : List Value} {p : PD} (h : GB w lo hi v v' xs p) (hk : Keep lo hi w w') : GB w' lo hi v v' xs p :=
  ⟨⟨ownKeep' h.o.c (fun k e => hk k (World.ownsRow.lt h.o.c _ e).1 (h.h k (.inl e))), ⟨ownKeep' h.o.b.1 (fun k e => hk k (World.ownsRow.lt h.o.b.1 _ e).1 (h.h' k e)), fun i hi => ownKeep' (h.o.b.2 i hi) (fun k e => hk k (World.ownsRow.lt (h.o.b.2 i hi) _ e).1 (h.h k (.inr ⟨i, hi, e⟩)))⟩, h.o.sep⟩, h.h, h.h'⟩
theorem markProg_exc {lo hi : Nat} {v v' : Value} {xs : List Value} {p : PD} {w : World} (q : Int) (h : GB w lo hi v v' xs p) (hf : Fits p) (hq : 0 ≤ q) (hq' : q ≤ 1000000000) :
    Calls Tryz.prog 10 #[.agg #[v, v'], .int .i64 q] w fun e w' => ∃ r : Int, e = .returned (.int .i64 r) ∧ 0 ≤ r ∧ r ≤ 500000000000000 ∧ Exc lo hi w w' := by
  refine (markProg_own lo v v' xs p q w h.o hf hq hq').mono ?_
  rintro e w' ⟨r, rfl, r0, r1, z, a, b, c, f⟩
  exact ⟨r, rfl, r0, r1, a, b, c, z, fun k hk hc => f k hk (fun e => by have := (h.o.hit e).1; have := h.h k e; omega)⟩
end

section
set_option linter.unusedSimpArgs false
set_option linter.unusedVariables false
set_option maxRecDepth 100000
open Go.RowKit

structure CB6 (w : World) (lo hi : Nat) (v : Value) (xs : List Value) (bs : List (List I5)) : Prop where
  o : OwnK6 w lo v xs bs.length (bs.getD · [])
  sep : ∀ i j k, i < bs.length → j < bs.length → i ≠ j → (xs.getD i undef).ownBlock = some k → (xs.getD j undef).ownBlock ≠ some k
  h : ∀ k, v.ownBlock = some k → k < hi
  h' : ∀ i k, i < bs.length → (xs.getD i undef).ownBlock = some k → k < hi
theorem CB6.of {w : World} {lo : Nat} {v : Value} {bs : List (List I5)} (h : OwnB6 w lo v bs) : ∃ xs, CB6 w lo w.heap.size v xs bs := by
  obtain ⟨xs, h1, h2, h3⟩ := h
  exact ⟨xs, ⟨h1, h2⟩, h3, fun k e => (World.ownsRow.lt h1 _ e).2, fun i k hi e => (World.ownsRow.lt (h2 i hi) _ e).2⟩
theorem CB6.keep {w w' : World} {lo hi : Nat} {v : Value} {xs : List Value} {bs : List (List I5)} (h : CB6 w lo hi v xs bs) (hk : Keep lo hi w w') : CB6 w' lo hi v xs bs :=
  ⟨⟨ownKeep' h.o.1 (fun k e => hk k (World.ownsRow.lt h.o.1 _ e).1 (h.h k e)), fun i hi => ownKeep' (h.o.2 i hi) (fun k e => hk k (World.ownsRow.lt (h.o.2 i hi) _ e).1 (h.h' i k hi e))⟩, h.sep, h.h, h.h'⟩
structure MB6 (w : World) (lo hi : Nat) (v : Value) (xs : List Value) (bs : List (List I5)) : Prop where
  o : OwnK6 w lo v xs bs.length (relAt 1 bs bs.length)
  h : ∀ k, v.ownBlock = some k → k < hi
  h' : ∀ i k, i < bs.length → (xs.getD i undef).ownBlock = some k → k < hi
theorem MB6.keep {w w' : World} {lo hi : Nat} {v : Value} {xs : List Value} {bs : List (List I5)} (h : MB6 w lo hi v xs bs) (hk : Keep lo hi w w') : MB6 w' lo hi v xs bs :=
  ⟨⟨ownKeep' h.o.1 (fun k e => hk k (World.ownsRow.lt h.o.1 _ e).1 (h.h k e)), fun i hi => ownKeep' (h.o.2 i hi) (fun k e => hk k (World.ownsRow.lt (h.o.2 i hi) _ e).1 (h.h' i k hi e))⟩, h.h, h.h'⟩
structure Small6 (bs : List (List I5)) : Prop where
  n : bs.length ≤ 4
  l : ∀ i, i < bs.length → (bs.getD i []).length ≤ 960
theorem Small6.tot {bs : List (List I5)} (h : Small6 bs) : tot bs bs.length ≤ 4 * 1048576 := by
  exact Nat.le_trans (tot_most bs bs.length (fun i hi => Nat.le_trans (h.l i hi) (by decide))) (Nat.mul_le_mul_right _ h.n)
theorem mark6_exc {lo hi : Nat} {v : Value} {xs : List Value} {bs : List (List I5)} {w : World} (h : CB6 w lo hi v xs bs) (hs : Small6 bs) :
    Calls Tryz.prog 11 #[v, .int .i64 1] w fun e w' => e = .returned (.int .i64 (1 + 5 * (tot bs bs.length : Int))) ∧ MB6 w' lo hi v xs bs ∧ Exc lo hi w w' := by
  have ht := hs.tot
  refine (markB6_any lo v xs bs 1 w h.o h.sep (by have := hs.n; omega) (fun i hi => by have := hs.l i hi; omega) (by omega) (by omega)).mono ?_
  rintro e w' ⟨rfl, ho, hz, h1, h2, h3, h4⟩
  exact ⟨rfl, ⟨ho, h.h, h.h'⟩, ⟨h1, h2, h3, by omega, fun k hk hk2 => h4 k (fun i hi e => by
    have a := (World.ownsRow.lt (h.o.2 i hi) _ e).1
    have b := h.h' i k hi e
    omega)⟩⟩
theorem held6_is {lo hi : Nat} {v : Value} {xs : List Value} {bs : List (List I5)} {w : World} (h : MB6 w lo hi v xs bs) (hs : Small6 bs) :
    Calls Tryz.prog 12 #[v, .int .i64 1] w fun e w' => e = .returned (.int .i64 (1 + 5 * (tot bs bs.length : Int))) ∧ w' = w := by
  have ht := hs.tot
  exact heldB6_any lo v xs bs 1 w h.o (by have := hs.n; omega) (fun i hi => by have := hs.l i hi; omega) (by omega) (by omega)
theorem cpM_small (p : PD) : Small6 (cpM p).1 := by
  unfold cpM
  split
  · rename_i h
    have hl := progB_len h.1
    refine ⟨by rw [cdL_len]; omega, fun i hi => ?_⟩
    rw [cdL_len] at hi
    rw [cdL_at p hi]
    have a := cdM_len p.caps (p.bods.getD i []) (p.bods.getD i []).length
    have b := (progB_body h.1 hi).1.len
    unfold cdAt
    omega
  · exact ⟨Nat.zero_le _, fun i hi => absurd hi (Nat.not_lt_zero _)⟩
end

end Go.Proofs.YthkpkdehicoikaaGreat
