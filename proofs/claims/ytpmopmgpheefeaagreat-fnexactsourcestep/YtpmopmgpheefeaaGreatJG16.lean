/- Running numbers read back from notes and from a source. Conditions: the numbers stay below 10^15. Rows of rows of places that a call has made, with what they hold: each inner row has a block of its own. Conditions: fewer than 2^30 rows, fewer than 2^30 places in each. -/
import Derived.Test.YtpmopmgpheefeaaGreatJG00
import Derived.Test.YtpmopmgpheefeaaGreatJG04
import Derived.Test.YtpmopmgpheefeaaGreatJG05
import Derived.Test.YtpmopmgpheefeaaGreatJG15
import Derived.Test.YtpmopmgpheefeaaGreatJG01
import Derived.Test.YtpmopmgpheefeaaGreatJProgCopy
import Derived.Test.YtpmopmgpheefeaaGreatJG03
namespace Go.Proofs.YtpmopmgpheefeaaGreat
section
set_option linter.unusedSimpArgs false
set_option linter.unusedVariables false
set_option maxRecDepth 100000
open Go.RowKit
set_option maxHeartbeats 2000000 in
theorem heldNoteS_any (base : Nat) (v : Value) (n : Nat) (q : Int) (w : World) (h : OwnD w base v (runD q n)) (hn : n ≤ 1048577) (hq : 0 ≤ q) (hq' : q ≤ 1000000000000000) :
  Calls Tryz.prog 44 #[v, .int .i64 q] w fun e w' => e = .returned (.int .i64 (q + 2 * n)) ∧ w' = w := by
 have h' : w.ownsRow base 88 2 v n (flatN (runD q n)) := by unfold OwnD at h; rw [runD_len] at h; exact h
 obtain ⟨s, c, rfl⟩ := ownSl h'
 have H := (show Hid _ from h')
 clear h h'
 go_enter Tryz.func44, Tryz.ntmps44
 go_wp2
 go_loop [1, 5] (fun a i => ∃ k : Nat, k ≤ n ∧ i = .int .i64 k ∧ a = .int .i64 (q + 2 * k)) (fun _ i => n - (intOf i).toNat)
 case atStart => exact ⟨0, Nat.zero_le _, rfl, by simp⟩
 case round =>
  obtain ⟨k, hk, rfl, rfl⟩ := hrel
  by_cases hlt : k < n
  ·obtain ⟨g, hs⟩ : ∃ g, s = some ⟨g, 0, none⟩ := by
    obtain ⟨g, cap, e, -⟩ := World.ownsRow.form H.out (by omega)
    injection e with e1 e2 e3
    exact ⟨g, e1⟩
   subst hs
   obtain ⟨m0, m1⟩ := flatN_at _ _ _ (runD_at q n k hlt)
   have c0 : w.cell? ⟨g, k * 2, none⟩ = some (.int .i64 (q + 2 * k)) := by rw [World.ownsRow.cellAt H.out _ (by omega)]; exact m0
   have c1 : w.cell? ⟨g, k * 2 + 1, none⟩ = some (.int .i64 (q + 2 * k + 1)) := by rw [World.ownsRow.cellAt H.out _ (by omega)]; exact m1
   clear m0 m1
   have b0 : (0 : Int) ≤ (k : Int) := by omega
   have b1 : (k : Int) < (n : Int) := by omega
   go_wp2
   go_round
   case rel =>
    refine ⟨k + 1, by omega, by go_num, ?_⟩
    congr 1
    rw [Int.natCast_add]
    omega
   case measure => simp [intOf]; omega
  ·go_wp2
   go_ret
   have e : k = n := by omega
   subst e
   exact ⟨rfl, rfl⟩
set_option maxHeartbeats 2000000 in
theorem heldSource_any (base : Nat) (v1 v2 v3 : Value) (L1 L2 : List (Rec × Value)) (n : Nat) (q : Int) (w : World) (h : MarkedS w base v1 v2 v3 L1 L2 n q) (f1 : L1.length ≤ 1048577) (f1' : ∀ (i : Nat) (x : Rec × Value), L1[i]? = some x → x.1.l.length ≤ 1048577) (f2 : L2.length ≤ 1048577) (f2' : ∀ (i : Nat) (x : Rec × Value), L2[i]? = some x → x.1.l.length ≤ 1048577) (f3 : n ≤ 1048577) (hq : 0 ≤ q) (hq' : q + sumQ L1 + sumQ L2 + 2 * n ≤ 1000000000000000) :
  Calls Tryz.prog 14 #[.agg #[v1, v2, v3], .int .i64 q] w fun e w' => e = .returned (.int .i64 (q + sumQ L1 + sumQ L2 + 2 * n)) ∧ Below w.heap.size w w' := by
 obtain ⟨A, hA⟩ : ∃ A, w.alloc (.cells #[v1, v2, v3] 37) = A := ⟨_, rfl⟩
 have oA : MarkedS A base v1 v2 v3 L1 L2 n q := h.keep (fun k _ hk => by rw [← hA]; exact Below.heap_alloc _ _ _ hk)
 have kA : Below w.heap.size w A := by rw [← hA]; exact (Below.refl _ _).alloc (Nat.le_refl _) _
 have cA1 : A.cell? ⟨w.heap.size, 1, none⟩ = some v2 := by rw [← hA]; simp [go_sem]
 have cA2 : A.cell? ⟨w.heap.size, 2, none⟩ = some v3 := by rw [← hA]; simp [go_sem]
 have hs1 : 0 ≤ (sumQ L1 : Int) := by omega
 have hs2 : 0 ≤ (sumQ L2 : Int) := by omega
 have HE := (show Hid (w.alloc (.cells #[v1, v2, v3] 37) = A) from hA)
 have HO := (show Hid (MarkedS A base v1 v2 v3 L1 L2 n q) from oA)
 have HG := (show Hid _ from And.intro f1' (And.intro f2' kA))
 clear h oA f1' f2' hA kA
 go_enter Tryz.func14, Tryz.ntmps14
 go_wp2_with fail
 rw [HE.out]
 refine (heldThreadS_any base v1 L1 q _ HO.out.t (by omega) HG.out.1 hq (by omega)).mono ?_
 rintro e w1 ⟨rfl, rfl⟩
 have i1 : ¬ q + (sumQ L1 : Int) < 0 := by omega
 have i2 : ¬ q + (sumQ L1 : Int) + sumQ L2 < 0 := by omega
 have i3 : ¬ q + (sumQ L1 : Int) + sumQ L2 + 2 * n < 0 := by omega
 go_wp2_with fail
 refine (heldChanS_any base v2 L2 (q + sumQ L1) _ HO.out.c (by omega) HG.out.2.1 (by omega) (by omega)).mono ?_
 rintro e w2 ⟨rfl, rfl⟩
 go_wp2_with fail
 refine (heldNoteS_any base v3 n (q + sumQ L1 + sumQ L2) _ HO.out.n (by omega) (by omega) (by omega)).mono ?_
 rintro e w3 ⟨rfl, rfl⟩
 go_wp2
 go_ret
 exact ⟨rfl, HG.out.2.2⟩
end
section
set_option linter.unusedSimpArgs false
set_option linter.unusedVariables false
set_option maxRecDepth 100000
open Go.RowKit
def cellsP (x : I5) : List Value := [.int .i64 x.o, .int .i64 x.r, .int .i64 x.a, .int .i64 x.b, .int .i64 x.n]
def flatP : List I5 → List Value
 | [] => []
 | x :: r => cellsP x ++ flatP r
theorem flatP_len : ∀ l : List I5, (flatP l).length = l.length * 5
 | [] => rfl
 | x :: r => by simp [flatP, cellsP, flatP_len r]; omega
theorem flatP_at : ∀ (l : List I5) (i j : Nat) (hi : i < l.length) (hj : j < 5), (flatP l)[i * 5 + j]? = (cellsP (l.getD i z5))[j]?
 | [], i, j, hi, hj => absurd hi (Nat.not_lt_zero _)
 | x :: r, 0, j, hi, hj => by
  simp only [flatP, Nat.zero_mul, Nat.zero_add]
  rw [List.getElem?_append_left (by simp [cellsP]; omega)]
  simp
 | x :: r, i + 1, j, hi, hj => by
  have h5 : (cellsP x).length = 5 := rfl
  simp only [flatP]
  rw [List.getElem?_append_right (by rw [h5]; omega), h5, show (i + 1) * 5 + j - 5 = i * 5 + j by omega, flatP_at r i j (by simp at hi; omega) hj]
  simp
def OwnP (w : World) (base : Nat) (v : Value) (b : List I5) : Prop := w.ownsRow base 91 5 v b.length (flatP b)
def OwnB (w : World) (base : Nat) (v : Value) (bs : List (List I5)) : Prop :=
 ∃ xs : List Value, w.ownsRow base 84 1 v bs.length xs ∧ (∀ i, i < bs.length → OwnP w base (xs.getD i undef) (bs.getD i [])) ∧ ∀ i j k, i < bs.length → j < bs.length → i ≠ j → (xs.getD i undef).ownBlock = some k → (xs.getD j undef).ownBlock ≠ some k
theorem ownKeep {w w' : World} {base : Nat} {e : TypeId} {size n : Nat} {v : Value} {xs : List Value} (h : w.ownsRow base e size v n xs) (hb : ∀ k, v.ownBlock = some k → w'.heap[k]? = w.heap[k]?) : w'.ownsRow base e size v n xs := by
 obtain ⟨h1, h2⟩ := h
 refine ⟨h1, ?_⟩
 rcases h2 with h2 | ⟨g, cap, cur, rfl, b0, c, d⟩
 ·exact .inl h2
 ·exact .inr ⟨g, cap, cur, rfl, b0, (hb g rfl).trans c, d⟩
theorem ownType {w : World} {base base' : Nat} {e e' : TypeId} {size size' n n' : Nat} {v v' : Value} {xs xs' : List Value} (h : w.ownsRow base e size v n xs) (h' : w.ownsRow base' e' size' v' n' xs') (hne : e ≠ e') {k : Nat} (hk : v.ownBlock = some k) : v'.ownBlock ≠ some k := by
 intro hk'
 rcases h.2 with ⟨rfl, -⟩ | ⟨g, cap, cur, rfl, -, c, -⟩
 ·cases hk
 rcases h'.2 with ⟨rfl, -⟩ | ⟨g', cap', cur', rfl, -, c', -⟩
 ·cases hk'
 ·simp only [Value.ownBlock, Option.some.injEq] at hk hk'
  subst hk
  subst hk'
  rw [c] at c'
  injection c' with c'
  injection c' with c1 c2
  exact hne c2
theorem getD_set' {α : Type} (xs : List α) (y d : α) (i j : Nat) (hi : i < xs.length) : (xs.set i y).getD j d = if j = i then y else xs.getD j d := by
 by_cases h : j = i
 ·subst h; rw [if_pos rfl]; simp [List.getD_eq_getElem?_getD, hi]
 ·rw [if_neg h]; simp [List.getD_eq_getElem?_getD, List.getElem?_set, Ne.symm h]
end
end Go.Proofs.YtpmopmgpheefeaaGreat
