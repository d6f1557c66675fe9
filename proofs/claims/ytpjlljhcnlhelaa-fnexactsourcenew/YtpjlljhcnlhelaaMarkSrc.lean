/- A source that a call has made, written over with running numbers. Conditions: the numbers stay below 10^15. -/
import Derived.Test.YtpjlljhcnlhelaaMarkD
namespace Go.Proofs.Ytpjlljhcnlhelaa
set_option linter.unusedSimpArgs false
set_option linter.unusedVariables false
set_option maxRecDepth 100000
open Go.RowKit

theorem OwnQ.keepB {w w' : World} {base : Nat} {e : TypeId} {v : Value} {L : List (Rec × Value)} (h : OwnQ w base e v L) (h1 : ∀ k, v.ownBlock = some k → w'.heap[k]? = w.heap[k]?) (h2 : ∀ (i : Nat) (x : Rec × Value), L[i]? = some x → ∀ k, x.2.ownBlock = some k → w'.heap[k]? = w.heap[k]?) : OwnQ w' base e v L :=
  ⟨ownKeep' h.row h1, fun i x hx => ownKeep' (h.inn i x hx) (h2 i x hx), h.sep⟩

def HitQ (v : Value) (L : List (Rec × Value)) (k : Nat) : Prop := v.ownBlock = some k ∨ ∃ (i : Nat) (x : Rec × Value), L[i]? = some x ∧ x.2.ownBlock = some k
def HitS (v1 v2 v3 : Value) (L1 L2 : List (Rec × Value)) (k : Nat) : Prop := HitQ v1 L1 k ∨ HitQ v2 L2 k ∨ v3.ownBlock = some k
theorem OwnQ.hit {w : World} {base : Nat} {e : TypeId} {v : Value} {L : List (Rec × Value)} (h : OwnQ w base e v L) {k : Nat} (hk : HitQ v L k) : base ≤ k ∧ k < w.heap.size := by
  rcases hk with hk | ⟨i, x, hx, hk⟩
  · exact World.ownsRow.lt h.row _ hk
  · exact World.ownsRow.lt (h.inn i x hx) _ hk
theorem OwnS.hit {w : World} {base : Nat} {v1 v2 v3 : Value} {L1 L2 : List (Rec × Value)} {d : SD} (h : OwnS w base v1 v2 v3 L1 L2 d) {k : Nat} (hk : HitS v1 v2 v3 L1 L2 k) : base ≤ k ∧ k < w.heap.size := by
  rcases hk with hk | hk | hk
  · exact h.t.hit hk
  · exact h.c.hit hk
  · exact World.ownsRow.lt h.n _ hk
theorem OwnS.l1 {w : World} {base : Nat} {v1 v2 v3 : Value} {L1 L2 : List (Rec × Value)} {d : SD} (h : OwnS w base v1 v2 v3 L1 L2 d) : L1.length = d.ths.length := by have := congrArg List.length h.e1; simpa using this
theorem OwnS.l2 {w : World} {base : Nat} {v1 v2 v3 : Value} {L1 L2 : List (Rec × Value)} {d : SD} (h : OwnS w base v1 v2 v3 L1 L2 d) : L2.length = d.chs.length := by have := congrArg List.length h.e2; simpa using this
theorem OwnS.at1 {w : World} {base : Nat} {v1 v2 v3 : Value} {L1 L2 : List (Rec × Value)} {d : SD} (h : OwnS w base v1 v2 v3 L1 L2 d) {i : Nat} {x : Rec × Value} (hx : L1[i]? = some x) : ∃ t, d.ths[i]? = some t ∧ x.1 = t.rec3 := by
  have e := congrArg (fun l => l[i]?) h.e1
  simp only [List.getElem?_map, hx, Option.map_some] at e
  obtain ⟨t, ht, e'⟩ := Option.map_eq_some_iff.1 e.symm
  exact ⟨t, ht, e'.symm⟩
theorem OwnS.at2 {w : World} {base : Nat} {v1 v2 v3 : Value} {L1 L2 : List (Rec × Value)} {d : SD} (h : OwnS w base v1 v2 v3 L1 L2 d) {i : Nat} {x : Rec × Value} (hx : L2[i]? = some x) : ∃ t, d.chs[i]? = some t ∧ x.1 = t.rec3 := by
  have e := congrArg (fun l => l[i]?) h.e2
  simp only [List.getElem?_map, hx, Option.map_some] at e
  obtain ⟨t, ht, e'⟩ := Option.map_eq_some_iff.1 e.symm
  exact ⟨t, ht, e'.symm⟩

/- how a source lies that is written over from q on -/
structure MarkedS (w : World) (base : Nat) (v1 v2 v3 : Value) (L1 L2 : List (Rec × Value)) (n : Nat) (q : Int) : Prop where
  t : OwnQ w base 60 v1 (mksT q L1)
  c : OwnQ w base 62 v2 (mksC (q + sumQ L1) L2)
  n : OwnD w base v3 (runD (q + sumQ L1 + sumQ L2) n)
theorem MarkedS.keep {w w' : World} {base : Nat} {v1 v2 v3 : Value} {L1 L2 : List (Rec × Value)} {n : Nat} {q : Int} (h : MarkedS w base v1 v2 v3 L1 L2 n q) (hb : ∀ k, base ≤ k → k < w.heap.size → w'.heap[k]? = w.heap[k]?) : MarkedS w' base v1 v2 v3 L1 L2 n q :=
  ⟨h.t.keep hb, h.c.keep hb, ownKeep' h.n (fun k hk => hb k (World.ownsRow.lt h.n _ hk).1 (World.ownsRow.lt h.n _ hk).2)⟩

set_option maxHeartbeats 2000000 in
theorem markSource_any (base : Nat) (v1 v2 v3 : Value) (L1 L2 : List (Rec × Value)) (d : SD) (q : Int) (w : World) (h : OwnS w base v1 v2 v3 L1 L2 d) (hf : SFits d) (hq : 0 ≤ q) (hq' : q + sumQ L1 + sumQ L2 + 2 * d.tr.length ≤ 1000000000000000) :
    Calls Try.prog 17 #[.agg #[v1, v2, v3], .int .i64 q] w fun e w' => e = .returned (.int .i64 (q + sumQ L1 + sumQ L2 + 2 * d.tr.length)) ∧ MarkedS w' base v1 v2 v3 L1 L2 d.tr.length q ∧ w.heap.size ≤ w'.heap.size ∧ w'.os = w.os ∧ w'.tape = w.tape ∧ w'.output = w.output ∧ (∀ k, k < w.heap.size → ¬ HitS v1 v2 v3 L1 L2 k → w'.heap[k]? = w.heap[k]?) := by
  obtain ⟨⟨f1, f1'⟩, ⟨f2, f2'⟩, f3⟩ := hf
  obtain ⟨A, hA⟩ : ∃ A, w.alloc (.cells #[v1, v2, v3] 28) = A := ⟨_, rfl⟩
  have zA : A.heap.size = w.heap.size + 1 := by rw [← hA]; simp
  have bA : ∀ k, k < w.heap.size → A.heap[k]? = w.heap[k]? := fun k hk => by rw [← hA]; exact Below.heap_alloc _ _ _ hk
  have oA : OwnS A base v1 v2 v3 L1 L2 d := h.keep (fun k _ hk => bA k hk)
  have n1 : ¬ HitQ v1 L1 w.heap.size := fun e => by have := (h.t.hit e).2; omega
  have n2 : ¬ HitQ v2 L2 w.heap.size := fun e => by have := (h.c.hit e).2; omega
  have cA1 : A.cell? ⟨w.heap.size, 1, none⟩ = some v2 := by rw [← hA]; simp [go_sem]
  have cA2 : A.cell? ⟨w.heap.size, 2, none⟩ = some v3 := by rw [← hA]; simp [go_sem]
  have osA : A.os = w.os ∧ A.tape = w.tape ∧ A.output = w.output := by rw [← hA]; exact ⟨rfl, rfl, rfl⟩
  have g1 : ∀ (i : Nat) (x : Rec × Value), L1[i]? = some x → x.1.l.length ≤ 1048577 := fun i x hx => by
    obtain ⟨t, ht, e⟩ := h.at1 hx
    rw [e]
    exact Nat.le_succ_of_le (f1' i t ht)
  have g2 : ∀ (i : Nat) (x : Rec × Value), L2[i]? = some x → x.1.l.length ≤ 1048577 := fun i x hx => by
    obtain ⟨t, ht, e⟩ := h.at2 hx
    rw [e]
    exact Nat.le_succ_of_le (f2' i t ht)
  have l1 := h.l1
  have l2 := h.l2
  have hs1 : 0 ≤ (sumQ L1 : Int) := by omega
  have hs2 : 0 ≤ (sumQ L2 : Int) := by omega
  have HE := (show Hid (w.alloc (.cells #[v1, v2, v3] 28) = A) from hA)
  have HO : Hid (OwnS A base v1 v2 v3 L1 L2 d) := oA
  have HG := (show Hid _ from And.intro g1 (And.intro g2 (And.intro bA (And.intro osA (And.intro n1 n2)))))
  clear h oA f1' f2' g1 g2 bA osA hA n1 n2
  go_enter Try.func17, Try.ntmps17
  go_wp2_with fail
  rw [HE.out]
  refine (markThreadS_any base v1 L1 q _ HO.out.t (by omega) HG.out.1 hq (by omega)).mono ?_
  rintro e w1 ⟨rfl, ho1, hz1, h11, h12, h13, hf1⟩
  have nh1 : ∀ k, ¬ HitQ v1 L1 k → w1.heap[k]? = A.heap[k]? := fun k hk => hf1 k (fun e => hk (.inl e)) (fun i x hx e => hk (.inr ⟨i, x, hx, e⟩))
  have c1 : w1.cell? ⟨w.heap.size, 1, none⟩ = some v2 := (World.cell?_of_block (w := A) (a := ⟨w.heap.size, 1, none⟩) (nh1 _ HG.out.2.2.2.2.1)).trans cA1
  have c2 : w1.cell? ⟨w.heap.size, 2, none⟩ = some v3 := (World.cell?_of_block (w := A) (a := ⟨w.heap.size, 2, none⟩) (nh1 _ HG.out.2.2.2.2.1)).trans cA2
  have oc1 : OwnQ w1 base 62 v2 L2 := HO.out.c.keepB (fun k hk => nh1 k (by
      rintro (e | ⟨i, x, hx, e⟩)
      · exact ownType' HO.out.c.row HO.out.t.row (by decide) hk e
      · exact ownType' HO.out.c.row (HO.out.t.inn i x hx) (by decide) hk e)) (fun j y hy k hk => nh1 k (by
      rintro (e | ⟨i, x, hx, e⟩)
      · exact ownType' (HO.out.c.inn j y hy) HO.out.t.row (by decide) hk e
      · exact HO.out.sep i j x y k hx hy e hk))
  have on1 : OwnD w1 base v3 d.tr := ownKeep' HO.out.n (fun k hk => nh1 k (by
      rintro (e | ⟨i, x, hx, e⟩)
      · exact ownType' HO.out.n HO.out.t.row (by decide) hk e
      · exact ownType' HO.out.n (HO.out.t.inn i x hx) (by decide) hk e))
  have H1 := (show Hid _ from And.intro ho1 (And.intro hz1 (And.intro h11 (And.intro h12 (And.intro h13 (And.intro nh1 (And.intro oc1 on1)))))))
  clear ho1 hz1 h11 h12 h13 hf1 nh1 oc1 on1 cA1 cA2
  go_wp2_with fail
  refine (markChanS_any base v2 L2 (q + sumQ L1) _ H1.out.2.2.2.2.2.2.1 (by omega) HG.out.2.1 (by omega) (by omega)).mono ?_
  rintro e w2 ⟨rfl, ho2, hz2, h21, h22, h23, hf2⟩
  have nh2 : ∀ k, ¬ HitQ v2 L2 k → w2.heap[k]? = w1.heap[k]? := fun k hk => hf2 k (fun e => hk (.inl e)) (fun i x hx e => hk (.inr ⟨i, x, hx, e⟩))
  have c3 : w2.cell? ⟨w.heap.size, 2, none⟩ = some v3 := (World.cell?_of_block (w := w1) (a := ⟨w.heap.size, 2, none⟩) (nh2 _ HG.out.2.2.2.2.2)).trans c2
  have ot2 : OwnQ w2 base 60 v1 (mksT q L1) := H1.out.1.keepB (fun k hk => nh2 k (by
      rintro (e | ⟨i, x, hx, e⟩)
      · exact ownType' HO.out.t.row HO.out.c.row (by decide) hk e
      · exact ownType' HO.out.t.row (HO.out.c.inn i x hx) (by decide) hk e)) (fun j y hy k hk => nh2 k (by
      obtain ⟨y', hy', ey⟩ := mksT_own _ _ _ _ hy
      rw [ey] at hk
      rintro (e | ⟨i, x, hx, e⟩)
      · exact ownType' (HO.out.t.inn j y' hy') HO.out.c.row (by decide) hk e
      · exact HO.out.sep j i y' x k hy' hx hk e))
  have on2 : OwnD w2 base v3 d.tr := ownKeep' H1.out.2.2.2.2.2.2.2 (fun k hk => nh2 k (by
      rintro (e | ⟨i, x, hx, e⟩)
      · exact ownType' HO.out.n HO.out.c.row (by decide) hk e
      · exact ownType' HO.out.n (HO.out.c.inn i x hx) (by decide) hk e))
  have H2 := (show Hid _ from And.intro ho2 (And.intro hz2 (And.intro h21 (And.intro h22 (And.intro h23 (And.intro nh2 (And.intro ot2 on2)))))))
  clear ho2 hz2 h21 h22 h23 hf2 nh2 ot2 on2 c1 c2
  go_wp2_with fail
  refine (markNoteS_any base v3 d.tr (q + sumQ L1 + sumQ L2) _ H2.out.2.2.2.2.2.2.2 (by omega) (by omega) (by omega)).mono ?_
  rintro e w3 ⟨rfl, ho3, hz3, h31, h32, h33, hf3⟩
  go_wp2
  go_ret
  obtain ⟨ho1, hz1, h11, h12, h13, nh1, oc1, on1⟩ := H1.out
  obtain ⟨ho2, hz2, h21, h22, h23, nh2, ot2, on2⟩ := H2.out
  obtain ⟨g1, g2, bA, osA, n1, n2⟩ := HG.out
  refine ⟨rfl, ⟨?_, ?_, ho3⟩, by omega, ((h31.trans h21).trans h11).trans osA.1, ((h32.trans h22).trans h12).trans osA.2.1, ((h33.trans h23).trans h13).trans osA.2.2, fun k hk hn => ?_⟩
  · exact ot2.keepB (fun k hk => hf3 k (fun e => ownType' HO.out.t.row HO.out.n (by decide) hk e)) (fun j y hy k hk => hf3 k (fun e => by
      obtain ⟨y', hy', ey⟩ := mksT_own _ _ _ _ hy
      rw [ey] at hk
      exact ownType' (HO.out.t.inn j y' hy') HO.out.n (by decide) hk e))
  · exact ho2.keepB (fun k hk => hf3 k (fun e => ownType' HO.out.c.row HO.out.n (by decide) hk e)) (fun j y hy k hk => hf3 k (fun e => by
      obtain ⟨y', hy', ey⟩ := mksC_own _ _ _ _ hy
      rw [ey] at hk
      exact ownType' (HO.out.c.inn j y' hy') HO.out.n (by decide) hk e))
  · rw [hf3 k (fun e => hn (.inr (.inr e))), nh2 k (fun e => hn (.inr (.inl e))), nh1 k (fun e => hn (.inl e))]
    exact bA k hk

end Go.Proofs.Ytpjlljhcnlhelaa
