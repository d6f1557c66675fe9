/- A memory and a view that a call has made together, written over one behind the other. Conditions: they are counted. -/
import Derived.Test.YtdggkpbnjcobfabMemMark
import Derived.Test.YtdggkpbnjcobfabMemOwn
namespace Go.Proofs.Ytdggkpbnjcobfab
set_option linter.unusedSimpArgs false
set_option linter.unusedVariables false
set_option maxRecDepth 100000
open Go.RowKit

structure PairO (w : World) (lo hi : Nat) (so : Option Addr) (S : List RS) (m : List (List WD)) (v : Value) (l : List Int) : Prop where
  mo : MO w lo hi so S m
  nb : NB w lo hi v l
  sep : ∀ a ∈ mAs S, v.ownBlock ≠ some a.block
  out : ∀ g o, so = some ⟨g, o, none⟩ → v.ownBlock ≠ some g
structure PairM (w : World) (lo hi : Nat) (so : Option Addr) (S : List RS) (v : Value) (l : List Int) : Prop where
  m1 : Mk w lo hi so S 1
  nb : NB w lo hi v l
theorem PairO.keep {w w' : World} {lo hi : Nat} {so : Option Addr} {S : List RS} {m : List (List WD)} {v : Value} {l : List Int} (h : PairO w lo hi so S m v l) (hb : Keep lo hi w w') : PairO w' lo hi so S m v l := ⟨h.mo.keep hb, h.nb.keep hb, h.sep, h.out⟩
theorem PairM.keep {w w' : World} {lo hi : Nat} {so : Option Addr} {S : List RS} {v : Value} {l : List Int} (h : PairM w lo hi so S v l) (hb : Keep lo hi w w') : PairM w' lo hi so S v l := ⟨h.m1.keep hb, h.nb.keep hb⟩
/- a shape is kept where no block of it is written -/
theorem Mk.far {w w' : World} {lo hi : Nat} {so : Option Addr} {S : List RS} {q : Int} {b : Nat} (h : Mk w lo hi so S q) (h1 : ∀ a ∈ mAs S, a.block ≠ b) (h2 : ∀ g o, so = some ⟨g, o, none⟩ → g ≠ b) (hk : ∀ k, k ≠ b → w'.heap[k]? = w.heap[k]?) : Mk w' lo hi so S q := by
  have hin : ∀ a ∈ mAs S, w'.cell? a = w.cell? a ∧ w'.frozen? a = w.frozen? a := fun a ha => ⟨World.cell?_of_block (w := w) (hk _ (h1 a ha)), World.frozen?_of_block (w := w) (hk _ (h1 a ha))⟩
  refine ⟨⟨h.sh.top, fun i r hr => ?_, fun i r hr => ?_, h.sh.nod⟩, fun p a ha => (hin a (List.mem_of_getElem? ha)).1.trans (h.m p a ha)⟩
  · obtain ⟨c1, c2, c3⟩ := h.sh.row i r hr
    refine ⟨?_, c2, c3⟩
    rcases h.sh.top with h0 | ⟨g, o, e⟩
    · rw [h0] at hr; simp at hr
    · subst e
      exact (World.cell?_of_block (w := w) (hk g (h2 g o rfl))).trans c1
  · have q := h.sh.r i r hr
    have sub : ∀ a ∈ rAs r.s r.vs 0, a ∈ mAs S := fun a ha => mem_mAs.2 ⟨r, List.mem_of_getElem? hr, ha⟩
    refine ⟨q.rok, fun k x hx => ?_, q.vok, fun a ha => ?_, q.nod⟩
    · obtain ⟨c1, c2, c3⟩ := q.vie k x hx
      refine ⟨?_, c2, c3⟩
      have hk' := (List.getElem?_eq_some_iff.1 hx).1
      have m1 := h1 _ (sub (adr r.s (k * 2)) (mem_rAs.2 (.inl ⟨k, hk', by rw [Nat.zero_add]⟩)))
      rcases q.rok with h0 | ⟨g, o, e⟩
      · rw [h0] at hk'; simp at hk'
      · rw [e] at m1 c1 ⊢
        exact (World.cell?_of_block (w := w) (hk g m1)).trans c1
    · obtain ⟨⟨z, a1⟩, a2, a3, a4⟩ := q.int a ha
      exact ⟨⟨z, (hin a (sub a ha)).1.trans a1⟩, (hin a (sub a ha)).2.trans a2, a3, a4⟩

set_option maxHeartbeats 1000000 in
theorem markMemory_pair (so : Option Addr) (S : List RS) (m : List (List WD)) (c lo hi : Nat) (v : Value) (l : List Int) (w : World) (h : PairO w lo hi so S m v l) (hB : hi ≤ w.heap.size) (hl : m.length + szR m ≤ 1048676) :
    Calls Try.prog 11 #[.agg #[.slice so m.length c], .int .i64 1] w fun e w' => e = .returned (.int .i64 (1 + szR m)) ∧ (Mk w' lo hi so S 1 ∧ NB w' lo hi v l) ∧ Exc lo hi w w' := by
  have hz := h.mo.sz
  have hn := h.mo.n
  have k0 : Below w.heap.size w (w.alloc (.cells #[.slice so m.length c] 29)) := (Below.refl _ _).alloc (Nat.le_refl _) _
  have H1 : Hid (Sh (w.alloc (.cells #[.slice so m.length c] 29)) lo hi so S) := h.mo.sh.keep (Keep.of_below k0 hB)
  have HN : Hid (NB (w.alloc (.cells #[.slice so m.length c] 29)) lo hi v l) := h.nb.keep (Keep.of_below k0 hB)
  have HI : Hid (∀ a ∈ mAs S, lo ≤ a.block ∧ a.block < hi) := fun a ha => h.mo.blk ha
  have HS : Hid (∀ a ∈ mAs S, v.ownBlock ≠ some a.block) := h.sep
  have cm := markRs_any so S c lo hi 1 (w.alloc (.cells #[.slice so m.length c] 29)) H1.out (by omega) (by omega) (by omega) (by omega)
  rw [hn, hz] at cm
  have HK : Hid (Below w.heap.size w (w.alloc (.cells #[.slice so m.length c] 29))) := k0
  clear h k0 hz hn
  go_enter Try.func11, Try.ntmps11
  go_wp2_with (go_at_call 28; refine cm.mono ?_; rintro e w1 ⟨rfl, hw1⟩; have HW1 := (show Hid _ from hw1); clear hw1)
  go_ret
  refine ⟨rfl, ⟨⟨HW1.out.sh (fun a ha => (H1.out.int a ha).1) H1.out, HW1.out.at'⟩, ⟨ownKeep' HN.out.o (fun k e => HW1.out.blk k (fun a ha e' => HS.out a ha (by rw [e', e]))), HN.out.h⟩⟩, HW1.out.os.trans HK.out.os, HW1.out.tape.trans HK.out.tape, HW1.out.out.trans HK.out.output, ?_, fun k hk hc => ?_⟩
  · rw [HW1.out.size]; simp
  · rw [HW1.out.blk k (fun a ha e => by have := HI.out a ha; omega)]
    exact HK.out.block k hk
theorem markN_pair {lo hi : Nat} {so : Option Addr} {S : List RS} {m : List (List WD)} {v : Value} {l : List Int} {w0 w : World} (q : Int) (h0 : PairO w0 lo hi so S m v l) (h : Mk w lo hi so S 1 ∧ NB w lo hi v l) (hn : l.length ≤ 1048577) (hq : 0 ≤ q) (hq' : q ≤ 1000000000000000) :
    Calls Try.prog 12 #[v, .int .i64 q] w fun e w' => e = .returned (.int .i64 (q + l.length)) ∧ PairM w' lo hi so S v (relN q l.length) ∧ Exc lo hi w w' := by
  refine (markN_any lo v l q w h.2.o hn hq hq').mono ?_
  rintro e w' ⟨rfl, o, z, a, b, c, f⟩
  refine ⟨rfl, ⟨?_, ⟨o, h.2.h⟩⟩, a, b, c, by omega, fun k hk hc => f k (fun e => by have := (World.ownsRow.lt h.2.o _ e).1; have := h.2.h k e; omega)⟩
  cases hv : v.ownBlock with
  | none =>
    have all : ∀ k, w'.heap[k]? = w.heap[k]? := fun k => f k (by rw [hv]; intro e; cases e)
    exact h.1.keep (fun k _ _ => all k)
  | some b => exact h.1.far (fun a ha e => h0.sep a ha (by rw [hv, e])) (fun g o e e9 => h0.out g o e (by rw [hv, e9])) (fun k hk => f k (by rw [hv]; intro e; injection e with e; exact hk e.symm))

theorem pairOf {w : World} {B : Nat} {vM v : Value} {S : List RS} {m : List (List WD)} {l : List Int} (h : OW w B vM S m) (h' : OwnN w B v l) (hs : ∀ a ∈ mAs S, v.ownBlock ≠ some a.block) : ∃ so c, vM = .slice so m.length c ∧ PairO w B w.heap.size so S m v l := by
  obtain ⟨so, c, rfl, mo⟩ := h.om.mo
  refine ⟨so, c, rfl, mo, NB.of h', hs, fun g o e e' => ?_⟩
  subst e
  obtain ⟨cs, c1⟩ := rows_blkT h.row (k := g) rfl
  rcases h'.2 with ⟨e2, -⟩ | ⟨g', cap, cur, e2, -, c2, -⟩
  · rw [e2] at e'; cases e'
  · rw [e2] at e'
    have e9 : g' = g := by injection e'
    subst e9
    rw [c2] at c1
    injection c1 with c1
    injection c1 with _ c1
    exact absurd c1 (by decide)

end Go.Proofs.Ytdggkpbnjcobfab
