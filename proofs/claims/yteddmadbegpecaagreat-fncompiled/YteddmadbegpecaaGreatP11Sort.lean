/- The first steps of a body, told sorted out of the map. Conditions: bodies of at most 24 places, each of a kind that there is. -/
import Derived.Test.YteddmadbegpecaaGreatP11Map
import Derived.Test.YteddmadbegpecaaGreatAppN1
import Derived.Test.YteddmadbegpecaaGreatSortI
import Derived.Sort.OwnSortedInts
namespace Go.Proofs.YteddmadbegpecaaGreat
set_option linter.unusedSimpArgs false
set_option linter.unusedVariables false
set_option maxRecDepth 100000
open Go.RowKit Go.Maps

theorem mkCap (n : Nat) (hn : n ≤ 1048576) (w : World) : (Instr.makeSlice 24 (.int .i64 0) (.int .i64 (n : Int))).run Tryz.prog w = .ok (.slice (some ⟨w.heap.size, 0, none⟩) 0 n) (w.alloc (.cells (madeCells #[.int .i64 0] (n * 1)) 3)) := by
  have h := run_make (P := Tryz.prog) w 24 3 _ (.int .i64 0) Tryz.underlying24 rfl rfl .i64 .i64 0 n (by omega) (by omega) (by show (8 : Int) * _ ≤ _; omega) (by omega)
  have e : (Value.int .i64 0).cells = #[.int .i64 0] := rfl
  have e' : ∀ t, Tryz.prog.info? 3 = some t → t.size = 1 := by intro t h; cases h; rfl
  rw [e, e' _ rfl] at h
  simpa using h
theorem ownCap (w : World) (n base : Nat) (hb : base ≤ w.heap.size) (hn : n ≤ 1048576) : OwnN (w.alloc (.cells (madeCells #[.int .i64 0] n) 3)) base (.slice (some ⟨w.heap.size, 0, none⟩) 0 n) [] :=
  ⟨rfl, .inr ⟨w.heap.size, n, _, rfl, hb, heap_alloc_new w _, Nat.zero_le _, by unfold maxLen; omega, by rw [size_madeCells]; simp, by simp⟩⟩

set_option maxRecDepth 100000 in
set_option maxHeartbeats 4000000 in
theorem startsOf_any (s : Option Addr) (c lo hi : Nat) (l : List I5) (w : World) (h : InsR w lo hi s l) (hB : hi ≤ w.heap.size) (hr : Rt l) :
    Calls Tryz.prog 28 #[.slice s l.length c] w fun e w' => (∃ g cap, e = .returned (.slice (some ⟨g, 0, none⟩) l.length cap) ∧ OwnN w' w.heap.size (.slice (some ⟨g, 0, none⟩) l.length cap) (stL l l.length)) ∧ Below w.heap.size w w' := by
  have HI := hidP h
  have HR := hidP hr
  have hl24 := hr.len
  have hsz := mpD_size hr l.length (Nat.le_refl _)
  have HSZ := hidP hsz
  have hmk := mkCap l.length (by omega)
  clear h hr hsz
  go_enter Tryz.func28, Tryz.ntmps28
  go_wp2_with fail
  refine (firstsOf_any s c lo hi l w HI.out hB HR.out).mono ?_
  rintro e w1 ⟨rfl, ho1, hb1⟩
  have K1 := hidP hb1
  have HO := hidP ho1
  have hz1 : w.heap.size < w1.heap.size := by obtain ⟨es, clock, h1, h2⟩ := ho1; exact (Array.getElem?_eq_some_iff.1 h1).1
  clear hb1 ho1 HI
  go_wp2_with (first | (at_len; refine wpList_len_own _ rfl _ 59 rfl 3 3 Tryz.underlying59 _ w.heap.size l.length _ rfl HO.out ?_; rw [HSZ.out]) | (at_range; refine wpList_range_own _ rfl _ 59 rfl 3 3 lawI Tryz.underlying59 _ w.heap.size l.length _ rfl (HO.out.keep (Below.heap_alloc _ _ _ hz1)) ?_; intro w3 hrg0 hg0 hs0) | go_in)
  go_frame
  obtain ⟨W, hW⟩ : ∃ W, w1.alloc (.cells (madeCells #[.int .i64 0] l.length) 3) = W := ⟨_, rfl⟩
  have hWs : w1.heap.size < W.heap.size := by rw [← hW]; simp
  have HOW : Hid (OwnN W (w.heap.size + 1) (.slice (some ⟨w1.heap.size, 0, none⟩) 0 l.length) []) := hW ▸ ownCap w1 l.length _ (by omega) (by omega)
  have KW : Hid (Below w.heap.size w W) := hW ▸ K1.out.alloc (by omega) _
  rw [HSZ.out] at hrg0
  rw [hW] at hrg0 hg0 hs0 ⊢
  have hs0' : W.heap.size < w3.heap.size := by omega
  clear hW hmk hs0
  go_loopw [5] (fun v wr => ∃ (left : Lit → Bool) (cnt : Nat) (ss : List Int) (g cap : Nat), v = .slice (some ⟨g, 0, none⟩) ss.length cap ∧ OwnN wr (w.heap.size + 1) (.slice (some ⟨g, 0, none⟩) ss.length cap) ss ∧ g ≠ W.heap.size ∧ wr.ranges Tryz.prog 3 (plainElem Tryz.prog 3) w.heap.size W.heap.size l.length (mpD l l.length) left cnt ∧ Coll (mpD l l.length) left ss ∧ ss.length + cnt ≤ l.length ∧ Below w.heap.size w wr)
    (fun _ wr => wr.rangeLeft w.heap.size W.heap.size)
  case atStart => exact ⟨_, _, [], w1.heap.size, l.length, rfl, HOW.out.keep (fun k hk1 hk2 => hg0.block k hk2 (by simp)), by omega, hrg0, Coll.start _, by simp, KW.out.grown hg0 (by omega) (fun j hj => by cases hj)⟩
  case round =>
    obtain ⟨left, cnt, ss, g, cap, rfl, ho, hgr, hrg, hcl, hln, hnx⟩ := hrel
    have HCL := hidP hcl
    have HN := hidP ho
    clear hcl ho
    go_wp2_with (first
      | (at_next; refine wpList_next_ranges_ii _ rfl _ rfl 3 3 .i64 .i64 lawI Tryz.underlying3 Tryz.underlying3 w.heap.size W.heap.size l.length _ _ _ rfl hrg ?_ ?_)
      | go_in)
    · intro hc0 hl0
      have HT := hidP (sort_is (Coll.perm HR.out HCL.out hl0) (stL_sorted HR.out (Nat.le_refl _)))
      have hlen : ss.length = l.length := by have := (Coll.perm HR.out HCL.out hl0).length_eq; rw [stL_len] at this; exact this
      have HLEN := hidP hlen
      have hlt24 : ss.length < 25 := by omega
      have KB := hidP hnx
      clear hlen
      obtain ⟨g', cap', cur, hv, hbg, hgc, hnc, hcm, hcs, htake⟩ : ∃ g' cap' cur, (Value.slice (some ⟨g, 0, none⟩) ss.length cap) = .slice (some ⟨g', 0, none⟩) ss.length cap' ∧ w.heap.size + 1 ≤ g' ∧ wr.heap[g']? = some (.cells cur 3 (0, 0)) ∧ ss.length ≤ cap' ∧ cap' ≤ maxLen ∧ cur.size = cap' * 1 ∧ cur.toList.take (ss.length * 1) = ss.map (Value.int .i64) := by
        rcases HN.out.2 with ⟨h0, _⟩ | ⟨g', cap', cur, hv, hbg, hgc, hnc, hcm, hcs, htake⟩
        · cases h0
        · exact ⟨g', cap', cur, hv, hbg, hgc, hnc, hcm, hcs, htake⟩
      simp only [Value.slice.injEq, Option.some.injEq, Addr.mk.injEq] at hv
      obtain ⟨⟨rfl, -⟩, -, rfl⟩ := hv
      have hgl : g < wr.heap.size := (Array.getElem?_eq_some_iff.1 hgc).1
      rw [Nat.mul_one] at htake
      have HH := hidP (holds_of_blockI hgc htake)
      have HGC := hidP (And.intro hbg (And.intro hgc (And.intro hnc (And.intro hcm hcs))))
      clear hrg hnx hc0 hl0 hbg hgc hnc hcm hcs htake
      go_wp2_with (go_at_call 57; refine (sortI g 0 cap ss wr HH.out hgl (by omega)).mono ?_; rintro e w6 ⟨rfl, n6, os6, h6⟩; have H6 := hidP h6; clear h6)
      go_ret
      have hlen := HLEN.out
      have h6 := H6.out
      rw [HT.out] at h6
      have hG := grownBy_sortedI (w := wr) (g := g) (n := n6) (os := os6) (stL l l.length).toArray
      obtain ⟨hbg, hgc, hnc, hcm, hcs⟩ := HGC.out
      have hO := ownsRow_sortedI (w := wr) (base := w.heap.size + 1) (g := g) (cap := cap) (n := n6) (os := os6) (ss := ss) (ts := stL l l.length) (by rw [stL_len, hlen]) hbg hgc hnc hcm hcs
      rw [← h6] at hG hO
      refine ⟨⟨g, cap, by rw [← hlen]; rfl, ?_⟩, KB.out.grown hG KB.out.size (fun j hj => by cases hj; omega)⟩
      have : OwnN w6 (w.heap.size + 1) (.slice (some ⟨g, 0, none⟩) l.length cap) (stL l l.length) := by
        show w6.ownsRow _ _ _ _ (stL l l.length).length _
        rw [stL_len, ← hlen]
        rw [hlen] at hO ⊢
        exact hO
      exact ownLow' this (by omega)
    · intro x cx w4 cnt4 hwx hwc hlx hat hrg4 hlt4 hg4 hs4 hen
      have HC4 := hidP (HCL.out.step hlx hat)
      have hn4 : Below w.heap.size w w4 := hnx.grown hg4 hnx.size (fun j hj => by cases hj; omega)
      have HN4 := hidP (show OwnN w4 (w.heap.size + 1) (.slice (some ⟨g, 0, none⟩) ss.length cap) ss from ownKeep' HN.out (fun k hk => hg4.block k (World.ownsRow.lt HN.out _ hk).2 (fun e => by have e1 := Option.some.inj e; have e2 : g = k := (by simpa [Value.ownBlock] using hk); omega)))
      have hsz4 := hn4.size
      have hr4 := hrg4.lt
      have hb4 := hrg4.owns.lt
      have HG4 := hidP hg4
      clear hg4 hs4
      go_wp2_with (first | (at_builtin; refine app_one rfl _ _ rfl w4 x (w.heap.size + 1) (.slice (some ⟨g, 0, none⟩) ss.length cap) ss rfl HN4.out rfl (by omega) (by omega) ?_; intro g5 cap5 w5 ho5 hb5 hk5) | go_in)
      have hg5 : w4.grownBy w5 (some g) := ⟨hb5.os, hb5.tape, hb5.output, hb5.size, fun k hk hne => (hk5 k hk (fun e => hne (by simpa [Value.ownBlock] using e.symm))).1⟩
      have hrg5 := hrg4.kept hg5 (fun e => by have e1 := Option.some.inj e; have e2 := (own_block_lt HN4.out (k := g) rfl).1; omega) (fun e => hgr (Option.some.inj e).symm)
      have hgr5 : g5 ≠ W.heap.size := fun e => (hk5 W.heap.size hr4 (fun e' => hgr (by simpa [Value.ownBlock] using e'))).2 e.symm
      exact ⟨⟨_, cnt4, ss ++ [x], g5, cap5, by simp, by simpa using ho5, hgr5, hrg5, HC4.out, by simp; omega, hn4.trans (hb5.mono (by omega))⟩, by rw [hrg5.left_eq, hrg.left_eq]; exact hlt4⟩

end Go.Proofs.YteddmadbegpecaaGreat
