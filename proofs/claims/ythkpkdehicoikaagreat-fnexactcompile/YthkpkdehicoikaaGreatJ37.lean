/- Append of one integer onto a row, and which blocks stay. Conditions: fewer than 2^40 of them. The shelf's contract for slices.Sort at rows of integers, at this program (laid by the kit's tools, in plain words). Its conditions stand with it. The first steps of a body, told sorted out of the map. Conditions: bodies of at most 24 places, each of a kind that there is. -/
import Derived.Test.YthkpkdehicoikaaGreatAppN
import Derived.Shelf.Sort.Plain
import Derived.Test.YthkpkdehicoikaaGreatProg
import Derived.Test.YthkpkdehicoikaaGreatJ35
import Derived.Sort.OwnSortedInts
namespace Go.Proofs.YthkpkdehicoikaaGreat
section
set_option linter.unusedSimpArgs false
set_option linter.unusedVariables false
set_option maxRecDepth 100000
open Go.RowKit

theorem own_block_lt {w : World} {base : Nat} {v : Value} {ls : List Int} (h : OwnN w base v ls) {k : Nat} (hk : v.ownBlock = some k) : base ≤ k ∧ k < w.heap.size := World.ownsRow.lt h _ hk
theorem app_one {ops : Array Oper} {rest : List Oper} {o : Oper} {a : Act} {Q : Exit → Act → World → Prop} (hgd : o.guard = none) (s x : Operand) (ho : o.op = .call { callee := .builtin .append, args := #[s, x], argTypes := #[22, 22] })
    (w : World) (z : Int) (base : Nat) (v : Value) (ls : List Int) (hs : a.eval s = v) (hown : OwnN w base v ls) (hx : a.eval x = .slice (some ⟨w.heap.size, 0, none⟩) 1 1) (hn : ls.length ≤ 1099511627775) (hbase : base ≤ w.heap.size)
    (h : ∀ g cap w', OwnN w' base (.slice (some ⟨g, 0, none⟩) (ls.length + 1) cap) (ls ++ [z]) → Below base w w' → (∀ k, k < w.heap.size → v.ownBlock ≠ some k → w'.heap[k]? = w.heap[k]? ∧ k ≠ g) → wpList Tryz.prog ops Q rest (a.put o.dst (.slice (some ⟨g, 0, none⟩) (ls.length + 1) cap)) w') :
    wpList Tryz.prog ops Q (o :: rest) a (w.alloc (.cells #[.int .i64 z] 3)) := by
  obtain ⟨i0, hi, hz0, hz1, hz2⟩ := infoInt
  have h1' := hown.alloc (.cells #[.int .i64 z] 3)
  refine wpList_append_lies _ hgd s x 22 ho base 3 i0 _ 1 8 Tryz.underlying22 hi hz0 hz1 hz2 rfl (by decide) v ls.length _ hs h1' ⟨w.heap.size, 0, none⟩ 1 1 [.int .i64 z] hx rfl (newN1 w _) (fun u hu => by simp at hu; subst hu; rfl) (by decide) (by unfold maxLen; omega) (by omega) (by simp; omega) _ rfl ?_
  intro g cap w' q1 q2 q3 q4
  have hb : Below base w w' := Below.grown (((Below.refl _ _).alloc hbase _)) q2 (by simp; omega) (fun j hj => (World.ownsRow.lt h1' _ hj).1)
  refine h g cap w' ?_ hb (fun k hk hne => ?_)
  · show w'.ownsRow base 3 1 _ (ls ++ [z]).length ((ls ++ [z]).map (Value.int .i64))
    rw [List.map_append, List.length_append]
    exact q1
  · refine ⟨(q2.block k (by simp; omega) (fun e => hne e.symm)).trans (Below.heap_alloc _ _ _ hk), ?_⟩
    rintro rfl
    rcases q3 with q3 | q3
    · exact hne q3
    · simp at q3; omega
end

section
open Go.Shelf
def Tryz.lays189_ren : Go.Shelf.Ren := ⟨fun | 189 => 74 | 125 => 85 | 257 => 84 | 128 => 104 | 129 => 105 | 294 => 95 | 295 => 96 | 296 => 97 | 297 => 98 | 298 => 99 | 299 => 100 | 216 => 101 | 300 => 102 | 301 => 103 | 328 => 119 | 329 => 120 | 330 => 121 | 331 => 122 | 332 => 123 | 215 => 124 | 343 => 138 | n => n, fun | 28 => 22 | 3 => 3 | 46 => 104 | 0 => 0 | 51 => 138 | 53 => 140 | 4 => 4 | 183 => 131 | 182 => 130 | 131 => 135 | 5 => 5 | 9 => 9 | 218 => 142 | 222 => 146 | 228 => 152 | 229 => 153 | n => n, fun | n => n⟩
theorem Tryz.lays189 : Go.Proofs.Lays.n189 Tryz.prog Tryz.lays189_ren := {
  mixed := by kernel_rfl
  f125 := Tryz.func85.trans (congrArg some (by kernel_rfl))
  f128 := Tryz.func104.trans (congrArg some (by kernel_rfl))
  f129 := Tryz.func105.trans (congrArg some (by kernel_rfl))
  f189 := Tryz.func74.trans (congrArg some (by kernel_rfl))
  f215 := Tryz.func124.trans (congrArg some (by kernel_rfl))
  f216 := Tryz.func101.trans (congrArg some (by kernel_rfl))
  f257 := Tryz.func84.trans (congrArg some (by kernel_rfl))
  f294 := Tryz.func95.trans (congrArg some (by kernel_rfl))
  f295 := Tryz.func96.trans (congrArg some (by kernel_rfl))
  f296 := Tryz.func97.trans (congrArg some (by kernel_rfl))
  f297 := Tryz.func98.trans (congrArg some (by kernel_rfl))
  f298 := Tryz.func99.trans (congrArg some (by kernel_rfl))
  f299 := Tryz.func100.trans (congrArg some (by kernel_rfl))
  f300 := Tryz.func102.trans (congrArg some (by kernel_rfl))
  f301 := Tryz.func103.trans (congrArg some (by kernel_rfl))
  f328 := Tryz.func119.trans (congrArg some (by kernel_rfl))
  f329 := Tryz.func120.trans (congrArg some (by kernel_rfl))
  f330 := Tryz.func121.trans (congrArg some (by kernel_rfl))
  f331 := Tryz.func122.trans (congrArg some (by kernel_rfl))
  f332 := Tryz.func123.trans (congrArg some (by kernel_rfl))
  f343 := Tryz.func138.trans (congrArg some (by kernel_rfl))
  t0 := Tryz.underlying0
  a0 := Tryz.isAgg0
  z0 := Tryz.sizeOf0
  v0 := Tryz.zeroValue0
  t3 := Tryz.underlying3
  a3 := Tryz.isAgg3
  z3 := Tryz.sizeOf3
  v3 := Tryz.zeroValue3
  t4 := Tryz.underlying4
  a4 := Tryz.isAgg4
  z4 := Tryz.sizeOf4
  v4 := Tryz.zeroValue4
  t5 := Tryz.underlying5
  a5 := Tryz.isAgg5
  z5 := Tryz.sizeOf5
  v5 := Tryz.zeroValue5
  t9 := Tryz.underlying9
  a9 := Tryz.isAgg9
  z9 := Tryz.sizeOf9
  v9 := Tryz.zeroValue9
  t28 := Tryz.underlying22
  a28 := Tryz.isAgg22
  z28 := Tryz.sizeOf22
  v28 := Tryz.zeroValue22
  t46 := Tryz.underlying104
  a46 := Tryz.isAgg104
  z46 := Tryz.sizeOf104
  v46 := Tryz.zeroValue104
  t51 := Tryz.underlying138
  a51 := Tryz.isAgg138
  z51 := Tryz.sizeOf138
  v51 := Tryz.zeroValue138
  t53 := Tryz.underlying140
  a53 := Tryz.isAgg140
  z53 := Tryz.sizeOf140
  v53 := Tryz.zeroValue140
  t131 := Tryz.underlying135
  a131 := Tryz.isAgg135
  z131 := Tryz.sizeOf135
  v131 := Tryz.zeroValue135
  t182 := Tryz.underlying130
  a182 := Tryz.isAgg130
  z182 := Tryz.sizeOf130
  v182 := Tryz.zeroValue130
  t183 := Tryz.underlying131
  a183 := Tryz.isAgg131
  z183 := Tryz.sizeOf131
  v183 := Tryz.zeroValue131
  t218 := Tryz.underlying142
  a218 := Tryz.isAgg142
  z218 := Tryz.sizeOf142
  v218 := Tryz.zeroValue142
  t222 := Tryz.underlying146
  a222 := Tryz.isAgg146
  z222 := Tryz.sizeOf146
  v222 := Tryz.zeroValue146
  t228 := Tryz.underlying152
  a228 := Tryz.isAgg152
  z228 := Tryz.sizeOf152
  v228 := Tryz.zeroValue152
  t229 := Tryz.underlying153
  a229 := Tryz.isAgg153
  z229 := Tryz.sizeOf153
  v229 := Tryz.zeroValue153 }
open Go.Sort Go.RowKit in
theorem Tryz.slices_Sort_int (blk off cap : Nat) (zs : List Int) (w : World) (hH : Holds (Value.int .i64) w blk off zs.toArray) (hblk : blk < w.heap.size) (hsz : zs.length < 4611686018427387904) :
    Calls Tryz.prog 74 #[.slice (some ⟨blk, off, none⟩) zs.length cap] w fun e w' =>
      e = .returned (.tuple #[]) ∧ ∃ n os, w' = grow (putRow (Value.int .i64) (Sort.ahead w n) blk off (zs.mergeSort fun x y => decide (x ≤ y)).toArray) os := Any.slices_Sort_int Tryz.lays189 blk off cap zs w hH hblk hsz
open Go.Sort in
theorem sortI (blk off cap : Nat) (zs : List Int) (w : World) (hH : Holds (Value.int .i64) w blk off zs.toArray) (hblk : blk < w.heap.size) (hsz : zs.length < 4611686018427387904) :
    Calls Tryz.prog 74 #[.slice (some ⟨blk, off, none⟩) zs.length cap] w fun e w' =>
      e = .returned (.tuple #[]) ∧ ∃ n os, w' = grow (putRow (Value.int .i64) (Sort.ahead w n) blk off (zs.mergeSort fun x y => decide (x ≤ y)).toArray) os := Tryz.slices_Sort_int blk off cap zs w hH hblk hsz
end

section
set_option linter.unusedSimpArgs false
set_option linter.unusedVariables false
set_option maxRecDepth 100000
open Go.RowKit Go.Maps

theorem mkCap (n : Nat) (hn : n ≤ 1048576) (w : World) : (Instr.makeSlice 22 (.int .i64 0) (.int .i64 (n : Int))).run Tryz.prog w = .ok (.slice (some ⟨w.heap.size, 0, none⟩) 0 n) (w.alloc (.cells (madeCells #[.int .i64 0] (n * 1)) 3)) := by
  have h := run_make (P := Tryz.prog) w 22 3 _ (.int .i64 0) Tryz.underlying22 rfl rfl .i64 .i64 0 n (by omega) (by omega) (by show (8 : Int) * _ ≤ _; omega) (by omega)
  have e : (Value.int .i64 0).cells = #[.int .i64 0] := rfl
  have e' : ∀ t, Tryz.prog.info? 3 = some t → t.size = 1 := by intro t h; cases h; rfl
  rw [e, e' _ rfl] at h
  simpa using h
theorem ownCap (w : World) (n base : Nat) (hb : base ≤ w.heap.size) (hn : n ≤ 1048576) : OwnN (w.alloc (.cells (madeCells #[.int .i64 0] n) 3)) base (.slice (some ⟨w.heap.size, 0, none⟩) 0 n) [] :=
  ⟨rfl, .inr ⟨w.heap.size, n, _, rfl, hb, heap_alloc_new w _, Nat.zero_le _, by unfold maxLen; omega, by rw [size_madeCells]; simp, by simp⟩⟩

set_option maxRecDepth 100000 in
set_option maxHeartbeats 4000000 in
theorem startsOf_any (s : Option Addr) (c lo hi : Nat) (l : List I5) (w : World) (h : InsR w lo hi s l) (hB : hi ≤ w.heap.size) (hr : Rt l) :
    Calls Tryz.prog 52 #[.slice s l.length c] w fun e w' => (∃ g cap, e = .returned (.slice (some ⟨g, 0, none⟩) l.length cap) ∧ OwnN w' w.heap.size (.slice (some ⟨g, 0, none⟩) l.length cap) (stL l l.length)) ∧ Below w.heap.size w w' := by
  have HI := hidP h
  have HR := hidP hr
  have hl24 := hr.len
  have hsz := mpD_size hr l.length (Nat.le_refl _)
  have HSZ := hidP hsz
  have hmk := mkCap l.length (by omega)
  clear h hr hsz
  go_enter Tryz.func52, Tryz.ntmps52
  go_wp2_with fail
  refine (firstsOf_any s c lo hi l w HI.out hB HR.out).mono ?_
  rintro e w1 ⟨rfl, ho1, hb1⟩
  have K1 := hidP hb1
  have HO := hidP ho1
  have hz1 : w.heap.size < w1.heap.size := by obtain ⟨es, clock, h1, h2⟩ := ho1; exact (Array.getElem?_eq_some_iff.1 h1).1
  clear hb1 ho1 HI
  go_wp2_with (first | (at_len; refine wpList_len_own _ rfl _ 84 rfl 3 3 Tryz.underlying84 _ w.heap.size l.length _ rfl HO.out ?_; rw [HSZ.out]) | (at_range; refine wpList_range_own _ rfl _ 84 rfl 3 3 lawI Tryz.underlying84 _ w.heap.size l.length _ rfl (HO.out.keep (Below.heap_alloc _ _ _ hz1)) ?_; intro w3 hrg0 hg0 hs0) | go_in)
  go_frame
  obtain ⟨W, hW⟩ : ∃ W, w1.alloc (.cells (madeCells #[.int .i64 0] l.length) 3) = W := ⟨_, rfl⟩
  have hWs : w1.heap.size < W.heap.size := by rw [← hW]; simp
  have HOW : Hid (OwnN W (w.heap.size + 1) (.slice (some ⟨w1.heap.size, 0, none⟩) 0 l.length) []) := hW ▸ ownCap w1 l.length _ (by omega) (by omega)
  have KW : Hid (Below w.heap.size w W) := hW ▸ K1.out.alloc (by omega) _
  rw [HSZ.out] at hrg0
  rw [hW] at hrg0 hg0 hs0 ⊢
  have hs0' : W.heap.size < w3.heap.size := by omega
  clear hW hmk hs0
  go_loopw [5] (fun v wr => ∃ (left : Lit → Bool) (cnt : Nat) (ss : List Int) (g cap : Nat), v = .slice (some ⟨g, 0, none⟩) ss.length cap ∧ OwnN wr (w.heap.size + 1) (.slice (some ⟨g, 0, none⟩) ss.length cap) ss ∧ g ≠ W.heap.size ∧ wr.ranges Tryz.prog 3 (plainElem Tryz.prog 3) w.heap.size W.heap.size l.length (mpD l l.length) left cnt ∧ Coll (mpD l l.length) left ss ∧ ss.length + cnt ≤ l.length ∧ Below w.heap.size w wr)
    (fun _ wr => wr.rangeLeft w.heap.size W.heap.size)
  case atStart => exact ⟨_, _, [], w1.heap.size, l.length, rfl, HOW.out.keep (fun k hk1 hk2 => hg0.block k hk2 (by simp)), by omega, hrg0, Coll.start _, by simp, KW.out.grown hg0 (by omega) (fun j hj => by cases hj)⟩
  case round =>
    obtain ⟨left, cnt, ss, g, cap, rfl, ho, hgr, hrg, hcl, hln, hnx⟩ := hrel
    have HCL := hidP hcl
    have HN := hidP ho
    clear hcl ho
    go_wp2_with (first
      | (at_next; refine wpList_next_ranges_ii _ rfl _ rfl 3 3 .i64 .i64 lawI Tryz.underlying3 Tryz.underlying3 w.heap.size W.heap.size l.length _ _ _ rfl hrg ?_ ?_)
      | go_in)
    · intro hc0 hl0
      have HT := hidP (sort_is (Coll.perm HR.out HCL.out hl0) (stL_sorted HR.out (Nat.le_refl _)))
      have hlen : ss.length = l.length := by have := (Coll.perm HR.out HCL.out hl0).length_eq; rw [stL_len] at this; exact this
      have HLEN := hidP hlen
      have hlt24 : ss.length < 25 := by omega
      have KB := hidP hnx
      clear hlen
      obtain ⟨g', cap', cur, hv, hbg, hgc, hnc, hcm, hcs, htake⟩ : ∃ g' cap' cur, (Value.slice (some ⟨g, 0, none⟩) ss.length cap) = .slice (some ⟨g', 0, none⟩) ss.length cap' ∧ w.heap.size + 1 ≤ g' ∧ wr.heap[g']? = some (.cells cur 3 (0, 0)) ∧ ss.length ≤ cap' ∧ cap' ≤ maxLen ∧ cur.size = cap' * 1 ∧ cur.toList.take (ss.length * 1) = ss.map (Value.int .i64) := by
        rcases HN.out.2 with ⟨h0, _⟩ | ⟨g', cap', cur, hv, hbg, hgc, hnc, hcm, hcs, htake⟩
        · cases h0
        · exact ⟨g', cap', cur, hv, hbg, hgc, hnc, hcm, hcs, htake⟩
      simp only [Value.slice.injEq, Option.some.injEq, Addr.mk.injEq] at hv
      obtain ⟨⟨rfl, -⟩, -, rfl⟩ := hv
      have hgl : g < wr.heap.size := (Array.getElem?_eq_some_iff.1 hgc).1
      rw [Nat.mul_one] at htake
      have HH := hidP (holds_of_blockI hgc htake)
      have HGC := hidP (And.intro hbg (And.intro hgc (And.intro hnc (And.intro hcm hcs))))
      clear hrg hnx hc0 hl0 hbg hgc hnc hcm hcs htake
      go_wp2_with (go_at_call 74; refine (sortI g 0 cap ss wr HH.out hgl (by omega)).mono ?_; rintro e w6 ⟨rfl, n6, os6, h6⟩; have H6 := hidP h6; clear h6)
      go_ret
      have hlen := HLEN.out
      have h6 := H6.out
      rw [HT.out] at h6
      have hG := grownBy_sortedI (w := wr) (g := g) (n := n6) (os := os6) (stL l l.length).toArray
      obtain ⟨hbg, hgc, hnc, hcm, hcs⟩ := HGC.out
      have hO := ownsRow_sortedI (w := wr) (base := w.heap.size + 1) (g := g) (cap := cap) (n := n6) (os := os6) (ss := ss) (ts := stL l l.length) (by rw [stL_len, hlen]) hbg hgc hnc hcm hcs
      rw [← h6] at hG hO
      refine ⟨⟨g, cap, by rw [← hlen]; rfl, ?_⟩, KB.out.grown hG KB.out.size (fun j hj => by cases hj; omega)⟩
      have : OwnN w6 (w.heap.size + 1) (.slice (some ⟨g, 0, none⟩) l.length cap) (stL l l.length) := by
        show w6.ownsRow _ _ _ _ (stL l l.length).length _
        rw [stL_len, ← hlen]
        rw [hlen] at hO ⊢
        exact hO
      exact ownLow' this (by omega)
    · intro x cx w4 cnt4 hwx hwc hlx hat hrg4 hlt4 hg4 hs4 hen
      have HC4 := hidP (HCL.out.step hlx hat)
      have hn4 : Below w.heap.size w w4 := hnx.grown hg4 hnx.size (fun j hj => by cases hj; omega)
      have HN4 := hidP (show OwnN w4 (w.heap.size + 1) (.slice (some ⟨g, 0, none⟩) ss.length cap) ss from ownKeep' HN.out (fun k hk => hg4.block k (World.ownsRow.lt HN.out _ hk).2 (fun e => by have e1 := Option.some.inj e; have e2 : g = k := (by simpa [Value.ownBlock] using hk); omega)))
      have hsz4 := hn4.size
      have hr4 := hrg4.lt
      have hb4 := hrg4.owns.lt
      have HG4 := hidP hg4
      clear hg4 hs4
      go_wp2_with (first | (at_builtin; refine app_one rfl _ _ rfl w4 x (w.heap.size + 1) (.slice (some ⟨g, 0, none⟩) ss.length cap) ss rfl HN4.out rfl (by omega) (by omega) ?_; intro g5 cap5 w5 ho5 hb5 hk5) | go_in)
      have hg5 : w4.grownBy w5 (some g) := ⟨hb5.os, hb5.tape, hb5.output, hb5.size, fun k hk hne => (hk5 k hk (fun e => hne (by simpa [Value.ownBlock] using e.symm))).1⟩
      have hrg5 := hrg4.kept hg5 (fun e => by have e1 := Option.some.inj e; have e2 := (own_block_lt HN4.out (k := g) rfl).1; omega) (fun e => hgr (Option.some.inj e).symm)
      have hgr5 : g5 ≠ W.heap.size := fun e => (hk5 W.heap.size hr4 (fun e' => hgr (by simpa [Value.ownBlock] using e'))).2 e.symm
      exact ⟨⟨_, cnt4, ss ++ [x], g5, cap5, by simp, by simpa using ho5, hgr5, hrg5, HC4.out, by simp; omega, hn4.trans (hb5.mono (by omega))⟩, by rw [hrg5.left_eq, hrg.left_eq]; exact hlt4⟩
end

end Go.Proofs.YthkpkdehicoikaaGreat
