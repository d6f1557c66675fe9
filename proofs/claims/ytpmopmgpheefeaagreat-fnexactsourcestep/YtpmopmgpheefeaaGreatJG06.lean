/- Append of a thread or a channel onto a row of them that a call has made. Conditions: fewer than 2^30 of them. Append of a whole row of integers, or of notes, onto an empty row that a call has made. Conditions: fewer than 2^30 of them. What a walk through a law carries from call to call: boxes, rows and sources between two blocks, and what a call that writes over a source leaves. Conditions: none of its own. sameSource of the program and l4Copy of the specification. Conditions: each list of at most 1048576. -/
import Derived.Test.YtpmopmgpheefeaaGreatJG00
import Derived.Test.YtpmopmgpheefeaaGreatJG04
import Derived.Test.YtpmopmgpheefeaaGreatJG03
import Derived.Test.YtpmopmgpheefeaaGreatJChDefs
import Derived.Test.YtpmopmgpheefeaaGreatJG05
import Derived.Test.YtpmopmgpheefeaaGreatJChA
import Derived.Deep.RegionLaw
namespace Go.Proofs.YtpmopmgpheefeaaGreat
section
set_option linter.unusedSimpArgs false
set_option linter.unusedVariables false
set_option maxRecDepth 100000
open Go.RowKit
theorem OwnQ.push {w w' : World} {base g cap : Nat} {e : TypeId} {v : Value} {L : List (Rec × Value)} {y : Rec × Value} (he : 3 ≠ e) (h : OwnQ w base e v L) (hy : OwnN w base y.2 y.1.l) (hyv : ∀ k, y.2.ownBlock = some k → v.ownBlock ≠ some k)
  (hs : ∀ (i : Nat) (z : Rec × Value) (k : Nat), L[i]? = some z → y.2.ownBlock = some k → z.2.ownBlock ≠ some k)
  (q1 : w'.ownsRow base e 3 (.slice (some ⟨g, 0, none⟩) (L.length + 1) cap) (L.length + 1) (flatR L ++ [y.1.a, y.2, y.1.z])) (hk : ∀ k, k < w.heap.size → v.ownBlock ≠ some k → w'.heap[k]? = w.heap[k]?) :
  OwnQ w' base e (.slice (some ⟨g, 0, none⟩) (L.length + 1) cap) (L ++ [y]) := by
 have hy' : OwnN w' base y.2 y.1.l := ownKeep' hy (fun k hk' => hk k (World.ownsRow.lt hy _ hk').2 (hyv k hk'))
 refine ⟨by rw [flatR_app, List.length_append]; exact q1, fun i x hx => ?_, fun i j x z k hx hz hne => ?_⟩
 ·by_cases hi : i < L.length
  ·rw [List.getElem?_append_left hi] at hx
   exact ownKeep' (h.inn i x hx) (fun k hk' => hk k (World.ownsRow.lt (h.inn i x hx) _ hk').2 (ownType' (h.inn i x hx) h.row he hk'))
  ·rw [List.getElem?_append_right (by omega)] at hx
   have hi0 : i - L.length = 0 := by have := (List.getElem?_eq_some_iff.1 hx).1; simp at this; omega
   rw [hi0] at hx
   simp at hx
   subst hx
   exact hy'
 ·by_cases hi : i < L.length <;> by_cases hj : j < L.length
  ·rw [List.getElem?_append_left hi] at hx
   rw [List.getElem?_append_left hj] at hz
   exact h.sep i j x z k hx hz hne
  ·rw [List.getElem?_append_left hi] at hx
   rw [List.getElem?_append_right (by omega)] at hz
   have hj0 : j - L.length = 0 := by have := (List.getElem?_eq_some_iff.1 hz).1; simp at this; omega
   rw [hj0] at hz
   simp at hz
   subst hz
   intro a b
   exact hs i x k hx b a
  ·rw [List.getElem?_append_left hj] at hz
   rw [List.getElem?_append_right (by omega)] at hx
   have hi0 : i - L.length = 0 := by have := (List.getElem?_eq_some_iff.1 hx).1; simp at this; omega
   rw [hi0] at hx
   simp at hx
   subst hx
   exact hs j z k hz
  ·have a := (List.getElem?_eq_some_iff.1 hx).1
   have b := (List.getElem?_eq_some_iff.1 hz).1
   simp at a b
   omega
theorem new3 (w : World) (a b c : Value) (e : TypeId) : ∀ j v, [a, b, c][j]? = some v → (w.alloc (.cells #[a, b, c] e)).cell? (Addr.add ⟨w.heap.size, 0, none⟩ j) = some v := by
 intro j v h
 match j, h with
 | 0, h => simpa [Addr.add, go_sem] using h
 | 1, h => simpa [Addr.add, go_sem] using h
 | 2, h => simpa [Addr.add, go_sem] using h
 | j + 3, h => simp at h
theorem infoT : ∃ i, Tryz.prog.info? 59 = some i ∧ i.zero = some (.agg #[.int .i64 0, .slice none 0 0, .int .i64 0]) ∧ i.size = 3 ∧ i.bytes = 40 := ⟨_, rfl, rfl, rfl, rfl⟩
theorem infoC : ∃ i, Tryz.prog.info? 86 = some i ∧ i.zero = some (.agg #[.int .i64 0, .slice none 0 0, .bool false]) ∧ i.size = 3 ∧ i.bytes = 40 := ⟨_, rfl, rfl, rfl, rfl⟩
/- what an append leaves -/
structure Pushed (w w' : World) (base : Nat) (e : TypeId) (v : Value) (L : List (Rec × Value)) (y : Rec × Value) (g cap : Nat) : Prop where
 own : OwnQ w' base e (.slice (some ⟨g, 0, none⟩) (L.length + 1) cap) (L ++ [y])
 far : ∀ k, k < w.heap.size → v.ownBlock ≠ some k → w'.heap[k]? = w.heap[k]?
 low : Below base w w'
 blk : v.ownBlock = some g ∨ w.heap.size ≤ g
theorem app_thread {ops : Array Oper} {rest : List Oper} {o : Oper} {a : Act} {Q : Exit → Act → World → Prop} (hgd : o.guard = none) (s x : Operand) (ho : o.op = .call { callee := .builtin .append, args := #[s, x], argTypes := #[33, 33] })
  (w : World) (y1 : Int) (l : List Int) (y2 : Value) (y3 : Int) (base : Nat) (v : Value) (L : List (Rec × Value)) (hs : a.eval s = v) (hown : OwnQ w base 59 v L) (hoy : OwnN w base y2 l) (hx : a.eval x = .slice (some ⟨w.heap.size, 0, none⟩) 1 1) (hn : L.length ≤ 1073741824) (hbase : base ≤ w.heap.size) (h1 : y2.oneCell' = true)
  (hsep : ∀ (i : Nat) (z : Rec × Value) (k : Nat), L[i]? = some z → y2.ownBlock = some k → z.2.ownBlock ≠ some k)
  (h : ∀ g cap w', Pushed w w' base 59 v L (⟨.int .i64 y1, l, .int .i64 y3⟩, y2) g cap → wpList Tryz.prog ops Q rest (a.put o.dst (.slice (some ⟨g, 0, none⟩) (L.length + 1) cap)) w') :
  wpList Tryz.prog ops Q (o :: rest) a (w.alloc (.cells #[.int .i64 y1, y2, .int .i64 y3] 59)) := by
 obtain ⟨i0, hi, hz0, hz1, hz2⟩ := infoT
 have h1' : (w.alloc (.cells #[.int .i64 y1, y2, .int .i64 y3] 59)).ownsRow base 59 3 v L.length (flatR L) := ownKeep' hown.row (fun k hk => Below.heap_alloc _ _ _ (World.ownsRow.lt hown.row _ hk).2)
 refine wpList_append_lies _ hgd s x 33 ho base 59 i0 _ 3 40 Tryz.underlying33 hi hz0 hz1 hz2 rfl (by decide) v L.length _ hs h1' ⟨w.heap.size, 0, none⟩ 1 1 [.int .i64 y1, y2, .int .i64 y3] hx rfl (new3 w _ _ _ _) (fun u hu => by simp at hu; rcases hu with rfl | rfl | rfl; rfl; exact h1; rfl) (by decide) (by unfold maxLen; omega) (by omega) (by simp; omega) _ rfl ?_
 intro g cap w' q1 q2 q3 q4
 have hb : Below base w w' := Below.grown (((Below.refl _ _).alloc hbase _)) q2 (by simp; omega) (fun j hj => (World.ownsRow.lt h1' _ hj).1)
 have hf : ∀ k, k < w.heap.size → v.ownBlock ≠ some k → w'.heap[k]? = w.heap[k]? := fun k hk hne => (q2.block k (by simp; omega) (fun e => hne e.symm)).trans (Below.heap_alloc _ _ _ hk)
 exact h g cap w' ⟨OwnQ.push (y := (⟨.int .i64 y1, l, .int .i64 y3⟩, y2)) (by decide) hown hoy (fun k hk => ownType' hoy hown.row (by decide) hk) hsep q1 hf, hf, hb, by rcases q3 with q3 | q3; exact .inl q3; exact .inr (by rw [q3]; simp)⟩
/- a box of three cells that may be written -/
structure BoF (G : Nat) (W : World) (a b c : Value) : Prop where
 c0 : W.cell? ⟨G, 0, none⟩ = some a
 c1 : W.cell? ⟨G, 1, none⟩ = some b
 c2 : W.cell? ⟨G, 2, none⟩ = some c
 f : ∀ j, W.frozen? ⟨G, j, none⟩ = false
 z : G < W.heap.size
theorem BoF.new (w : World) (a b c : Value) (T : TypeId) : ∃ W, w.alloc (.cells #[a, b, c] T) = W ∧ BoF w.heap.size W a b c ∧ Below w.heap.size w W ∧ W.heap.size = w.heap.size + 1 :=
 ⟨_, rfl, ⟨by simp [go_sem], by simp [go_sem], by simp [go_sem], fun j => by simp [go_sem], by simp⟩, (Below.refl _ _).alloc (Nat.le_refl _) _, by simp⟩
theorem BoF.keep {G : Nat} {W w1 : World} {a b c : Value} (h : BoF G W a b c) (hb : w1.heap[G]? = W.heap[G]?) (hs : W.heap.size ≤ w1.heap.size) : BoF G w1 a b c :=
 ⟨(World.cell?_of_block (w := W) (a := ⟨G, 0, none⟩) hb).trans h.c0, (World.cell?_of_block (w := W) (a := ⟨G, 1, none⟩) hb).trans h.c1, (World.cell?_of_block (w := W) (a := ⟨G, 2, none⟩) hb).trans h.c2, fun j => (World.frozen?_of_block (w := W) (a := ⟨G, j, none⟩) hb).trans (h.f j), by have := h.z; omega⟩
theorem BoF.below {G B : Nat} {W w1 : World} {a b c : Value} (h : BoF G W a b c) (hb : Below B W w1) (hG : G < B) : BoF G w1 a b c := h.keep (hb.block G hG) hb.size
theorem BoF.set0 {G : Nat} {W : World} {a b c : Value} (h : BoF G W a b c) (v : Value) : BoF G (W.setCell ⟨G, 0, none⟩ v) v b c :=
 ⟨setC_at (by rw [h.c0]; rfl), (setC_off (by omega)).trans h.c1, (setC_off (by omega)).trans h.c2, fun j => by rw [World.frozen?_setCell]; exact h.f j, by simpa using h.z⟩
theorem BoF.set1 {G : Nat} {W : World} {a b c : Value} (h : BoF G W a b c) (v : Value) : BoF G (W.setCell ⟨G, 1, none⟩ v) a v c :=
 ⟨(setC_off (by omega)).trans h.c0, setC_at (by rw [h.c1]; rfl), (setC_off (by omega)).trans h.c2, fun j => by rw [World.frozen?_setCell]; exact h.f j, by simpa using h.z⟩
theorem BoF.set2 {G : Nat} {W : World} {a b c : Value} (h : BoF G W a b c) (v : Value) : BoF G (W.setCell ⟨G, 2, none⟩ v) a b v :=
 ⟨(setC_off (by omega)).trans h.c0, (setC_off (by omega)).trans h.c1, setC_at (by rw [h.c2]; rfl), fun j => by rw [World.frozen?_setCell]; exact h.f j, by simpa using h.z⟩
theorem step_chan {ops : Array Oper} {o : Oper} {a : Act} {K : Act → World → Prop} {Q : Exit → Act → World → Prop} {E : Prop} (hgd : o.guard = none) (s x : Operand) (ho : o.op = .call { callee := .builtin .append, args := #[s, x], argTypes := #[34, 34] })
  (w : World) (y1 : Int) (l : List Int) (y2 : Value) (y3 : Bool) (base : Nat) (v : Value) (L : List (Rec × Value)) (hs : a.eval s = v) (hown : OwnQ w base 86 v L) (hoy : OwnN w base y2 l) (hx : a.eval x = .slice (some ⟨w.heap.size, 0, none⟩) 1 1) (hn : L.length ≤ 1073741824) (hbase : base ≤ w.heap.size) (h1 : y2.oneCell' = true)
  (hsep : ∀ (i : Nat) (z : Rec × Value) (k : Nat), L[i]? = some z → y2.ownBlock = some k → z.2.ownBlock ≠ some k)
  (h : ∀ g cap w', Pushed w w' base 86 v L (⟨.int .i64 y1, l, .bool y3⟩, y2) g cap → K (a.put o.dst (.slice (some ⟨g, 0, none⟩) (L.length + 1) cap)) w') :
  if Region.wanted o (yielded ops a.tmps) = true then Oper.wp Tryz.prog o a (w.alloc (.cells #[.int .i64 y1, y2, .bool y3] 86)) K Q else E := by
 obtain ⟨i0, hi, hz0, hz1, hz2⟩ := infoC
 have h1' : (w.alloc (.cells #[.int .i64 y1, y2, .bool y3] 86)).ownsRow base 86 3 v L.length (flatR L) := ownKeep' hown.row (fun k hk => Below.heap_alloc _ _ _ (World.ownsRow.lt hown.row _ hk).2)
 refine step_append_lies _ hgd s x 34 ho base 86 i0 _ 3 40 Tryz.underlying34 hi hz0 hz1 hz2 rfl (by decide) v L.length _ hs h1' ⟨w.heap.size, 0, none⟩ 1 1 [.int .i64 y1, y2, .bool y3] hx rfl (new3 w _ _ _ _) (fun u hu => by simp at hu; rcases hu with rfl | rfl | rfl; rfl; exact h1; rfl) (by decide) (by unfold maxLen; omega) (by omega) (by simp; omega) _ rfl ?_
 intro g cap w' q1 q2 q3 q4
 have hb : Below base w w' := Below.grown (((Below.refl _ _).alloc hbase _)) q2 (by simp; omega) (fun j hj => (World.ownsRow.lt h1' _ hj).1)
 have hf : ∀ k, k < w.heap.size → v.ownBlock ≠ some k → w'.heap[k]? = w.heap[k]? := fun k hk hne => (q2.block k (by simp; omega) (fun e => hne e.symm)).trans (Below.heap_alloc _ _ _ hk)
 exact h g cap w' ⟨OwnQ.push (y := (⟨.int .i64 y1, l, .bool y3⟩, y2)) (by decide) hown hoy (fun k hk => ownType' hoy hown.row (by decide) hk) hsep q1 hf, hf, hb, by rcases q3 with q3 | q3; exact .inl q3; exact .inr (by rw [q3]; simp)⟩
end
section
set_option linter.unusedSimpArgs false
set_option linter.unusedVariables false
set_option maxRecDepth 100000
open Go.RowKit
structure Copied (w w' : World) (sv : Option Addr) (cv : Nat) (base n : Nat) (s' : Option Addr) (c' : Nat) : Prop where
 far : ∀ k, k < w.heap.size → (Value.slice sv 0 cv).ownBlock ≠ some k → w'.heap[k]? = w.heap[k]?
 low : Below base w w'
 blk : ∀ k, (Value.slice s' n c').ownBlock = some k → w.heap.size ≤ k ∨ (Value.slice sv 0 cv).ownBlock = some k
theorem wp_copyI {o : Oper} {a : Act} {w : World} {K : Act → World → Prop} {Q : Exit → Act → World → Prop} (s x : Operand) (hty : o.type = 22) (ho : o.op = .call { callee := .builtin .append, args := #[s, x], argTypes := #[22, 22] })
  (base : Nat) (sv : Option Addr) (cv : Nat) (hs : a.eval s = .slice sv 0 cv) (hown : OwnN w base (.slice sv 0 cv) []) (sx : Option Addr) (c : Nat) (l : List Int) {lo hi : Nat} (hx : a.eval x = .slice sx l.length c) (hr : IntsR w lo hi sx l) (hn : l.length ≤ 1073741824) (hbase : base ≤ w.heap.size)
  (h : ∀ s' c' w', OwnN w' base (.slice s' l.length c') l → Copied w w' sv cv base l.length s' c' → K (a.put o.dst (.slice s' l.length c')) w') : Oper.wp Tryz.prog o a w K Q := by
 rcases hr with rfl | ⟨g, off, rfl, h1, h2, hc⟩
 ·have hrun := run_append_zero w base _ _ hown sx c
  unfold Oper.wp
  simp at hx
  simp [execOp, ho, resolve, invoke, builtin, hs, hx, hty, hrun, Result.andThen]
  exact h sv cv w hown ⟨fun _ _ _ => rfl, Below.refl _ _, fun k hk => .inr hk⟩
 ·rcases Nat.eq_zero_or_pos l.length with h0 | hl
  ·have e := List.length_eq_zero_iff.1 h0
   subst e
   have hrun := run_append_zero w base _ _ hown (some ⟨g, off, none⟩) c
   unfold Oper.wp
   simp at hx
   simp [execOp, ho, resolve, invoke, builtin, hs, hx, hty, hrun, Result.andThen]
   exact h sv cv w hown ⟨fun _ _ _ => rfl, Below.refl _ _, fun k hk => .inr hk⟩
  ·obtain ⟨i0, hi0, hz0, hz1, hz2⟩ := infoInt
   refine wp_append_lies w s x 22 ho base 3 i0 _ 1 8 Tryz.underlying22 hi0 hz0 hz1 hz2 rfl (by decide) _ 0 _ hs hown ⟨g, off, none⟩ l.length c (l.map (Value.int .i64)) hx (by simp) (news_row hc) (fun u hu => by obtain ⟨z, -, rfl⟩ := List.mem_map.1 hu; rfl) hl (by unfold maxLen; omega) (by omega) hbase _ rfl ?_
   intro g' cap w' q1 q2 q3 q4
   have hb : Below base w w' := Below.grown (Below.refl _ _) q2 hbase (fun j hj => (World.ownsRow.lt hown _ hj).1)
   rw [Nat.zero_add]
   rw [Nat.zero_add] at q1
   refine h _ _ w' (by show w'.ownsRow base 3 1 _ l.length (l.map (Value.int .i64)); exact q1) ⟨fun k hk hne => q2.block k hk (fun e => hne e.symm), hb, fun k hk => ?_⟩
   injection hk with hk
   rcases q3 with q3 | q3
   ·exact .inr (by rw [q3]; exact congrArg some hk)
   ·exact .inl (by have : g' = k := hk; omega)
theorem app_copyI {ops : Array Oper} {rest : List Oper} {o : Oper} {a : Act} {Q : Exit → Act → World → Prop} (hgd : o.guard = none) (s x : Operand) (hty : o.type = 22) (ho : o.op = .call { callee := .builtin .append, args := #[s, x], argTypes := #[22, 22] }) (w : World)
  (base : Nat) (sv : Option Addr) (cv : Nat) (hs : a.eval s = .slice sv 0 cv) (hown : OwnN w base (.slice sv 0 cv) []) (sx : Option Addr) (c : Nat) (l : List Int) {lo hi : Nat} (hx : a.eval x = .slice sx l.length c) (hr : IntsR w lo hi sx l) (hn : l.length ≤ 1073741824) (hbase : base ≤ w.heap.size)
  (h : ∀ s' c' w', OwnN w' base (.slice s' l.length c') l → Copied w w' sv cv base l.length s' c' → wpList Tryz.prog ops Q rest (a.put o.dst (.slice s' l.length c')) w') : wpList Tryz.prog ops Q (o :: rest) a w :=
 wpList_plain hgd fun _ hK => wp_copyI s x hty ho base sv cv hs hown sx c l hx hr hn hbase fun s' c' w' h1 h2 => hK _ _ (h s' c' w' h1 h2)
theorem infoD : ∃ i, Tryz.prog.info? 88 = some i ∧ i.zero = some (.agg #[.int .i64 0, .int .i64 0]) ∧ i.size = 2 ∧ i.bytes = 16 := ⟨_, rfl, rfl, rfl, rfl⟩
theorem run_append_zeroD (w : World) (base : Nat) (v : Value) (l : List ND) (hown : OwnD w base v l) (s : Option Addr) (c : Nat) :
  (Builtin.append_ #[35, 35] 35 #[v, .slice s 0 c]).run Tryz.prog w = .ok v w := by
 obtain ⟨i0, hi, hz0, hz1, hz2⟩ := infoD
 rcases hown.2 with ⟨rfl, -⟩ | ⟨g, cap, cur, rfl, _, _, hnc, _⟩
 ·cases s <;> simp [Builtin.append_, run_underlying Tryz.underlying35, sizeOf, typeInfo, hi, Builtin.lenOf, Builtin.firstCells, loadCells, loadCellsFrom, storeCells]
 ·cases s <;> simp [Builtin.append_, run_underlying Tryz.underlying35, sizeOf, typeInfo, hi, Builtin.lenOf, Builtin.firstCells, hnc, storeCells, loadCells, loadCellsFrom, storeCells]
theorem news_notes {w : World} {g o : Nat} {l : List ND} (hc : ∀ (i : Nat) (n : ND), l[i]? = some n → NtR w g (o + i * 2) n) : ∀ j u, (flatN l)[j]? = some u → w.cell? (Addr.add ⟨g, o, none⟩ j) = some u := by
 intro j u hu
 have hj : j < l.length * 2 := by have := (List.getElem?_eq_some_iff.1 hu).1; rw [flatN_len] at this; exact this
 have ea : (Addr.add ⟨g, o, none⟩ j) = ⟨g, o + j, none⟩ := by
  by_cases h : j = 0
  ·subst h; rfl
  ·simp [Addr.add, h]
 have hi : j / 2 < l.length := by omega
 have h1 := hc (j / 2) _ (List.getElem?_eq_getElem hi)
 obtain ⟨e0, e1⟩ := flatN_at l (j / 2) _ (List.getElem?_eq_getElem hi)
 rw [ea]
 rcases (show j = j / 2 * 2 ∨ j = j / 2 * 2 + 1 by omega) with e | e
 ·rw [e, e0] at hu
  rw [e, ← hu]
  exact h1.1
 ·rw [e, e1] at hu
  rw [e, ← hu]
  exact h1.2
theorem flatN_one : ∀ (l : List ND), ∀ u ∈ flatN l, u.oneCell' = true
 | [], u, h => by simp [flatN] at h
 | x :: r, u, h => by
  simp only [flatN, List.mem_append, List.mem_cons, List.not_mem_nil, or_false] at h
  rcases h with (rfl | rfl) | h
  ·rfl
  ·rfl
  ·exact flatN_one r u h
theorem wp_copyD {o : Oper} {a : Act} {w : World} {K : Act → World → Prop} {Q : Exit → Act → World → Prop} (s x : Operand) (hty : o.type = 35) (ho : o.op = .call { callee := .builtin .append, args := #[s, x], argTypes := #[35, 35] })
  (base : Nat) (sv : Option Addr) (cv : Nat) (hs : a.eval s = .slice sv 0 cv) (hown : OwnD w base (.slice sv 0 cv) []) (sx : Option Addr) (c : Nat) (l : List ND) {lo hi : Nat} (hx : a.eval x = .slice sx l.length c) (hr : NtsR w lo hi sx l) (hn : l.length ≤ 1073741824) (hbase : base ≤ w.heap.size)
  (h : ∀ s' c' w', OwnD w' base (.slice s' l.length c') l → Copied w w' sv cv base l.length s' c' → K (a.put o.dst (.slice s' l.length c')) w') : Oper.wp Tryz.prog o a w K Q := by
 rcases Nat.eq_zero_or_pos l.length with h0 | hl
 ·have e := List.length_eq_zero_iff.1 h0
  subst e
  have hrun := run_append_zeroD w base _ _ hown sx c
  unfold Oper.wp
  simp at hx
  simp [execOp, ho, resolve, invoke, builtin, hs, hx, hty, hrun, Result.andThen]
  exact h sv cv w hown ⟨fun _ _ _ => rfl, Below.refl _ _, fun k hk => .inr hk⟩
 ·rcases hr with rfl | ⟨g, off, rfl, h1, h2, hc⟩
  ·simp at hl
  ·obtain ⟨i0, hi0, hz0, hz1, hz2⟩ := infoD
   refine wp_append_lies w s x 35 ho base 88 i0 _ 2 16 Tryz.underlying35 hi0 hz0 hz1 hz2 rfl (by decide) _ 0 _ hs hown ⟨g, off, none⟩ l.length c (flatN l) hx (flatN_len l) (news_notes hc) (flatN_one l) hl (by unfold maxLen; omega) (by omega) hbase _ rfl ?_
   intro g' cap w' q1 q2 q3 q4
   have hb : Below base w w' := Below.grown (Below.refl _ _) q2 hbase (fun j hj => (World.ownsRow.lt hown _ hj).1)
   rw [Nat.zero_add]
   rw [Nat.zero_add] at q1
   refine h _ _ w' q1 ⟨fun k hk hne => q2.block k hk (fun e => hne e.symm), hb, fun k hk => ?_⟩
   injection hk with hk
   rcases q3 with q3 | q3
   ·exact .inr (by rw [q3]; exact congrArg some hk)
   ·exact .inl (by have : g' = k := hk; omega)
theorem app_copyD {ops : Array Oper} {rest : List Oper} {o : Oper} {a : Act} {Q : Exit → Act → World → Prop} (hgd : o.guard = none) (s x : Operand) (hty : o.type = 35) (ho : o.op = .call { callee := .builtin .append, args := #[s, x], argTypes := #[35, 35] }) (w : World)
  (base : Nat) (sv : Option Addr) (cv : Nat) (hs : a.eval s = .slice sv 0 cv) (hown : OwnD w base (.slice sv 0 cv) []) (sx : Option Addr) (c : Nat) (l : List ND) {lo hi : Nat} (hx : a.eval x = .slice sx l.length c) (hr : NtsR w lo hi sx l) (hn : l.length ≤ 1073741824) (hbase : base ≤ w.heap.size)
  (h : ∀ s' c' w', OwnD w' base (.slice s' l.length c') l → Copied w w' sv cv base l.length s' c' → wpList Tryz.prog ops Q rest (a.put o.dst (.slice s' l.length c')) w') : wpList Tryz.prog ops Q (o :: rest) a w :=
 wpList_plain hgd fun _ hK => wp_copyD s x hty ho base sv cv hs hown sx c l hx hr hn hbase fun s' c' w' h1 h2 => hK _ _ (h s' c' w' h1 h2)
/- a call of a Go function, as a step of a region that draws its order -/
theorem stepC {ops : Array Oper} {o : Oper} {a : Act} {w : World} {K : Act → World → Prop} {Q : Exit → Act → World → Prop} {F : Prop} (f : FuncId) (args : Array Value) (hgd : o.guard = none) (xs : Array Operand) (ats : Array TypeId) (ho : o.op = .call { callee := .value (.func f), args := xs, argTypes := ats }) (hx : xs.map a.eval = args)
  (hent : ∀ (args : Array Value) (w : World), (callFunc f args).run Tryz.prog w = .ok (.enter f args) w) (h : Calls Tryz.prog f args w fun e w' => ∃ v, e = .returned v ∧ K (a.put o.dst v) w') :
  if Region.wanted o (yielded ops a.tmps) = true then Oper.wp Tryz.prog o a w K Q else F := by
 have hw : Region.wanted o (yielded ops a.tmps) = true := by simp [Region.wanted, hgd]
 rw [if_pos hw]
 obtain ⟨dst, op, ty, pos, after, guard⟩ := o
 simp only at ho
 subst ho
 unfold Oper.wp
 rw [execOp_call_go]
 have e : (#[] ++ xs.map a.eval ++ #[]) = args := by rw [hx]; simp
 rw [e, hent, Oper.upon_enter]
 refine h.mono ?_
 rintro e w' ⟨v, rfl, hk⟩
 exact hk
end
section
set_option linter.unusedSimpArgs false
set_option linter.unusedVariables false
set_option maxRecDepth 100000
open Go.RowKit
/- blocks below hi and not from lo on are as they were -/
structure Exc (lo hi : Nat) (w w' : World) : Prop where
 os : w'.os = w.os
 tape : w'.tape = w.tape
 out : w'.output = w.output
 size : w.heap.size ≤ w'.heap.size
 blk : ∀ k, k < w.heap.size → (k < lo ∨ hi ≤ k) → w'.heap[k]? = w.heap[k]?
theorem Exc.below {lo hi B : Nat} {w w' : World} (h : Exc lo hi w w') (h1 : B ≤ lo) (h2 : B ≤ w.heap.size) : Below B w w' := ⟨h.os, h.tape, h.out, h.size, fun k hk => h.blk k (by omega) (.inl (by omega))⟩
theorem Keep.of_exc {lo hi lo' hi' : Nat} {w w' : World} (h : Exc lo' hi' w w') (h1 : hi ≤ w.heap.size) (h2 : hi ≤ lo' ∨ hi' ≤ lo) : Keep lo hi w w' := fun k a b => h.blk k (by omega) (by omega)
structure Bo2 (G : Nat) (W : World) (a b : Value) : Prop where
 c0 : W.cell? ⟨G, 0, none⟩ = some a
 c1 : W.cell? ⟨G, 1, none⟩ = some b
theorem Bo2.new (w : World) (a b : Value) (T : TypeId) : ∃ W, w.alloc (.cells #[a, b] T) = W ∧ Bo2 w.heap.size W a b ∧ Below w.heap.size w W ∧ W.heap.size = w.heap.size + 1 :=
 ⟨_, rfl, ⟨by simp [go_sem], by simp [go_sem]⟩, (Below.refl _ _).alloc (Nat.le_refl _) _, by simp⟩
theorem Bo2.keep {G : Nat} {W W' : World} {a b : Value} (h : Bo2 G W a b) (hk : Keep G (G + 1) W W') : Bo2 G W' a b := ⟨(hk.cell (p := ⟨G, 0, none⟩) (Nat.le_refl _) (Nat.lt_succ_self _)).trans h.c0, (hk.cell (p := ⟨G, 1, none⟩) (Nat.le_refl _) (Nat.lt_succ_self _)).trans h.c1⟩
structure Bo3 (G : Nat) (W : World) (a b c : Value) : Prop where
 c0 : W.cell? ⟨G, 0, none⟩ = some a
 c1 : W.cell? ⟨G, 1, none⟩ = some b
 c2 : W.cell? ⟨G, 2, none⟩ = some c
theorem Bo3.new (w : World) (a b c : Value) (T : TypeId) : ∃ W, w.alloc (.cells #[a, b, c] T) = W ∧ Bo3 w.heap.size W a b c ∧ Below w.heap.size w W ∧ W.heap.size = w.heap.size + 1 :=
 ⟨_, rfl, ⟨by simp [go_sem], by simp [go_sem], by simp [go_sem]⟩, (Below.refl _ _).alloc (Nat.le_refl _) _, by simp⟩
theorem Bo3.keep {G : Nat} {W W' : World} {a b c : Value} (h : Bo3 G W a b c) (hk : Keep G (G + 1) W W') : Bo3 G W' a b c := ⟨(hk.cell (p := ⟨G, 0, none⟩) (Nat.le_refl _) (Nat.lt_succ_self _)).trans h.c0, (hk.cell (p := ⟨G, 1, none⟩) (Nat.le_refl _) (Nat.lt_succ_self _)).trans h.c1, (hk.cell (p := ⟨G, 2, none⟩) (Nat.le_refl _) (Nat.lt_succ_self _)).trans h.c2⟩
/- a source, its blocks between two -/
structure SB (w : World) (lo hi : Nat) (v1 v2 v3 : Value) (L1 L2 : List (Rec × Value)) (d : SD) : Prop where
 o : OwnS w lo v1 v2 v3 L1 L2 d
 h : ∀ k, HitS v1 v2 v3 L1 L2 k → k < hi
theorem SB.of {w : World} {lo : Nat} {v1 v2 v3 : Value} {L1 L2 : List (Rec × Value)} {d : SD} (h : OwnS w lo v1 v2 v3 L1 L2 d) : SB w lo w.heap.size v1 v2 v3 L1 L2 d := ⟨h, fun _ hk => (h.hit hk).2⟩
theorem OwnS.keepB {w w' : World} {lo : Nat} {v1 v2 v3 : Value} {L1 L2 : List (Rec × Value)} {d : SD} (h : OwnS w lo v1 v2 v3 L1 L2 d) (hk : ∀ k, HitS v1 v2 v3 L1 L2 k → w'.heap[k]? = w.heap[k]?) : OwnS w' lo v1 v2 v3 L1 L2 d :=
 ⟨h.e1, h.e2, h.t.keepB (fun k e => hk k (.inl (.inl e))) (fun i x hx k e => hk k (.inl (.inr ⟨i, x, hx, e⟩))), h.c.keepB (fun k e => hk k (.inr (.inl (.inl e)))) (fun i x hx k e => hk k (.inr (.inl (.inr ⟨i, x, hx, e⟩)))), ownKeep' h.n (fun k e => hk k (.inr (.inr e))), h.sep⟩
theorem SB.keep {w w' : World} {lo hi : Nat} {v1 v2 v3 : Value} {L1 L2 : List (Rec × Value)} {d : SD} (h : SB w lo hi v1 v2 v3 L1 L2 d) (hk : Keep lo hi w w') : SB w' lo hi v1 v2 v3 L1 L2 d := ⟨h.o.keepB (fun k e => hk k (h.o.hit e).1 (h.h k e)), h.h⟩
theorem MarkedS.hit {w : World} {lo : Nat} {v1 v2 v3 : Value} {L1 L2 : List (Rec × Value)} {n : Nat} {q : Int} (h : MarkedS w lo v1 v2 v3 L1 L2 n q) {k : Nat} (hk : HitS v1 v2 v3 (mksT q L1) (mksC (q + sumQ L1) L2) k) : lo ≤ k ∧ k < w.heap.size := by
 rcases hk with hk | hk | hk
 ·exact h.t.hit hk
 ·exact h.c.hit hk
 ·exact World.ownsRow.lt h.n _ hk
structure MB (w : World) (lo hi : Nat) (v1 v2 v3 : Value) (L1 L2 : List (Rec × Value)) (n : Nat) (q : Int) : Prop where
 o : MarkedS w lo v1 v2 v3 L1 L2 n q
 h : ∀ k, HitS v1 v2 v3 (mksT q L1) (mksC (q + sumQ L1) L2) k → k < hi
theorem MB.keep {w w' : World} {lo hi : Nat} {v1 v2 v3 : Value} {L1 L2 : List (Rec × Value)} {n : Nat} {q : Int} (h : MB w lo hi v1 v2 v3 L1 L2 n q) (hk : Keep lo hi w w') : MB w' lo hi v1 v2 v3 L1 L2 n q := by
 have f : ∀ k, HitS v1 v2 v3 (mksT q L1) (mksC (q + sumQ L1) L2) k → w'.heap[k]? = w.heap[k]? := fun k e => hk k (h.o.hit e).1 (h.h k e)
 exact ⟨⟨h.o.t.keepB (fun k e => f k (.inl (.inl e))) (fun i x hx k e => f k (.inl (.inr ⟨i, x, hx, e⟩))), h.o.c.keepB (fun k e => f k (.inr (.inl (.inl e)))) (fun i x hx k e => f k (.inr (.inl (.inr ⟨i, x, hx, e⟩)))), ownKeep' h.o.n (fun k e => f k (.inr (.inr e)))⟩, h.h⟩
/- marks of a source that fits stay small -/
theorem sumQ_most : ∀ (L : List (Rec × Value)), (∀ (i : Nat) (x : Rec × Value), L[i]? = some x → x.1.l.length ≤ 1048576) → sumQ L ≤ L.length * 1048578
 | [], _ => Nat.le_refl _
 | x :: r, h => by
  have h1 := sumQ_most r (fun i y hy => h (i + 1) y (by simpa using hy))
  have h2 := h 0 x rfl
  show x.1.l.length + 2 + sumQ r ≤ (r.length + 1) * 1048578
  omega
theorem SB.room {w : World} {lo hi : Nat} {v1 v2 v3 : Value} {L1 L2 : List (Rec × Value)} {d : SD} (h : SB w lo hi v1 v2 v3 L1 L2 d) (hf : SFits d) : sumQ L1 ≤ 2000000000000 ∧ sumQ L2 ≤ 2000000000000 := by
 obtain ⟨⟨f1, f1'⟩, ⟨f2, f2'⟩, f3⟩ := hf
 have a := sumQ_most L1 (fun i x hx => by obtain ⟨t, ht, e⟩ := h.o.at1 hx; rw [e]; exact f1' i t ht)
 have b := sumQ_most L2 (fun i x hx => by obtain ⟨t, ht, e⟩ := h.o.at2 hx; rw [e]; exact f2' i t ht)
 have c := h.o.l1
 have e := h.o.l2
 omega
theorem SB.lens {w : World} {lo hi : Nat} {v1 v2 v3 : Value} {L1 L2 : List (Rec × Value)} {d : SD} (h : SB w lo hi v1 v2 v3 L1 L2 d) (hf : SFits d) : L1.length ≤ 1048577 ∧ (∀ (i : Nat) (x : Rec × Value), L1[i]? = some x → x.1.l.length ≤ 1048577) ∧ L2.length ≤ 1048577 ∧ (∀ (i : Nat) (x : Rec × Value), L2[i]? = some x → x.1.l.length ≤ 1048577) ∧ d.tr.length ≤ 1048577 := by
 obtain ⟨⟨f1, f1'⟩, ⟨f2, f2'⟩, f3⟩ := hf
 have c := h.o.l1
 have e := h.o.l2
 refine ⟨by omega, fun i x hx => ?_, by omega, fun i x hx => ?_, by omega⟩
 ·obtain ⟨t, ht, e⟩ := h.o.at1 hx; rw [e]; exact Nat.le_succ_of_le (f1' i t ht)
 ·obtain ⟨t, ht, e⟩ := h.o.at2 hx; rw [e]; exact Nat.le_succ_of_le (f2' i t ht)
theorem markSource_exc {lo hi : Nat} {v1 v2 v3 : Value} {L1 L2 : List (Rec × Value)} {d : SD} {w : World} (q : Int) (h : SB w lo hi v1 v2 v3 L1 L2 d) (hf : SFits d) (hq : 0 ≤ q) (hq' : q ≤ 500000000000000) :
  Calls Tryz.prog 13 #[.agg #[v1, v2, v3], .int .i64 q] w fun e w' => e = .returned (.int .i64 (q + sumQ L1 + sumQ L2 + 2 * d.tr.length)) ∧ MB w' lo hi v1 v2 v3 L1 L2 d.tr.length q ∧ Exc lo hi w w' := by
 have hr := h.room hf
 have hf3 := hf.2.2
 refine (markSource_any lo v1 v2 v3 L1 L2 d q w h.o hf hq (by omega)).mono ?_
 rintro e w' ⟨rfl, o, z, a, b, c, f⟩
 have hs : ∀ k, HitS v1 v2 v3 (mksT q L1) (mksC (q + sumQ L1) L2) k → HitS v1 v2 v3 L1 L2 k := by
  rintro k ((e | ⟨i, x, hx, e⟩) | (e | ⟨i, x, hx, e⟩) | e)
  ·exact .inl (.inl e)
  ·obtain ⟨y, hy, ey⟩ := mksT_own _ _ _ _ hx
   exact .inl (.inr ⟨i, y, hy, by rw [← ey]; exact e⟩)
  ·exact .inr (.inl (.inl e))
  ·obtain ⟨y, hy, ey⟩ := mksC_own _ _ _ _ hx
   exact .inr (.inl (.inr ⟨i, y, hy, by rw [← ey]; exact e⟩))
  ·exact .inr (.inr e)
 exact ⟨rfl, ⟨o, fun k hk => h.h k (hs k hk)⟩, a, b, c, z, fun k hk hc => f k hk (fun e => by have := (h.o.hit e).1; have := h.h k e; omega)⟩
end
section
set_option linter.unusedSimpArgs false
set_option linter.unusedVariables false
set_option maxRecDepth 100000
open Go.RowKit
theorem rowI_of {w : World} {lo hi : Nat} {s : Option Addr} {l : List Int} (h : IntsR w lo hi s l) (hh : hi ≤ w.heap.size) : RowI w w.heap.size s l := by
 rcases h with h | ⟨g, o, hs, a, b, hc⟩
 ·exact .inl h
 ·exact .inr ⟨g, o, hs, by omega, hc⟩
theorem entimpl (args : Array Value) (w : World) : (callFunc 62 args).run Tryz.prog w = .ok (.enter 62 args) w := by kernel_rfl
set_option maxHeartbeats 8000000 in
theorem implDup_any (s1 s2 s3 : Option Addr) (c1 c2 c3 lo hi : Nat) (d : SD) (w : World) (h : SrcR w lo hi s1 s2 s3 d) (hB : hi ≤ w.heap.size) (hf : SFits d) :
  Calls Tryz.prog 30 #[.agg #[.slice s1 d.ths.length c1, .slice s2 d.chs.length c2, .slice s3 d.tr.length c3]] w fun e w' => ∃ v1 v2 v3 L1 L2, e = .returned (.agg #[v1, v2, v3]) ∧ OwnS w' w.heap.size v1 v2 v3 L1 L2 d ∧ Below w.heap.size w w' := by
 have HS : Hid (SrcR w lo hi s1 s2 s3 d) := h
 have HF : Hid (SFits d) := hf
 obtain ⟨⟨f1, f1'⟩, ⟨f2, f2'⟩, f3⟩ := hf
 clear h f1' f2'
 go_enter Tryz.func30, Tryz.ntmps30
 obtain ⟨W0, hW0, b0, k0, z0⟩ := Bo3.new w (.slice s1 d.ths.length c1) (.slice s2 d.chs.length c2) (.slice s3 d.tr.length c3) 37
 obtain ⟨W1, hW1, b1, k1, z1⟩ := BoF.new W0 (.slice none 0 0) (.slice none 0 0) (.slice none 0 0) 37
 have K1 : Below w.heap.size w W1 := k0.trans (k1.mono (by omega))
 have B0 := b0.keep (Keep.of_below k1 (by omega))
 rw [z0] at b1
 have BB0 := (show Hid _ from B0)
 have BB1 := (show Hid _ from b1)
 have KK1 := (show Hid _ from K1)
 have zW : W1.heap.size = w.heap.size + 2 := by omega
 rw [← hW0] at hW1
 have HW1 := (show Hid _ from hW1)
 clear b0 b1 B0 k0 k1 K1 hW0 hW1 z0 z1
 go_wp2_with (at_builtin; rw [HW1.out]; refine app_copyD rfl _ _ rfl rfl W1 (w.heap.size + 2) none 0 (by first | rfl | (rw [zW]; rfl)) (World.ownsRow_nil _ _ _ _) s3 c3 d.tr (by rfl) (HS.out.2.2.keep (Keep.of_below (KK1.out) hB)) (by omega) (by omega) ?_; intro s4 c4 w1 ho1 hc1; have hlow := hc1.low; have O1 := (show Hid _ from ho1); have C1 := (show Hid _ from hc1); have zl := hlow.size; have zl2 : w.heap.size + 2 ≤ w1.heap.size := (by omega); have kw : Below (w.heap.size + 2) W1 w1 := hlow; have pb := BB0.out.keep (Keep.of_below kw (by omega)); have pc0 := pb.c0; have pc1 := pb.c1; have R1 := (show Hid _ from BB1.out.below kw (by omega)); have KW : Hid (Below w.heap.size w w1) := KK1.out.trans (kw.mono (by omega)); have zl3 : w.heap.size < w1.heap.size := (by omega); clear ho1 hc1 hlow kw pb zl)
 have HO3 : Hid (OwnD w1 (w.heap.size + 2) (.slice s4 d.tr.length c4) d.tr) := O1.out
 have HS1 : Hid (SrcR w1 lo hi s1 s2 s3 d) := HS.out.keep (Keep.of_below KW.out hB)
 clear O1 C1 HW1 BB0 BB1 KK1 HS
 go_loopw [15] (fun i wr => ∃ (k : Nat) (v1 : Value) (L1 : List (Rec × Value)), k ≤ d.ths.length ∧ i = .int .i64 k ∧ BoF w1.heap.size wr v1 (.slice none 0 0) (.slice s4 d.tr.length c4) ∧ OwnQ wr (w1.heap.size + 1) 59 v1 L1 ∧ L1.map Prod.fst = (d.ths.take k).map TD.rec3 ∧ Below w1.heap.size w1 wr ∧ w1.heap.size + 1 ≤ wr.heap.size) (fun i _ => d.ths.length - (intOf i).toNat)
 case atStart =>
  obtain ⟨X, hX, bx, kx, zx⟩ := BoF.new w1 (.slice none 0 0) (.slice none 0 0) (.slice s4 d.tr.length c4) 37
  rw [hX]
  exact ⟨0, _, [], Nat.zero_le _, rfl, bx, OwnQ.nil _ _ _, rfl, kx, by omega⟩
 case round =>
  obtain ⟨k, v1, L1, hk, rfl, hx, ho, hm, hb, hz⟩ := hrel
  have HX : Hid (BoF w1.heap.size wr v1 (.slice none 0 0) (.slice s4 d.tr.length c4)) := hx
  have HO : Hid (OwnQ wr (w1.heap.size + 1) 59 v1 L1) := ho
  have HM : Hid (L1.map Prod.fst = (d.ths.take k).map TD.rec3) := hm
  have HL1 : Hid (L1.length ≤ 1048576) := by have := congrArg List.length hm; simp at this; show L1.length ≤ 1048576; omega
  have HB : Hid (Below w1.heap.size w1 wr) := hb
  have q0 := (hb.cell (p := ⟨w.heap.size, 0, none⟩) (by show w.heap.size < _; omega)).trans pc0
  have q1 := (hb.cell (p := ⟨w.heap.size, 1, none⟩) (by show w.heap.size < _; omega)).trans pc1
  have g0 := hx.c0
  have l1 : w1.heap.size < wr.heap.size := by omega
  have l2 : w.heap.size < wr.heap.size := by omega
  clear hx ho hm hb
  by_cases hlt : k < d.ths.length
  ·obtain ⟨t, ht⟩ : ∃ t, d.ths[k]? = some t := ⟨_, List.getElem?_eq_getElem hlt⟩
   obtain ⟨g, off, hs, hg, hc⟩ : ∃ g off, s1 = some ⟨g, off, none⟩ ∧ g < hi ∧ RecR wr lo hi g (off + k * 3) t.rec3 := by
    rcases HS1.out.1 with h | ⟨g, off, a, b, e, f⟩
    ·have : d.ths = [] := by simpa using h
     rw [this] at hlt; simp at hlt
    ·exact ⟨g, off, a, e, (f k t.rec3 (by rw [List.getElem?_map, ht]; rfl)).keep (Keep.of_below HB.out (by omega)) (fun j => HB.out.cell (p := ⟨g, j, none⟩) (by show g < _; omega))⟩
   subst hs
   have hlen := HF.out.1.2 k t ht
   have HT : Hid (d.ths[k]? = some t) := ht
   obtain ⟨sx, cx, r0, r1, r2, hin⟩ := hc
   obtain ⟨pc, rg, st⟩ := t
   simp only [TD.rec3] at r0 r1 r2 hin hlen
   have HIN : Hid (IntsR wr lo hi sx rg) := hin
   clear ht hin
   have b0 : (0 : Int) ≤ (k : Int) := by omega
   have b1 : (k : Int) < (d.ths.length : Int) := by omega
   have bt0 : BoF wr.heap.size (wr.alloc (.cells #[.int .i64 pc, .slice sx rg.length cx, .int .i64 st] 59)) (.int .i64 pc) (.slice sx rg.length cx) (.int .i64 st) := ⟨by simp [go_sem], by simp [go_sem], by simp [go_sem], fun j => by simp [go_sem], by simp⟩
   have n1 : w1.heap.size ≠ wr.heap.size := by omega
   have n2 : wr.heap.size ≠ w1.heap.size := by omega
   go_wp2_with (first | (at_builtin; refine app_copyI rfl _ _ rfl rfl (wr.alloc (.cells #[.int .i64 pc, .slice sx rg.length cx, .int .i64 st] 59)) (w1.heap.size + 1) none 0 rfl (World.ownsRow_nil _ _ _ _) sx cx rg (by rfl) (HIN.out.keep (Keep.of_below ((Below.refl wr.heap.size wr).alloc (Nat.le_refl _) _) (by omega))) (by omega) (by simp; omega) ?_; intro s5 c5 w5 ho5 hc5; have hX : (wr.alloc (.cells #[.int .i64 pc, .slice sx rg.length cx, .int .i64 st] 59)).heap.size = wr.heap.size + 1 := (by simp); have zc := hc5.low.size; rw [hX] at zc; have hfar : ∀ k, k < wr.heap.size → w5.heap[k]? = wr.heap[k]? := (fun k hk => (hc5.far k (by rw [hX]; omega) (fun e => by cases e)).trans (((Below.refl wr.heap.size wr).alloc (Nat.le_refl _) _).block k hk)); have x5 := HX.out.keep (hfar w1.heap.size l1) (by omega); have d0 := x5.c0; have d1 := x5.f; have b5 := (show BoF wr.heap.size (wr.alloc (.cells #[.int .i64 pc, .slice sx rg.length cx, .int .i64 st] 59)) (.int .i64 pc) (.slice sx rg.length cx) (.int .i64 st) from bt0).keep (hc5.far wr.heap.size (by rw [hX]; omega) (fun e => by cases e)) (by rw [hX]; omega); have e5 := b5.c0; have e6 := b5.c1; have e7 := b5.c2; have e8 := b5.f; have l5 : w1.heap.size < w5.heap.size := (by omega); have l6 : wr.heap.size < w5.heap.size := (by omega); have O5 := (show Hid _ from ho5); have C5 := (show Hid _ from hc5); have F5 := (show Hid _ from hfar); have X5 := (show Hid _ from x5); have Z5 : Hid (wr.heap.size + 1 ≤ w5.heap.size) := zc; have HXS := (show Hid _ from hX); clear ho5 hc5 hfar x5 b5 zc hX) | (at_builtin; refine app_thread rfl _ _ rfl (w5.setCell ⟨wr.heap.size, 1, none⟩ (.slice s5 rg.length c5)) pc rg (.slice s5 rg.length c5) st (w1.heap.size + 1) v1 L1 rfl (HO.out.keep (fun k hk hk' => (Below.heap_setCell _ _ _ k (by show k ≠ wr.heap.size; omega)).trans (F5.out k hk'))) (ownKeep' O5.out (fun k hk => Below.heap_setCell _ _ _ k (by show k ≠ wr.heap.size; have h := C5.out.blk k hk; rw [HXS.out] at h; rcases h with h | h; omega; cases h))) (by rw [World.size_setCell]; rfl) (by have := HL1.out; omega) (by rw [World.size_setCell]; omega) rfl (fun i z k hz hk hk' => by have h1 := (World.ownsRow.lt (HO.out.inn i z hz) _ hk').2; have h := C5.out.blk k hk; rw [HXS.out] at h; rcases h with h | h; omega; cases h) ?_; intro g6 cap6 w6 hp6; have hG6 : w6.heap[w1.heap.size]? = w5.heap[w1.heap.size]? := (hp6.far w1.heap.size (by rw [World.size_setCell]; omega) (fun e => by have := (World.ownsRow.lt HO.out.row _ e).1; omega)).trans (Below.heap_setCell _ _ _ _ (by show w1.heap.size ≠ wr.heap.size; omega)); have hz6 : w5.heap.size ≤ w6.heap.size := (by have h := hp6.low.size; rw [World.size_setCell] at h; exact h); have x6 := X5.out.keep hG6 hz6; have d2 := x6.c0; have d3 := x6.f; have X6 := (show Hid _ from x6); have P6 := (show Hid _ from hp6); clear x6 hp6 hG6))
   go_roundw
   case rel =>
    obtain ⟨p1, p2, p3, p4⟩ := P6.out
    refine ⟨k + 1, _, L1 ++ [(⟨.int .i64 pc, rg, .int .i64 st⟩, .slice s5 rg.length c5)], by omega, by go_num, X6.out.set0 _, p1.keep (fun k hk hk' => Below.heap_setCell _ _ _ k (by show k ≠ w1.heap.size; omega)), ?_, ?_, by simp; have := Z5.out; omega⟩
    ·rw [List.map_append, HM.out, List.take_add_one, HT.out, List.map_append]; rfl
    ·have hl := C5.out.low
     have hp := p3
     exact (HB.out.trans ((((Below.refl wr.heap.size wr).alloc (Nat.le_refl _) _).mono (by omega)).trans ((hl.mono (by omega)).trans (((Below.refl w1.heap.size w5).setCell (p := ⟨wr.heap.size, 1, none⟩) (by show w1.heap.size ≤ wr.heap.size; omega) _).trans (hp.mono (by omega)))))).setCell (p := ⟨w1.heap.size, 0, none⟩) (Nat.le_refl _) _
   case measure => simp [intOf]; omega
  ·have hke : k = d.ths.length := by omega
   subst hke
   have HM0 : Hid (L1.map Prod.fst = d.ths.map TD.rec3) := by have h := HM.out; rw [List.take_length] at h; exact h
   clear hlt hk HM
   go_wp2
   go_loopw [33] (fun i wr => ∃ (k : Nat) (v2 : Value) (L2 : List (Rec × Value)), k ≤ d.chs.length ∧ i = .int .i64 k ∧ BoF w1.heap.size wr v1 v2 (.slice s4 d.tr.length c4) ∧ OwnQ wr (w1.heap.size + 1) 59 v1 L1 ∧ OwnQ wr (w1.heap.size + 1) 86 v2 L2 ∧ (∀ (i j : Nat) (x y : Rec × Value) (k : Nat), L1[i]? = some x → L2[j]? = some y → x.2.ownBlock = some k → y.2.ownBlock ≠ some k) ∧ L2.map Prod.fst = (d.chs.take k).map CD.rec3 ∧ Below w1.heap.size w1 wr ∧ w1.heap.size + 1 ≤ wr.heap.size) (fun i _ => d.chs.length - (intOf i).toNat)
   case atStart => exact ⟨0, _, [], Nat.zero_le _, rfl, HX.out, HO.out, OwnQ.nil _ _ _, fun i j x y k hx hy => by simp at hy, rfl, HB.out, hz⟩
   case round =>
    clear HX HO HB q0 q1 g0 hz l1 l2
    obtain ⟨k, v2, L2, hk, rfl, hx, ho, ho2, hsp, hm2, hb, hz⟩ := hrel
    have HX : Hid (BoF w1.heap.size wr v1 v2 (.slice s4 d.tr.length c4)) := hx
    have HO : Hid (OwnQ wr (w1.heap.size + 1) 59 v1 L1) := ho
    have HO2 : Hid (OwnQ wr (w1.heap.size + 1) 86 v2 L2) := ho2
    have HSP := (show Hid _ from hsp)
    have HM2 : Hid (L2.map Prod.fst = (d.chs.take k).map CD.rec3) := hm2
    have HL2 : Hid (L2.length ≤ 1048576) := by have := congrArg List.length hm2; simp at this; show L2.length ≤ 1048576; omega
    have HB : Hid (Below w1.heap.size w1 wr) := hb
    have q1 := (hb.cell (p := ⟨w.heap.size, 1, none⟩) (by show w.heap.size < _; omega)).trans pc1
    have g0 := hx.c0
    have g1 := hx.c1
    have g2 := hx.c2
    have l1 : w1.heap.size < wr.heap.size := by omega
    have l2 : w.heap.size < wr.heap.size := by omega
    clear hx ho ho2 hm2 hb hsp
    by_cases hlt : k < d.chs.length
    ·obtain ⟨t, ht⟩ : ∃ t, d.chs[k]? = some t := ⟨_, List.getElem?_eq_getElem hlt⟩
     obtain ⟨g, off, hs, hg, hc⟩ : ∃ g off, s2 = some ⟨g, off, none⟩ ∧ g < hi ∧ RecR wr lo hi g (off + k * 3) t.rec3 := by
      rcases HS1.out.2.1 with h | ⟨g, off, a, b, e, f⟩
      ·have : d.chs = [] := by simpa using h
       rw [this] at hlt; simp at hlt
      ·exact ⟨g, off, a, e, (f k t.rec3 (by rw [List.getElem?_map, ht]; rfl)).keep (Keep.of_below HB.out (by omega)) (fun j => HB.out.cell (p := ⟨g, j, none⟩) (by show g < _; omega))⟩
     subst hs
     have hlen := HF.out.2.1.2 k t ht
     have HT : Hid (d.chs[k]? = some t) := ht
     obtain ⟨sx, cx, r0, r1, r2, hin⟩ := hc
     obtain ⟨pc, rg, st⟩ := t
     simp only [CD.rec3] at r0 r1 r2 hin hlen
     have HIN : Hid (IntsR wr lo hi sx rg) := hin
     clear ht hin
     have b0 : (0 : Int) ≤ (k : Int) := by omega
     have b1 : (k : Int) < (d.chs.length : Int) := by omega
     have l3 : g < wr.heap.size := by omega
     go_wp2
     go_region_law (first | (refine step_chan (by rfl) _ _ (by rfl) w5 pc rg (.slice s5 rg.length c5) st (w1.heap.size + 1) v2 L2 (by rfl) (HO2.out.keep (fun k hk hk' => hfar k hk')) (ownLow' ho5 (by omega)) (by rfl) (by have := HL2.out; omega) (by omega) rfl (fun i z k hz hk hk' => by have h1 := (World.ownsRow.lt (HO2.out.inn i z hz) _ hk').2; have h2 := (World.ownsRow.lt ho5 _ hk).1; omega) ?_; intro g6 cap6 w6 hp6; have hG6 : w6.heap[w1.heap.size]? = w5.heap[w1.heap.size]? := hp6.far w1.heap.size (by omega) (fun e => by have := (World.ownsRow.lt HO2.out.row _ e).1; omega); have hz6 : w5.heap.size ≤ w6.heap.size := hp6.low.size; have x6 := x5.keep hG6 hz6; have d2 := x6.c1; have d3 := x6.f) | (refine stepC 62 #[.agg #[.int .i64 pc, .slice sx rg.length cx, .bool st]] (by rfl) _ _ (by rfl) (by simp [go_sem]) entimpl ?_; refine (sameChan_any pc sx rg cx st (wr.alloc (.cells #[.int .i64 pc, .slice sx rg.length cx, .bool st] 86)).drew (rowI_of (HIN.out.keep (Keep.of_below (Below.drew ((Below.refl wr.heap.size wr).alloc (Nat.le_refl _) _)) (by omega))) (by show _ ≤ (wr.alloc (.cells #[.int .i64 pc, .slice sx rg.length cx, .bool st] 86)).drew.heap.size; have : (wr.alloc (.cells #[.int .i64 pc, .slice sx rg.length cx, .bool st] 86)).drew.heap.size = wr.heap.size + 1 := (by simp); omega)) (by omega)).mono ?_; rintro e w5 ⟨u5, rfl, ho5', hb5', hz5'⟩; have hY : (wr.alloc (.cells #[.int .i64 pc, .slice sx rg.length cx, .bool st] 86)).drew.heap.size = wr.heap.size + 1 := (by simp); have ho5 := ho5'; have hb5 := hb5'; have hz5 := hz5'; rw [hY] at ho5 hb5 hz5; obtain ⟨s5, c5, rfl⟩ := ho5.sl; have hfar : ∀ k, k < wr.heap.size → w5.heap[k]? = wr.heap[k]? := (fun k hk => (hb5.block k (by omega)).trans ((Below.drew ((Below.refl wr.heap.size wr).alloc (Nat.le_refl _) _)).block k hk)); have x5 := HX.out.keep (hfar w1.heap.size l1) (by omega); have d0 := x5.c1; have d1 := x5.f; have l5 : w1.heap.size < w5.heap.size := (by omega); refine ⟨_, rfl, ?_⟩))
     all_goals
      have P6 := (show Hid _ from hp6)
      have X6 := (show Hid _ from x6)
      have F5 := (show Hid _ from hfar)
      have O5 := (show Hid _ from ho5)
      have B5 := (show Hid _ from hb5)
      have S5 := (show Hid _ from hz5)
      clear hp6 x6 hfar ho5 hb5 hz5 ho5' hb5' hz5' x5 hG6 d0 d1 hY
      go_wp2
      go_roundw
      case rel =>
       obtain ⟨p1, p2, p3, p4⟩ := P6.out
       have hzz := S5.out
       have e5 : ∀ k, k < wr.heap.size → v2.ownBlock ≠ some k → w6.heap[k]? = wr.heap[k]? := fun k hk hne => (p2 k (by omega) hne).trans (F5.out k hk)
       refine ⟨k + 1, _, L2 ++ [(⟨.int .i64 pc, rg, .bool st⟩, .slice s5 rg.length c5)], by omega, by go_num, X6.out.set1 _, ?_, p1.keep (fun k hk hk' => Below.heap_setCell _ _ _ k (by show k ≠ w1.heap.size; omega)), ?_, ?_, ?_, by simp; omega⟩
       ·refine (HO.out.keepB (w' := w6) ?_ ?_).keep (fun k hk hk' => Below.heap_setCell _ _ _ k (by show k ≠ w1.heap.size; omega))
        ·intro k hk
         exact e5 k (World.ownsRow.lt HO.out.row _ hk).2 (ownType' HO.out.row HO2.out.row (by decide) hk)
        ·intro i x hx k hk
         exact e5 k (World.ownsRow.lt (HO.out.inn i x hx) _ hk).2 (ownType' (HO.out.inn i x hx) HO2.out.row (by decide) hk)
       ·intro i j x y kk hx hy hxk
        by_cases hj : j < L2.length
        ·rw [List.getElem?_append_left hj] at hy
         exact HSP.out i j x y kk hx hy hxk
        ·rw [List.getElem?_append_right (by omega)] at hy
         have hj0 : j - L2.length = 0 := by have := (List.getElem?_eq_some_iff.1 hy).1; simp at this; omega
         rw [hj0] at hy
         simp at hy
         rw [← hy]
         intro hyk
         have h1 := (World.ownsRow.lt (HO.out.inn i x hx) _ hxk).2
         have h2 := (World.ownsRow.lt O5.out _ hyk).1
         omega
       ·rw [List.map_append, HM2.out, List.take_add_one, HT.out, List.map_append]; rfl
       ·exact (HB.out.trans (((Below.drew ((Below.refl wr.heap.size wr).alloc (Nat.le_refl _) _)).mono (by omega)).trans ((B5.out.mono (by omega)).trans (p3.mono (by omega))))).setCell (p := ⟨w1.heap.size, 1, none⟩) (Nat.le_refl _) _
      case measure => simp [intOf]; omega
    ·have hke : k = d.chs.length := by omega
     subst hke
     clear hlt hk
     have r1 := R1.out.below HB.out (by omega)
     have y0 := r1.c0
     have y1 := r1.c1
     have y2 := r1.c2
     have y3 := r1.f
     have RR : Hid (BoF (w.heap.size + 1) wr (.slice none 0 0) (.slice none 0 0) (.slice none 0 0)) := r1
     clear r1
     obtain ⟨t1, e1, hv1⟩ := ownSl HO.out.row
     obtain ⟨t2, e2, hv2⟩ := ownSl HO2.out.row
     subst hv1
     subst hv2
     go_wp2
     have W3 := ((RR.out.set0 (.slice t1 L1.length e1)).set1 (.slice t2 L2.length e2)).set2 (.slice s4 d.tr.length c4)
     have far : ∀ k, w.heap.size + 2 ≤ k → (((wr.setCell ⟨w.heap.size + 1, 0, none⟩ (.slice t1 L1.length e1)).setCell ⟨w.heap.size + 1, 1, none⟩ (.slice t2 L2.length e2)).setCell ⟨w.heap.size + 1, 2, none⟩ (.slice s4 d.tr.length c4)).heap[k]? = wr.heap[k]? := fun k hk => by rw [Below.heap_setCell _ _ _ k (by show k ≠ w.heap.size + 1; omega), Below.heap_setCell _ _ _ k (by show k ≠ w.heap.size + 1; omega), Below.heap_setCell _ _ _ k (by show k ≠ w.heap.size + 1; omega)]
     refine bodyPost_ret (v := .agg #[.slice t1 L1.length e1, .slice t2 L2.length e2, .slice s4 d.tr.length c4]) (by simp [results, Tryz.results30, go_sem, W3.c0, W3.c1, W3.c2]) rfl ⟨_, _, _, L1, L2, rfl, ⟨HM0.out, ?_, ?_, ?_, ?_, HSP.out⟩, ?_⟩
     ·have h := HM2.out; rw [List.take_length] at h; exact h
     ·exact (HO.out.keep (fun k hk _ => far k (by omega))).low (by omega)
     ·exact (HO2.out.keep (fun k hk _ => far k (by omega))).low (by omega)
     ·refine ownLow' (ownKeep' HO3.out (fun k hk => ?_)) (by omega)
      have h1 := World.ownsRow.lt HO3.out _ hk
      exact (far k h1.1).trans (HB.out.block k h1.2)
     ·exact (((KW.out.trans (HB.out.mono (by omega))).setCell (p := ⟨w.heap.size + 1, 0, none⟩) (by show w.heap.size ≤ w.heap.size + 1; omega) _).setCell (p := ⟨w.heap.size + 1, 1, none⟩) (by show w.heap.size ≤ w.heap.size + 1; omega) _).setCell (p := ⟨w.heap.size + 1, 2, none⟩) (by show w.heap.size ≤ w.heap.size + 1; omega) _
theorem entspec (args : Array Value) (w : World) : (callFunc 50 args).run Tryz.prog w = .ok (.enter 50 args) w := by kernel_rfl
set_option maxHeartbeats 8000000 in
theorem specDup_any (s1 s2 s3 : Option Addr) (c1 c2 c3 lo hi : Nat) (d : SD) (w : World) (h : SrcR w lo hi s1 s2 s3 d) (hB : hi ≤ w.heap.size) (hf : SFits d) :
  Calls Tryz.prog 22 #[.agg #[.slice s1 d.ths.length c1, .slice s2 d.chs.length c2, .slice s3 d.tr.length c3]] w fun e w' => ∃ v1 v2 v3 L1 L2, e = .returned (.agg #[v1, v2, v3]) ∧ OwnS w' w.heap.size v1 v2 v3 L1 L2 d ∧ Below w.heap.size w w' := by
 have HS : Hid (SrcR w lo hi s1 s2 s3 d) := h
 have HF : Hid (SFits d) := hf
 obtain ⟨⟨f1, f1'⟩, ⟨f2, f2'⟩, f3⟩ := hf
 clear h f1' f2'
 go_enter Tryz.func22, Tryz.ntmps22
 obtain ⟨W0, hW0, b0, k0, z0⟩ := Bo3.new w (.slice s1 d.ths.length c1) (.slice s2 d.chs.length c2) (.slice s3 d.tr.length c3) 37
 obtain ⟨W1, hW1, b1, k1, z1⟩ := BoF.new W0 (.slice none 0 0) (.slice none 0 0) (.slice none 0 0) 37
 have K1 : Below w.heap.size w W1 := k0.trans (k1.mono (by omega))
 have B0 := b0.keep (Keep.of_below k1 (by omega))
 rw [z0] at b1
 have BB0 := (show Hid _ from B0)
 have BB1 := (show Hid _ from b1)
 have KK1 := (show Hid _ from K1)
 have zW : W1.heap.size = w.heap.size + 2 := by omega
 rw [← hW0] at hW1
 have HW1 := (show Hid _ from hW1)
 clear b0 b1 B0 k0 k1 K1 hW0 hW1 z0 z1
 go_wp2_with (at_builtin; rw [HW1.out]; refine app_copyD rfl _ _ rfl rfl (W1.alloc (.cells #[] 88)) (w.heap.size + 2) (some ⟨W1.heap.size, 0, none⟩) 0 (by first | rfl | (rw [zW]; rfl)) (World.ownsRow_lit W1 #[] 0 (by omega) (by unfold maxLen; omega) rfl) s3 c3 d.tr (by rfl) (HS.out.2.2.keep (Keep.of_below (KK1.out.alloc (by omega) _) hB)) (by omega) (by simp; omega) ?_; intro s4 c4 w1 ho1 hc1; have hlow := hc1.low; have O1 := (show Hid _ from ho1); have C1 := (show Hid _ from hc1); have zl := hlow.size; have zl2 : w.heap.size + 2 ≤ w1.heap.size := (by simp at zl; omega); have kw : Below (w.heap.size + 2) W1 w1 := ((Below.refl _ _).alloc (by omega) _).trans hlow; have pb := BB0.out.keep (Keep.of_below kw (by omega)); have pc0 := pb.c0; have pc1 := pb.c1; have R1 := (show Hid _ from BB1.out.below kw (by omega)); have KW : Hid (Below w.heap.size w w1) := KK1.out.trans (kw.mono (by omega)); have zl3 : w.heap.size < w1.heap.size := (by omega); clear ho1 hc1 hlow kw pb zl)
 have HO3 : Hid (OwnD w1 (w.heap.size + 2) (.slice s4 d.tr.length c4) d.tr) := O1.out
 have HS1 : Hid (SrcR w1 lo hi s1 s2 s3 d) := HS.out.keep (Keep.of_below KW.out hB)
 clear O1 C1 HW1 BB0 BB1 KK1 HS
 go_loopw [4] (fun i wr => ∃ (k : Nat) (v1 : Value) (L1 : List (Rec × Value)), k ≤ d.ths.length ∧ i = .int .i64 k ∧ BoF w1.heap.size wr v1 (.slice none 0 0) (.slice s4 d.tr.length c4) ∧ OwnQ wr (w1.heap.size + 1) 59 v1 L1 ∧ L1.map Prod.fst = (d.ths.take k).map TD.rec3 ∧ Below w1.heap.size w1 wr ∧ w1.heap.size + 1 ≤ wr.heap.size) (fun i _ => d.ths.length - (intOf i).toNat)
 case atStart =>
  obtain ⟨X, hX, bx, kx, zx⟩ := BoF.new w1 (.slice none 0 0) (.slice none 0 0) (.slice s4 d.tr.length c4) 37
  rw [hX]
  exact ⟨0, _, [], Nat.zero_le _, rfl, bx, OwnQ.nil _ _ _, rfl, kx, by omega⟩
 case round =>
  obtain ⟨k, v1, L1, hk, rfl, hx, ho, hm, hb, hz⟩ := hrel
  have HX : Hid (BoF w1.heap.size wr v1 (.slice none 0 0) (.slice s4 d.tr.length c4)) := hx
  have HO : Hid (OwnQ wr (w1.heap.size + 1) 59 v1 L1) := ho
  have HM : Hid (L1.map Prod.fst = (d.ths.take k).map TD.rec3) := hm
  have HL1 : Hid (L1.length ≤ 1048576) := by have := congrArg List.length hm; simp at this; show L1.length ≤ 1048576; omega
  have HB : Hid (Below w1.heap.size w1 wr) := hb
  have q0 := (hb.cell (p := ⟨w.heap.size, 0, none⟩) (by show w.heap.size < _; omega)).trans pc0
  have q1 := (hb.cell (p := ⟨w.heap.size, 1, none⟩) (by show w.heap.size < _; omega)).trans pc1
  have g0 := hx.c0
  have l1 : w1.heap.size < wr.heap.size := by omega
  have l2 : w.heap.size < wr.heap.size := by omega
  clear hx ho hm hb
  by_cases hlt : k < d.ths.length
  ·obtain ⟨t, ht⟩ : ∃ t, d.ths[k]? = some t := ⟨_, List.getElem?_eq_getElem hlt⟩
   obtain ⟨g, off, hs, hg, hc⟩ : ∃ g off, s1 = some ⟨g, off, none⟩ ∧ g < hi ∧ RecR wr lo hi g (off + k * 3) t.rec3 := by
    rcases HS1.out.1 with h | ⟨g, off, a, b, e, f⟩
    ·have : d.ths = [] := by simpa using h
     rw [this] at hlt; simp at hlt
    ·exact ⟨g, off, a, e, (f k t.rec3 (by rw [List.getElem?_map, ht]; rfl)).keep (Keep.of_below HB.out (by omega)) (fun j => HB.out.cell (p := ⟨g, j, none⟩) (by show g < _; omega))⟩
   subst hs
   have hlen := HF.out.1.2 k t ht
   have HT : Hid (d.ths[k]? = some t) := ht
   obtain ⟨sx, cx, r0, r1, r2, hin⟩ := hc
   obtain ⟨pc, rg, st⟩ := t
   simp only [TD.rec3] at r0 r1 r2 hin hlen
   have HIN : Hid (IntsR wr lo hi sx rg) := hin
   clear ht hin
   have b0 : (0 : Int) ≤ (k : Int) := by omega
   have b1 : (k : Int) < (d.ths.length : Int) := by omega
   have bt0 : BoF wr.heap.size (wr.alloc (.cells #[.int .i64 pc, .slice sx rg.length cx, .int .i64 st] 59)) (.int .i64 pc) (.slice sx rg.length cx) (.int .i64 st) := ⟨by simp [go_sem], by simp [go_sem], by simp [go_sem], fun j => by simp [go_sem], by simp⟩
   have n1 : w1.heap.size ≠ wr.heap.size := by omega
   have n2 : wr.heap.size ≠ w1.heap.size := by omega
   go_wp2_with (first | (at_builtin; refine app_copyI rfl _ _ rfl rfl ((wr.alloc (.cells #[.int .i64 pc, .slice sx rg.length cx, .int .i64 st] 59)).alloc (.cells #[] 3)) (w1.heap.size + 1) (some ⟨wr.heap.size + 1, 0, none⟩) 0 rfl (by have h := ownN_empty (w := wr.alloc (.cells #[.int .i64 pc, .slice sx rg.length cx, .int .i64 st] 59)) (base := w1.heap.size + 1) (by simp; omega); rw [World.size_alloc] at h; exact h) sx cx rg (by rfl) (HIN.out.keep (Keep.of_below (((Below.refl wr.heap.size wr).alloc (Nat.le_refl _) _).alloc (by simp) _) (by omega))) (by omega) (by simp; omega) ?_; intro s5 c5 w5 ho5 hc5; have hX : ((wr.alloc (.cells #[.int .i64 pc, .slice sx rg.length cx, .int .i64 st] 59)).alloc (.cells #[] 3)).heap.size = wr.heap.size + 2 := (by simp); have zc := hc5.low.size; rw [hX] at zc; have hfar : ∀ k, k < wr.heap.size → w5.heap[k]? = wr.heap[k]? := (fun k hk => (hc5.far k (by rw [hX]; omega) (fun e => by injection e with e; have e2 : wr.heap.size + 1 = _ := e; omega)).trans ((((Below.refl wr.heap.size wr).alloc (Nat.le_refl _) _).alloc (by simp) _).block k hk)); have x5 := HX.out.keep (hfar w1.heap.size l1) (by omega); have d0 := x5.c0; have d1 := x5.f; have b5 := (show BoF wr.heap.size ((wr.alloc (.cells #[.int .i64 pc, .slice sx rg.length cx, .int .i64 st] 59)).alloc (.cells #[] 3)) (.int .i64 pc) (.slice sx rg.length cx) (.int .i64 st) from (bt0.below ((Below.refl (wr.heap.size + 1) _).alloc (by simp) _) (by omega))).keep (hc5.far wr.heap.size (by rw [hX]; omega) (fun e => by injection e with e; have e2 : wr.heap.size + 1 = _ := e; omega)) (by rw [hX]; omega); have e5 := b5.c0; have e6 := b5.c1; have e7 := b5.c2; have e8 := b5.f; have l5 : w1.heap.size < w5.heap.size := (by omega); have l6 : wr.heap.size < w5.heap.size := (by omega); have O5 := (show Hid _ from ho5); have C5 := (show Hid _ from hc5); have F5 := (show Hid _ from hfar); have X5 := (show Hid _ from x5); have Z5 : Hid (wr.heap.size + 2 ≤ w5.heap.size) := zc; have HXS := (show Hid _ from hX); clear ho5 hc5 hfar x5 b5 zc hX) | (at_builtin; refine app_thread rfl _ _ rfl (w5.setCell ⟨wr.heap.size, 1, none⟩ (.slice s5 rg.length c5)) pc rg (.slice s5 rg.length c5) st (w1.heap.size + 1) v1 L1 rfl (HO.out.keep (fun k hk hk' => (Below.heap_setCell _ _ _ k (by show k ≠ wr.heap.size; omega)).trans (F5.out k hk'))) (ownKeep' O5.out (fun k hk => Below.heap_setCell _ _ _ k (by show k ≠ wr.heap.size; have h := C5.out.blk k hk; rw [HXS.out] at h; rcases h with h | h; omega; injection h with h; have h2 : wr.heap.size + 1 = k := h; omega))) (by rw [World.size_setCell]; rfl) (by have := HL1.out; omega) (by rw [World.size_setCell]; omega) rfl (fun i z k hz hk hk' => by have h1 := (World.ownsRow.lt (HO.out.inn i z hz) _ hk').2; have h := C5.out.blk k hk; rw [HXS.out] at h; rcases h with h | h; omega; injection h with h; have h2 : wr.heap.size + 1 = k := h; omega) ?_; intro g6 cap6 w6 hp6; have hG6 : w6.heap[w1.heap.size]? = w5.heap[w1.heap.size]? := (hp6.far w1.heap.size (by rw [World.size_setCell]; omega) (fun e => by have := (World.ownsRow.lt HO.out.row _ e).1; omega)).trans (Below.heap_setCell _ _ _ _ (by show w1.heap.size ≠ wr.heap.size; omega)); have hz6 : w5.heap.size ≤ w6.heap.size := (by have h := hp6.low.size; rw [World.size_setCell] at h; exact h); have x6 := X5.out.keep hG6 hz6; have d2 := x6.c0; have d3 := x6.f; have X6 := (show Hid _ from x6); have P6 := (show Hid _ from hp6); clear x6 hp6 hG6))
   go_roundw
   case rel =>
    obtain ⟨p1, p2, p3, p4⟩ := P6.out
    refine ⟨k + 1, _, L1 ++ [(⟨.int .i64 pc, rg, .int .i64 st⟩, .slice s5 rg.length c5)], by omega, by go_num, X6.out.set0 _, p1.keep (fun k hk hk' => Below.heap_setCell _ _ _ k (by show k ≠ w1.heap.size; omega)), ?_, ?_, by simp; have := Z5.out; omega⟩
    ·rw [List.map_append, HM.out, List.take_add_one, HT.out, List.map_append]; rfl
    ·have hl := C5.out.low
     have hp := p3
     exact (HB.out.trans (((((Below.refl wr.heap.size wr).alloc (Nat.le_refl _) _).alloc (by simp) _).mono (by omega)).trans ((hl.mono (by omega)).trans (((Below.refl w1.heap.size w5).setCell (p := ⟨wr.heap.size, 1, none⟩) (by show w1.heap.size ≤ wr.heap.size; omega) _).trans (hp.mono (by omega)))))).setCell (p := ⟨w1.heap.size, 0, none⟩) (Nat.le_refl _) _
   case measure => simp [intOf]; omega
  ·have hke : k = d.ths.length := by omega
   subst hke
   have HM0 : Hid (L1.map Prod.fst = d.ths.map TD.rec3) := by have h := HM.out; rw [List.take_length] at h; exact h
   clear hlt hk HM
   go_wp2
   go_loopw [6] (fun i wr => ∃ (k : Nat) (v2 : Value) (L2 : List (Rec × Value)), k ≤ d.chs.length ∧ i = .int .i64 k ∧ BoF w1.heap.size wr v1 v2 (.slice s4 d.tr.length c4) ∧ OwnQ wr (w1.heap.size + 1) 59 v1 L1 ∧ OwnQ wr (w1.heap.size + 1) 86 v2 L2 ∧ (∀ (i j : Nat) (x y : Rec × Value) (k : Nat), L1[i]? = some x → L2[j]? = some y → x.2.ownBlock = some k → y.2.ownBlock ≠ some k) ∧ L2.map Prod.fst = (d.chs.take k).map CD.rec3 ∧ Below w1.heap.size w1 wr ∧ w1.heap.size + 1 ≤ wr.heap.size) (fun i _ => d.chs.length - (intOf i).toNat)
   case atStart => exact ⟨0, _, [], Nat.zero_le _, rfl, HX.out, HO.out, OwnQ.nil _ _ _, fun i j x y k hx hy => by simp at hy, rfl, HB.out, hz⟩
   case round =>
    clear HX HO HB q0 q1 g0 hz l1 l2
    obtain ⟨k, v2, L2, hk, rfl, hx, ho, ho2, hsp, hm2, hb, hz⟩ := hrel
    have HX : Hid (BoF w1.heap.size wr v1 v2 (.slice s4 d.tr.length c4)) := hx
    have HO : Hid (OwnQ wr (w1.heap.size + 1) 59 v1 L1) := ho
    have HO2 : Hid (OwnQ wr (w1.heap.size + 1) 86 v2 L2) := ho2
    have HSP := (show Hid _ from hsp)
    have HM2 : Hid (L2.map Prod.fst = (d.chs.take k).map CD.rec3) := hm2
    have HL2 : Hid (L2.length ≤ 1048576) := by have := congrArg List.length hm2; simp at this; show L2.length ≤ 1048576; omega
    have HB : Hid (Below w1.heap.size w1 wr) := hb
    have q1 := (hb.cell (p := ⟨w.heap.size, 1, none⟩) (by show w.heap.size < _; omega)).trans pc1
    have g0 := hx.c0
    have g1 := hx.c1
    have g2 := hx.c2
    have l1 : w1.heap.size < wr.heap.size := by omega
    have l2 : w.heap.size < wr.heap.size := by omega
    clear hx ho ho2 hm2 hb hsp
    by_cases hlt : k < d.chs.length
    ·obtain ⟨t, ht⟩ : ∃ t, d.chs[k]? = some t := ⟨_, List.getElem?_eq_getElem hlt⟩
     obtain ⟨g, off, hs, hg, hc⟩ : ∃ g off, s2 = some ⟨g, off, none⟩ ∧ g < hi ∧ RecR wr lo hi g (off + k * 3) t.rec3 := by
      rcases HS1.out.2.1 with h | ⟨g, off, a, b, e, f⟩
      ·have : d.chs = [] := by simpa using h
       rw [this] at hlt; simp at hlt
      ·exact ⟨g, off, a, e, (f k t.rec3 (by rw [List.getElem?_map, ht]; rfl)).keep (Keep.of_below HB.out (by omega)) (fun j => HB.out.cell (p := ⟨g, j, none⟩) (by show g < _; omega))⟩
     subst hs
     have hlen := HF.out.2.1.2 k t ht
     have HT : Hid (d.chs[k]? = some t) := ht
     obtain ⟨sx, cx, r0, r1, r2, hin⟩ := hc
     obtain ⟨pc, rg, st⟩ := t
     simp only [CD.rec3] at r0 r1 r2 hin hlen
     have HIN : Hid (IntsR wr lo hi sx rg) := hin
     clear ht hin
     have b0 : (0 : Int) ≤ (k : Int) := by omega
     have b1 : (k : Int) < (d.chs.length : Int) := by omega
     have l3 : g < wr.heap.size := by omega
     go_wp2
     go_region_law (first | (refine step_chan (by rfl) _ _ (by rfl) w5 pc rg (.slice s5 rg.length c5) st (w1.heap.size + 1) v2 L2 (by rfl) (HO2.out.keep (fun k hk hk' => hfar k hk')) (ownLow' ho5 (by omega)) (by rfl) (by have := HL2.out; omega) (by omega) rfl (fun i z k hz hk hk' => by have h1 := (World.ownsRow.lt (HO2.out.inn i z hz) _ hk').2; have h2 := (World.ownsRow.lt ho5 _ hk).1; omega) ?_; intro g6 cap6 w6 hp6; have hG6 : w6.heap[w1.heap.size]? = w5.heap[w1.heap.size]? := hp6.far w1.heap.size (by omega) (fun e => by have := (World.ownsRow.lt HO2.out.row _ e).1; omega); have hz6 : w5.heap.size ≤ w6.heap.size := hp6.low.size; have x6 := x5.keep hG6 hz6; have d2 := x6.c1; have d3 := x6.f) | (refine stepC 50 #[.agg #[.int .i64 pc, .slice sx rg.length cx, .bool st]] (by rfl) _ _ (by rfl) (by simp [go_sem]) entspec ?_; refine (l3Copy_any pc sx rg cx st wr.drew (rowI_of (HIN.out.keep (Keep.of_below (Below.drew (Below.refl wr.heap.size wr)) (by omega))) (by show _ ≤ wr.drew.heap.size; have : wr.drew.heap.size = wr.heap.size := (by simp); omega)) (by omega)).mono ?_; rintro e w5 ⟨u5, rfl, ho5', hb5', hz5'⟩; have hY : wr.drew.heap.size = wr.heap.size := (by simp); have ho5 := ho5'; have hb5 := hb5'; have hz5 := hz5'; rw [hY] at ho5 hb5 hz5; obtain ⟨s5, c5, rfl⟩ := ho5.sl; have hfar : ∀ k, k < wr.heap.size → w5.heap[k]? = wr.heap[k]? := (fun k hk => (hb5.block k (by omega)).trans ((Below.drew (Below.refl wr.heap.size wr)).block k hk)); have x5 := HX.out.keep (hfar w1.heap.size l1) (by omega); have d0 := x5.c1; have d1 := x5.f; have l5 : w1.heap.size < w5.heap.size := (by omega); refine ⟨_, rfl, ?_⟩))
     all_goals
      have P6 := (show Hid _ from hp6)
      have X6 := (show Hid _ from x6)
      have F5 := (show Hid _ from hfar)
      have O5 := (show Hid _ from ho5)
      have B5 := (show Hid _ from hb5)
      have S5 := (show Hid _ from hz5)
      clear hp6 x6 hfar ho5 hb5 hz5 ho5' hb5' hz5' x5 hG6 d0 d1 hY
      go_wp2
      go_roundw
      case rel =>
       obtain ⟨p1, p2, p3, p4⟩ := P6.out
       have hzz := S5.out
       have e5 : ∀ k, k < wr.heap.size → v2.ownBlock ≠ some k → w6.heap[k]? = wr.heap[k]? := fun k hk hne => (p2 k (by omega) hne).trans (F5.out k hk)
       refine ⟨k + 1, _, L2 ++ [(⟨.int .i64 pc, rg, .bool st⟩, .slice s5 rg.length c5)], by omega, by go_num, X6.out.set1 _, ?_, p1.keep (fun k hk hk' => Below.heap_setCell _ _ _ k (by show k ≠ w1.heap.size; omega)), ?_, ?_, ?_, by simp; omega⟩
       ·refine (HO.out.keepB (w' := w6) ?_ ?_).keep (fun k hk hk' => Below.heap_setCell _ _ _ k (by show k ≠ w1.heap.size; omega))
        ·intro k hk
         exact e5 k (World.ownsRow.lt HO.out.row _ hk).2 (ownType' HO.out.row HO2.out.row (by decide) hk)
        ·intro i x hx k hk
         exact e5 k (World.ownsRow.lt (HO.out.inn i x hx) _ hk).2 (ownType' (HO.out.inn i x hx) HO2.out.row (by decide) hk)
       ·intro i j x y kk hx hy hxk
        by_cases hj : j < L2.length
        ·rw [List.getElem?_append_left hj] at hy
         exact HSP.out i j x y kk hx hy hxk
        ·rw [List.getElem?_append_right (by omega)] at hy
         have hj0 : j - L2.length = 0 := by have := (List.getElem?_eq_some_iff.1 hy).1; simp at this; omega
         rw [hj0] at hy
         simp at hy
         rw [← hy]
         intro hyk
         have h1 := (World.ownsRow.lt (HO.out.inn i x hx) _ hxk).2
         have h2 := (World.ownsRow.lt O5.out _ hyk).1
         omega
       ·rw [List.map_append, HM2.out, List.take_add_one, HT.out, List.map_append]; rfl
       ·exact (HB.out.trans (((Below.drew (Below.refl wr.heap.size wr)).mono (by omega)).trans ((B5.out.mono (by omega)).trans (p3.mono (by omega))))).setCell (p := ⟨w1.heap.size, 1, none⟩) (Nat.le_refl _) _
      case measure => simp [intOf]; omega
    ·have hke : k = d.chs.length := by omega
     subst hke
     clear hlt hk
     have r1 := R1.out.below HB.out (by omega)
     have y0 := r1.c0
     have y1 := r1.c1
     have y2 := r1.c2
     have y3 := r1.f
     have RR : Hid (BoF (w.heap.size + 1) wr (.slice none 0 0) (.slice none 0 0) (.slice none 0 0)) := r1
     clear r1
     obtain ⟨t1, e1, hv1⟩ := ownSl HO.out.row
     obtain ⟨t2, e2, hv2⟩ := ownSl HO2.out.row
     subst hv1
     subst hv2
     go_wp2
     have W3 := ((RR.out.set0 (.slice t1 L1.length e1)).set1 (.slice t2 L2.length e2)).set2 (.slice s4 d.tr.length c4)
     have far : ∀ k, w.heap.size + 2 ≤ k → (((wr.setCell ⟨w.heap.size + 1, 0, none⟩ (.slice t1 L1.length e1)).setCell ⟨w.heap.size + 1, 1, none⟩ (.slice t2 L2.length e2)).setCell ⟨w.heap.size + 1, 2, none⟩ (.slice s4 d.tr.length c4)).heap[k]? = wr.heap[k]? := fun k hk => by rw [Below.heap_setCell _ _ _ k (by show k ≠ w.heap.size + 1; omega), Below.heap_setCell _ _ _ k (by show k ≠ w.heap.size + 1; omega), Below.heap_setCell _ _ _ k (by show k ≠ w.heap.size + 1; omega)]
     refine bodyPost_ret (v := .agg #[.slice t1 L1.length e1, .slice t2 L2.length e2, .slice s4 d.tr.length c4]) (by simp [results, Tryz.results22, go_sem, W3.c0, W3.c1, W3.c2]) rfl ⟨_, _, _, L1, L2, rfl, ⟨HM0.out, ?_, ?_, ?_, ?_, HSP.out⟩, ?_⟩
     ·have h := HM2.out; rw [List.take_length] at h; exact h
     ·exact (HO.out.keep (fun k hk _ => far k (by omega))).low (by omega)
     ·exact (HO2.out.keep (fun k hk _ => far k (by omega))).low (by omega)
     ·refine ownLow' (ownKeep' HO3.out (fun k hk => ?_)) (by omega)
      have h1 := World.ownsRow.lt HO3.out _ hk
      exact (far k h1.1).trans (HB.out.block k h1.2)
     ·exact (((KW.out.trans (HB.out.mono (by omega))).setCell (p := ⟨w.heap.size + 1, 0, none⟩) (by show w.heap.size ≤ w.heap.size + 1; omega) _).setCell (p := ⟨w.heap.size + 1, 1, none⟩) (by show w.heap.size ≤ w.heap.size + 1; omega) _).setCell (p := ⟨w.heap.size + 1, 2, none⟩) (by show w.heap.size ≤ w.heap.size + 1; omega) _
end
end Go.Proofs.YtpmopmgpheefeaaGreat
