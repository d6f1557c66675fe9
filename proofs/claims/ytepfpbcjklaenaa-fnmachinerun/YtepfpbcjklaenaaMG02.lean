/- Views: what the program and the specification make of rows of integers (copied, cut, learn, knows, Join, Knows). Conditions: at most 2^20 + 1 integers a row. ViewOk and MemoryOk, of the program and of the specification. Conditions: lists of at most 2^20 + 100. How the laws copy memories into new memory. Conditions: they are counted. -/
import Derived.Test.YtepfpbcjklaenaaMG00
import Derived.Test.YtepfpbcjklaenaaMG01
import Derived.Laws.CopyOwn
import Derived.Deep.QuietTactic
import Derived.BigQuiet
namespace Go.Proofs.Ytepfpbcjklaenaa
section
set_option linter.unusedSimpArgs false
set_option linter.unusedVariables false
set_option maxRecDepth 100000
open Go.RowKit
def mx (a b : Int) : Int := if a < b then b else a
def learnL : List Int → List Int → List Int
 | [], _ => []
 | a :: l, [] => a :: l
 | a :: l, b :: r => mx a b :: learnL l r
def joinL (a b : List Int) : List Int := List.zipWith mx a b
theorem learn_len : ∀ (l r : List Int), (learnL l r).length = l.length
 | [], r => by cases r <;> rfl
 | a :: l, [] => rfl
 | a :: l, b :: r => by simp [learnL, learn_len l r]
theorem learn_nil : ∀ l : List Int, learnL l [] = l
 | [] => rfl
 | a :: l => rfl
theorem learn_at : ∀ (k : Nat) (l r : List Int), k < l.length → (learnL l (r.take k)).getD k 0 = l.getD k 0
 | 0, a :: l, r, _ => by rw [List.take_zero, learn_nil]
 | k + 1, a :: l, [], _ => by rw [List.take_nil, learn_nil]
 | k + 1, a :: l, b :: r, h => by simpa [learnL] using learn_at k l r (by simpa using h)
theorem learn_step : ∀ (k : Nat) (l r : List Int), k < l.length → k < r.length → learnL l (r.take (k + 1)) = (learnL l (r.take k)).set k (mx (l.getD k 0) (r.getD k 0))
 | 0, a :: l, b :: r, _, _ => by simp [learnL, learn_nil]
 | k + 1, a :: l, b :: r, h, h' => by simpa [learnL] using learn_step k l r (by simpa using h) (by simpa using h')
theorem learn_long : ∀ (l r : List Int), l.length ≤ r.length → learnL l (r.take l.length) = learnL l r
 | [], r, _ => by simp [learnL]
 | a :: l, [], h => by simp at h
 | a :: l, b :: r, h => by simpa [learnL] using learn_long l r (by simpa using h)
theorem learn_join : ∀ (l r : List Int), l.length ≤ r.length → learnL l r = joinL l r
 | [], r, _ => by simp [learnL, joinL]
 | a :: l, [], h => by simp at h
 | a :: l, b :: r, h => by simp [learnL, joinL, learn_join l r (by simpa using h)]
theorem join_take : ∀ (l r : List Int), joinL (l.take (min l.length r.length)) r = joinL l r
 | [], r => by simp [joinL]
 | a :: l, [] => by simp [joinL]
 | a :: l, b :: r => by
  have h := join_take l r
  simp only [joinL] at h ⊢
  rw [List.length_cons, List.length_cons, Nat.add_min_add_right, List.take_succ_cons, List.zipWith_cons_cons, List.zipWith_cons_cons, h]
theorem join_cut (l r : List Int) (h : r.length ≤ l.length) : joinL (l.take r.length) r = joinL l r := by
 have := join_take l r
 rwa [Nat.min_eq_right h] at this
theorem join_cut' (l r : List Int) (h : l.length ≤ r.length) : joinL l (r.take l.length) = joinL l r := by
 simp only [joinL]
 apply List.ext_getElem? fun i => ?_
 rw [List.getElem?_zipWith, List.getElem?_zipWith]
 by_cases hi : i < l.length
 ·rw [List.getElem?_take, if_pos hi]
 ·rw [List.getElem?_eq_none (show l.length ≤ i by omega)]
theorem join_len (l r : List Int) : (joinL l r).length = min l.length r.length := by simp [joinL]
theorem join_step (k : Nat) (l r : List Int) (h : k < l.length) (h' : k < r.length) : joinL (l.take (k + 1)) (r.take (k + 1)) = joinL (l.take k) (r.take k) ++ [mx (l.getD k 0) (r.getD k 0)] := by
 rw [List.take_add_one, List.take_add_one, List.getElem?_eq_getElem h, List.getElem?_eq_getElem h']
 simp only [joinL, Option.toList_some]
 rw [List.zipWith_append (by simp; omega)]
 simp [List.getD_eq_getElem?_getD, h, h']
theorem mx_l1 (a b : Int) : (if a > b then a else b) = mx a b := by unfold mx; split <;> split <;> omega
theorem l1Max_any (a b : Int) (w : World) : Calls Try.prog 62 #[.int .i64 a, .int .i64 b] w fun e w' => e = .returned (.int .i64 (mx a b)) ∧ w' = w := by
 rw [← mx_l1]
 by_cases h : a > b
 ·rw [if_pos h]
  go_enter Try.func62, Try.ntmps62
  go_wp2
  go_ret
  exact ⟨rfl, rfl⟩
 ·rw [if_neg h]
  go_enter Try.func62, Try.ntmps62
  go_wp2
  go_ret
  exact ⟨rfl, rfl⟩
theorem mkView (n : Nat) (hn : n ≤ 1048577) (w : World) : (Instr.makeSlice 79 (.int .i64 (n : Int)) (.int .i64 (n : Int))).run Try.prog w = .ok (.slice (some ⟨w.heap.size, 0, none⟩) n n) (w.alloc (.cells (madeCells #[.int .i64 0] (n * 1)) 3)) := by
 have h := run_make (P := Try.prog) w 79 3 _ (.int .i64 0) Try.underlying79 rfl rfl .i64 .i64 n n (by omega) (Int.le_refl _) (by show (8 : Int) * _ ≤ _; omega) (by omega)
 have e : (Value.int .i64 0).cells = #[.int .i64 0] := rfl
 have e' : ∀ t, Try.prog.info? 3 = some t → t.size = 1 := by intro t h; cases h; rfl
 rw [e, e' _ rfl] at h
 simpa using h
theorem cells_row {w : World} {g o : Nat} {l : List Int} (hc : ∀ i, i < l.length → w.cell? ⟨g, o + i, none⟩ = some (.int .i64 (l.getD i 0))) : ∀ j u, (l.map (Value.int .i64))[j]? = some u → w.cell? (Addr.add ⟨g, o, none⟩ j) = some u := by
 intro j u hu
 rw [List.getElem?_map] at hu
 by_cases hj : j < l.length
 ·have e : (Addr.add ⟨g, o, none⟩ j) = ⟨g, o + j, none⟩ := by
   by_cases h : j = 0
   ·subst h; rfl
   ·simp [Addr.add, h]
  rw [e, hc j hj]
  simpa [List.getD_eq_getElem?_getD, List.getElem?_eq_getElem hj] using hu
 ·rw [List.getElem?_eq_none (by omega)] at hu
  simp at hu
theorem ownN_mk {w : World} {base g : Nat} {l : List Int} {cs : List Value} (hb : base ≤ g) (hl : l.length ≤ maxLen) (h : w.heap[g]? = some (.cells cs.toArray 3 (0, 0))) (e : cs = l.map (Value.int .i64)) : OwnN w base (.slice (some ⟨g, 0, none⟩) l.length l.length) l := by
 subst e
 exact ⟨by simp, .inr ⟨g, l.length, _, rfl, hb, h, Nat.le_refl _, hl, by simp, by simp [List.take_of_length_le]⟩⟩
set_option maxHeartbeats 1000000 in
theorem copied_any (s : Option Addr) (c lo hi : Nat) (l : List Int) (w : World) (h : IntsR w lo hi s l) (hB : hi ≤ w.heap.size) (hl : l.length ≤ 1048577) :
  Calls Try.prog 67 #[.slice s l.length c] w fun e w' => e = .returned (.slice (some ⟨w.heap.size, 0, none⟩) l.length l.length) ∧ OwnN w' w.heap.size (.slice (some ⟨w.heap.size, 0, none⟩) l.length l.length) l ∧ Below w.heap.size w w' := by
 have hmk := mkView l.length hl
 have HC : Hid (IntsR w lo hi s l) := h
 clear h
 go_enter Try.func67, Try.ntmps67
 go_wp2_with (refine wpList_copy_splice rfl _ _ 79 79 rfl 3 Try.underlying79 rfl _ s _ _ _ _ rfl rfl w.heap.size 0 (madeCells #[.int .i64 0] l.length).toList 3 (by rw [Array.toArray_toList]; exact heap_alloc_new _ _) (l.map (Value.int .i64)) (by simp) (fun hp => ⟨rfl, by obtain ⟨g, off, e, h1, h2, h3⟩ := HC.out.pos (by simpa using hp); exact ⟨_, e, cells_row fun i hi => (((Below.refl _ _).alloc (Nat.le_refl _) _).cell (p := ⟨g, off + i, none⟩) (by show g < w.heap.size; omega)).trans (h3 i hi)⟩⟩) (by simp [size_madeCells]) (fun v hv => by obtain ⟨z, -, rfl⟩ := List.mem_map.1 hv; rfl) w.heap.size w ((Below.refl _ _).alloc (Nat.le_refl _) _) (Nat.le_refl _) ?_; intro w2 HG2 hB2)
 go_ret
 refine ⟨rfl, ownN_mk (Nat.le_refl _) (by unfold maxLen; omega) HG2.out ?_, hB2⟩
 simp [splice, size_madeCells]
set_option maxHeartbeats 2000000 in
theorem learn_any (base g cap : Nat) (l : List Int) (s' : Option Addr) (c' lo hi : Nat) (l' : List Int) (w : World) (h : OwnN w base (.slice (some ⟨g, 0, none⟩) l.length cap) l) (h' : IntsR w lo hi s' l') (hh : hi ≤ w.heap.size) (hav : ∀ g' o', s' = some ⟨g', o', none⟩ → 0 < l'.length → g' ≠ g) (hl : l.length ≤ 1048577) (hl' : l'.length ≤ 1048577) :
  Calls Try.prog 96 #[.slice (some ⟨g, 0, none⟩) l.length cap, .slice s' l'.length c'] w fun e w' => e = .returned (.tuple #[]) ∧ OwnN w' base (.slice (some ⟨g, 0, none⟩) l.length cap) (learnL l l') ∧ Exc g (g + 1) w w' ∧ w'.heap.size = w.heap.size := by
 have H : Hid (OwnN w base (.slice (some ⟨g, 0, none⟩) l.length cap) l) := h
 have H' : Hid (IntsR w lo hi s' l') := h'
 clear h h'
 by_cases hc : l'.length < l.length
 ·have hlm : l'.length ≤ l.length := by omega
  go_enter Try.func96, Try.ntmps96
  go_wp2
  go_loopw [4, 10] (fun u i wr => ∃ k : Nat, k ≤ l'.length ∧ i = .int .i64 k ∧ OwnN wr base (.slice (some ⟨g, 0, none⟩) l.length cap) (learnL l (l'.take k)) ∧ Exc g (g + 1) w wr ∧ wr.heap.size = w.heap.size) (fun _ i _ => l'.length - (intOf i).toNat)
  case atStart => exact ⟨0, Nat.zero_le _, rfl, by rw [List.take_zero, learn_nil]; exact H.out, ⟨rfl, rfl, rfl, Nat.le_refl _, fun _ _ _ => rfl⟩, rfl⟩
  case round =>
   obtain ⟨k, hk, rfl, ho, hx, hz⟩ := hrel
   have HO : Hid (OwnN wr base (.slice (some ⟨g, 0, none⟩) l.length cap) (learnL l (l'.take k))) := ho
   have HX : Hid (Exc g (g + 1) w wr) := hx
   have HZ : Hid (wr.heap.size = w.heap.size) := hz
   clear ho hx hz
   by_cases hlt : k < l'.length
   ·have hk1 : k < l.length := by omega
    have hk2 : k < l'.length := by omega
    obtain ⟨g', o', e', q1, q2, q3⟩ := H'.out.pos (by omega)
    subst e'
    have hr : wr.ownsRow base 3 1 (.slice (some ⟨g, 0, none⟩) l.length cap) l.length ((learnL l (l'.take k)).map (Value.int .i64)) := by have h := HO.out; unfold OwnN at h; rw [learn_len] at h; exact h
    have hgw := (World.ownsRow.lt H.out g rfl).2
    have e1 : wr.cell? ⟨g, k, none⟩ = some (.int .i64 (l.getD k 0)) := by
     rw [World.ownsRow.cellAt hr k (by omega), List.getElem?_map, ← learn_at k l l' hk1, List.getD_eq_getElem?_getD, List.getElem?_eq_getElem (by rw [learn_len]; omega)]
     rfl
    have e2 : wr.cell? ⟨g', o' + k, none⟩ = some (.int .i64 (l'.getD k 0)) := (World.cell?_of_block (w := w) (HX.out.blk g' (by omega) (by have := hav g' o' rfl (by omega); omega))).trans (q3 k hk2)
    have hfz : wr.frozen? ⟨g, k, none⟩ = false := World.ownsRow.frozenAt hr k
    have HRo := (show Hid _ from hr)
    have ST : Hid (learnL l (l'.take (k + 1)) = (learnL l (l'.take k)).set k (mx (l.getD k 0) (l'.getD k 0))) := learn_step k l l' hk1 hk2
    generalize l.getD k 0 = x at e1 ST
    generalize l'.getD k 0 = y at e2 ST
    clear hr q3
    have b0 : (0 : Int) ≤ (k : Int) := by omega
    have b1 : (k : Int) < (l.length : Int) := by omega
    have b2 : (k : Int) < (l'.length : Int) := by omega
    obtain ⟨z, hz⟩ : ∃ z : Int, (if y > x then y else x) = z := ⟨_, rfl⟩
    have HZz : Hid (mx x y = z) := hz
    go_wp2
    go_region
    go_wp2
    go_roundw
    case rel =>
     have p5 := (World.ownsRow.stored HRo.out k (.int .i64 z)).1
     have e0 : ((learnL l (l'.take k)).map (Value.int .i64)).set k (.int .i64 z) = (learnL l (l'.take (k + 1))).map (Value.int .i64) := by rw [ST.out, HZz.out, List.map_set]
     rw [e0] at p5
     refine ⟨k + 1, by omega, by go_num, ?_, ?_, ?_⟩
     ·unfold OwnN
      rw [learn_len]
      exact p5
     ·obtain ⟨x1, x2, x3, x4, x5⟩ := HX.out
      exact ⟨x1, x2, x3, by show w.heap.size ≤ (wr.setCell _ _).heap.size; simpa using x4, fun j hj hc => (Below.heap_setCell _ _ _ j (fun e => by have : j = g := e; omega)).trans (x5 j hj hc)⟩
     ·show (wr.setCell _ _).heap.size = _
      simpa using HZ.out
    case measure => simp [intOf]; omega
   ·go_wp2
    go_end0
    have : k = l'.length := by omega
    subst this
    have ho := HO.out
    rw [List.take_length] at ho
    exact ⟨rfl, ho, HX.out, HZ.out⟩
 ·have hlm : l.length ≤ l'.length := by omega
  go_enter Try.func96, Try.ntmps96
  go_wp2
  go_loopw [4, 10] (fun u i wr => ∃ k : Nat, k ≤ l.length ∧ i = .int .i64 k ∧ OwnN wr base (.slice (some ⟨g, 0, none⟩) l.length cap) (learnL l (l'.take k)) ∧ Exc g (g + 1) w wr ∧ wr.heap.size = w.heap.size) (fun _ i _ => l.length - (intOf i).toNat)
  case atStart => exact ⟨0, Nat.zero_le _, rfl, by rw [List.take_zero, learn_nil]; exact H.out, ⟨rfl, rfl, rfl, Nat.le_refl _, fun _ _ _ => rfl⟩, rfl⟩
  case round =>
   obtain ⟨k, hk, rfl, ho, hx, hz⟩ := hrel
   have HO : Hid (OwnN wr base (.slice (some ⟨g, 0, none⟩) l.length cap) (learnL l (l'.take k))) := ho
   have HX : Hid (Exc g (g + 1) w wr) := hx
   have HZ : Hid (wr.heap.size = w.heap.size) := hz
   clear ho hx hz
   by_cases hlt : k < l.length
   ·have hk1 : k < l.length := by omega
    have hk2 : k < l'.length := by omega
    obtain ⟨g', o', e', q1, q2, q3⟩ := H'.out.pos (by omega)
    subst e'
    have hr : wr.ownsRow base 3 1 (.slice (some ⟨g, 0, none⟩) l.length cap) l.length ((learnL l (l'.take k)).map (Value.int .i64)) := by have h := HO.out; unfold OwnN at h; rw [learn_len] at h; exact h
    have hgw := (World.ownsRow.lt H.out g rfl).2
    have e1 : wr.cell? ⟨g, k, none⟩ = some (.int .i64 (l.getD k 0)) := by
     rw [World.ownsRow.cellAt hr k (by omega), List.getElem?_map, ← learn_at k l l' hk1, List.getD_eq_getElem?_getD, List.getElem?_eq_getElem (by rw [learn_len]; omega)]
     rfl
    have e2 : wr.cell? ⟨g', o' + k, none⟩ = some (.int .i64 (l'.getD k 0)) := (World.cell?_of_block (w := w) (HX.out.blk g' (by omega) (by have := hav g' o' rfl (by omega); omega))).trans (q3 k hk2)
    have hfz : wr.frozen? ⟨g, k, none⟩ = false := World.ownsRow.frozenAt hr k
    have HRo := (show Hid _ from hr)
    have ST : Hid (learnL l (l'.take (k + 1)) = (learnL l (l'.take k)).set k (mx (l.getD k 0) (l'.getD k 0))) := learn_step k l l' hk1 hk2
    generalize l.getD k 0 = x at e1 ST
    generalize l'.getD k 0 = y at e2 ST
    clear hr q3
    have b0 : (0 : Int) ≤ (k : Int) := by omega
    have b1 : (k : Int) < (l.length : Int) := by omega
    have b2 : (k : Int) < (l'.length : Int) := by omega
    obtain ⟨z, hz⟩ : ∃ z : Int, (if y > x then y else x) = z := ⟨_, rfl⟩
    have HZz : Hid (mx x y = z) := hz
    go_wp2
    go_region
    go_wp2
    go_roundw
    case rel =>
     have p5 := (World.ownsRow.stored HRo.out k (.int .i64 z)).1
     have e0 : ((learnL l (l'.take k)).map (Value.int .i64)).set k (.int .i64 z) = (learnL l (l'.take (k + 1))).map (Value.int .i64) := by rw [ST.out, HZz.out, List.map_set]
     rw [e0] at p5
     refine ⟨k + 1, by omega, by go_num, ?_, ?_, ?_⟩
     ·unfold OwnN
      rw [learn_len]
      exact p5
     ·obtain ⟨x1, x2, x3, x4, x5⟩ := HX.out
      exact ⟨x1, x2, x3, by show w.heap.size ≤ (wr.setCell _ _).heap.size; simpa using x4, fun j hj hc => (Below.heap_setCell _ _ _ j (fun e => by have : j = g := e; omega)).trans (x5 j hj hc)⟩
     ·show (wr.setCell _ _).heap.size = _
      simpa using HZ.out
    case measure => simp [intOf]; omega
   ·go_wp2
    go_end0
    have : k = l.length := by omega
    subst this
    have ho := HO.out
    have e9 := learn_long l l' hlm; rw [e9] at ho
    exact ⟨rfl, ho, HX.out, HZ.out⟩
theorem cut_any (s : Option Addr) (n c k : Nat) (w : World) (hk : k ≤ c) : Calls Try.prog 78 #[.slice s n c, .int .i64 k] w fun e w' => e = .returned (.slice s k k) ∧ w' = w := by
 have h0 : (0 : Int) ≤ (k : Int) := by omega
 have h1 : (k : Int) ≤ (c : Int) := by omega
 go_enter Try.func78, Try.ntmps78
 go_wp2
 go_ret
 exact ⟨rfl, rfl⟩
set_option maxHeartbeats 2000000 in
theorem specJoin_any (s s' : Option Addr) (c c' lo hi lo' hi' : Nat) (l l' : List Int) (w : World) (h : IntsR w lo hi s l) (h' : IntsR w lo' hi' s' l') (hl : l.length ≤ 1048577) (hl' : l'.length ≤ 1048577) (hB : hi ≤ w.heap.size) (hB' : hi' ≤ w.heap.size) :
  Calls Try.prog 85 #[.slice s l.length c, .slice s' l'.length c'] w fun e w' => ∃ v, e = .returned v ∧ OwnN w' w.heap.size v (joinL l l') ∧ Below w.heap.size w w' := by
 have H : Hid (IntsR w lo hi s l) := h
 have H' : Hid (IntsR w lo' hi' s' l') := h'
 clear h h'
 go_enter Try.func85, Try.ntmps85
 go_wp2
 go_loopw [5, 6] (fun u i wr => ∃ k : Nat, k ≤ l.length ∧ k ≤ l'.length ∧ i = .int .i64 k ∧ OwnN wr w.heap.size u (joinL (l.take k) (l'.take k)) ∧ Below w.heap.size w wr) (fun _ i _ => l'.length - (intOf i).toNat)
 case atStart => exact ⟨0, Nat.zero_le _, Nat.zero_le _, rfl, by simpa [joinL] using ownN_empty (Nat.le_refl _), (Below.refl _ _).alloc (Nat.le_refl _) _⟩
 case round =>
  obtain ⟨k, hk, hk', rfl, ho, hb⟩ := hrel
  have HO : Hid (OwnN wr w.heap.size u5 (joinL (l.take k) (l'.take k))) := ho
  have HB : Hid (Below w.heap.size w wr) := hb
  have hs := hb.size
  clear ho hb
  by_cases hlt : k < l.length
  ·by_cases hlt' : k < l'.length
   ·obtain ⟨g, o, e1, a1, a2, a3⟩ := H.out.pos (by omega)
    obtain ⟨g', o', e1', a1', a2', a3'⟩ := H'.out.pos (by omega)
    subst e1 e1'
    have e1 := (HB.out.cell (p := ⟨g, o + k, none⟩) (show g < _ by omega)).trans (a3 k hlt)
    have e2 := (HB.out.cell (p := ⟨g', o' + k, none⟩) (show g' < _ by omega)).trans (a3' k hlt')
    have ST : Hid (joinL (l.take (k + 1)) (l'.take (k + 1)) = joinL (l.take k) (l'.take k) ++ [mx (l.getD k 0) (l'.getD k 0)]) := join_step k l l' hlt hlt'
    have TL : Hid ((joinL (l.take k) (l'.take k)).length = k) := by show (joinL (l.take k) (l'.take k)).length = k; rw [join_len]; simp; omega
    clear a3 a3'
    generalize l.getD k 0 = x at e1 ST
    generalize l'.getD k 0 = y at e2 ST
    generalize joinL (l.take k) (l'.take k) = lk at HO ST TL
    generalize hz : mx x y = z at ST
    have HZ : Hid (mx x y = z) := hz
    clear hz
    have b0 : (0 : Int) ≤ (k : Int) := by omega
    have b1 : (k : Int) < (l.length : Int) := by omega
    have b2 : (k : Int) < (l'.length : Int) := by omega
    have gl : g < wr.heap.size := by omega
    have gl' : g' < wr.heap.size := by omega
    go_wp2_with fail
    go_region_held3 (fun w' => w'.cell? ⟨g, o + k, none⟩ = some (.int .i64 x) ∧ w'.cell? ⟨g', o' + k, none⟩ = some (.int .i64 y)) (go_keep) (first | (go_at_call 62; refine (l1Max_any x y _).mono ?_; rintro e w' ⟨rfl, rfl⟩; rw [HZ.out]) | (refine step_row rfl _ _ rfl _ w.heap.size u5 lk rfl (HO.out.alloc (.cells #[.int .i64 z] 3)) wr.heap.size 0 1 [z] rfl (fun i hi => by simp at hi; subst hi; simp [go_sem]) (by simp) (by have := TL.out; simp; omega) (by simp; omega) ?_; intro g1 cap1 w1 ho1 hb1 hg1 hg1'; have t1 := (hb1.cell (p := ⟨g, o + k, none⟩) (show g < w.heap.size by omega)).trans ((show _ = wr.cell? ⟨g, o + k, none⟩ by simp [go_sem, gl]).trans e1); have t2 := (hb1.cell (p := ⟨g', o' + k, none⟩) (show g' < w.heap.size by omega)).trans ((show _ = wr.cell? ⟨g', o' + k, none⟩ by simp [go_sem, gl']).trans e2)))
    have HO1 : Hid (OwnN w1 w.heap.size (.slice (some ⟨g1, 0, none⟩) (lk.length + 1) cap1) (lk ++ [z])) := ho1
    have HB1 : Hid (Below w.heap.size w w1) := HB.out.trans ((show Below w.heap.size wr (wr.alloc (.cells #[.int .i64 z] 3)).drew from Below.drew ((Below.refl _ _).alloc hs _)).trans hb1)
    clear ho1 hb1 t1 t2
    go_wp2
    go_roundw
    case rel => exact ⟨k + 1, by omega, by omega, by go_num, by rw [ST.out]; exact HO1.out, HB1.out⟩
    case measure => simp [intOf]; omega
   ·have e0 : joinL (l.take k) (l'.take k) = joinL l l' := by
     have : k = l'.length := by omega
     subst this
     rw [List.take_length]
     have := join_cut l l' hk
     exact this
    go_wp2
    go_ret
    exact ⟨_, rfl, by have := HO.out; rw [e0] at this; exact this, HB.out⟩
  ·have e0 : joinL (l.take k) (l'.take k) = joinL l l' := by
    have : k = l.length := by omega
    subst this
    rw [List.take_length]
    have := join_cut' l l' hk'
    exact this
   go_wp2
   go_ret
   exact ⟨_, rfl, by have := HO.out; rw [e0] at this; exact this, HB.out⟩
end
section
set_option linter.unusedSimpArgs false
set_option linter.unusedVariables false
set_option maxRecDepth 100000
open Go.RowKit
def viewB (m : List (List WD)) (l : List Int) : Bool := decide (l.length = m.length ∧ ∀ i, i < l.length → 0 ≤ l.getD i 0 ∧ l.getD i 0 < ((m.getD i []).length : Int))
def rowB (m : List (List WD)) (r : List WD) : Bool := decide (1 ≤ r.length ∧ r.length ≤ 4000) && r.all (fun x => viewB m x.vw)
def memB (m : List (List WD)) : Bool := decide (m.length = 24) && m.all (rowB m)
theorem all_take {α : Type} {p : α → Bool} {l : List α} {k : Nat} {x : α} (h : l[k]? = some x) : (l.take (k + 1)).all p = ((l.take k).all p && p x) := by
 rw [List.take_add_one, h, Option.toList_some, List.all_append]
 simp
theorem all_no {α : Type} {p : α → Bool} {l : List α} {k : Nat} {x : α} (h : l[k]? = some x) (hx : p x = false) : l.all p = false := by
 rw [List.all_eq_false]
 exact ⟨x, List.mem_of_getElem? h, by simp [hx]⟩
theorem belowQ {B : Nat} {w w' : World} (h : Below B w w') (n : Nat) : Below B w (w'.drewN n) := ⟨h.os, h.tape, h.output, h.size, h.block⟩
theorem isOneOfD_any (n c : Int) (w : World) : Calls Try.prog 51 #[.int .i64 n, .int .i64 c] w fun e w' => e = .returned (.bool (decide (0 ≤ n ∧ n < c))) ∧ w' = w := by
 by_cases h : 0 ≤ n
 ·by_cases h2 : n < c
  ·rw [decide_eq_true ⟨h, h2⟩]
   go_enter Try.func51, Try.ntmps51
   go_wp2
   go_ret
   exact ⟨by simp, rfl⟩
  ·rw [decide_eq_false (fun e => h2 e.2)]
   go_enter Try.func51, Try.ntmps51
   go_wp2
   go_ret
   exact ⟨by simp, rfl⟩
 ·rw [decide_eq_false (fun e => h e.1)]
  go_enter Try.func51, Try.ntmps51
  go_wp2
  go_ret
  exact ⟨by simp, rfl⟩
theorem l1InD_any (x a b : Int) (w : World) : Calls Try.prog 33 #[.int .i64 x, .int .i64 a, .int .i64 b] w fun e w' => e = .returned (.bool (decide (a ≤ x ∧ x ≤ b))) ∧ w' = w := by
 by_cases h : x ≥ a
 ·by_cases h2 : x ≤ b
  ·rw [decide_eq_true ⟨h, h2⟩]
   go_enter Try.func33, Try.ntmps33
   go_wp2
   go_ret
   exact ⟨by simp, rfl⟩
  ·rw [decide_eq_false (fun e => h2 e.2)]
   go_enter Try.func33, Try.ntmps33
   go_wp2
   go_ret
   exact ⟨by simp, rfl⟩
 ·rw [decide_eq_false (fun e => h e.1)]
  go_enter Try.func33, Try.ntmps33
  go_wp2
  go_ret
  exact ⟨by simp, rfl⟩
theorem l1InD_is (x lo hi : Int) (b : Bool) (w : World) (h : decide (lo ≤ x ∧ x ≤ hi) = b) : Calls Try.prog 33 #[.int .i64 x, .int .i64 lo, .int .i64 hi] w fun e w' => e = .returned (.bool b) ∧ w' = w := by
 rw [← h]
 exact l1InD_any x lo hi w
set_option maxHeartbeats 2000000 in
theorem fits_any (s s' : Option Addr) (c c' lo hi lo' hi' : Nat) (m : List (List WD)) (l : List Int) (w : World) (h : MemR w lo hi s m) (h' : IntsR w lo' hi' s' l) (hB : hi ≤ w.heap.size) (hB' : hi' ≤ w.heap.size) (hl : l.length ≤ 2000000) :
  Calls Try.prog 86 #[.slice s' l.length c', .agg #[.slice s m.length c]] w fun e w' => e = .returned (.bool (viewB m l)) ∧ Below w.heap.size w w' := by
 have H : Hid (MemR w lo hi s m) := h
 have H' : Hid (IntsR w lo' hi' s' l) := h'
 clear h h'
 by_cases hn : l.length = m.length
 ·have hne : ((l.length : Int) != (m.length : Int)) = false := by simp; omega
  have HN : Hid (l.length = m.length) := hn
  clear hn
  go_enter Try.func86, Try.ntmps86
  go_wp2
  obtain ⟨W, hW, bx, kb, zb⟩ := Bo1.new w (.slice s m.length c) 31
  rw [hW]
  clear hW
  have HW : Hid (MemR W lo hi s m) := H.out.keep (Keep.of_below kb hB)
  have HW' : Hid (IntsR W lo' hi' s' l) := H'.out.keep (Keep.of_below kb hB')
  have c0 := bx.c0
  have HKB : Hid (Below w.heap.size w W) := kb
  have z0 : w.heap.size < W.heap.size := by omega
  clear bx kb zb
  go_loop [5, 6, 15] (fun _ _ i => ∃ k : Nat, k ≤ l.length ∧ i = .int .i64 k ∧ ∀ j, j < k → 0 ≤ l.getD j 0 ∧ l.getD j 0 < ((m.getD j []).length : Int)) (fun _ _ i => l.length - (intOf i).toNat)
  case atStart => exact ⟨0, Nat.zero_le _, rfl, fun j hj => absurd hj (Nat.not_lt_zero _)⟩
  case round =>
   obtain ⟨k, hk, rfl, hj⟩ := hrel
   have HJ : Hid (∀ j, j < k → 0 ≤ l.getD j 0 ∧ l.getD j 0 < ((m.getD j []).length : Int)) := hj
   clear hj
   by_cases hlt : k < l.length
   ·have hlt' : k < m.length := by have := HN.out; omega
    obtain ⟨g', o', e1, a1, a2, a3⟩ := HW'.out.pos (by omega)
    obtain ⟨r, hr⟩ : ∃ r, m[k]? = some r := ⟨_, List.getElem?_eq_getElem hlt'⟩
    obtain ⟨g, o, s1, c1, e2, q1, q2, q3, -⟩ := HW.out.row hr
    subst e1 e2
    have f1 := a3 k hlt
    have HG : Hid (m.getD k [] = r) := by show m.getD k [] = r; rw [List.getD_eq_getElem?_getD, hr]; rfl
    clear a3 hr
    generalize hx : l.getD k 0 = x at f1
    have HX : Hid (l.getD k 0 = x) := hx
    clear hx
    generalize hrn : r.length = rn at q3
    have HRN : Hid (r.length = rn) := hrn
    clear hrn
    have b0 : (0 : Int) ≤ (k : Int) := by omega
    have b1 : (k : Int) < (l.length : Int) := by omega
    have b2 : (k : Int) < (m.length : Int) := by omega
    have io := isOneOfD_any x rn W
    by_cases hxy : 0 ≤ x ∧ x < (rn : Int)
    ·rw [decide_eq_true hxy] at io
     have HXY : Hid (0 ≤ x ∧ x < (rn : Int)) := hxy
     clear hxy
     go_wp2_with (go_at_call 51; refine io.mono ?_; rintro e w9 ⟨rfl, hw9⟩; subst w9)
     go_round
     case rel =>
      refine ⟨k + 1, by omega, by go_num, fun j hj => ?_⟩
      by_cases e : j < k
      ·exact HJ.out j e
      ·have : j = k := by omega
       subst this
       rw [HX.out, HG.out, HRN.out]
       exact HXY.out
     case measure => simp [intOf]; omega
    ·rw [decide_eq_false hxy] at io
     have HXY : Hid (¬ (0 ≤ x ∧ x < (rn : Int))) := hxy
     clear hxy
     go_wp2_with (go_at_call 51; refine io.mono ?_; rintro e w9 ⟨rfl, hw9⟩; subst w9)
     go_ret
     refine ⟨ret_bool' ?_, HKB.out⟩
     symm
     refine decide_eq_false (fun h => HXY.out ?_)
     have := h.2 k hlt
     rw [HX.out, HG.out, HRN.out] at this
     exact this
   ·go_wp2
    go_ret
    refine ⟨ret_bool' ?_, HKB.out⟩
    symm
    exact decide_eq_true ⟨HN.out, fun j hj => HJ.out j (by omega)⟩
 ·have hne : ((l.length : Int) != (m.length : Int)) = true := by simp; omega
  have HN : Hid (¬ l.length = m.length) := hn
  clear hn
  go_enter Try.func86, Try.ntmps86
  go_wp2
  go_ret
  refine ⟨ret_bool' ?_, (Below.refl _ _).alloc (Nat.le_refl _) _⟩
  symm
  exact decide_eq_false (fun h => HN.out h.1)
theorem implViewOk_any (s s' : Option Addr) (c c' lo hi lo' hi' : Nat) (m : List (List WD)) (l : List Int) (w : World) (h : MemR w lo hi s m) (h' : IntsR w lo' hi' s' l) (hB : hi ≤ w.heap.size) (hB' : hi' ≤ w.heap.size) (hl : l.length ≤ 2000000) :
  Calls Try.prog 73 #[.agg #[.slice s m.length c], .slice s' l.length c'] w fun e w' => e = .returned (.bool (viewB m l)) ∧ Below w.heap.size w w' := by
 have k1 : Below w.heap.size w (w.alloc (.cells #[.slice s m.length c] 31)) := (Below.refl _ _).alloc (Nat.le_refl _) _
 have H := fits_any s s' c c' lo hi lo' hi' m l (w.alloc (.cells #[.slice s m.length c] 31)) (h.keep (Keep.of_below k1 hB)) (h'.keep (Keep.of_below k1 hB')) (by simp; omega) (by simp; omega) hl
 have HK : Hid (Below w.heap.size w (w.alloc (.cells #[.slice s m.length c] 31))) := k1
 clear h h' k1
 go_enter Try.func73, Try.ntmps73
 go_wp2_with (go_at_call 86; refine H.mono ?_; rintro e w1 ⟨rfl, hb1⟩; have HB1 := (show Hid _ from hb1); clear hb1)
 go_ret
 exact ⟨rfl, HK.out.trans (HB1.out.mono (by simp))⟩
set_option maxHeartbeats 2000000 in
theorem specViewOk_any (s s' : Option Addr) (c c' lo hi lo' hi' : Nat) (m : List (List WD)) (l : List Int) (w : World) (h : MemR w lo hi s m) (h' : IntsR w lo' hi' s' l) (hB : hi ≤ w.heap.size) (hB' : hi' ≤ w.heap.size) (hl : l.length ≤ 2000000) (hm : ∀ (i : Nat) (r : List WD), m[i]? = some r → r.length ≤ 2000000) :
  Calls Try.prog 42 #[.agg #[.slice s m.length c], .slice s' l.length c'] w fun e w' => e = .returned (.bool (viewB m l)) ∧ Below w.heap.size w w' := by
 have H : Hid (MemR w lo hi s m) := h
 have H' : Hid (IntsR w lo' hi' s' l) := h'
 have HM : Hid (∀ (i : Nat) (r : List WD), m[i]? = some r → r.length ≤ 2000000) := hm
 clear h h' hm
 by_cases hn : l.length = m.length
 ·have hne : ((l.length : Int) != (m.length : Int)) = false := by simp; omega
  have HN : Hid (l.length = m.length) := hn
  clear hn
  go_enter Try.func42, Try.ntmps42
  go_wp2
  obtain ⟨W, hW, bx, kb, zb⟩ := Bo1.new w (.slice s m.length c) 31
  rw [hW]
  clear hW
  have HW : Hid (MemR W lo hi s m) := H.out.keep (Keep.of_below kb hB)
  have HW' : Hid (IntsR W lo' hi' s' l) := H'.out.keep (Keep.of_below kb hB')
  have c0 := bx.c0
  have HKB : Hid (Below w.heap.size w W) := kb
  have z9 : hi ≤ W.heap.size ∧ hi' ≤ W.heap.size := by omega
  obtain ⟨z9, z8⟩ := z9
  have z0 : w.heap.size < W.heap.size := by omega
  clear bx kb zb
  go_loopw [5] (fun i wr => ∃ k : Nat, k ≤ l.length ∧ i = .int .i64 k ∧ (∀ j, j < k → 0 ≤ l.getD j 0 ∧ l.getD j 0 < ((m.getD j []).length : Int)) ∧ Below W.heap.size W wr) (fun i _ => l.length - (intOf i).toNat)
  case atStart => exact ⟨0, Nat.zero_le _, rfl, fun j hj => absurd hj (Nat.not_lt_zero _), Below.refl _ _⟩
  case round =>
   obtain ⟨k, hk, rfl, hj, hbw⟩ := hrel
   have HBW : Hid (Below W.heap.size W wr) := hbw
   have c1 := (hbw.cell (p := ⟨w.heap.size, 0, none⟩) z0).trans c0
   have z1 := hbw.size
   have z2 : w.heap.size < wr.heap.size := by omega
   clear hbw
   have HJ : Hid (∀ j, j < k → 0 ≤ l.getD j 0 ∧ l.getD j 0 < ((m.getD j []).length : Int)) := hj
   clear hj
   by_cases hlt : k < l.length
   ·have hlt' : k < m.length := by have := HN.out; omega
    obtain ⟨g', o', e1, a1, a2, a3⟩ := (HW'.out.keep (Keep.of_below HBW.out (by omega))).pos (by omega)
    obtain ⟨r, hr⟩ : ∃ r, m[k]? = some r := ⟨_, List.getElem?_eq_getElem hlt'⟩
    obtain ⟨g, o, s1, c2, e2, q1, q2, q3, -⟩ := (HW.out.keep (Keep.of_below HBW.out (by omega))).row hr
    subst e1 e2
    have f1 := a3 k hlt
    have HG : Hid (m.getD k [] = r) := by show m.getD k [] = r; rw [List.getD_eq_getElem?_getD, hr]; rfl
    have hrb := HM.out k r hr
    clear a3 hr
    generalize hx : l.getD k 0 = x at f1
    have HX : Hid (l.getD k 0 = x) := hx
    clear hx
    generalize hrn : r.length = rn at q3 hrb
    have HRN : Hid (r.length = rn) := hrn
    clear hrn
    have b0 : (0 : Int) ≤ (k : Int) := by omega
    have b1 : (k : Int) < (l.length : Int) := by omega
    have b2 : (k : Int) < (m.length : Int) := by omega
    have hwp : IntKind.i64.wrap ((rn : Int) - 1) = (rn : Int) - 1 := Go.IntWalk.i64_in _ (by omega)
    by_cases hxy : 0 ≤ x ∧ x ≤ (rn : Int) - 1
    ·have HXY : Hid (0 ≤ x ∧ x < (rn : Int)) := ⟨hxy.1, by omega⟩
     have HD : Hid (decide ((0 : Int) ≤ x ∧ x ≤ IntKind.i64.wrap ((rn : Int) - 1)) = true) := by show decide _ = true; rw [hwp]; exact decide_eq_true hxy
     clear hxy hwp
     go_wp2_with fail
     go_quiet ((go_at_call 33; exact Calls.quiet_of_same (l1InD_is _ _ _ true _ HD.out)))
     go_wp2
     go_roundw
     case rel =>
      refine ⟨k + 1, by omega, by go_num, fun j hj => ?_, belowQ HBW.out nq⟩
      by_cases e : j < k
      ·exact HJ.out j e
      ·have : j = k := by omega
       subst this
       rw [HX.out, HG.out, HRN.out]
       exact HXY.out
     case measure => simp [intOf]; omega
    ·have HXY : Hid (¬ (0 ≤ x ∧ x < (rn : Int))) := fun h => hxy ⟨h.1, by omega⟩
     have HD : Hid (decide ((0 : Int) ≤ x ∧ x ≤ IntKind.i64.wrap ((rn : Int) - 1)) = false) := by show decide _ = false; rw [hwp]; exact decide_eq_false hxy
     clear hxy hwp
     go_wp2_with fail
     go_quiet ((go_at_call 33; exact Calls.quiet_of_same (l1InD_is _ _ _ false _ HD.out)))
     go_wp2
     go_ret
     refine ⟨ret_bool' ?_, HKB.out.trans ((belowQ HBW.out nq).mono (by omega))⟩
     symm
     refine decide_eq_false (fun h => HXY.out ?_)
     have := h.2 k hlt
     rw [HX.out, HG.out, HRN.out] at this
     exact this
   ·go_wp2
    go_ret
    refine ⟨ret_bool' ?_, HKB.out.trans (HBW.out.mono (by omega))⟩
    symm
    exact decide_eq_true ⟨HN.out, fun j hj => HJ.out j (by omega)⟩
 ·have hne : ((l.length : Int) != (m.length : Int)) = true := by simp; omega
  have HN : Hid (¬ l.length = m.length) := hn
  clear hn
  go_enter Try.func42, Try.ntmps42
  go_wp2
  go_ret
  refine ⟨ret_bool' ?_, (Below.refl _ _).alloc (Nat.le_refl _) _⟩
  symm
  exact decide_eq_false (fun h => HN.out h.1)
set_option maxHeartbeats 2000000 in
theorem writesOk_any (s s' : Option Addr) (c c' lo hi : Nat) (m : List (List WD)) (l : List WD) (w : World) (h : MemR w lo hi s m) (h' : WsR w lo hi s' l) (hB : hi ≤ w.heap.size) (hl : l.length + szV l ≤ 2000000) :
  Calls Try.prog 60 #[.agg #[.slice s m.length c], .slice s' l.length c'] w fun e w' => e = .returned (.bool (rowB m l)) ∧ Below w.heap.size w w' := by
 have H : Hid (MemR w lo hi s m) := h
 have H' : Hid (WsR w lo hi s' l) := h'
 have HV : Hid (∀ (i : Nat) (x : WD), l[i]? = some x → x.vw.length ≤ 2000000) := fun i x hx => by have := szV_at l i x hx; omega
 clear h h'
 by_cases h1 : (l.length : Int) < 1
 ·have HR : Hid (rowB m l = false) := by show rowB m l = false; unfold rowB; rw [decide_eq_false (by omega)]; rfl
  go_enter Try.func60, Try.ntmps60
  go_wp2
  go_ret
  exact ⟨ret_bool' HR.out.symm, (Below.refl _ _).alloc (Nat.le_refl _) _⟩
 by_cases h2 : (l.length : Int) > 4000
 ·have HR : Hid (rowB m l = false) := by show rowB m l = false; unfold rowB; rw [decide_eq_false (by omega)]; rfl
  go_enter Try.func60, Try.ntmps60
  go_wp2
  go_ret
  exact ⟨ret_bool' HR.out.symm, (Below.refl _ _).alloc (Nat.le_refl _) _⟩
 have HR : Hid (rowB m l = l.all (fun x => viewB m x.vw)) := by show rowB m l = _; unfold rowB; rw [decide_eq_true (by omega)]; rfl
 go_enter Try.func60, Try.ntmps60
 go_wp2
 obtain ⟨W, hW, bx, kb, zb⟩ := Bo1.new w (.slice s m.length c) 31
 rw [hW]
 clear hW
 have c0 := bx.c0
 have HKB : Hid (Below w.heap.size w W) := kb
 have z0 : w.heap.size < W.heap.size := by omega
 have z9 : hi ≤ W.heap.size := by omega
 have HW : Hid (MemR W lo hi s m) := H.out.keep (Keep.of_below kb hB)
 have HW' : Hid (WsR W lo hi s' l) := H'.out.keep (Keep.of_below kb hB)
 clear bx kb zb
 go_loopw [17] (fun i wr => ∃ k : Nat, k ≤ l.length ∧ i = .int .i64 k ∧ Hid ((l.take k).all (fun x => viewB m x.vw) = true) ∧ Below W.heap.size W wr) (fun i _ => l.length - (intOf i).toNat)
 case atStart => exact ⟨0, Nat.zero_le _, rfl, show _ = _ by simp, Below.refl _ _⟩
 case round =>
  obtain ⟨k, hk, rfl, HJ, hbw⟩ := hrel
  have HBW : Hid (Below W.heap.size W wr) := hbw
  have d0 := (hbw.cell (p := ⟨w.heap.size, 0, none⟩) z0).trans c0
  have z1 := hbw.size
  have z2 : w.heap.size < wr.heap.size := by omega
  clear hbw
  by_cases hlt : k < l.length
  ·obtain ⟨x, hx⟩ : ∃ x, l[k]? = some x := ⟨_, List.getElem?_eq_getElem hlt⟩
   obtain ⟨g, o, s1, c1, e1, q1, q2, q3, q4, q5⟩ := (HW'.out.keep (Keep.of_below HBW.out z9)).at hx
   subst e1
   have hv := HV.out k x hx
   have HI : Hid (IntsR wr lo hi s1 x.vw) := q5
   have HM : Hid (MemR wr lo hi s m) := HW.out.keep (Keep.of_below HBW.out z9)
   have HX : Hid (l[k]? = some x) := hx
   clear q5 hx
   have b0 : (0 : Int) ≤ (k : Int) := by omega
   have b1 : (k : Int) < (l.length : Int) := by omega
   have zg : g < wr.heap.size := by omega
   go_wp2_with fail
   have k2 : Below wr.heap.size wr (wr.alloc (.cells #[.int .i64 x.v, .slice s1 x.vw.length c1] 48)) := (Below.refl _ _).alloc (Nat.le_refl _) _
   refine (implViewOk_any s s1 c c1 lo hi lo hi m x.vw _ (HM.out.keep (Keep.of_below k2 (by omega))) (HI.out.keep (Keep.of_below k2 (by omega))) (by simp; omega) (by simp; omega) hv).mono ?_
   rintro e w2 ⟨rfl, hb2⟩
   have HB2 : Hid (Below W.heap.size W w2) := (HBW.out.trans (k2.mono z1)).trans (hb2.mono (by simp; omega))
   have HT : Hid ((l.take (k + 1)).all (fun x => viewB m x.vw) = ((l.take k).all (fun x => viewB m x.vw) && viewB m x.vw)) := all_take HX.out
   have HF : Hid (viewB m x.vw = false → l.all (fun x => viewB m x.vw) = false) := fun h => all_no HX.out h
   clear hb2 k2
   generalize viewB m x.vw = b at HT HF
   cases b
   ·go_wp2
    go_ret
    exact ⟨ret_bool' (HR.out.trans (by first | exact HF.out rfl | exact HF.out trivial)).symm, HKB.out.trans (HB2.out.mono (by omega))⟩
   ·go_wp2
    go_roundw
    case rel => exact ⟨k + 1, by omega, by go_num, show _ = _ by rw [HT.out, HJ.out]; rfl, HB2.out⟩
    case measure => simp [intOf]; omega
  ·go_wp2
   go_ret
   have : k = l.length := by omega
   subst this
   have hj := HJ.out
   rw [List.take_length] at hj
   exact ⟨ret_bool' (by rw [HR.out, hj]), HKB.out.trans (HBW.out.mono (by omega))⟩
set_option maxHeartbeats 2000000 in
theorem implMemoryOk_any (s : Option Addr) (c lo hi : Nat) (m : List (List WD)) (w : World) (h : MemR w lo hi s m) (hB : hi ≤ w.heap.size) (hl : m.length + szR m ≤ 2000000) :
  Calls Try.prog 39 #[.agg #[.slice s m.length c]] w fun e w' => e = .returned (.bool (memB m)) ∧ Below w.heap.size w w' := by
 have H : Hid (MemR w lo hi s m) := h
 have HV : Hid (∀ (i : Nat) (x : List WD), m[i]? = some x → x.length + szV x ≤ 2000000) := fun i x hx => by have := szR_at m i x hx; omega
 clear h
 by_cases h1 : m.length = 24
 ·have hne : ((m.length : Int) != 24) = false := by simp; omega
  have HR : Hid (memB m = m.all (rowB m)) := by show memB m = _; unfold memB; rw [decide_eq_true h1]; rfl
  have HN : Hid (m.length = 24) := h1
  clear h1
  go_enter Try.func39, Try.ntmps39
  go_wp2
  obtain ⟨W, hW, bx, kb, zb⟩ := Bo1.new w (.slice s m.length c) 31
  rw [hW]
  clear hW
  have c0 := bx.c0
  have HKB : Hid (Below w.heap.size w W) := kb
  have z0 : w.heap.size < W.heap.size := by omega
  have z9 : hi ≤ W.heap.size := by omega
  have HW : Hid (MemR W lo hi s m) := H.out.keep (Keep.of_below kb hB)
  clear bx kb zb
  go_loopw [4, 12] (fun _ i wr => ∃ k : Nat, k ≤ m.length ∧ i = .int .i64 k ∧ Hid ((m.take k).all (rowB m) = true) ∧ Below W.heap.size W wr) (fun _ i _ => m.length - (intOf i).toNat)
  case atStart => exact ⟨0, Nat.zero_le _, rfl, show _ = _ by simp, Below.refl _ _⟩
  case round =>
   obtain ⟨k, hk, rfl, HJ, hbw⟩ := hrel
   have HBW : Hid (Below W.heap.size W wr) := hbw
   have d0 := (hbw.cell (p := ⟨w.heap.size, 0, none⟩) z0).trans c0
   have z1 := hbw.size
   have z2 : w.heap.size < wr.heap.size := by omega
   clear hbw
   by_cases hlt : k < m.length
   ·obtain ⟨x, hx⟩ : ∃ x, m[k]? = some x := ⟨_, List.getElem?_eq_getElem hlt⟩
    obtain ⟨g, o, s1, c1, e1, q1, q2, q3, q5⟩ := (HW.out.keep (Keep.of_below HBW.out z9)).row hx
    subst e1
    have HVx : Hid (x.length + szV x ≤ 2000000) := HV.out k x hx
    have HI : Hid (WsR wr lo hi s1 x) := q5
    have HM : Hid (MemR wr lo hi (some ⟨g, o, none⟩) m) := HW.out.keep (Keep.of_below HBW.out z9)
    have HX : Hid (m[k]? = some x) := hx
    clear q5 hx
    have b0 : (0 : Int) ≤ (k : Int) := by omega
    have b1 : (k : Int) < (m.length : Int) := by omega
    have zg : g < wr.heap.size := by omega
    go_wp2_with fail
    refine (writesOk_any (some ⟨g, o, none⟩) s1 c c1 lo hi m x wr HM.out HI.out (by omega) HVx.out).mono ?_
    rintro e w2 ⟨rfl, hb2⟩
    have HB2 : Hid (Below W.heap.size W w2) := HBW.out.trans (hb2.mono z1)
    have HT : Hid ((m.take (k + 1)).all (rowB m) = ((m.take k).all (rowB m) && rowB m x)) := all_take HX.out
    have HF : Hid (rowB m x = false → m.all (rowB m) = false) := fun h => all_no HX.out h
    clear hb2
    generalize rowB m x = b at HT HF
    cases b
    ·go_wp2
     go_ret
     exact ⟨ret_bool' (HR.out.trans (by first | exact HF.out rfl | exact HF.out trivial)).symm, HKB.out.trans (HB2.out.mono (by omega))⟩
    ·go_wp2
     go_roundw
     case rel => exact ⟨k + 1, by omega, by go_num, show _ = _ by rw [HT.out, HJ.out]; rfl, HB2.out⟩
     case measure => simp [intOf]; omega
   ·go_wp2
    go_ret
    have : k = m.length := by omega
    subst this
    have hj := HJ.out
    rw [List.take_length] at hj
    exact ⟨ret_bool' (by rw [HR.out, hj]), HKB.out.trans (HBW.out.mono (by omega))⟩
 ·have hne : ((m.length : Int) != 24) = true := by simp; omega
  have HR : Hid (memB m = false) := by show memB m = false; unfold memB; rw [decide_eq_false h1]; rfl
  go_enter Try.func39, Try.ntmps39
  go_wp2
  go_ret
  exact ⟨ret_bool' HR.out.symm, (Below.refl _ _).alloc (Nat.le_refl _) _⟩
set_option maxHeartbeats 2000000 in
theorem specMemoryOk_any (s : Option Addr) (c lo hi : Nat) (m : List (List WD)) (w : World) (h : MemR w lo hi s m) (hB : hi ≤ w.heap.size) (hl : m.length + szR m ≤ 2000000) :
  Calls Try.prog 40 #[.agg #[.slice s m.length c]] w fun e w' => e = .returned (.bool (memB m)) ∧ Below w.heap.size w w' := by
 have H : Hid (MemR w lo hi s m) := h
 have HV : Hid (∀ (i : Nat) (x : List WD), m[i]? = some x → x.length + szV x ≤ 2000000) := fun i x hx => by have := szR_at m i x hx; omega
 clear h
 by_cases h1 : m.length = 24
 ·have hne : ((m.length : Int) != 24) = false := by simp; omega
  have HR : Hid (memB m = m.all (rowB m)) := by show memB m = _; unfold memB; rw [decide_eq_true h1]; rfl
  have HN : Hid (m.length = 24) := h1
  clear h1
  go_enter Try.func40, Try.ntmps40
  go_wp2
  obtain ⟨W, hW, bx, kb, zb⟩ := Bo1.new w (.slice s m.length c) 31
  rw [hW]
  clear hW
  have c0 := bx.c0
  have HKB : Hid (Below w.heap.size w W) := kb
  have z0 : w.heap.size < W.heap.size := by omega
  have z9 : hi ≤ W.heap.size := by omega
  have HW : Hid (MemR W lo hi s m) := H.out.keep (Keep.of_below kb hB)
  clear bx kb zb
  go_loopw [3, 4] (fun i _ wr => ∃ k : Nat, k ≤ 24 ∧ i = .int .i64 k ∧ Hid ((m.take k).all (rowB m) = true) ∧ Below W.heap.size W wr) (fun i _ _ => 24 - (intOf i).toNat)
  case atStart => exact ⟨0, Nat.zero_le _, rfl, show _ = _ by simp, Below.refl _ _⟩
  case round =>
   obtain ⟨k, hk, rfl, HJ, hbw⟩ := hrel
   have HBW : Hid (Below W.heap.size W wr) := hbw
   have d0 := (hbw.cell (p := ⟨w.heap.size, 0, none⟩) z0).trans c0
   have z1 := hbw.size
   have z2 : w.heap.size < wr.heap.size := by omega
   clear hbw
   by_cases hlt : k < 24
   ·obtain ⟨x, hx⟩ : ∃ x, m[k]? = some x := ⟨_, List.getElem?_eq_getElem (by have := HN.out; omega)⟩
    obtain ⟨g, o, s1, c1, e1, q1, q2, q3, q5⟩ := (HW.out.keep (Keep.of_below HBW.out z9)).row hx
    subst e1
    have hvx := HV.out k x hx
    have HVx : Hid (x.length + szV x ≤ 2000000) := hvx
    have HI : Hid (WsR W lo hi s1 x) := by
     obtain ⟨g2, o2, s2, c2, e2, r1, r2, r3, r5⟩ := HW.out.row hx
     injection e2 with e2; injection e2 with e2 e3 e4
     subst e2 e3
     have r4 := (HBW.out.cell (p := ⟨g, o + k, none⟩) (by show g < _; omega)).trans r3
     rw [q3] at r4
     injection r4 with r4; injection r4 with r4 r6 r7
     rw [r4]
     exact r5
    have HX : Hid (m[k]? = some x) := hx
    have HT : Hid ((m.take (k + 1)).all (rowB m) = ((m.take k).all (rowB m) && rowB m x)) := all_take hx
    have HF : Hid (rowB m x = false → m.all (rowB m) = false) := fun h => all_no HX.out h
    have hxl : x.length ≤ 2000000 := by omega
    clear q5 hx hvx
    have b0 : (0 : Int) ≤ (k : Int) := by omega
    have b1 : (k : Int) < 24 := by omega
    have b1' : (k : Int) < (m.length : Int) := by have := HN.out; omega
    have zg : g < wr.heap.size := by omega
    have io := l1InD_any (x.length : Int) 1 4000 wr
    by_cases hin : (1 : Int) ≤ x.length ∧ (x.length : Int) ≤ 4000
    ·rw [decide_eq_true hin] at io
     have HRX : Hid (rowB m x = x.all (fun x => viewB m x.vw)) := by show rowB m x = _; unfold rowB; rw [decide_eq_true (by omega)]; rfl
     clear hin
     have HIw : Hid (WsR wr lo hi s1 x) := HI.out.keep (Keep.of_below HBW.out z9)
     have HMw : Hid (MemR wr lo hi (some ⟨g, o, none⟩) m) := HW.out.keep (Keep.of_below HBW.out z9)
     go_wp2_with (go_at_call 33; refine io.mono ?_; rintro e w9 ⟨rfl, hw9⟩; subst w9)
     clear io
     rename World => wo
     go_loopw [4] (fun i wr => ∃ j : Nat, j ≤ x.length ∧ i = .int .i64 j ∧ Hid ((x.take j).all (fun x => viewB m x.vw) = true) ∧ Below wo.heap.size wo wr) (fun i _ => x.length - (intOf i).toNat)
     case atStart => exact ⟨0, Nat.zero_le _, rfl, show _ = _ by simp, Below.refl _ _⟩
     case round =>
      obtain ⟨j, hj, rfl, HJ2, hbo⟩ := hrel
      have HBO : Hid (Below wo.heap.size wo wr) := hbo
      have d1 := (hbo.cell (p := ⟨w.heap.size, 0, none⟩) z2).trans d0
      have d2 := (hbo.cell (p := ⟨g, o + k, none⟩) zg).trans q3
      have z3 := hbo.size
      have z4 : w.heap.size < wr.heap.size := by omega
      have z5 : g < wr.heap.size := by omega
      clear hbo
      by_cases hjt : j < x.length
      ·obtain ⟨y, hy⟩ : ∃ y, x[j]? = some y := ⟨_, List.getElem?_eq_getElem hjt⟩
       obtain ⟨g', o', s2, c2, e2, r1, r2, r3, r4, r5⟩ := (HIw.out.keep (Keep.of_below HBO.out (by omega))).at hy
       subst e2
       have HMr : Hid (MemR wr lo hi (some ⟨g, o, none⟩) m) := HMw.out.keep (Keep.of_below HBO.out (by omega))
       have HIr : Hid (IntsR wr lo hi s2 y.vw) := r5
       have hyl : y.vw.length ≤ 2000000 := by have := szV_at x j y hy; have := HVx.out; omega
       have HVr : Hid (∀ (i : Nat) (r : List WD), m[i]? = some r → r.length ≤ 2000000) := fun i r hr => by have := HV.out i r hr; omega
       have HT2 : Hid ((x.take (j + 1)).all (fun x => viewB m x.vw) = ((x.take j).all (fun x => viewB m x.vw) && viewB m y.vw)) := all_take hy
       have HF2 : Hid (viewB m y.vw = false → x.all (fun x => viewB m x.vw) = false) := fun h => all_no hy h
       clear r5 hy r3
       have z6 : g' < wr.heap.size := by omega
       have b2 : (0 : Int) ≤ (j : Int) := by omega
       have b3 : (j : Int) < (x.length : Int) := by omega
       go_wp2_with fail
       go_region_held3 (fun w' => w'.cell? ⟨w.heap.size, 0, none⟩ = some (.slice (some ⟨g, o, none⟩) m.length c) ∧ w'.cell? ⟨g, o + k, none⟩ = some (.slice (some ⟨g', o', none⟩) x.length c1) ∧ w'.cell? ⟨g', o' + j * 2 + 1, none⟩ = some (.slice s2 y.vw.length c2)) (go_keep) ((go_at_call 42; refine (specViewOk_any (some ⟨g, o, none⟩) s2 c c2 lo hi lo hi m y.vw wr.drew HMr.out HIr.out (by show hi ≤ wr.heap.size; omega) (by show hi ≤ wr.heap.size; omega) hyl HVr.out).mono ?_; rintro e w3 ⟨rfl, hb3⟩; have t1 := (hb3.cell (p := ⟨w.heap.size, 0, none⟩) (show w.heap.size < wr.heap.size by omega)).trans d1; have t2 := (hb3.cell (p := ⟨g, o + k, none⟩) (show g < wr.heap.size by omega)).trans d2; have t3 := (hb3.cell (p := ⟨g', o' + j * 2 + 1, none⟩) (show g' < wr.heap.size by omega)).trans r4))
       have HB3 : Hid (Below wo.heap.size wo w3) := HBO.out.trans ((show Below wr.heap.size wr w3 from ⟨hb3.os, hb3.tape, hb3.output, hb3.size, hb3.block⟩).mono z3)
       clear hb3 t1 t2 t3
       generalize viewB m y.vw = b at HT2 HF2
       cases b
       ·go_wp2
        go_ret
        exact ⟨ret_bool' (HR.out.trans (HF.out (HRX.out.trans (by first | exact HF2.out rfl | exact HF2.out trivial)))).symm, HKB.out.trans ((HBW.out.trans (HB3.out.mono (by omega))).mono (by omega))⟩
       ·go_wp2
        go_roundw
        case rel => exact ⟨j + 1, by omega, by go_num, show _ = _ by rw [HT2.out, HJ2.out]; rfl, HB3.out⟩
        case measure => simp [intOf]; omega
      ·go_wp2
       go_roundw
       case rel =>
        have : j = x.length := by omega
        subst this
        have hj := HJ2.out
        rw [List.take_length] at hj
        exact ⟨k + 1, by omega, by go_num, show _ = _ by rw [HT.out, HJ.out, HRX.out, hj]; rfl, HBW.out.trans (HBO.out.mono (by omega))⟩
       case measure => simp [intOf]; omega
    ·rw [decide_eq_false hin] at io
     have HRX : Hid (rowB m x = false) := by show rowB m x = _; unfold rowB; rw [decide_eq_false (by omega)]; rfl
     clear hin
     go_wp2_with (go_at_call 33; refine io.mono ?_; rintro e w9 ⟨rfl, hw9⟩; subst w9)
     go_ret
     exact ⟨ret_bool' (by rw [HR.out, HF.out HRX.out]), HKB.out.trans (HBW.out.mono (by omega))⟩
   ·go_wp2
    go_ret
    have hj := HJ.out
    rw [List.take_of_length_le (by have := HN.out; omega)] at hj
    exact ⟨ret_bool' (by rw [HR.out, hj]), HKB.out.trans (HBW.out.mono (by omega))⟩
 ·have hne : ((m.length : Int) != 24) = true := by simp; omega
  have HR : Hid (memB m = false) := by show memB m = false; unfold memB; rw [decide_eq_false h1]; rfl
  go_enter Try.func40, Try.ntmps40
  go_wp2
  go_ret
  exact ⟨ret_bool' HR.out.symm, (Below.refl _ _).alloc (Nat.le_refl _) _⟩
end
section
set_option linter.unusedSimpArgs false
set_option linter.unusedVariables false
set_option maxRecDepth 100000
open Go.RowKit
theorem mkW (n : Nat) (hn : n ≤ 1048576) (w : World) : (Instr.makeSlice 44 (.int .i64 (n : Int)) (.int .i64 (n : Int))).run Try.prog w = .ok (.slice (some ⟨w.heap.size, 0, none⟩) n n) (w.alloc (.cells (madeCells #[.int .i64 0, .slice none 0 0] (n * 2)) 48)) := by
 have h := run_make (P := Try.prog) w 44 48 _ (.agg #[.int .i64 0, .slice none 0 0]) Try.underlying44 rfl rfl .i64 .i64 n n (by omega) (Int.le_refl _) (by show (32 : Int) * _ ≤ _; omega) (by omega)
 have e : (Value.agg #[.int .i64 0, .slice none 0 0]).cells = #[.int .i64 0, .slice none 0 0] := rfl
 have e' : ∀ t, Try.prog.info? 48 = some t → t.size = 2 := by intro t h; cases h; rfl
 rw [e, e' _ rfl] at h
 simpa using h
theorem mkWW (n : Nat) (hn : n ≤ 1048576) (w : World) : (Instr.makeSlice 29 (.int .i64 (n : Int)) (.int .i64 (n : Int))).run Try.prog w = .ok (.slice (some ⟨w.heap.size, 0, none⟩) n n) (w.alloc (.cells (madeCells #[.slice none 0 0] (n * 1)) 44)) := by
 have h := run_make (P := Try.prog) w 29 44 _ (.slice none 0 0) Try.underlying29 rfl rfl .i64 .i64 n n (by omega) (Int.le_refl _) (by show (24 : Int) * _ ≤ _; omega) (by omega)
 have e : (Value.slice none 0 0).cells = #[.slice none 0 0] := rfl
 have e' : ∀ t, Try.prog.info? 44 = some t → t.size = 1 := by intro t h; cases h; rfl
 rw [e, e' _ rfl] at h
 simpa using h
end
end Go.Proofs.Ytepfpbcjklaenaa
