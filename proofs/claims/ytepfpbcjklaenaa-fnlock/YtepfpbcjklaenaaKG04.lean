/- Views: what the program and the specification make of rows of integers (copied, cut, learn, knows, Join, Knows). Conditions: at most 2^20 + 1 integers a row. Machines as they lie in memory: rows of code, of cores, a memory, notes; how great they are. No condition. laws.eqStep says yes of a step and itself; it makes memory, and turns none. No condition. -/
import Derived.Test.YtepfpbcjklaenaaKG00
import Derived.Test.YtepfpbcjklaenaaKG02
import Derived.Laws.CopyOwn
import Derived.Test.YtepfpbcjklaenaaKG01
import Derived.Test.YtepfpbcjklaenaaKC7Leaf
namespace Go.Proofs.Ytepfpbcjklaenaa
section
set_option linter.unusedSimpArgs false
set_option linter.unusedVariables false
set_option maxRecDepth 100000
open Go.RowKit
def mx (a b : Int) : Int := if a < b then b else a
def learnL : List Int → List Int → List Int
 | [], _ => []
 | a :: l, [] => a :: l
 | a :: l, b :: r => mx a b :: learnL l r
def joinL (a b : List Int) : List Int := List.zipWith mx a b
theorem learn_len : ∀ (l r : List Int), (learnL l r).length = l.length
 | [], r => by cases r <;> rfl
 | a :: l, [] => rfl
 | a :: l, b :: r => by simp [learnL, learn_len l r]
theorem learn_nil : ∀ l : List Int, learnL l [] = l
 | [] => rfl
 | a :: l => rfl
theorem learn_at : ∀ (k : Nat) (l r : List Int), k < l.length → (learnL l (r.take k)).getD k 0 = l.getD k 0
 | 0, a :: l, r, _ => by rw [List.take_zero, learn_nil]
 | k + 1, a :: l, [], _ => by rw [List.take_nil, learn_nil]
 | k + 1, a :: l, b :: r, h => by simpa [learnL] using learn_at k l r (by simpa using h)
theorem learn_step : ∀ (k : Nat) (l r : List Int), k < l.length → k < r.length → learnL l (r.take (k + 1)) = (learnL l (r.take k)).set k (mx (l.getD k 0) (r.getD k 0))
 | 0, a :: l, b :: r, _, _ => by simp [learnL, learn_nil]
 | k + 1, a :: l, b :: r, h, h' => by simpa [learnL] using learn_step k l r (by simpa using h) (by simpa using h')
theorem learn_long : ∀ (l r : List Int), l.length ≤ r.length → learnL l (r.take l.length) = learnL l r
 | [], r, _ => by simp [learnL]
 | a :: l, [], h => by simp at h
 | a :: l, b :: r, h => by simpa [learnL] using learn_long l r (by simpa using h)
theorem learn_join : ∀ (l r : List Int), l.length ≤ r.length → learnL l r = joinL l r
 | [], r, _ => by simp [learnL, joinL]
 | a :: l, [], h => by simp at h
 | a :: l, b :: r, h => by simp [learnL, joinL, learn_join l r (by simpa using h)]
theorem mkView (n : Nat) (hn : n ≤ 1048577) (w : World) : (Instr.makeSlice 79 (.int .i64 (n : Int)) (.int .i64 (n : Int))).run Try.prog w = .ok (.slice (some ⟨w.heap.size, 0, none⟩) n n) (w.alloc (.cells (madeCells #[.int .i64 0] (n * 1)) 3)) := by
 have h := run_make (P := Try.prog) w 79 3 _ (.int .i64 0) Try.underlying79 rfl rfl .i64 .i64 n n (by omega) (Int.le_refl _) (by show (8 : Int) * _ ≤ _; omega) (by omega)
 have e : (Value.int .i64 0).cells = #[.int .i64 0] := rfl
 have e' : ∀ t, Try.prog.info? 3 = some t → t.size = 1 := by intro t h; cases h; rfl
 rw [e, e' _ rfl] at h
 simpa using h
theorem cells_row {w : World} {g o : Nat} {l : List Int} (hc : ∀ i, i < l.length → w.cell? ⟨g, o + i, none⟩ = some (.int .i64 (l.getD i 0))) : ∀ j u, (l.map (Value.int .i64))[j]? = some u → w.cell? (Addr.add ⟨g, o, none⟩ j) = some u := by
 intro j u hu
 rw [List.getElem?_map] at hu
 by_cases hj : j < l.length
 ·have e : (Addr.add ⟨g, o, none⟩ j) = ⟨g, o + j, none⟩ := by
   by_cases h : j = 0
   ·subst h; rfl
   ·simp [Addr.add, h]
  rw [e, hc j hj]
  simpa [List.getD_eq_getElem?_getD, List.getElem?_eq_getElem hj] using hu
 ·rw [List.getElem?_eq_none (by omega)] at hu
  simp at hu
theorem ownN_mk {w : World} {base g : Nat} {l : List Int} {cs : List Value} (hb : base ≤ g) (hl : l.length ≤ maxLen) (h : w.heap[g]? = some (.cells cs.toArray 3 (0, 0))) (e : cs = l.map (Value.int .i64)) : OwnN w base (.slice (some ⟨g, 0, none⟩) l.length l.length) l := by
 subst e
 exact ⟨by simp, .inr ⟨g, l.length, _, rfl, hb, h, Nat.le_refl _, hl, by simp, by simp [List.take_of_length_le]⟩⟩
set_option maxHeartbeats 1000000 in
theorem copied_any (s : Option Addr) (c lo hi : Nat) (l : List Int) (w : World) (h : IntsR w lo hi s l) (hB : hi ≤ w.heap.size) (hl : l.length ≤ 1048577) :
  Calls Try.prog 67 #[.slice s l.length c] w fun e w' => e = .returned (.slice (some ⟨w.heap.size, 0, none⟩) l.length l.length) ∧ OwnN w' w.heap.size (.slice (some ⟨w.heap.size, 0, none⟩) l.length l.length) l ∧ Below w.heap.size w w' := by
 have hmk := mkView l.length hl
 have HC : Hid (IntsR w lo hi s l) := h
 clear h
 go_enter Try.func67, Try.ntmps67
 go_wp2_with (refine wpList_copy_splice rfl _ _ 79 79 rfl 3 Try.underlying79 rfl _ s _ _ _ _ rfl rfl w.heap.size 0 (madeCells #[.int .i64 0] l.length).toList 3 (by rw [Array.toArray_toList]; exact heap_alloc_new _ _) (l.map (Value.int .i64)) (by simp) (fun hp => ⟨rfl, by obtain ⟨g, off, e, h1, h2, h3⟩ := HC.out.pos (by simpa using hp); exact ⟨_, e, cells_row fun i hi => (((Below.refl _ _).alloc (Nat.le_refl _) _).cell (p := ⟨g, off + i, none⟩) (by show g < w.heap.size; omega)).trans (h3 i hi)⟩⟩) (by simp [size_madeCells]) (fun v hv => by obtain ⟨z, -, rfl⟩ := List.mem_map.1 hv; rfl) w.heap.size w ((Below.refl _ _).alloc (Nat.le_refl _) _) (Nat.le_refl _) ?_; intro w2 HG2 hB2)
 go_ret
 refine ⟨rfl, ownN_mk (Nat.le_refl _) (by unfold maxLen; omega) HG2.out ?_, hB2⟩
 simp [splice, size_madeCells]
set_option maxHeartbeats 2000000 in
theorem learn_any (base g cap : Nat) (l : List Int) (s' : Option Addr) (c' lo hi : Nat) (l' : List Int) (w : World) (h : OwnN w base (.slice (some ⟨g, 0, none⟩) l.length cap) l) (h' : IntsR w lo hi s' l') (hh : hi ≤ w.heap.size) (hav : ∀ g' o', s' = some ⟨g', o', none⟩ → 0 < l'.length → g' ≠ g) (hl : l.length ≤ 1048577) (hl' : l'.length ≤ 1048577) :
  Calls Try.prog 96 #[.slice (some ⟨g, 0, none⟩) l.length cap, .slice s' l'.length c'] w fun e w' => e = .returned (.tuple #[]) ∧ OwnN w' base (.slice (some ⟨g, 0, none⟩) l.length cap) (learnL l l') ∧ Exc g (g + 1) w w' ∧ w'.heap.size = w.heap.size := by
 have H : Hid (OwnN w base (.slice (some ⟨g, 0, none⟩) l.length cap) l) := h
 have H' : Hid (IntsR w lo hi s' l') := h'
 clear h h'
 by_cases hc : l'.length < l.length
 ·have hlm : l'.length ≤ l.length := by omega
  go_enter Try.func96, Try.ntmps96
  go_wp2
  go_loopw [4, 10] (fun u i wr => ∃ k : Nat, k ≤ l'.length ∧ i = .int .i64 k ∧ OwnN wr base (.slice (some ⟨g, 0, none⟩) l.length cap) (learnL l (l'.take k)) ∧ Exc g (g + 1) w wr ∧ wr.heap.size = w.heap.size) (fun _ i _ => l'.length - (intOf i).toNat)
  case atStart => exact ⟨0, Nat.zero_le _, rfl, by rw [List.take_zero, learn_nil]; exact H.out, ⟨rfl, rfl, rfl, Nat.le_refl _, fun _ _ _ => rfl⟩, rfl⟩
  case round =>
   obtain ⟨k, hk, rfl, ho, hx, hz⟩ := hrel
   have HO : Hid (OwnN wr base (.slice (some ⟨g, 0, none⟩) l.length cap) (learnL l (l'.take k))) := ho
   have HX : Hid (Exc g (g + 1) w wr) := hx
   have HZ : Hid (wr.heap.size = w.heap.size) := hz
   clear ho hx hz
   by_cases hlt : k < l'.length
   ·have hk1 : k < l.length := by omega
    have hk2 : k < l'.length := by omega
    obtain ⟨g', o', e', q1, q2, q3⟩ := H'.out.pos (by omega)
    subst e'
    have hr : wr.ownsRow base 3 1 (.slice (some ⟨g, 0, none⟩) l.length cap) l.length ((learnL l (l'.take k)).map (Value.int .i64)) := by have h := HO.out; unfold OwnN at h; rw [learn_len] at h; exact h
    have hgw := (World.ownsRow.lt H.out g rfl).2
    have e1 : wr.cell? ⟨g, k, none⟩ = some (.int .i64 (l.getD k 0)) := by
     rw [World.ownsRow.cellAt hr k (by omega), List.getElem?_map, ← learn_at k l l' hk1, List.getD_eq_getElem?_getD, List.getElem?_eq_getElem (by rw [learn_len]; omega)]
     rfl
    have e2 : wr.cell? ⟨g', o' + k, none⟩ = some (.int .i64 (l'.getD k 0)) := (World.cell?_of_block (w := w) (HX.out.blk g' (by omega) (by have := hav g' o' rfl (by omega); omega))).trans (q3 k hk2)
    have hfz : wr.frozen? ⟨g, k, none⟩ = false := World.ownsRow.frozenAt hr k
    have HRo := (show Hid _ from hr)
    have ST : Hid (learnL l (l'.take (k + 1)) = (learnL l (l'.take k)).set k (mx (l.getD k 0) (l'.getD k 0))) := learn_step k l l' hk1 hk2
    generalize l.getD k 0 = x at e1 ST
    generalize l'.getD k 0 = y at e2 ST
    clear hr q3
    have b0 : (0 : Int) ≤ (k : Int) := by omega
    have b1 : (k : Int) < (l.length : Int) := by omega
    have b2 : (k : Int) < (l'.length : Int) := by omega
    obtain ⟨z, hz⟩ : ∃ z : Int, (if y > x then y else x) = z := ⟨_, rfl⟩
    have HZz : Hid (mx x y = z) := hz
    go_wp2
    go_region
    go_wp2
    go_roundw
    case rel =>
     have p5 := (World.ownsRow.stored HRo.out k (.int .i64 z)).1
     have e0 : ((learnL l (l'.take k)).map (Value.int .i64)).set k (.int .i64 z) = (learnL l (l'.take (k + 1))).map (Value.int .i64) := by rw [ST.out, HZz.out, List.map_set]
     rw [e0] at p5
     refine ⟨k + 1, by omega, by go_num, ?_, ?_, ?_⟩
     ·unfold OwnN
      rw [learn_len]
      exact p5
     ·obtain ⟨x1, x2, x3, x4, x5⟩ := HX.out
      exact ⟨x1, x2, x3, by show w.heap.size ≤ (wr.setCell _ _).heap.size; simpa using x4, fun j hj hc => (Below.heap_setCell _ _ _ j (fun e => by have : j = g := e; omega)).trans (x5 j hj hc)⟩
     ·show (wr.setCell _ _).heap.size = _
      simpa using HZ.out
    case measure => simp [intOf]; omega
   ·go_wp2
    go_end0
    have : k = l'.length := by omega
    subst this
    have ho := HO.out
    rw [List.take_length] at ho
    exact ⟨rfl, ho, HX.out, HZ.out⟩
 ·have hlm : l.length ≤ l'.length := by omega
  go_enter Try.func96, Try.ntmps96
  go_wp2
  go_loopw [4, 10] (fun u i wr => ∃ k : Nat, k ≤ l.length ∧ i = .int .i64 k ∧ OwnN wr base (.slice (some ⟨g, 0, none⟩) l.length cap) (learnL l (l'.take k)) ∧ Exc g (g + 1) w wr ∧ wr.heap.size = w.heap.size) (fun _ i _ => l.length - (intOf i).toNat)
  case atStart => exact ⟨0, Nat.zero_le _, rfl, by rw [List.take_zero, learn_nil]; exact H.out, ⟨rfl, rfl, rfl, Nat.le_refl _, fun _ _ _ => rfl⟩, rfl⟩
  case round =>
   obtain ⟨k, hk, rfl, ho, hx, hz⟩ := hrel
   have HO : Hid (OwnN wr base (.slice (some ⟨g, 0, none⟩) l.length cap) (learnL l (l'.take k))) := ho
   have HX : Hid (Exc g (g + 1) w wr) := hx
   have HZ : Hid (wr.heap.size = w.heap.size) := hz
   clear ho hx hz
   by_cases hlt : k < l.length
   ·have hk1 : k < l.length := by omega
    have hk2 : k < l'.length := by omega
    obtain ⟨g', o', e', q1, q2, q3⟩ := H'.out.pos (by omega)
    subst e'
    have hr : wr.ownsRow base 3 1 (.slice (some ⟨g, 0, none⟩) l.length cap) l.length ((learnL l (l'.take k)).map (Value.int .i64)) := by have h := HO.out; unfold OwnN at h; rw [learn_len] at h; exact h
    have hgw := (World.ownsRow.lt H.out g rfl).2
    have e1 : wr.cell? ⟨g, k, none⟩ = some (.int .i64 (l.getD k 0)) := by
     rw [World.ownsRow.cellAt hr k (by omega), List.getElem?_map, ← learn_at k l l' hk1, List.getD_eq_getElem?_getD, List.getElem?_eq_getElem (by rw [learn_len]; omega)]
     rfl
    have e2 : wr.cell? ⟨g', o' + k, none⟩ = some (.int .i64 (l'.getD k 0)) := (World.cell?_of_block (w := w) (HX.out.blk g' (by omega) (by have := hav g' o' rfl (by omega); omega))).trans (q3 k hk2)
    have hfz : wr.frozen? ⟨g, k, none⟩ = false := World.ownsRow.frozenAt hr k
    have HRo := (show Hid _ from hr)
    have ST : Hid (learnL l (l'.take (k + 1)) = (learnL l (l'.take k)).set k (mx (l.getD k 0) (l'.getD k 0))) := learn_step k l l' hk1 hk2
    generalize l.getD k 0 = x at e1 ST
    generalize l'.getD k 0 = y at e2 ST
    clear hr q3
    have b0 : (0 : Int) ≤ (k : Int) := by omega
    have b1 : (k : Int) < (l.length : Int) := by omega
    have b2 : (k : Int) < (l'.length : Int) := by omega
    obtain ⟨z, hz⟩ : ∃ z : Int, (if y > x then y else x) = z := ⟨_, rfl⟩
    have HZz : Hid (mx x y = z) := hz
    go_wp2
    go_region
    go_wp2
    go_roundw
    case rel =>
     have p5 := (World.ownsRow.stored HRo.out k (.int .i64 z)).1
     have e0 : ((learnL l (l'.take k)).map (Value.int .i64)).set k (.int .i64 z) = (learnL l (l'.take (k + 1))).map (Value.int .i64) := by rw [ST.out, HZz.out, List.map_set]
     rw [e0] at p5
     refine ⟨k + 1, by omega, by go_num, ?_, ?_, ?_⟩
     ·unfold OwnN
      rw [learn_len]
      exact p5
     ·obtain ⟨x1, x2, x3, x4, x5⟩ := HX.out
      exact ⟨x1, x2, x3, by show w.heap.size ≤ (wr.setCell _ _).heap.size; simpa using x4, fun j hj hc => (Below.heap_setCell _ _ _ j (fun e => by have : j = g := e; omega)).trans (x5 j hj hc)⟩
     ·show (wr.setCell _ _).heap.size = _
      simpa using HZ.out
    case measure => simp [intOf]; omega
   ·go_wp2
    go_end0
    have : k = l.length := by omega
    subst this
    have ho := HO.out
    have e9 := learn_long l l' hlm; rw [e9] at ho
    exact ⟨rfl, ho, HX.out, HZ.out⟩
theorem cut_any (s : Option Addr) (n c k : Nat) (w : World) (hk : k ≤ c) : Calls Try.prog 78 #[.slice s n c, .int .i64 k] w fun e w' => e = .returned (.slice s k k) ∧ w' = w := by
 have h0 : (0 : Int) ≤ (k : Int) := by omega
 have h1 : (k : Int) ≤ (c : Int) := by omega
 go_enter Try.func78, Try.ntmps78
 go_wp2
 go_ret
 exact ⟨rfl, rfl⟩
end
section
set_option linter.unusedSimpArgs false
set_option linter.unusedVariables false
set_option maxRecDepth 100000
open Go.RowKit
def InsR (w : World) (lo hi : Nat) (s : Option Addr) (l : List I5) : Prop :=
 l = [] ∨ ∃ g off, s = some ⟨g, off, none⟩ ∧ lo ≤ g ∧ g < hi ∧ ∀ i, i < l.length → At5 w g (off + i * 5) (l.getD i z5)
theorem At5.of_keep {w w' : World} {lo hi g off : Nat} {x : I5} (h : At5 w g off x) (hb : Keep lo hi w w') (h1 : lo ≤ g) (h2 : g < hi) : At5 w' g off x :=
 ⟨(hb.cell h1 h2).trans h.1, (hb.cell h1 h2).trans h.2.1, (hb.cell h1 h2).trans h.2.2.1, (hb.cell h1 h2).trans h.2.2.2.1, (hb.cell h1 h2).trans h.2.2.2.2⟩
theorem InsR.keep {w w' : World} {lo hi : Nat} {s : Option Addr} {l : List I5} (h : InsR w lo hi s l) (hb : Keep lo hi w w') : InsR w' lo hi s l := by
 rcases h with h | ⟨g, o, hs, h1, h2, hc⟩
 ·exact .inl h
 ·exact .inr ⟨g, o, hs, h1, h2, fun i hi => (hc i hi).of_keep hb h1 h2⟩
theorem InsR.mono {w : World} {lo hi lo' hi' : Nat} {s : Option Addr} {l : List I5} (h : InsR w lo hi s l) (h1 : lo' ≤ lo) (h2 : hi ≤ hi') : InsR w lo' hi' s l := by
 rcases h with h | ⟨g, o, hs, a, b, hc⟩
 ·exact .inl h
 ·exact .inr ⟨g, o, hs, by omega, by omega, hc⟩
theorem InsR.insB {w : World} {lo hi : Nat} {s : Option Addr} {l : List I5} (h : InsR w lo hi s l) : InsB w hi s l := by
 rcases h with h | ⟨g, o, hs, a, b, hc⟩
 ·exact .inl h
 ·exact .inr ⟨g, o, hs, b, hc⟩
def CR (w : World) (lo hi g off : Nat) (l : List I5) : Prop := ∃ s c, w.cell? ⟨g, off, none⟩ = some (.slice s l.length c) ∧ InsR w lo hi s l
def CsR (w : World) (lo hi : Nat) (s : Option Addr) (l : List (List I5)) : Prop :=
 l = [] ∨ ∃ g off, s = some ⟨g, off, none⟩ ∧ lo ≤ g ∧ g < hi ∧ ∀ (i : Nat) (x : List I5), l[i]? = some x → CR w lo hi g (off + i) x
structure KD where
 pc : Int
 regs : List Int
 vw : List Int
 st : Int
def KR (w : World) (lo hi g off : Nat) (k : KD) : Prop :=
 ∃ s c s' c', w.cell? ⟨g, off, none⟩ = some (.int .i64 k.pc) ∧ w.cell? ⟨g, off + 1, none⟩ = some (.slice s k.regs.length c) ∧ w.cell? ⟨g, off + 2, none⟩ = some (.slice s' k.vw.length c') ∧ w.cell? ⟨g, off + 3, none⟩ = some (.int .i64 k.st) ∧ IntsR w lo hi s k.regs ∧ IntsR w lo hi s' k.vw
def KsR (w : World) (lo hi : Nat) (s : Option Addr) (l : List KD) : Prop :=
 l = [] ∨ ∃ g off, s = some ⟨g, off, none⟩ ∧ lo ≤ g ∧ g < hi ∧ ∀ (i : Nat) (k : KD), l[i]? = some k → KR w lo hi g (off + i * 4) k
structure MD where
 codes : List (List I5)
 cores : List KD
 mem : List (List WD)
 tr : List ND
def MaR (w : World) (lo hi : Nat) (s1 s2 s3 s4 : Option Addr) (d : MD) : Prop := CsR w lo hi s1 d.codes ∧ KsR w lo hi s2 d.cores ∧ MemR w lo hi s3 d.mem ∧ NtsR w lo hi s4 d.tr
theorem CR.keep {w w' : World} {lo hi g off : Nat} {l : List I5} (h : CR w lo hi g off l) (hb : Keep lo hi w w') (hc : ∀ j, w'.cell? ⟨g, j, none⟩ = w.cell? ⟨g, j, none⟩) : CR w' lo hi g off l := by
 obtain ⟨s, c, h1, h2⟩ := h
 exact ⟨s, c, (hc _).trans h1, h2.keep hb⟩
theorem CR.mono {w : World} {lo hi lo' hi' g off : Nat} {l : List I5} (h : CR w lo hi g off l) (p : lo' ≤ lo) (q : hi ≤ hi') : CR w lo' hi' g off l := by
 obtain ⟨s, c, h1, h2⟩ := h
 exact ⟨s, c, h1, h2.mono p q⟩
theorem KR.keep {w w' : World} {lo hi g off : Nat} {k : KD} (h : KR w lo hi g off k) (hb : Keep lo hi w w') (hc : ∀ j, w'.cell? ⟨g, j, none⟩ = w.cell? ⟨g, j, none⟩) : KR w' lo hi g off k := by
 obtain ⟨s, c, s', c', h1, h2, h3, h4, h5, h6⟩ := h
 exact ⟨s, c, s', c', (hc _).trans h1, (hc _).trans h2, (hc _).trans h3, (hc _).trans h4, h5.keep hb, h6.keep hb⟩
theorem KR.mono {w : World} {lo hi lo' hi' g off : Nat} {k : KD} (h : KR w lo hi g off k) (p : lo' ≤ lo) (q : hi ≤ hi') : KR w lo' hi' g off k := by
 obtain ⟨s, c, s', c', h1, h2, h3, h4, h5, h6⟩ := h
 exact ⟨s, c, s', c', h1, h2, h3, h4, h5.mono p q, h6.mono p q⟩
theorem CsR.keep {w w' : World} {lo hi : Nat} {s : Option Addr} {l : List (List I5)} (h : CsR w lo hi s l) (hb : Keep lo hi w w') : CsR w' lo hi s l := by
 rcases h with h | ⟨g, o, hs, h1, h2, hc⟩
 ·exact .inl h
 ·exact .inr ⟨g, o, hs, h1, h2, fun i r hi => (hc i r hi).keep hb (fun j => hb.cell h1 h2)⟩
theorem CsR.mono {w : World} {lo hi lo' hi' : Nat} {s : Option Addr} {l : List (List I5)} (h : CsR w lo hi s l) (p : lo' ≤ lo) (q : hi ≤ hi') : CsR w lo' hi' s l := by
 rcases h with h | ⟨g, o, hs, h1, h2, hc⟩
 ·exact .inl h
 ·exact .inr ⟨g, o, hs, by omega, by omega, fun i r hi => (hc i r hi).mono p q⟩
theorem KsR.keep {w w' : World} {lo hi : Nat} {s : Option Addr} {l : List (KD)} (h : KsR w lo hi s l) (hb : Keep lo hi w w') : KsR w' lo hi s l := by
 rcases h with h | ⟨g, o, hs, h1, h2, hc⟩
 ·exact .inl h
 ·exact .inr ⟨g, o, hs, h1, h2, fun i r hi => (hc i r hi).keep hb (fun j => hb.cell h1 h2)⟩
theorem KsR.mono {w : World} {lo hi lo' hi' : Nat} {s : Option Addr} {l : List (KD)} (h : KsR w lo hi s l) (p : lo' ≤ lo) (q : hi ≤ hi') : KsR w lo' hi' s l := by
 rcases h with h | ⟨g, o, hs, h1, h2, hc⟩
 ·exact .inl h
 ·exact .inr ⟨g, o, hs, by omega, by omega, fun i r hi => (hc i r hi).mono p q⟩
theorem CsR.at {w : World} {lo hi : Nat} {s : Option Addr} {l : List (List I5)} (h : CsR w lo hi s l) {i : Nat} {x : List I5} (hi' : l[i]? = some x) : ∃ g off s' c', s = some ⟨g, off, none⟩ ∧ lo ≤ g ∧ g < hi ∧ w.cell? ⟨g, off + i, none⟩ = some (.slice s' x.length c') ∧ InsR w lo hi s' x := by
 rcases h with rfl | ⟨g, o, hs, a, b, hc⟩
 ·simp at hi'
 ·obtain ⟨s', c', e1, e2⟩ := hc i x hi'
  exact ⟨g, o, s', c', hs, a, b, e1, e2⟩
theorem KsR.at {w : World} {lo hi : Nat} {s : Option Addr} {l : List KD} (h : KsR w lo hi s l) {i : Nat} {x : KD} (hi' : l[i]? = some x) : ∃ g off s1 c1 s2 c2, s = some ⟨g, off, none⟩ ∧ lo ≤ g ∧ g < hi ∧ w.cell? ⟨g, off + i * 4, none⟩ = some (.int .i64 x.pc) ∧ w.cell? ⟨g, off + i * 4 + 1, none⟩ = some (.slice s1 x.regs.length c1) ∧ w.cell? ⟨g, off + i * 4 + 2, none⟩ = some (.slice s2 x.vw.length c2) ∧ w.cell? ⟨g, off + i * 4 + 3, none⟩ = some (.int .i64 x.st) ∧ IntsR w lo hi s1 x.regs ∧ IntsR w lo hi s2 x.vw := by
 rcases h with rfl | ⟨g, o, hs, a, b, hc⟩
 ·simp at hi'
 ·obtain ⟨s', c', s2, c2, e⟩ := hc i x hi'
  exact ⟨g, o, s', c', s2, c2, hs, a, b, e⟩
theorem MaR.keep {w w' : World} {lo hi : Nat} {s1 s2 s3 s4 : Option Addr} {d : MD} (h : MaR w lo hi s1 s2 s3 s4 d) (hb : Keep lo hi w w') : MaR w' lo hi s1 s2 s3 s4 d := ⟨h.1.keep hb, h.2.1.keep hb, h.2.2.1.keep hb, h.2.2.2.keep hb⟩
/- how great they are -/
def szC : List (List I5) → Nat
 | [] => 0
 | x :: r => x.length + szC r
def szK : List KD → Nat
 | [] => 0
 | x :: r => x.regs.length + x.vw.length + szK r
theorem szC_take : ∀ (l : List (List I5)) (k : Nat) (x : List I5), l[k]? = some x → szC (l.take (k + 1)) = szC (l.take k) + x.length
 | [], k, x, h => by simp at h
 | y :: r, 0, x, h => by simp at h; subst h; simp [szC]
 | y :: r, k + 1, x, h => by
  have := szC_take r k x (by simpa using h)
  simp [szC, this]
  omega
theorem szK_take : ∀ (l : List KD) (k : Nat) (x : KD), l[k]? = some x → szK (l.take (k + 1)) = szK (l.take k) + (x.regs.length + x.vw.length)
 | [], k, x, h => by simp at h
 | y :: r, 0, x, h => by simp at h; subst h; simp [szK]
 | y :: r, k + 1, x, h => by
  have := szK_take r k x (by simpa using h)
  simp [szK, this]
  omega
theorem szC_at : ∀ (l : List (List I5)) (k : Nat) (x : List I5), l[k]? = some x → x.length ≤ szC l
 | [], k, x, h => by simp at h
 | y :: r, 0, x, h => by simp at h; subst h; simp [szC]
 | y :: r, k + 1, x, h => by
  have := szC_at r k x (by simpa using h)
  simp [szC]
  omega
theorem szK_at : ∀ (l : List KD) (k : Nat) (x : KD), l[k]? = some x → x.regs.length + x.vw.length ≤ szK l
 | [], k, x, h => by simp at h
 | y :: r, 0, x, h => by simp at h; subst h; simp [szK]
 | y :: r, k + 1, x, h => by
  have := szK_at r k x (by simpa using h)
  simp [szK]
  omega
structure MaFits (d : MD) : Prop where
 c : d.codes.length + szC d.codes ≤ 1048576
 k : d.cores.length + szK d.cores ≤ 1048576
 m : d.mem.length + szR d.mem ≤ 2000000
 t : d.tr.length ≤ 2000000
def MaSz (d : MD) : Nat := d.codes.length + szC d.codes + (d.cores.length + szK d.cores) + (d.mem.length + szR d.mem) + d.tr.length
theorem MaFits.of {d : MD} (h : MaSz d ≤ 1048576) : MaFits d := by
 unfold MaSz at h
 exact ⟨by omega, by omega, by omega, by omega⟩
end
section
set_option linter.unusedSimpArgs false
set_option linter.unusedVariables false
set_option maxRecDepth 100000
open Go.RowKit
end
end Go.Proofs.Ytepfpbcjklaenaa
