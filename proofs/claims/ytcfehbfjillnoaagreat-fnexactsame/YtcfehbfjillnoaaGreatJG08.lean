/- The row of a ring. Conditions: a room of 1 to 4. A box of three cells that may be written. No condition. -/
import Derived.Test.YtcfehbfjillnoaaGreatJG00
import Derived.Test.YtcfehbfjillnoaaGreatJG04
import Derived.Test.YtcfehbfjillnoaaGreatJG07
import Derived.Test.YtcfehbfjillnoaaGreatJMemOk
import Derived.Test.YtcfehbfjillnoaaGreatJG05
import Derived.Test.YtcfehbfjillnoaaGreatJN9Ring
import Derived.Test.YtcfehbfjillnoaaGreatJAppN
import Derived.Deep.RegionHeld3
namespace Go.Proofs.YtcfehbfjillnoaaGreat
section
set_option linter.unusedSimpArgs false
set_option linter.unusedVariables false
set_option maxRecDepth 100000
open Go.RowKit
theorem ownN_nil (w : World) (base : Nat) : OwnN w base (.slice none 0 0) [] := World.ownsRow_nil _ _ _ _
theorem OwnN.low {w : World} {b b' : Nat} {v : Value} {ls : List Int} (h : OwnN w b v ls) (hb : b' ≤ b) : OwnN w b' v ls := by
 obtain ⟨h1, h2⟩ := h
 refine ⟨h1, ?_⟩
 rcases h2 with h2 | ⟨g, cap, cur, a, b0, c, d⟩
 ·exact .inl h2
 ·exact .inr ⟨g, cap, cur, a, Nat.le_trans hb b0, c, d⟩
theorem OwnN.set {w : World} {base : Nat} {v : Value} {ls : List Int} (h : OwnN w base v ls) {a : Addr} (ha : a.block < base) (u : Value) : OwnN (w.setCell a u) base v ls := ownsRow_setCell_below h ha u
/- a ring at block g: its row l, from the place f on -/
structure Ring (w : World) (g : Nat) (r f : Int) (l : List Int) : Prop where
 r0 : 1 ≤ r
 r4 : r ≤ 4
 f0 : 0 ≤ f
 fr : f < r
 n : (l.length : Int) ≤ r
 lt : g < w.heap.size
 room : w.cell? ⟨g, 4, none⟩ = some (.int .i64 r)
 first : w.cell? ⟨g, 5, none⟩ = some (.int .i64 f)
 count : w.cell? ⟨g, 6, none⟩ = some (.int .i64 l.length)
 some4 : ∀ i, i < 4 → ∃ z : Int, w.cell? ⟨g, i, none⟩ = some (.int .i64 z)
 row : ∀ i, i < l.length → w.cell? ⟨g, ((f + i) % r).toNat, none⟩ = some (.int .i64 (l.getD i 0))
 free : ∀ j, w.frozen? ⟨g, j, none⟩ = false
theorem Ring.keep {w w' : World} {g : Nat} {r f : Int} {l : List Int} (h : Ring w g r f l) (hb : w'.heap[g]? = w.heap[g]?) (hs : w.heap.size ≤ w'.heap.size) : Ring w' g r f l := by
 have hc : ∀ i, w'.cell? ⟨g, i, none⟩ = w.cell? ⟨g, i, none⟩ := fun i => World.cell?_of_block (w := w) (a := ⟨g, i, none⟩) hb
 have hf : ∀ i, w'.frozen? ⟨g, i, none⟩ = w.frozen? ⟨g, i, none⟩ := fun i => World.frozen?_of_block (w := w) (a := ⟨g, i, none⟩) hb
 have := h.lt
 exact ⟨h.r0, h.r4, h.f0, h.fr, h.n, by omega, (hc _).trans h.room, (hc _).trans h.first, (hc _).trans h.count, fun i hi => by obtain ⟨z, hz⟩ := h.some4 i hi; exact ⟨z, (hc i).trans hz⟩, fun i hi => (hc _).trans (h.row i hi), fun j => (hf j).trans (h.free j)⟩
theorem take_snoc' (l : List Int) (k : Nat) (h : k < l.length) : l.take (k + 1) = l.take k ++ [l.getD k 0] := by
 rw [List.take_succ_eq_append_getElem h]
 simp [List.getD_eq_getElem?_getD, h]
set_option maxHeartbeats 1000000 in
theorem row_any (g : Nat) (r f : Int) (l : List Int) (w : World) (h : Ring w g r f l) : Calls Tryz.prog 122 #[.pointer (some ⟨g, 0, none⟩)] w fun e w' => ∃ v, e = .returned v ∧ OwnN w' w.heap.size v l ∧ Below w.heap.size w w' := by
 have HR : Hid (Ring w g r f l) := h
 have cn := h.count
 have r0 := h.r0
 have r4 := h.r4
 have f0 := h.f0
 have fr := h.fr
 have hl := h.n
 have lt := h.lt
 clear h
 go_enter Tryz.func122, Tryz.ntmps122
 go_wp2
 go_loopw [3, 9] (fun v i wr => ∃ k : Nat, k ≤ l.length ∧ i = .int .i64 k ∧ OwnN wr w.heap.size v (l.take k) ∧ Below w.heap.size w wr) (fun _ i _ => l.length - (intOf i).toNat)
 case atStart => exact ⟨0, Nat.zero_le _, rfl, ownN_nil _ _, Below.refl _ _⟩
 case round =>
  obtain ⟨k, hk, rfl, ho, hb⟩ := hrel
  have HO : Hid (OwnN wr w.heap.size u3 (l.take k)) := ho
  have HB : Hid (Below w.heap.size w wr) := hb
  have hs : w.heap.size ≤ wr.heap.size := hb.size
  clear ho hb
  by_cases hlt : k < l.length
  ·have HRr : Hid (Ring wr g r f l) := HR.out.keep (HB.out.block g lt) hs
   have cr := HRr.out.room
   have cf := HRr.out.first
   have ck := HRr.out.row k hlt
   have gr : g < wr.heap.size := by omega
   generalize hx : l.getD k 0 = x at ck
   have HX : Hid (l.getD k 0 = x) := hx
   have HT : Hid (l.take (k + 1) = l.take k ++ [x]) := by show _ = _; rw [take_snoc' l k hlt, hx]
   have tl : (l.take k).length = k := by simp; omega
   clear hx
   have k0 := Int.emod_nonneg (f + k) (show r ≠ 0 by omega)
   have kr := Int.emod_lt_of_pos (f + k) (show 0 < r by omega)
   have k4 : (f + (k : Int)) % r < 4 := by omega
   have rz : ¬ r = 0 := by omega
   have hw : IntKind.i64.wrap (f + (k : Int)) = f + (k : Int) := Go.IntWalk.i64_in _ (by omega)
   have te : (f + (k : Int)).tmod r = (f + (k : Int)) % r := Int.tmod_eq_emod_of_nonneg (by omega)
   have TL : Hid ((l.take k).length = k) := tl
   clear tl
   generalize l.take k = lk at HO HT TL
   go_wp2_with fail
   go_region_held3 (fun w' => w'.cell? ⟨g, 4, none⟩ = some (.int .i64 r) ∧ w'.cell? ⟨g, 5, none⟩ = some (.int .i64 f) ∧ w'.cell? ⟨g, ((f + (k : Int)) % r).toNat, none⟩ = some (.int .i64 x)) (go_keep) (first | (refine step_row rfl _ _ rfl _ w.heap.size u3 lk rfl (HO.out.alloc (.cells #[.int .i64 x] 3)) wr.heap.size 0 1 [x] rfl (fun i hi => by simp at hi; subst hi; simp [go_sem]) (by simp) (by have := TL.out; simp; omega) (by simp; omega) ?_; intro g1 cap1 w1 ho1 hb1 hg1 hg1'; have kk : ∀ o, w1.cell? ⟨g, o, none⟩ = wr.cell? ⟨g, o, none⟩ := (fun o => (hb1.cell (p := ⟨g, o, none⟩) lt).trans (by simp [go_sem, gr]))))
   have HO1 : Hid (OwnN w1 w.heap.size (.slice (some ⟨g1, 0, none⟩) (lk.length + 1) cap1) (lk ++ [x])) := ho1
   have HB1 : Hid (Below w.heap.size w w1) := HB.out.trans ((show Below w.heap.size wr (wr.alloc (.cells #[.int .i64 x] 3)).drew from Below.drew ((Below.refl _ _).alloc hs _)).trans hb1)
   clear ho1 hb1 kk
   go_wp2
   go_roundw
   case rel => exact ⟨k + 1, by omega, by go_num, by rw [HT.out]; exact HO1.out, HB1.out⟩
   case measure => simp [intOf]; omega
  ·go_wp2
   go_ret
   have e : l.take k = l := List.take_of_length_le (by omega)
   exact ⟨_, rfl, by have := HO.out; rw [e] at this; exact this, HB.out⟩
structure CH where
 cap : Int
 ls : List Int
 cl : Bool
 ok : Bool
def fitB (m : List (List WD)) (b r : Nat) : Bool := decide (0 ≤ lastV m (b + 1) ∧ lastV m (b + 1) < (r : Int)) && decide (0 ≤ lastV m (b + 2) ∧ lastV m (b + 2) ≤ (r : Int)) && decide (0 ≤ lastV m (b + 3) ∧ lastV m (b + 3) ≤ 1)
def listV (m : List (List WD)) (b r : Nat) : List Int := (List.range (lastV m (b + 2)).toNat).map (fun (i : Nat) => lastV m (b + 4 + ((lastV m (b + 1) + (i : Int)) % (r : Int)).toNat))
def zeroCH : CH := ⟨0, [], false, false⟩
def chanM (m : List (List WD)) (l : List Int) (n : Int) : CH := if decide (0 ≤ baseV l n) && memB m && fitB m (baseV l n).toNat (l.getD n.toNat 0).toNat then ⟨l.getD n.toNat 0, listV m (baseV l n).toNat (l.getD n.toNat 0).toNat, lastV m ((baseV l n).toNat + 3) == 1, true⟩ else zeroCH
theorem listV_len (m : List (List WD)) (b r : Nat) : (listV m b r).length = (lastV m (b + 2)).toNat := by simp [listV]
theorem listV_at (m : List (List WD)) (b r i : Nat) (hi : i < (lastV m (b + 2)).toNat) : (listV m b r).getD i 0 = lastV m (b + 4 + ((lastV m (b + 1) + (i : Int)) % (r : Int)).toNat) := by
 simp [listV, List.getD_eq_getElem?_getD, hi]
theorem R7.ring {w : World} {g b r : Nat} {m : List (List WD)} (h : R7 w g (ringX m b r) r (lastV m (b + 1)) (lastV m (b + 2))) (r1 : 1 ≤ r) (r4 : r ≤ 4) (hf : 0 ≤ lastV m (b + 1) ∧ lastV m (b + 1) < (r : Int)) (hn : 0 ≤ lastV m (b + 2) ∧ lastV m (b + 2) ≤ (r : Int)) : Ring w g r (lastV m (b + 1)) (listV m b r) := by
 refine ⟨by omega, by omega, hf.1, hf.2, by rw [listV_len]; omega, h.lt, h.c4, h.c5, by rw [h.c6, listV_len]; congr 2; omega, fun i hi => ⟨_, h.c i hi⟩, fun i hi => ?_, h.fz⟩
 rw [listV_len] at hi
 rw [listV_at m b r i hi]
 have q0 := Int.emod_nonneg (lastV m (b + 1) + (i : Int)) (show (r : Int) ≠ 0 by omega)
 have q1 := Int.emod_lt_of_pos (lastV m (b + 1) + (i : Int)) (show (0 : Int) < (r : Int) by omega)
 generalize (lastV m (b + 1) + (i : Int)) % (r : Int) = z at q0 q1
 have hz : z.toNat < r := by omega
 rw [h.c z.toNat (by omega)]
 unfold ringX
 rw [if_pos hz]
theorem ringOk_is (x0 x1 x2 x3 f n : Int) (r : Nat) (w : World) (r4 : r ≤ 4) : Calls Tryz.prog 120 #[.agg #[.int .i64 x0, .int .i64 x1, .int .i64 x2, .int .i64 x3, .int .i64 r, .int .i64 f, .int .i64 n]] w fun e w' => e = .returned (.bool (decide (0 ≤ f ∧ f < (r : Int)) && decide (0 ≤ n ∧ n ≤ (r : Int)))) ∧ Below w.heap.size w w' := by
 have io1 := fun X => isOneOfD_any f r X
 have io2 := fun X => isOneOfD_any n ((r : Int) + 1) X
 have e2 : decide (0 ≤ n ∧ n < (r : Int) + 1) = decide (0 ≤ n ∧ n ≤ (r : Int)) := by rw [decide_eq_decide]; omega
 rw [e2] at io2
 by_cases hf : 0 ≤ f ∧ f < (r : Int)
 ·rw [decide_eq_true hf, Bool.true_and]
  rw [decide_eq_true hf] at io1
  generalize decide (0 ≤ n ∧ n ≤ (r : Int)) = bb at io2
  clear hf e2
  go_enter Tryz.func120, Tryz.ntmps120
  go_wp2_with (go_at_call 83; (first | with_reducible refine (io1 _).mono ?_ | refine (io2 _).mono ?_); rintro e w9 ⟨rfl, hw9⟩; subst w9)
  go_ret
  exact ⟨by simp [Array.getD], (Below.refl _ _).alloc (Nat.le_refl _) _⟩
 ·rw [decide_eq_false hf, Bool.false_and]
  rw [decide_eq_false hf] at io1
  clear hf e2 io2
  go_enter Tryz.func120, Tryz.ntmps120
  go_wp2_with (go_at_call 83; refine (io1 _).mono ?_; rintro e w9 ⟨rfl, hw9⟩; subst w9)
  go_ret
  exact ⟨by simp [Array.getD], (Below.refl _ _).alloc (Nat.le_refl _) _⟩
end
section
set_option linter.unusedSimpArgs false
set_option linter.unusedVariables false
set_option maxRecDepth 100000
open Go.RowKit
structure X3 (w : World) (g : Nat) (a b c : Value) : Prop where
 lt : g < w.heap.size
 c0 : w.cell? ⟨g, 0, none⟩ = some a
 c1 : w.cell? ⟨g, 1, none⟩ = some b
 c2 : w.cell? ⟨g, 2, none⟩ = some c
 fz : ∀ j, w.frozen? ⟨g, j, none⟩ = false
theorem X3.keep {w w' : World} {g : Nat} {a b c : Value} (h : X3 w g a b c) (hb : w'.heap[g]? = w.heap[g]?) (hs : w.heap.size ≤ w'.heap.size) : X3 w' g a b c :=
 ⟨Nat.lt_of_lt_of_le h.lt hs, (World.cell?_of_block (w := w) hb).trans h.c0, (World.cell?_of_block (w := w) hb).trans h.c1, (World.cell?_of_block (w := w) hb).trans h.c2, fun j => (World.frozen?_of_block (w := w) hb).trans (h.fz j)⟩
theorem X3.below {w w' : World} {B g : Nat} {a b c : Value} (h : X3 w g a b c) (hb : Below B w w') (hB : g < B) : X3 w' g a b c := h.keep (hb.block g hB) hb.size
theorem X3.set1 {w : World} {g : Nat} {a b c : Value} (h : X3 w g a b c) (v : Value) : X3 (w.setCell ⟨g, 1, none⟩ v) g a v c := ⟨by simpa using h.lt, (cOff (by omega)).trans h.c0, cAt h.c1, (cOff (by omega)).trans h.c2, fun j => fSet (h.fz j)⟩
theorem X3.new (w : World) (a b c : Value) (T : TypeId) : X3 (w.alloc (.cells #[a, b, c] T)) w.heap.size a b c := ⟨by simp, by simp [go_sem], by simp [go_sem], by simp [go_sem], fun j => by simp [go_sem]⟩
end
end Go.Proofs.YtcfehbfjillnoaaGreat
