/- Rows of places that are written over with running numbers. Conditions: at most 2^20 + 1 places. Running numbers read back from a row of places. Conditions: at most 2^20 + 1 places. Rows of rows of places, written over with running numbers. Conditions: the numbers stay below 10^15. Running numbers read back from rows of rows of places. Conditions: the numbers stay below 10^15. Rows of integers that a call has made, written over with running numbers and looked at again. Conditions: at most 2^20 + 1 integers. A program's lists, written over with running numbers and looked at again. Conditions: the numbers stay below 10^15. Rows of a call's own, read as a program's lists. -/
import Derived.Test.YtfokbjkgdiploaaGreatJG00
import Derived.Test.YtfokbjkgdiploaaGreatJG01
import Derived.Test.YtfokbjkgdiploaaGreatJG02
import Derived.Test.YtfokbjkgdiploaaGreatJG17
import Derived.Deep.RegionWith
import Derived.Test.YtfokbjkgdiploaaGreatJG03
namespace Go.Proofs.YtfokbjkgdiploaaGreat
set_option linter.unusedSimpArgs false
set_option linter.unusedVariables false
set_option maxRecDepth 100000
open Go.RowKit
def run5 (q : Int) : I5 := ⟨q, q + 1, q + 1 + 1, q + 1 + 1 + 1, q + 1 + 1 + 1 + 1⟩
/- k places from the number q on -/
def relP (q : Int) : Nat → List I5
 | 0 => []
 | n + 1 => relP q n ++ [run5 (q + 5 * n)]
theorem relP_len (q : Int) : ∀ n, (relP q n).length = n
 | 0 => rfl
 | n + 1 => by simp [relP, relP_len q n]
theorem set_app {α : Type} (b : List α) (i : Nat) (x : α) : ∀ a : List α, (a ++ b).set (a.length + i) x = a ++ b.set i x
 | [] => by simp
 | y :: r => by
  have e : (y :: r).length + i = (r.length + i) + 1 := by simp; omega
  rw [e]
  simp [set_app b i x r]
theorem flatP_app : ∀ (a b : List I5), flatP (a ++ b) = flatP a ++ flatP b
 | [], b => rfl
 | x :: r, b => by simp [flatP, flatP_app r b]
theorem flatP_put (a b : List I5) (x y : I5) : (((((flatP (a ++ x :: b)).set (a.length * 5) (.int .i64 y.o)).set (a.length * 5 + 1) (.int .i64 y.r)).set (a.length * 5 + 2) (.int .i64 y.a)).set (a.length * 5 + 3) (.int .i64 y.b)).set (a.length * 5 + 4) (.int .i64 y.n) = flatP (a ++ y :: b) := by
 have hl : a.length * 5 = (flatP a).length := (flatP_len a).symm
 rw [flatP_app, flatP_app, hl]
 have e0 := set_app (flatP (x :: b)) 0 (Value.int .i64 y.o) (flatP a)
 rw [Nat.add_zero] at e0
 rw [e0, set_app, set_app, set_app, set_app]
 rfl
set_option maxHeartbeats 2000000 in
theorem markP_any (base : Nat) (v : Value) (b : List I5) (q : Int) (w : World) (h : OwnP w base v b) (hn : b.length ≤ 1048577) (hq : 0 ≤ q) (hq' : q ≤ 1000000000000000) :
  Calls Tryz.prog 83 #[v, .int .i64 q] w fun e w' => e = .returned (.int .i64 (q + 5 * b.length)) ∧ OwnP w' base v (relP q b.length) ∧ w'.heap.size = w.heap.size ∧ w'.os = w.os ∧ w'.tape = w.tape ∧ w'.output = w.output ∧ (∀ k, v.ownBlock ≠ some k → w'.heap[k]? = w.heap[k]?) := by
 rcases Nat.eq_zero_or_pos b.length with h0 | hpos
 ·have hb : b = [] := List.length_eq_zero_iff.1 h0
  subst hb
  obtain ⟨s, c, rfl⟩ : ∃ s c, v = .slice s 0 c := by
   rcases h.2 with ⟨h1, h2⟩ | ⟨g, cap, cur, a, -⟩
   ·exact ⟨none, 0, h1⟩
   ·exact ⟨_, _, a⟩
  have H : Hid (OwnP w base (.slice s 0 c) []) := h
  clear h h0
  go_enter Tryz.func83, Tryz.ntmps83
  go_wp2
  go_loop [1, 5] (fun a i => i = .int .i64 0 ∧ a = .int .i64 q) (fun _ _ => 0)
  case atStart => exact ⟨rfl, rfl⟩
  case round =>
   obtain ⟨rfl, rfl⟩ := hrel
   go_wp2
   go_ret
   exact ⟨by simp, H.out, rfl, rfl, rfl, rfl, fun _ _ => rfl⟩
 ·obtain ⟨g, cap, rfl, hg0, hg1⟩ := World.ownsRow.form h hpos
  have H : Hid (OwnP w base (.slice (some ⟨g, 0, none⟩) b.length cap) b) := h
  clear h
  go_enter Tryz.func83, Tryz.ntmps83
  go_wp2
  go_loopw [1, 5] (fun a i wr => ∃ k : Nat, k ≤ b.length ∧ i = .int .i64 k ∧ a = .int .i64 (q + 5 * k) ∧ OwnP wr base (.slice (some ⟨g, 0, none⟩) b.length cap) (relP q k ++ b.drop k) ∧ wr.heap.size = w.heap.size ∧ wr.os = w.os ∧ wr.tape = w.tape ∧ wr.output = w.output ∧ (∀ k, k ≠ g → wr.heap[k]? = w.heap[k]?)) (fun _ i _ => b.length - (intOf i).toNat)
  case atStart => exact ⟨0, Nat.zero_le _, rfl, by simp, by simpa [relP] using H.out, rfl, rfl, rfl, rfl, fun _ _ => rfl⟩
  case round =>
   obtain ⟨k, hk, rfl, rfl, ho, hs, h1, h2, h3, hf⟩ := hrel
   have HO : Hid (OwnP wr base (.slice (some ⟨g, 0, none⟩) b.length cap) (relP q k ++ b.drop k)) := ho
   have HZ : Hid (wr.heap.size = w.heap.size) := hs
   have H1 : Hid (wr.os = w.os ∧ wr.tape = w.tape ∧ wr.output = w.output) := ⟨h1, h2, h3⟩
   have HF : Hid (∀ k, k ≠ g → wr.heap[k]? = w.heap[k]?) := hf
   have hlen : (relP q k ++ b.drop k).length = b.length := by rw [List.length_append, relP_len, List.length_drop]; omega
   clear ho hs h1 h2 h3 hf
   by_cases hlt : k < b.length
   ·have hr : wr.ownsRow base 111 5 (.slice (some ⟨g, 0, none⟩) b.length cap) b.length (flatP (relP q k ++ b.drop k)) := by have h := HO.out; unfold OwnP at h; rw [hlen] at h; exact h
    have HRo := (show Hid _ from hr)
    have hc : ∀ j, j < 5 → ∃ u, wr.cell? ⟨g, k * 5 + j, none⟩ = some u := fun j hj => by
     rw [World.ownsRow.cellAt hr (k * 5 + j) (by omega)]
     exact ⟨_, List.getElem?_eq_getElem (by rw [flatP_len, hlen]; omega)⟩
    have hfz : ∀ j, wr.frozen? ⟨g, j, none⟩ = false := fun j => World.ownsRow.frozenAt hr j
    obtain ⟨u0, c0⟩ := hc 0 (by omega)
    obtain ⟨u1, c1⟩ := hc 1 (by omega)
    obtain ⟨u2, c2⟩ := hc 2 (by omega)
    obtain ⟨u3, c3⟩ := hc 3 (by omega)
    obtain ⟨u4, c4⟩ := hc 4 (by omega)
    rw [Nat.add_zero] at c0
    clear hc hr hlen
    have b0 : (0 : Int) ≤ (k : Int) := by omega
    have b1 : (k : Int) < (b.length : Int) := by omega
    go_wp2
    go_roundw
    case rel =>
     have hd : b.drop k = b[k] :: b.drop (k + 1) := List.drop_eq_getElem_cons hlt
     have p5 := (World.ownsRow.stored (World.ownsRow.stored (World.ownsRow.stored (World.ownsRow.stored (World.ownsRow.stored HRo.out (k * 5) (.int .i64 (q + 5 * k))).1 (k * 5 + 1) (.int .i64 (q + 5 * k + 1))).1 (k * 5 + 2) (.int .i64 (q + 5 * k + 1 + 1))).1 (k * 5 + 3) (.int .i64 (q + 5 * k + 1 + 1 + 1))).1 (k * 5 + 4) (.int .i64 (q + 5 * k + 1 + 1 + 1 + 1))).1
     have fp := flatP_put (relP q k) (b.drop (k + 1)) b[k] (run5 (q + 5 * k))
     rw [relP_len] at fp
     rw [hd] at p5
     have p6 := fp ▸ p5
     refine ⟨k + 1, by omega, by go_num, ?_, ?_, by simpa using HZ.out, H1.out.1, H1.out.2.1, H1.out.2.2, fun j hj => ?_⟩
     ·congr 1
      rw [Int.natCast_add]
      omega
     ·show World.ownsRow _ base 111 5 _ (relP q (k + 1) ++ b.drop (k + 1)).length (flatP (relP q (k + 1) ++ b.drop (k + 1)))
      have e1 : relP q (k + 1) ++ b.drop (k + 1) = relP q k ++ run5 (q + 5 * k) :: b.drop (k + 1) := by simp [relP]
      have e2 : (relP q (k + 1) ++ b.drop (k + 1)).length = b.length := by rw [List.length_append, relP_len, List.length_drop]; omega
      rw [e2, e1]
      exact p6
     ·rw [Below.heap_setCell _ _ _ j hj, Below.heap_setCell _ _ _ j hj, Below.heap_setCell _ _ _ j hj, Below.heap_setCell _ _ _ j hj, Below.heap_setCell _ _ _ j hj]
      exact HF.out j hj
    case measure => simp [intOf]; omega
   ·go_wp2
    go_ret
    have e : k = b.length := by omega
    subst e
    have ho := HO.out
    rw [List.drop_length, List.append_nil] at ho
    refine ⟨rfl, ?_, HZ.out, H1.out.1, H1.out.2.1, H1.out.2.2, fun k hne => HF.out k (fun e => hne (by rw [e]; rfl))⟩
    exact ho
def tot (bs : List (List I5)) : Nat → Nat
 | 0 => 0
 | n + 1 => tot bs n + (bs.getD n []).length
theorem tot_le (bs : List (List I5)) (k : Nat) : ∀ n, k ≤ n → tot bs k ≤ tot bs n
 | 0, h => by rw [show k = 0 by omega]; exact Nat.le_refl _
 | n + 1, h => by
  rcases Nat.lt_or_ge k (n + 1) with g | g
  ·exact Nat.le_trans (tot_le bs k n (by omega)) (Nat.le_add_right _ _)
  ·rw [show k = n + 1 by omega]; exact Nat.le_refl _
def relAt (q : Int) (bs : List (List I5)) (k i : Nat) : List I5 := if i < k then relP (q + 5 * (tot bs i : Int)) (bs.getD i []).length else bs.getD i []
def OwnK (w : World) (base : Nat) (v : Value) (xs : List Value) (n : Nat) (f : Nat → List I5) : Prop := w.ownsRow base 96 1 v n xs ∧ ∀ i, i < n → OwnP w base (xs.getD i undef) (f i)
set_option maxHeartbeats 2000000 in
theorem markB_any (base : Nat) (v : Value) (xs : List Value) (bs : List (List I5)) (q : Int) (w : World) (h : OwnK w base v xs bs.length (bs.getD · []))
  (h3 : ∀ i j k, i < bs.length → j < bs.length → i ≠ j → (xs.getD i undef).ownBlock = some k → (xs.getD j undef).ownBlock ≠ some k)
  (hn : bs.length ≤ 1048577) (hls : ∀ i, i < bs.length → (bs.getD i []).length ≤ 1048577) (hq : 0 ≤ q) (hq' : q + 5 * (tot bs bs.length : Int) ≤ 1000000000000000) :
  Calls Tryz.prog 47 #[v, .int .i64 q] w fun e w' => e = .returned (.int .i64 (q + 5 * (tot bs bs.length : Int))) ∧ OwnK w' base v xs bs.length (relAt q bs bs.length) ∧ w'.heap.size = w.heap.size ∧ w'.os = w.os ∧ w'.tape = w.tape ∧ w'.output = w.output ∧ (∀ k, (∀ i, i < bs.length → (xs.getD i undef).ownBlock ≠ some k) → w'.heap[k]? = w.heap[k]?) := by
 have hst : OwnK w base v xs bs.length (relAt q bs 0) := ⟨h.1, fun i hi => by have := h.2 i hi; simpa [relAt] using this⟩
 obtain ⟨s, c, rfl⟩ : ∃ s c, v = .slice s bs.length c := by
  rcases h.1.2 with ⟨h1, h2⟩ | ⟨g, cap, cur, a, -⟩
  ·exact ⟨none, 0, by rw [h1, h2]⟩
  ·exact ⟨_, _, a⟩
 have H : Hid (OwnK w base (.slice s bs.length c) xs bs.length (relAt q bs 0)) := hst
 have H3 : Hid (∀ i j k, i < bs.length → j < bs.length → i ≠ j → (xs.getD i undef).ownBlock = some k → (xs.getD j undef).ownBlock ≠ some k) := h3
 have HL : Hid (∀ i, i < bs.length → (bs.getD i []).length ≤ 1048577) := hls
 clear h h3 hls hst
 go_enter Tryz.func47, Tryz.ntmps47
 go_wp2
 go_loopw [1, 5] (fun a i wr => ∃ k : Nat, k ≤ bs.length ∧ i = .int .i64 k ∧ a = .int .i64 (q + 5 * (tot bs k : Int)) ∧ OwnK wr base (.slice s bs.length c) xs bs.length (relAt q bs k) ∧ wr.heap.size = w.heap.size ∧ wr.os = w.os ∧ wr.tape = w.tape ∧ wr.output = w.output ∧ (∀ k, (∀ i, i < bs.length → (xs.getD i undef).ownBlock ≠ some k) → wr.heap[k]? = w.heap[k]?)) (fun _ i _ => bs.length - (intOf i).toNat)
 case atStart => exact ⟨0, Nat.zero_le _, rfl, by simp [tot], H.out, rfl, rfl, rfl, rfl, fun _ _ => rfl⟩
 case round =>
  obtain ⟨k, hk, rfl, rfl, ho, hr⟩ := hrel
  have HO : Hid (OwnK wr base (.slice s bs.length c) xs bs.length (relAt q bs k)) := ho
  have HR := (show Hid _ from hr)
  clear ho hr
  by_cases hlt : k < bs.length
  ·obtain ⟨g, hs⟩ : ∃ g, s = some ⟨g, 0, none⟩ := by
    obtain ⟨g, cap, e, -⟩ := World.ownsRow.form HO.out.1 (by omega)
    injection e with e1 e2 e3
    exact ⟨g, e1⟩
   subst hs
   have hxl : xs.length = bs.length := by have := HO.out.1.1; omega
   have c0 : wr.cell? ⟨g, k, none⟩ = some (xs.getD k undef) := by
    rw [World.ownsRow.cellAt HO.out.1 k (by omega), List.getD_eq_getElem?_getD, List.getElem?_eq_getElem (by omega)]
    rfl
   have hin : OwnP wr base (xs.getD k undef) (bs.getD k []) := by have := HO.out.2 k hlt; simpa [relAt] using this
   have hlen := HL.out k hlt
   have ht1 : tot bs (k + 1) = tot bs k + (bs.getD k []).length := rfl
   have ht2 := tot_le bs (k + 1) bs.length (by omega)
   have HI : Hid (OwnP wr base (xs.getD k undef) (bs.getD k [])) := hin
   obtain ⟨u, hu⟩ : ∃ u, xs.getD k undef = u := ⟨_, rfl⟩
   obtain ⟨b, hb⟩ : ∃ b, bs.getD k [] = b := ⟨_, rfl⟩
   have HU : Hid (xs.getD k undef = u) := hu
   have HBk : Hid (bs.getD k [] = b) := hb
   rw [hu] at c0
   rw [hb] at hlen ht1
   clear hin hu hb hxl
   have b0 : (0 : Int) ≤ (k : Int) := by omega
   have b1 : (k : Int) < (bs.length : Int) := by omega
   go_wp2_with (go_at_call 83; refine (markP_any base u b (q + 5 * (tot bs k : Int)) _ (show OwnP _ base u b by have h := HI.out; rw [HU.out, HBk.out] at h; exact h) hlen (by omega) (by omega)).mono ?_; rintro e w1 ⟨rfl, ho1, hz1, h11, h12, h13, hf1⟩)
   all_goals
    have HW := (show Hid _ from And.intro ho1 (And.intro hz1 (And.intro h11 (And.intro h12 (And.intro h13 hf1)))))
    clear ho1 hz1 h11 h12 h13 hf1
    go_wp2
    go_roundw
    case rel =>
     obtain ⟨ho1, hz1, h11, h12, h13, hf1⟩ := HW.out
     obtain ⟨r1, r2, r3, r4, r5⟩ := HR.out
     refine ⟨k + 1, by omega, by go_num, by rw [ht1]; congr 1; rw [Int.natCast_add]; omega, ⟨?_, fun i hi => ?_⟩, hz1.trans r1, h11.trans r2, h12.trans r3, h13.trans r4, fun j hj => (hf1 j (by rw [← HU.out]; exact hj k hlt)).trans (r5 j hj)⟩
     ·exact ownKeep HO.out.1 (fun j hj => hf1 j (by rw [← HU.out]; exact ownType HO.out.1 HI.out (by decide) hj))
     ·by_cases e : i = k
      ·subst e
       rw [HU.out, relAt, if_pos (by omega), HBk.out]
       exact ho1
      ·have e2 : relAt q bs (k + 1) i = relAt q bs k i := by
        unfold relAt
        by_cases g1 : i < k
        ·rw [if_pos g1, if_pos (by omega)]
        ·rw [if_neg g1, if_neg (by omega)]
       rw [e2]
       exact ownKeep (HO.out.2 i hi) (fun j hj => hf1 j (by rw [← HU.out]; exact H3.out i k j hi hlt e hj))
    case measure => simp [intOf]; omega
  ·go_wp2
   go_ret
   have e : k = bs.length := by omega
   subst e
   exact ⟨rfl, HO.out, HR.out⟩
theorem tot_most (bs : List (List I5)) : ∀ n, (∀ i, i < n → (bs.getD i []).length ≤ 1048576) → tot bs n ≤ n * 1048576
 | 0, _ => Nat.zero_le _
 | n + 1, h => by
  have h1 := tot_most bs n (fun i hi => h i (by omega))
  have h2 := h n (by omega)
  show tot bs n + (bs.getD n []).length ≤ _
  omega
/- a program that fits has room for its marks -/
theorem Fits.room {p : PD} (hf : Fits p) {q : Int} (hq : q ≤ 1000000000) : q + p.caps.length + 5 * (tot p.bods p.bods.length : Int) ≤ 1000000000000000 := by
 obtain ⟨q1, q2, q3⟩ := hf
 have h1 := tot_most p.bods p.bods.length q3
 omega
set_option maxHeartbeats 2000000 in
theorem markProg_any (base : Nat) (v v' : Value) (xs : List Value) (p : PD) (q : Int) (w : World) (h : OwnN w base v p.caps) (hb : OwnK w base v' xs p.bods.length (p.bods.getD · []))
  (h3 : ∀ i j k, i < p.bods.length → j < p.bods.length → i ≠ j → (xs.getD i undef).ownBlock = some k → (xs.getD j undef).ownBlock ≠ some k)
  (hf : Fits p) (hq : 0 ≤ q) (hq' : q + p.caps.length + 5 * (tot p.bods p.bods.length : Int) ≤ 1000000000000000) :
  Calls Tryz.prog 17 #[.agg #[v, v'], .int .i64 q] w fun e w' => e = .returned (.int .i64 (q + p.caps.length + 5 * (tot p.bods p.bods.length : Int))) ∧ OwnN w' base v (relN q p.caps.length) ∧ OwnK w' base v' xs p.bods.length (relAt (q + p.caps.length) p.bods p.bods.length) ∧ w.heap.size ≤ w'.heap.size ∧ w'.os = w.os ∧ w'.tape = w.tape ∧ w'.output = w.output ∧ (∀ k, k < w.heap.size → v.ownBlock ≠ some k → (∀ i, i < p.bods.length → (xs.getD i undef).ownBlock ≠ some k) → w'.heap[k]? = w.heap[k]?) := by
 obtain ⟨q1, q2, q3⟩ := hf
 obtain ⟨A, hA⟩ : ∃ A, w.alloc (.cells #[v, v'] 42) = A := ⟨_, rfl⟩
 have zA : A.heap.size = w.heap.size + 1 := by rw [← hA]; simp
 have bA : ∀ k, k < w.heap.size → A.heap[k]? = w.heap[k]? := fun k hk => by rw [← hA]; exact Below.heap_alloc _ _ _ hk
 have oA : OwnN A base v p.caps := ownKeep h (fun k hk => bA k (World.ownsRow.lt h _ hk).2)
 have oB : OwnK A base v' xs p.bods.length (p.bods.getD · []) := ⟨ownKeep hb.1 (fun k hk => bA k (World.ownsRow.lt hb.1 _ hk).2), fun i hi => ownKeep (hb.2 i hi) (fun k hk => bA k (World.ownsRow.lt (hb.2 i hi) _ hk).2)⟩
 have nv : v.ownBlock ≠ some w.heap.size := fun e => by have := (World.ownsRow.lt h _ e).2; omega
 have cA : A.cell? ⟨w.heap.size, 1, none⟩ = some v' := by rw [← hA]; simp [go_sem]
 have HH := (show Hid _ from And.intro h (And.intro hb h3))
 have HA := (show Hid _ from And.intro oA (And.intro oB bA))
 have Q3 := (show Hid _ from q3)
 have HE := (show Hid (w.alloc (.cells #[v, v'] 42) = A) from hA)
 clear h hb h3 oA oB bA q3 hA
 go_enter Tryz.func17, Tryz.ntmps17
 go_wp2_with fail
 rw [HE.out]
 refine (markN_any base v p.caps q _ HA.out.1 (by omega) hq (by omega)).mono ?_
 rintro e w1 ⟨rfl, ho1, hz1, h11, h12, h13, hf1⟩
 all_goals
  have c1 : w1.cell? ⟨w.heap.size, 1, none⟩ = some v' := (World.cell?_of_block (w := A) (a := ⟨w.heap.size, 1, none⟩) (hf1 _ nv)).trans cA
  have oB1 : OwnK w1 base v' xs p.bods.length (p.bods.getD · []) := ⟨ownKeep HA.out.2.1.1 (fun k hk => hf1 k (ownType HA.out.2.1.1 HA.out.1 (by decide) hk)), fun i hi => ownKeep (HA.out.2.1.2 i hi) (fun k hk => hf1 k (ownType (HA.out.2.1.2 i hi) HA.out.1 (by decide) hk))⟩
  have H1 := (show Hid _ from And.intro ho1 (And.intro hz1 (And.intro h11 (And.intro h12 (And.intro h13 (And.intro hf1 oB1))))))
  clear ho1 hz1 h11 h12 h13 hf1 oB1
  go_wp2_with (go_at_call 47; refine (markB_any base v' xs p.bods (q + p.caps.length) _ H1.out.2.2.2.2.2.2 HH.out.2.2 (by omega) (fun i hi => Nat.le_succ_of_le (Q3.out i hi)) (by omega) hq').mono ?_; rintro e w2 ⟨rfl, ho2, hz2, h21, h22, h23, hf2⟩)
  all_goals
   have H2 := (show Hid _ from And.intro ho2 (And.intro hz2 (And.intro h21 (And.intro h22 (And.intro h23 hf2)))))
   clear ho2 hz2 h21 h22 h23 hf2
   try go_wp2
   try go_ret
   obtain ⟨ho1, hz1, h11, h12, h13, hf1, oB1⟩ := H1.out
   obtain ⟨ho2, hz2, h21, h22, h23, hf2⟩ := H2.out
   have oA1 : A.os = w.os ∧ A.tape = w.tape ∧ A.output = w.output := by rw [← HE.out]; exact ⟨rfl, rfl, rfl⟩
   exact ⟨rfl, ownKeep ho1 (fun k hk => hf2 k (fun i hi => ownType ho1 (oB1.2 i hi) (by decide) hk)), ho2, by omega, (h21.trans h11).trans oA1.1, (h22.trans h12).trans oA1.2.1, (h23.trans h13).trans oA1.2.2, fun k hk hv hx => ((hf2 k hx).trans (hf1 k hv)).trans (HA.out.2.2 k hk)⟩
theorem OwnN.ints {w : World} {base : Nat} {v : Value} {l : List Int} (h : OwnN w base v l) : ∃ s c, v = .slice s l.length c ∧ IntsR w base w.heap.size s l := by
 rcases Nat.eq_zero_or_pos l.length with h0 | hpos
 ·rcases h.2 with ⟨h1, h2⟩ | ⟨g, cap, cur, a, -⟩
  ·exact ⟨none, 0, by rw [h1, h2], .inl (List.length_eq_zero_iff.1 h0)⟩
  ·exact ⟨_, _, a, .inl (List.length_eq_zero_iff.1 h0)⟩
 ·obtain ⟨g, cap, rfl, -⟩ := World.ownsRow.form h hpos
  have hlt := World.ownsRow.lt h g rfl
  refine ⟨_, _, rfl, .inr ⟨g, 0, rfl, hlt.1, hlt.2, fun i hi => ?_⟩⟩
  rw [Nat.zero_add, World.ownsRow.cellAt h i (by omega), List.getElem?_map, List.getD_eq_getElem?_getD, List.getElem?_eq_getElem hi]
  rfl
theorem OwnP.ins {w : World} {base : Nat} {v : Value} {l : List I5} (h : OwnP w base v l) : ∃ s c, v = .slice s l.length c ∧ InsR w base w.heap.size s l := by
 rcases Nat.eq_zero_or_pos l.length with h0 | hpos
 ·rcases h.2 with ⟨h1, h2⟩ | ⟨g, cap, cur, a, -⟩
  ·exact ⟨none, 0, by rw [h1, h2], .inl (List.length_eq_zero_iff.1 h0)⟩
  ·exact ⟨_, _, a, .inl (List.length_eq_zero_iff.1 h0)⟩
 ·obtain ⟨g, cap, rfl, -⟩ := World.ownsRow.form h hpos
  have hlt := World.ownsRow.lt h g rfl
  refine ⟨_, _, rfl, .inr ⟨g, 0, rfl, hlt.1, hlt.2, fun i hi => ?_⟩⟩
  have hc : ∀ j, j < 5 → w.cell? ⟨g, i * 5 + j, none⟩ = (cellsP (l.getD i z5))[j]? := fun j hj => by
   rw [World.ownsRow.cellAt h (i * 5 + j) (by omega)]
   exact flatP_at l i j hi hj
  rw [Nat.zero_add]
  exact ⟨hc 0 (by omega), hc 1 (by omega), hc 2 (by omega), hc 3 (by omega), hc 4 (by omega)⟩
theorem OwnB.bods {w : World} {base : Nat} {v : Value} {l : List (List I5)} (h : OwnB w base v l) : ∃ s c, v = .slice s l.length c ∧ BodsR w base w.heap.size s l := by
 obtain ⟨xs, h1, h2, -⟩ := h
 rcases Nat.eq_zero_or_pos l.length with h0 | hpos
 ·rcases h1.2 with ⟨h1, h2⟩ | ⟨g, cap, cur, a, -⟩
  ·exact ⟨none, 0, by rw [h1, h2], .inl (List.length_eq_zero_iff.1 h0)⟩
  ·exact ⟨_, _, a, .inl (List.length_eq_zero_iff.1 h0)⟩
 ·obtain ⟨g, cap, rfl, -⟩ := World.ownsRow.form h1 hpos
  have hlt := World.ownsRow.lt h1 g rfl
  have hxl : xs.length = l.length := by have := h1.1; omega
  refine ⟨_, _, rfl, .inr ⟨g, 0, rfl, hlt.1, hlt.2, fun i hi => ?_⟩⟩
  obtain ⟨s, c, e, hi'⟩ := OwnP.ins (h2 i hi)
  refine ⟨s, c, ?_, hi'⟩
  rw [Nat.zero_add, World.ownsRow.cellAt h1 i (by omega), ← e, List.getD_eq_getElem?_getD, List.getElem?_eq_getElem (by omega)]
  rfl
theorem OwnB.prog {w : World} {base : Nat} {v v' : Value} {p : PD} (h : OwnN w base v p.caps) (h' : OwnB w base v' p.bods) : ∃ s c s' c', v = .slice s p.caps.length c ∧ v' = .slice s' p.bods.length c' ∧ ProgR w base w.heap.size s s' p := by
 obtain ⟨s, c, e, a⟩ := h.ints
 obtain ⟨s', c', e', a'⟩ := h'.bods
 exact ⟨s, c, s', c', e, e', a, a'⟩
end Go.Proofs.YtfokbjkgdiploaaGreat
