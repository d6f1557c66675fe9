/- How the laws copy a program into memory of a call's own, row by row. Conditions: each list of at most 1048576. What a walk through a law carries of a program that a call has made. Conditions: none of its own. -/
import Derived.Test.YtfokbjkgdiploaaGreatJG00
import Derived.Test.YtfokbjkgdiploaaGreatJG01
import Derived.Test.YtfokbjkgdiploaaGreatJG03
import Derived.Test.YtfokbjkgdiploaaGreatJG02
import Derived.Test.YtfokbjkgdiploaaGreatJG17
import Derived.Test.YtfokbjkgdiploaaGreatJMarkAll
import Derived.Test.YtfokbjkgdiploaaGreatJG06
namespace Go.Proofs.YtfokbjkgdiploaaGreat
section
set_option linter.unusedSimpArgs false
set_option linter.unusedVariables false
set_option maxRecDepth 100000
open Go.RowKit
theorem flatP_rep (n : Nat) : flatP (List.replicate n z5) = (madeCells #[.int .i64 0, .int .i64 0, .int .i64 0, .int .i64 0, .int .i64 0] (n * 5)).toList := by
 apply List.ext_getElem?
 intro j
 by_cases hj : j < n * 5
 ·have hm : (madeCells #[.int .i64 0, .int .i64 0, .int .i64 0, .int .i64 0, .int .i64 0] (n * 5)).toList[j]? = some (.int .i64 0) := by
   simp [madeCells, hj]
   rcases (show j % 5 = 0 ∨ j % 5 = 1 ∨ j % 5 = 2 ∨ j % 5 = 3 ∨ j % 5 = 4 by omega) with h | h | h | h | h <;> rw [h] <;> rfl
  have h0 := flatP_at (List.replicate n z5) (j / 5) (j % 5) (by rw [List.length_replicate]; omega) (by omega)
  have e : j / 5 * 5 + j % 5 = j := by omega
  have g : (List.replicate n z5).getD (j / 5) z5 = z5 := by
   rw [List.getD_eq_getElem?_getD, List.getElem?_replicate]
   split <;> rfl
  rw [e, g] at h0
  rw [hm, h0]
  rcases (show j % 5 = 0 ∨ j % 5 = 1 ∨ j % 5 = 2 ∨ j % 5 = 3 ∨ j % 5 = 4 by omega) with h | h | h | h | h <;> rw [h] <;> rfl
 ·rw [List.getElem?_eq_none (by rw [flatP_len]; simp; omega), List.getElem?_eq_none (by rw [Array.length_toList, size_madeCells]; omega)]
set_option maxHeartbeats 1000000 in
theorem toInsS_own (s : Option Addr) (c lo hi : Nat) (l : List I5) (w : World) (h : InsR w lo hi s l) (hB : hi ≤ w.heap.size) (hl : l.length ≤ 1048576) :
  Calls Tryz.prog 66 #[.slice s l.length c] w fun e w' => e = .returned (.slice (some ⟨w.heap.size, 0, none⟩) l.length l.length) ∧ OwnP w' w.heap.size (.slice (some ⟨w.heap.size, 0, none⟩) l.length l.length) l ∧ Below w.heap.size w w' ∧ w.heap.size < w'.heap.size := by
 have hmk := mk25 l.length hl
 have HC : Hid (InsR w lo hi s l) := h
 clear h
 go_enter Tryz.func66, Tryz.ntmps66
 go_wp2
 clear hmk
 go_loopw [4] (fun i wr => ∃ k : Nat, k ≤ l.length ∧ i = .int .i64 k ∧ Below w.heap.size w wr ∧ w.heap.size < wr.heap.size ∧ wr.ownsRow w.heap.size 111 5 (.slice (some ⟨w.heap.size, 0, none⟩) l.length l.length) l.length (flatP (l.take k ++ List.replicate (l.length - k) z5))) (fun i _ => l.length - (intOf i).toNat)
 case atStart =>
  refine ⟨0, Nat.zero_le _, rfl, (Below.refl _ _).alloc (Nat.le_refl _) _, by simp, ?_⟩
  have h0 := World.ownsRow_lit (base := w.heap.size) (e := 111) (size := 5) w (madeCells #[.int .i64 0, .int .i64 0, .int .i64 0, .int .i64 0, .int .i64 0] (l.length * 5)) l.length (Nat.le_refl _) (by unfold maxLen; omega) (size_madeCells _ _)
  rw [← flatP_rep] at h0
  simpa using h0
 case round =>
  obtain ⟨k, hk, rfl, hb, hsz, ho⟩ := hrel
  have HB : Hid (Below w.heap.size w wr) := hb
  have HO := (show Hid _ from ho)
  clear hb ho
  by_cases hlt : k < l.length
  ·obtain ⟨g, off, hs, hg, hc⟩ : ∃ g off, s = some ⟨g, off, none⟩ ∧ g < w.heap.size ∧ At5 w g (off + k * 5) (l.getD k z5) := by
    rcases HC.out with h | ⟨g, off, a, b, d, e⟩
    ·rw [h] at hlt; simp at hlt
    ·exact ⟨g, off, a, by omega, e k hlt⟩
   subst hs
   obtain ⟨f0, f1, f2, f3, f4⟩ := hc.keep HB.out hg
   generalize hx : l.getD k z5 = x at f0 f1 f2 f3 f4
   have HX : Hid (l.getD k z5 = x) := hx
   clear hx hc
   obtain ⟨xo, xr, xa, xb, xn⟩ := x
   have b0 : (0 : Int) ≤ (k : Int) := by omega
   have b1 : (k : Int) < (l.length : Int) := by omega
   go_wp2_with fail
   refine (toIns_any _ _ _ _ _ _).mono ?_
   rintro e w1 ⟨rfl, hb1⟩
   have HB1 : Hid (Below wr.heap.size wr w1) := hb1
   have hlr : (l.take k ++ List.replicate (l.length - k) z5).length = l.length := by simp; omega
   have HO1 : Hid (w1.ownsRow w.heap.size 111 5 (.slice (some ⟨w.heap.size, 0, none⟩) l.length l.length) l.length (flatP (l.take k ++ List.replicate (l.length - k) z5))) := ownKeep' HO.out (fun k hk => hb1.block k (World.ownsRow.lt HO.out _ hk).2)
   clear hb1 f0 f1 f2 f3 f4
   have cc : ∀ j, j < 5 → ∃ u, w1.cell? ⟨w.heap.size, k * 5 + j, none⟩ = some u := fun j hj => by
    rw [World.ownsRow.cellAt HO1.out (k * 5 + j) (by omega)]
    exact ⟨_, List.getElem?_eq_getElem (by rw [flatP_len, hlr]; omega)⟩
   have hfz : ∀ j, w1.frozen? ⟨w.heap.size, j, none⟩ = false := fun j => World.ownsRow.frozenAt HO1.out j
   obtain ⟨u0, g0⟩ := cc 0 (by omega)
   obtain ⟨u1, g1⟩ := cc 1 (by omega)
   obtain ⟨u2, g2⟩ := cc 2 (by omega)
   obtain ⟨u3, g3⟩ := cc 3 (by omega)
   obtain ⟨u4, g4⟩ := cc 4 (by omega)
   rw [Nat.add_zero] at g0
   clear cc hlr
   go_wp2
   go_roundw
   case rel =>
    have hs1 := HB1.out.size
    show ∃ k' : Nat, _ ∧ _ ∧ Below w.heap.size w (set5 w1 w.heap.size (k * 5) ⟨xo, xr, xa, xb, xn⟩) ∧ _ < (set5 w1 w.heap.size (k * 5) ⟨xo, xr, xa, xb, xn⟩).heap.size ∧ World.ownsRow (set5 w1 w.heap.size (k * 5) ⟨xo, xr, xa, xb, xn⟩) _ _ _ _ _ _
    refine ⟨k + 1, by omega, by go_num, set5_below (HB.out.trans (HB1.out.mono (by omega))) (Nat.le_refl _), by rw [set5_size]; omega, ?_⟩
    have p := (World.ownsRow.stored (World.ownsRow.stored (World.ownsRow.stored (World.ownsRow.stored (World.ownsRow.stored HO1.out (k * 5) (.int .i64 xo)).1 (k * 5 + 1) (.int .i64 xr)).1 (k * 5 + 2) (.int .i64 xa)).1 (k * 5 + 3) (.int .i64 xb)).1 (k * 5 + 4) (.int .i64 xn)).1
    have e3 : l.length - k = (l.length - (k + 1)) + 1 := by omega
    have e4 : l.take (k + 1) = l.take k ++ [⟨xo, xr, xa, xb, xn⟩] := by
     rw [List.take_add_one, List.getElem?_eq_getElem hlt, ← HX.out, List.getD_eq_getElem?_getD, List.getElem?_eq_getElem hlt]; rfl
    have e5 : (l.take k).length = k := by rw [List.length_take]; omega
    have fp := flatP_put (l.take k) (List.replicate (l.length - (k + 1)) z5) z5 ⟨xo, xr, xa, xb, xn⟩
    rw [e5] at fp
    rw [e3, List.replicate_succ, fp] at p
    rw [e4, List.append_assoc]
    exact p
   case measure => simp [intOf]; omega
  ·go_wp2
   go_ret
   have : k = l.length := by omega
   subst this
   have h1 := HO.out
   simp only [List.take_length, Nat.sub_self, List.replicate_zero, List.append_nil] at h1
   exact ⟨rfl, h1, HB.out, hsz⟩
/- rows of rows, the first k of them filled -/
structure OwnU (w : World) (base : Nat) (v : Value) (l : List (List I5)) (k : Nat) (xs : List Value) : Prop where
 row : w.ownsRow base 96 1 v l.length xs
 inn : ∀ i, i < k → OwnP w base (xs.getD i undef) (l.getD i [])
 emp : ∀ i, k ≤ i → i < l.length → xs.getD i undef = .slice none 0 0
 sep : ∀ i j b, i < k → j < k → i ≠ j → (xs.getD i undef).ownBlock = some b → (xs.getD j undef).ownBlock ≠ some b
set_option maxHeartbeats 1000000 in
theorem toInsSS_own (s : Option Addr) (c lo hi : Nat) (l : List (List I5)) (w : World) (h : BodsR w lo hi s l) (hB : hi ≤ w.heap.size) (hl : l.length ≤ 1048576) (hls : ∀ i, i < l.length → (l.getD i []).length ≤ 1048576) :
  Calls Tryz.prog 36 #[.slice s l.length c] w fun e w' => e = .returned (.slice (some ⟨w.heap.size, 0, none⟩) l.length l.length) ∧ OwnB w' w.heap.size (.slice (some ⟨w.heap.size, 0, none⟩) l.length l.length) l ∧ Below w.heap.size w w' ∧ w.heap.size < w'.heap.size := by
 have hmk := mkSS l.length hl
 have HC : Hid (BodsR w lo hi s l) := h
 have HLS : Hid (∀ i, i < l.length → (l.getD i []).length ≤ 1048576) := hls
 clear h hls
 go_enter Tryz.func36, Tryz.ntmps36
 go_wp2
 clear hmk
 go_loopw [4] (fun i wr => ∃ k : Nat, k ≤ l.length ∧ i = .int .i64 k ∧ Below w.heap.size w wr ∧ w.heap.size < wr.heap.size ∧ ∃ xs, OwnU wr w.heap.size (.slice (some ⟨w.heap.size, 0, none⟩) l.length l.length) l k xs) (fun i _ => l.length - (intOf i).toNat)
 case atStart =>
  refine ⟨0, Nat.zero_le _, rfl, (Below.refl _ _).alloc (Nat.le_refl _) _, by simp, List.replicate l.length (.slice none 0 0), ?_, fun i hi => absurd hi (by omega), fun i _ hi => ?_, fun i j b hi => absurd hi (by omega)⟩
  ·have h0 := World.ownsRow_lit (base := w.heap.size) (e := 96) (size := 1) w (madeCells #[.slice none 0 0] (l.length * 1)) l.length (Nat.le_refl _) (by unfold maxLen; omega) (size_madeCells _ _)
   rw [toList_madeCells_one] at h0
   simpa using h0
  ·rw [List.getD_eq_getElem?_getD, List.getElem?_replicate, if_pos hi]; rfl
 case round =>
  obtain ⟨k, hk, rfl, hb, hsz, xs, ho⟩ := hrel
  have HB : Hid (Below w.heap.size w wr) := hb
  have HO : Hid (OwnU wr w.heap.size (.slice (some ⟨w.heap.size, 0, none⟩) l.length l.length) l k xs) := ho
  clear hb ho
  by_cases hlt : k < l.length
  ·obtain ⟨g, off, hs, hg, hc⟩ : ∃ g off, s = some ⟨g, off, none⟩ ∧ g < w.heap.size ∧ BodR wr lo hi g (off + k) (l.getD k []) := by
    rcases HC.out with h | ⟨g, off, a, b, d, e⟩
    ·rw [h] at hlt; simp at hlt
    ·exact ⟨g, off, a, by omega, (e k hlt).keep (Keep.of_below HB.out hB) (HB.out.cell (p := ⟨g, off + k, none⟩) (by show g < _; omega))⟩
   subst hs
   obtain ⟨s1, c1, f0, hin⟩ := hc
   have hlen := HLS.out k hlt
   generalize hx : l.getD k [] = x at f0 hin hlen
   have HX : Hid (l.getD k [] = x) := hx
   have HIN : Hid (InsR wr lo hi s1 x) := hin
   clear hx hin
   have b0 : (0 : Int) ≤ (k : Int) := by omega
   have b1 : (k : Int) < (l.length : Int) := by omega
   have hs0 := HB.out.size
   go_wp2_with fail
   refine (toInsS_own s1 c1 lo hi x wr HIN.out (by omega) hlen).mono ?_
   rintro e w1 ⟨rfl, ho1, hb1, hz1⟩
   have HB1 : Hid (Below wr.heap.size wr w1) := hb1
   have HO1 : Hid (OwnP w1 wr.heap.size (.slice (some ⟨wr.heap.size, 0, none⟩) x.length x.length) x) := ho1
   have hr1 : w1.ownsRow w.heap.size 96 1 (.slice (some ⟨w.heap.size, 0, none⟩) l.length l.length) l.length xs := ownKeep' HO.out.row (fun k hk => hb1.block k (World.ownsRow.lt HO.out.row _ hk).2)
   have HR1 := (show Hid _ from hr1)
   clear hb1 ho1 f0
   have hxl : xs.length = l.length := by have := hr1.1; omega
   obtain ⟨u0, g0⟩ : ∃ u, w1.cell? ⟨w.heap.size, k, none⟩ = some u := by
    rw [World.ownsRow.cellAt hr1 k (by omega)]
    exact ⟨_, List.getElem?_eq_getElem (by omega)⟩
   have hfz : w1.frozen? ⟨w.heap.size, k, none⟩ = false := World.ownsRow.frozenAt hr1 k
   clear hr1
   go_wp2
   go_roundw
   case rel =>
    have hs1 := HB1.out.size
    have hgd : ∀ j, (xs.set k (.slice (some ⟨wr.heap.size, 0, none⟩) x.length x.length)).getD j undef = if j = k then (.slice (some ⟨wr.heap.size, 0, none⟩) x.length x.length) else xs.getD j undef := fun j => getD_set' _ _ _ _ _ (by omega)
    have far : ∀ {v : Value} {b : List I5}, OwnP w1 w.heap.size v b → OwnP (w1.setCell ⟨w.heap.size, k, none⟩ (.slice (some ⟨wr.heap.size, 0, none⟩) x.length x.length)) w.heap.size v b := fun hv => ownKeep' hv (fun kk hkk => Below.heap_setCell _ _ _ kk (fun e => ownType' hv HR1.out (by decide) hkk (by rw [e]; rfl)))
    refine ⟨k + 1, by omega, by go_num, (HB.out.trans (HB1.out.mono (by omega))).setCell (p := ⟨w.heap.size, k, none⟩) (Nat.le_refl _) _, by simp; omega, _, (World.ownsRow.stored HR1.out k (.slice (some ⟨wr.heap.size, 0, none⟩) x.length x.length)).1, fun i hi => ?_, fun i hi hi' => ?_, fun i j b hi hj hne => ?_⟩
    ·rw [hgd]
     by_cases e : i = k
     ·subst e
      rw [if_pos rfl, HX.out]
      exact far (ownLow' HO1.out (by omega))
     ·rw [if_neg e]
      have h0 := HO.out.inn i (by omega)
      exact far (ownKeep' h0 (fun kk hkk => HB1.out.block kk (World.ownsRow.lt h0 _ hkk).2))
    ·rw [hgd, if_neg (by omega)]
     exact HO.out.emp i (by omega) hi'
    ·rw [hgd, hgd]
     by_cases e : i = k <;> by_cases e' : j = k
     ·omega
     ·rw [if_pos e, if_neg e']
      intro hk1 hk2
      injection hk1 with hk1
      have h2 := (World.ownsRow.lt (HO.out.inn j (by omega)) _ hk2).2
      have h3 : wr.heap.size = b := hk1
      omega
     ·rw [if_neg e, if_pos e']
      intro hk2 hk1
      injection hk1 with hk1
      have h2 := (World.ownsRow.lt (HO.out.inn i (by omega)) _ hk2).2
      have h3 : wr.heap.size = b := hk1
      omega
     ·rw [if_neg e, if_neg e']
      exact HO.out.sep i j b (by omega) (by omega) hne
   case measure => simp [intOf]; omega
  ·go_wp2
   go_ret
   have : k = l.length := by omega
   subst this
   exact ⟨rfl, ⟨xs, HO.out.row, HO.out.inn, HO.out.sep⟩, HB.out, hsz⟩
/- a program that a call has made; xs: its bodies' rows -/
structure OwnG (w : World) (base : Nat) (v v' : Value) (xs : List Value) (p : PD) : Prop where
 c : OwnN w base v p.caps
 b : OwnK w base v' xs p.bods.length (p.bods.getD · [])
 sep : ∀ i j k, i < p.bods.length → j < p.bods.length → i ≠ j → (xs.getD i undef).ownBlock = some k → (xs.getD j undef).ownBlock ≠ some k
def HitG (v : Value) (xs : List Value) (p : PD) (k : Nat) : Prop := v.ownBlock = some k ∨ ∃ i, i < p.bods.length ∧ (xs.getD i undef).ownBlock = some k
theorem OwnG.hit {w : World} {base : Nat} {v v' : Value} {xs : List Value} {p : PD} (h : OwnG w base v v' xs p) {k : Nat} (hk : HitG v xs p k) : base ≤ k ∧ k < w.heap.size := by
 rcases hk with hk | ⟨i, hi, hk⟩
 ·exact World.ownsRow.lt h.c _ hk
 ·exact World.ownsRow.lt (h.b.2 i hi) _ hk
set_option maxHeartbeats 1000000 in
theorem toProg_own (s s' : Option Addr) (c c' lo hi : Nat) (p : PD) (w : World) (h : ProgR w lo hi s s' p) (hB : hi ≤ w.heap.size) (hf : Fits p) :
  Calls Tryz.prog 10 #[.agg #[.slice s p.caps.length c, .slice s' p.bods.length c']] w fun e w' => ∃ (t t' : Option Addr) (xs : List Value), e = .returned (.agg #[.slice t p.caps.length p.caps.length, .slice t' p.bods.length p.bods.length]) ∧ OwnG w' w.heap.size (.slice t p.caps.length p.caps.length) (.slice t' p.bods.length p.bods.length) xs p ∧ Below w.heap.size w w' ∧ w.heap.size < w'.heap.size := by
 obtain ⟨h1, h2⟩ := h
 obtain ⟨q1, q2, q3⟩ := hf
 have H1 : Hid (IntsR w lo hi s p.caps) := h1
 have H2 : Hid (BodsR w lo hi s' p.bods) := h2
 clear h1 h2
 go_enter Tryz.func10, Tryz.ntmps10
 go_wp2_with fail
 have k3 : Below w.heap.size w (((w.alloc (.cells #[.slice s p.caps.length c, .slice s' p.bods.length c'] 25)).alloc (.cells #[.slice none 0 0, .slice none 0 0] 42)).alloc (.cells #[.slice none 0 0, .slice none 0 0] 42)) := (((Below.refl _ _).alloc (Nat.le_refl _) _).alloc (by simp) _).alloc (by simp; omega) _
 refine (toIntS_own s c lo hi p.caps _ (H1.out.keep (Keep.of_below k3 hB)) (by simp; omega) q1).mono ?_
 rintro e w1 ⟨rfl, ho1, hb1, hz1⟩
 have a1 : w1.cell? ⟨w.heap.size, 1, none⟩ = some (.slice s' p.bods.length c') := by rw [hb1.cell (by simp; omega)]; simp [go_sem]
 have d0 : w1.cell? ⟨w.heap.size + 1, 0, none⟩ = some (.slice none 0 0) := by rw [hb1.cell (by simp)]; simp [go_sem]
 have d1 : w1.cell? ⟨w.heap.size + 1, 1, none⟩ = some (.slice none 0 0) := by rw [hb1.cell (by simp)]; simp [go_sem]
 have e0 : w1.cell? ⟨w.heap.size + 1 + 1, 0, none⟩ = some (.slice none 0 0) := by rw [hb1.cell (by simp)]; simp [go_sem]
 have e1 : w1.cell? ⟨w.heap.size + 1 + 1, 1, none⟩ = some (.slice none 0 0) := by rw [hb1.cell (by simp)]; simp [go_sem]
 have y0 : ∀ j, w1.frozen? ⟨w.heap.size + 1, j, none⟩ = false := fun j => by rw [hb1.frozen (by simp)]; simp [go_sem]
 have y1 : ∀ j, w1.frozen? ⟨w.heap.size + 1 + 1, j, none⟩ = false := fun j => by rw [hb1.frozen (by simp)]; simp [go_sem]
 have hz1' : w.heap.size + 3 < w1.heap.size := by simp at hz1; omega
 have k1 : Below w.heap.size w w1 := k3.trans (hb1.mono (by simp; omega))
 obtain ⟨t, ht⟩ : ∃ v, v = (some ⟨w.heap.size + 1 + 1 + 1, 0, none⟩ : Option Addr) := ⟨_, rfl⟩
 have HI1 : Hid (OwnN w1 (w.heap.size + 3) (.slice t p.caps.length p.caps.length) p.caps) := by have h := ho1; simp at h; rw [ht]; exact h
 simp only [World.size_alloc]
 rw [← ht]
 clear hb1 hz1 ho1 k3 ht
 go_wp2_with fail
 have kset : Below w.heap.size w (w1.setCell ⟨w.heap.size + 1 + 1, 0, none⟩ (.slice t p.caps.length p.caps.length)) := k1.setCell (p := ⟨w.heap.size + 1 + 1, 0, none⟩) (by simp; omega) _
 refine (toInsSS_own s' c' lo hi p.bods _ (H2.out.keep (Keep.of_below kset hB)) (by simp; omega) q2 q3).mono ?_
 rintro e w2 ⟨rfl, ho2, hb2, hz2⟩
 have d0' : w2.cell? ⟨w.heap.size + 1, 0, none⟩ = some (.slice none 0 0) := (hb2.cell (by simp; omega)).trans ((setC_blk (by omega)).trans d0)
 have d1' : w2.cell? ⟨w.heap.size + 1, 1, none⟩ = some (.slice none 0 0) := (hb2.cell (by simp; omega)).trans ((setC_blk (by omega)).trans d1)
 have e0' : w2.cell? ⟨w.heap.size + 1 + 1, 0, none⟩ = some (.slice t p.caps.length p.caps.length) := (hb2.cell (by simp; omega)).trans (setC_at (by rw [e0]; rfl))
 have e1' : w2.cell? ⟨w.heap.size + 1 + 1, 1, none⟩ = some (.slice none 0 0) := (hb2.cell (by simp; omega)).trans ((setC_off (by omega)).trans e1)
 have y0' : ∀ j, w2.frozen? ⟨w.heap.size + 1, j, none⟩ = false := fun j => by rw [hb2.frozen (by simp; omega), World.frozen?_setCell]; exact y0 j
 have y1' : ∀ j, w2.frozen? ⟨w.heap.size + 1 + 1, j, none⟩ = false := fun j => by rw [hb2.frozen (by simp; omega), World.frozen?_setCell]; exact y1 j
 have hz2' : w1.heap.size < w2.heap.size := by simpa using hz2
 have k2 : Below w.heap.size w w2 := kset.trans (hb2.mono (by simp; omega))
 have HI2 : Hid (OwnN w2 (w.heap.size + 3) (.slice t p.caps.length p.caps.length) p.caps) := HI1.out.keep (fun k hk hk' => (hb2.block k (by simp; omega)).trans (Below.heap_setCell _ _ _ k (by simp; omega)))
 obtain ⟨t', ht'⟩ : ∃ v, v = (some ⟨w1.heap.size, 0, none⟩ : Option Addr) := ⟨_, rfl⟩
 have HB2 : Hid (OwnB w2 w1.heap.size (.slice t' p.bods.length p.bods.length) p.bods) := by have h := ho2; simp at h; rw [ht']; exact h
 simp only [World.size_setCell]
 rw [← ht']
 clear a1 d0 d1 e0 e1 y0 y1 hb2 hz2 ho2 kset ht'
 go_wp2
 obtain ⟨xs, b1, b2, b3⟩ := HB2.out
 have far : ∀ k, w.heap.size + 3 ≤ k → ((((w2.setCell ⟨w.heap.size + 1 + 1, 1, none⟩ (.slice t' p.bods.length p.bods.length)).setCell ⟨w.heap.size + 1, 0, none⟩ (.slice t p.caps.length p.caps.length)).setCell ⟨w.heap.size + 1, 1, none⟩ (.slice t' p.bods.length p.bods.length))).heap[k]? = w2.heap[k]? := fun k hk => by rw [Below.heap_setCell _ _ _ k (by simp; omega), Below.heap_setCell _ _ _ k (by simp; omega), Below.heap_setCell _ _ _ k (by simp; omega)]
 refine bodyPost_ret (v := .agg #[.slice t p.caps.length p.caps.length, .slice t' p.bods.length p.bods.length]) (by simp [results, Tryz.results10, go_sem, d0', d1']) rfl ⟨t, t', xs, rfl, ⟨?_, ⟨?_, ?_⟩, b3⟩, ?_, ?_⟩
 ·exact ownLow' (HI2.out.keep (fun k hk hk' => far k (by omega))) (by omega)
 ·exact ownLow' (ownKeep' b1 (fun k hk => far k (by have := (World.ownsRow.lt b1 _ hk).1; omega))) (by omega)
 ·exact fun i hi => ownLow' (ownKeep' (b2 i hi) (fun k hk => far k (by have := (World.ownsRow.lt (b2 i hi) _ hk).1; omega))) (by omega)
 ·exact ((k2.setCell (p := ⟨w.heap.size + 1 + 1, 1, none⟩) (by simp; omega) _).setCell (p := ⟨w.heap.size + 1, 0, none⟩) (by simp) _).setCell (p := ⟨w.heap.size + 1, 1, none⟩) (by simp) _
 ·simp; omega
/- a program of a call's own, read -/
theorem OwnG.prog {w : World} {base : Nat} {t t' : Option Addr} {c c' : Nat} {xs : List Value} {p : PD} (h : OwnG w base (.slice t p.caps.length c) (.slice t' p.bods.length c') xs p) : ProgR w base w.heap.size t t' p := by
 obtain ⟨s, c1, s', c2, e, e', hp⟩ := OwnB.prog h.c ⟨xs, h.b.1, h.b.2, h.sep⟩
 injection e with e1 e2 e3
 injection e' with e1' e2' e3'
 rw [e1, e1']
 exact hp
/- a program of a call's own, written over: what it is then does not matter, where it writes does -/
theorem markProg_own (base : Nat) (v v' : Value) (xs : List Value) (p : PD) (q : Int) (w : World) (h : OwnG w base v v' xs p) (hf : Fits p) (hq : 0 ≤ q) (hq' : q ≤ 1000000000) :
  Calls Tryz.prog 17 #[.agg #[v, v'], .int .i64 q] w fun e w' => ∃ r : Int, e = .returned (.int .i64 r) ∧ 0 ≤ r ∧ r ≤ 500000000000000 ∧ w.heap.size ≤ w'.heap.size ∧ w'.os = w.os ∧ w'.tape = w.tape ∧ w'.output = w.output ∧ (∀ k, k < w.heap.size → ¬ HitG v xs p k → w'.heap[k]? = w.heap[k]?) := by
 have hr := hf.room hq'
 obtain ⟨q1, q2, q3⟩ := hf
 have h1 := tot_most p.bods p.bods.length q3
 refine (markProg_any base v v' xs p q w h.c h.b h.sep ⟨q1, q2, q3⟩ hq hr).mono ?_
 rintro e w' ⟨rfl, -, -, hz, a, b, c, hk⟩
 exact ⟨_, rfl, by omega, by omega, hz, a, b, c, fun k hs hn => hk k hs (fun e => hn (.inl e)) (fun i hi e => hn (.inr ⟨i, hi, e⟩))⟩
end
section
set_option linter.unusedSimpArgs false
set_option linter.unusedVariables false
set_option maxRecDepth 100000
open Go.RowKit
/- a program, its blocks between two -/
structure GB (w : World) (lo hi : Nat) (v v' : Value) (xs : List Value) (p : PD) : Prop where
 o : OwnG w lo v v' xs p
 h : ∀ k, HitG v xs p k → k < hi
 h' : ∀ k, v'.ownBlock = some k → k < hi
theorem GB.of {w : World} {lo : Nat} {v v' : Value} {xs : List Value} {p : PD} (h : OwnG w lo v v' xs p) : GB w lo w.heap.size v v' xs p := ⟨h, fun _ hk => (h.hit hk).2, fun _ hk => (World.ownsRow.lt h.b.1 _ hk).2⟩
theorem GB.keep {w w' : World} {lo hi : Nat} {v v' : Value} {xs : List Value} {p : PD} (h : GB w lo hi v v' xs p) (hk : Keep lo hi w w') : GB w' lo hi v v' xs p :=
 ⟨⟨ownKeep' h.o.c (fun k e => hk k (World.ownsRow.lt h.o.c _ e).1 (h.h k (.inl e))), ⟨ownKeep' h.o.b.1 (fun k e => hk k (World.ownsRow.lt h.o.b.1 _ e).1 (h.h' k e)), fun i hi => ownKeep' (h.o.b.2 i hi) (fun k e => hk k (World.ownsRow.lt (h.o.b.2 i hi) _ e).1 (h.h k (.inr ⟨i, hi, e⟩)))⟩, h.o.sep⟩, h.h, h.h'⟩
theorem markProg_exc {lo hi : Nat} {v v' : Value} {xs : List Value} {p : PD} {w : World} (q : Int) (h : GB w lo hi v v' xs p) (hf : Fits p) (hq : 0 ≤ q) (hq' : q ≤ 1000000000) :
  Calls Tryz.prog 17 #[.agg #[v, v'], .int .i64 q] w fun e w' => ∃ r : Int, e = .returned (.int .i64 r) ∧ 0 ≤ r ∧ r ≤ 500000000000000 ∧ Exc lo hi w w' := by
 refine (markProg_own lo v v' xs p q w h.o hf hq hq').mono ?_
 rintro e w' ⟨r, rfl, r0, r1, z, a, b, c, f⟩
 exact ⟨r, rfl, r0, r1, a, b, c, z, fun k hk hc => f k hk (fun e => by have := (h.o.hit e).1; have := h.h k e; omega)⟩
end
end Go.Proofs.YtfokbjkgdiploaaGreat
