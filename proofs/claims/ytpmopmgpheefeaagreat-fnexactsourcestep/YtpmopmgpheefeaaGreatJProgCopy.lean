/- How the laws copy a program into new memory, and count how great it is. Conditions: each list of at most 1048576 where it is copied. -/
import Derived.Test.YtpmopmgpheefeaaGreatJG00
import Derived.Test.YtpmopmgpheefeaaGreatJG01
import Derived.Test.YtpmopmgpheefeaaGreatJG02
namespace Go.Proofs.YtpmopmgpheefeaaGreat
set_option linter.unusedSimpArgs false
set_option linter.unusedVariables false
set_option maxRecDepth 100000
open Go.RowKit
set_option maxHeartbeats 400000 in
theorem toInsSS_some (g off c lo hi : Nat) (l : List (List I5)) (w : World) (hg : g < w.heap.size) (hh : hi ≤ w.heap.size) (hl : l.length ≤ 1048576) (hls : ∀ i, i < l.length → (l.getD i []).length ≤ 1048576) (hc : ∀ i, i < l.length → BodR w lo hi g (off + i) (l.getD i [])) :
  Calls Tryz.prog 25 #[.slice (some ⟨g, off, none⟩) l.length c] w fun e w' => e = .returned (.slice (some ⟨w.heap.size, 0, none⟩) l.length l.length) ∧ Below w.heap.size w w' ∧ w.heap.size < w'.heap.size ∧ ∀ i, i < l.length → BodR w' (w.heap.size + 1) w'.heap.size w.heap.size (0 + i) (l.getD i []) := by
 have hmk := mkSS l.length hl
 have HC : Hid (∀ i, i < l.length → BodR w lo hi g (off + i) (l.getD i [])) := hc
 have HLS : Hid (∀ i, i < l.length → (l.getD i []).length ≤ 1048576) := hls
 clear hc hls
 go_enter Tryz.func25, Tryz.ntmps25
 go_wp2
 clear hmk
 go_loopw [4] (fun i wr => ∃ k : Nat, k ≤ l.length ∧ i = .int .i64 k ∧ Below w.heap.size w wr ∧ w.heap.size < wr.heap.size ∧ (∀ j, j < l.length → (wr.cell? ⟨w.heap.size, 0 + j, none⟩).isSome = true) ∧ (∀ j, j < l.length → wr.frozen? ⟨w.heap.size, 0 + j, none⟩ = false) ∧ (∀ i, i < k → BodR wr (w.heap.size + 1) wr.heap.size w.heap.size (0 + i) (l.getD i []))) (fun i _ => l.length - (intOf i).toNat)
 case atStart => exact ⟨0, Nat.zero_le _, rfl, (Below.refl _ _).alloc (Nat.le_refl _) _, by simp, fun j hj => new_cell (by rw [size_madeCells]; omega), fun j hj => new_frozen, fun i hi => absurd hi (Nat.not_lt_zero _)⟩
 case round =>
  obtain ⟨k, hk, rfl, hb, hsz, hso, hfz, hdone⟩ := hrel
  have HB : Hid (Below w.heap.size w wr) := hb
  have HSO : Hid (∀ j, j < l.length → (wr.cell? ⟨w.heap.size, 0 + j, none⟩).isSome = true) := hso
  have HFZ : Hid (∀ j, j < l.length → wr.frozen? ⟨w.heap.size, 0 + j, none⟩ = false) := hfz
  have HD : Hid (∀ i, i < k → BodR wr (w.heap.size + 1) wr.heap.size w.heap.size (0 + i) (l.getD i [])) := hdone
  clear hb hso hfz hdone
  by_cases hlt : k < l.length
  ·obtain ⟨s, cc, f0, hin⟩ := (HC.out k hlt).keep (w' := wr) (Keep.of_below HB.out hh) (HB.out.cell (p := ⟨g, off + k, none⟩) hg)
   have hlen := HLS.out k hlt
   generalize hx : l.getD k [] = x at f0 hin hlen
   have HX : Hid (l.getD k [] = x) := hx
   have HIN : Hid (InsR wr lo hi s x) := hin
   clear hx hin
   have b0 : (0 : Int) ≤ (k : Int) := by omega
   have b1 : (k : Int) < (l.length : Int) := by omega
   have hs0 := HB.out.size
   go_wp2_with fail
   refine (toInsS_new s cc lo hi x wr HIN.out (by omega) hlen).mono ?_
   rintro e w1 ⟨s1, rfl, hb1, hz1, hi1⟩
   have HB1 : Hid (Below wr.heap.size wr w1) := hb1
   have HI1 : Hid (InsR w1 wr.heap.size w1.heap.size s1 x) := hi1
   clear hb1 hi1 f0
   have hsm : (w1.cell? ⟨w.heap.size, 0 + k, none⟩).isSome = true := by rw [HB1.out.cell (p := ⟨w.heap.size, 0 + k, none⟩) hsz]; exact HSO.out k hlt
   obtain ⟨u, hu⟩ := Option.isSome_iff_exists.1 hsm
   have hz : w1.frozen? ⟨w.heap.size, 0 + k, none⟩ = false := by rw [HB1.out.frozen (p := ⟨w.heap.size, 0 + k, none⟩) hsz]; exact HFZ.out k hlt
   rw [Nat.zero_add] at hu hz
   clear hsm
   go_wp2
   go_roundw
   case rel =>
    refine ⟨k + 1, by omega, by go_num, (HB.out.trans (HB1.out.mono (by omega))).setCell (p := ⟨w.heap.size, k, none⟩) (Nat.le_refl _) _, by simp; omega, ?_, ?_, ?_⟩
    ·intro j hj
     refine setC_some ?_
     rw [HB1.out.cell (p := ⟨w.heap.size, 0 + j, none⟩) hsz]
     exact HSO.out j hj
    ·intro j hj
     rw [World.frozen?_setCell, HB1.out.frozen (p := ⟨w.heap.size, 0 + j, none⟩) hsz]
     exact HFZ.out j hj
    ·intro i hi
     rw [World.size_setCell]
     by_cases e : i = k
     ·subst e
      rw [HX.out, Nat.zero_add]
      exact ⟨s1, x.length, setC_at (by rw [hu]; rfl), (HI1.out.mono (by omega) (Nat.le_refl _)).keep (Keep.of_set (by simp <;> omega))⟩
     ·have h0 := HD.out i (by omega)
      have h1 : BodR w1 (w.heap.size + 1) w1.heap.size w.heap.size (0 + i) (l.getD i []) := (h0.keep (w' := w1) (Keep.of_below HB1.out (Nat.le_refl _)) (HB1.out.cell (p := ⟨w.heap.size, 0 + i, none⟩) hsz)).mono (Nat.le_refl _) (by omega)
      exact h1.keep (Keep.of_set (by simp <;> omega)) (setC_off (by omega))
   case measure => simp [intOf]; omega
  ·go_wp2
   go_ret
   have : k = l.length := by omega
   subst this
   exact ⟨rfl, HB.out, hsz, HD.out⟩
set_option maxHeartbeats 400000 in
theorem toInsSS_none (s : Option Addr) (c : Nat) (w : World) :
  Calls Tryz.prog 25 #[.slice s 0 c] w fun e w' => e = .returned (.slice (some ⟨w.heap.size, 0, none⟩) 0 0) ∧ Below w.heap.size w w' ∧ w.heap.size < w'.heap.size := by
 have hmk := mkSS 0 (by omega)
 simp only [Int.natCast_zero] at hmk
 go_enter Tryz.func25, Tryz.ntmps25
 go_wp2
 clear hmk
 go_loopw [4] (fun i wr => i = .int .i64 0 ∧ Below w.heap.size w wr ∧ w.heap.size < wr.heap.size) (fun _ _ => 0)
 case atStart => exact ⟨rfl, (Below.refl _ _).alloc (Nat.le_refl _) _, by simp⟩
 case round =>
  obtain ⟨rfl, hb, hsz⟩ := hrel
  go_wp2
  go_ret
  exact ⟨rfl, hb, hsz⟩
theorem toInsSS_new (s : Option Addr) (c lo hi : Nat) (l : List (List I5)) (w : World) (h : BodsR w lo hi s l) (hB : hi ≤ w.heap.size) (hl : l.length ≤ 1048576) (hls : ∀ i, i < l.length → (l.getD i []).length ≤ 1048576) :
  Calls Tryz.prog 25 #[.slice s l.length c] w fun e w' => ∃ s' : Option Addr, e = .returned (.slice s' l.length l.length) ∧ Below w.heap.size w w' ∧ w.heap.size < w'.heap.size ∧ BodsR w' w.heap.size w'.heap.size s' l := by
 rcases h with rfl | ⟨g, off, rfl, hg, hg', hc⟩
 ·refine (toInsSS_none s c w).mono ?_
  rintro e w' ⟨rfl, hb, hsz⟩
  exact ⟨_, rfl, hb, hsz, .inl rfl⟩
 ·refine (toInsSS_some g off c lo hi l w (by omega) hB hl hls hc).mono ?_
  rintro e w' ⟨rfl, hb, hsz, hc'⟩
  exact ⟨_, rfl, hb, hsz, .inr ⟨_, _, rfl, Nat.le_refl _, hsz, fun i hi => (hc' i hi).mono (by omega) (Nat.le_refl _)⟩⟩
structure PD where
 caps : List Int
 bods : List (List I5)
def ProgR (w : World) (lo hi : Nat) (s s' : Option Addr) (p : PD) : Prop := IntsR w lo hi s p.caps ∧ BodsR w lo hi s' p.bods
def Fits (p : PD) : Prop := p.caps.length ≤ 1048576 ∧ p.bods.length ≤ 1048576 ∧ ∀ i, i < p.bods.length → (p.bods.getD i []).length ≤ 1048576
set_option maxHeartbeats 1000000 in
theorem toProg_new (s s' : Option Addr) (c c' lo hi : Nat) (p : PD) (w : World) (h : ProgR w lo hi s s' p) (hB : hi ≤ w.heap.size) (hf : Fits p) :
  Calls Tryz.prog 7 #[.agg #[.slice s p.caps.length c, .slice s' p.bods.length c']] w fun e w' => ∃ t t' : Option Addr, e = .returned (.agg #[.slice t p.caps.length p.caps.length, .slice t' p.bods.length p.bods.length]) ∧ Below w.heap.size w w' ∧ w.heap.size < w'.heap.size ∧ ProgR w' w.heap.size w'.heap.size t t' p := by
 obtain ⟨h1, h2⟩ := h
 obtain ⟨q1, q2, q3⟩ := hf
 have H1 : Hid (IntsR w lo hi s p.caps) := h1
 have H2 : Hid (BodsR w lo hi s' p.bods) := h2
 clear h1 h2
 go_enter Tryz.func7, Tryz.ntmps7
 go_wp2_with fail
 have k3 : Below w.heap.size w (((w.alloc (.cells #[.slice s p.caps.length c, .slice s' p.bods.length c'] 25)).alloc (.cells #[.slice none 0 0, .slice none 0 0] 42)).alloc (.cells #[.slice none 0 0, .slice none 0 0] 42)) := (((Below.refl _ _).alloc (Nat.le_refl _) _).alloc (by simp) _).alloc (by simp; omega) _
 refine (toIntS_new s c lo hi p.caps _ (H1.out.keep (Keep.of_below k3 hB)) (by simp; omega) q1).mono ?_
 rintro e w1 ⟨t, rfl, hb1, hz1, hi1⟩
 have a1 : w1.cell? ⟨w.heap.size, 1, none⟩ = some (.slice s' p.bods.length c') := by rw [hb1.cell (by simp; omega)]; simp [go_sem]
 have d0 : w1.cell? ⟨w.heap.size + 1, 0, none⟩ = some (.slice none 0 0) := by rw [hb1.cell (by simp)]; simp [go_sem]
 have d1 : w1.cell? ⟨w.heap.size + 1, 1, none⟩ = some (.slice none 0 0) := by rw [hb1.cell (by simp)]; simp [go_sem]
 have e0 : w1.cell? ⟨w.heap.size + 1 + 1, 0, none⟩ = some (.slice none 0 0) := by rw [hb1.cell (by simp)]; simp [go_sem]
 have e1 : w1.cell? ⟨w.heap.size + 1 + 1, 1, none⟩ = some (.slice none 0 0) := by rw [hb1.cell (by simp)]; simp [go_sem]
 have y0 : ∀ j, w1.frozen? ⟨w.heap.size + 1, j, none⟩ = false := fun j => by rw [hb1.frozen (by simp)]; simp [go_sem]
 have y1 : ∀ j, w1.frozen? ⟨w.heap.size + 1 + 1, j, none⟩ = false := fun j => by rw [hb1.frozen (by simp)]; simp [go_sem]
 have hz1' : w.heap.size + 3 < w1.heap.size := by simp at hz1; omega
 have k1 : Below w.heap.size w w1 := k3.trans (hb1.mono (by simp; omega))
 have HI1 : Hid (IntsR w1 (w.heap.size + 3) w1.heap.size t p.caps) := hi1.mono (by simp) (Nat.le_refl _)
 clear hb1 hz1 hi1 k3
 go_wp2_with fail
 have kset : Below w.heap.size w (w1.setCell ⟨w.heap.size + 1 + 1, 0, none⟩ (.slice t p.caps.length p.caps.length)) := k1.setCell (p := ⟨w.heap.size + 1 + 1, 0, none⟩) (by simp; omega) _
 refine (toInsSS_new s' c' lo hi p.bods _ (H2.out.keep (Keep.of_below kset hB)) (by simp; omega) q2 q3).mono ?_
 rintro e w2 ⟨t', rfl, hb2, hz2, hi2⟩
 have d0' : w2.cell? ⟨w.heap.size + 1, 0, none⟩ = some (.slice none 0 0) := (hb2.cell (by simp; omega)).trans ((setC_blk (by omega)).trans d0)
 have d1' : w2.cell? ⟨w.heap.size + 1, 1, none⟩ = some (.slice none 0 0) := (hb2.cell (by simp; omega)).trans ((setC_blk (by omega)).trans d1)
 have e0' : w2.cell? ⟨w.heap.size + 1 + 1, 0, none⟩ = some (.slice t p.caps.length p.caps.length) := (hb2.cell (by simp; omega)).trans (setC_at (by rw [e0]; rfl))
 have e1' : w2.cell? ⟨w.heap.size + 1 + 1, 1, none⟩ = some (.slice none 0 0) := (hb2.cell (by simp; omega)).trans ((setC_off (by omega)).trans e1)
 have y0' : ∀ j, w2.frozen? ⟨w.heap.size + 1, j, none⟩ = false := fun j => by rw [hb2.frozen (by simp; omega), World.frozen?_setCell]; exact y0 j
 have y1' : ∀ j, w2.frozen? ⟨w.heap.size + 1 + 1, j, none⟩ = false := fun j => by rw [hb2.frozen (by simp; omega), World.frozen?_setCell]; exact y1 j
 have hz2' : w1.heap.size < w2.heap.size := by simpa using hz2
 have k2 : Below w.heap.size w w2 := kset.trans (hb2.mono (by simp; omega))
 have HI2 : Hid (IntsR w2 (w.heap.size + 3) w1.heap.size t p.caps) := HI1.out.keep ((Keep.of_set (by simp <;> omega)).trans (Keep.of_below hb2 (by simp)))
 have HB2 : Hid (BodsR w2 w1.heap.size w2.heap.size t' p.bods) := hi2.mono (by simp) (Nat.le_refl _)
 clear a1 d0 d1 e0 e1 y0 y1 hb2 hz2 hi2 kset
 go_wp2
 refine bodyPost_ret (v := .agg #[.slice t p.caps.length p.caps.length, .slice t' p.bods.length p.bods.length]) (by simp [results, Tryz.results7, go_sem, d0', d1']) rfl ⟨t, t', rfl, ?_, ?_, ?_, ?_⟩
 ·exact ((k2.setCell (p := ⟨w.heap.size + 1 + 1, 1, none⟩) (by simp; omega) _).setCell (p := ⟨w.heap.size + 1, 0, none⟩) (by simp) _).setCell (p := ⟨w.heap.size + 1, 1, none⟩) (by simp) _
 ·simp; omega
 ·exact (HI2.out.keep (((Keep.of_set (by simp <;> omega)).trans (Keep.of_set (by simp <;> omega))).trans (Keep.of_set (by simp <;> omega)))).mono (by omega) (by simp; omega)
 ·exact (HB2.out.keep (((Keep.of_set (by simp <;> omega)).trans (Keep.of_set (by simp <;> omega))).trans (Keep.of_set (by simp <;> omega)))).mono (by omega) (by simp)
theorem szInsS_all (s : Option Addr) (n c : Nat) (q : Int) (w : World) (hn : n ≤ maxLen) (hq : 0 ≤ q) (hq' : q ≤ 1048576) : Calls Tryz.prog 45 #[.slice s n c, .int .i64 q] w fun e w' => e = .returned (.int .i64 (if q < n then -1 else q - (n : Int))) ∧ w' = w := by
 unfold maxLen at hn
 by_cases h : q < n
 ·rw [if_pos h]
  have h1 : q - (n : Int) < 0 := by omega
  go_enter Tryz.func45, Tryz.ntmps45
  go_wp2
  go_ret
  exact ⟨rfl, rfl⟩
 ·rw [if_neg h]
  have h1 : ¬ q - (n : Int) < 0 := by omega
  go_enter Tryz.func45, Tryz.ntmps45
  go_wp2
  go_ret
  exact ⟨rfl, rfl⟩
theorem ProgR.keep' {w w' : World} {lo hi : Nat} {s s' : Option Addr} {p : PD} (h : ProgR w lo hi s s' p) (hb : Keep lo hi w w') : ProgR w' lo hi s s' p := ⟨h.1.keep hb, h.2.keep hb⟩
end Go.Proofs.YtpmopmgpheefeaaGreat
