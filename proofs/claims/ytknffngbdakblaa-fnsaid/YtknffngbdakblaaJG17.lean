/- The frame of a law over drawn bytes: they are a slice of bytes in memory; laws.big counts them. No condition. The draw of FnSaid: a source as it is read, and who. Conditions: the code's bytes lie in memory. -/
import Derived.Test.YtknffngbdakblaaJG00
import Derived.Test.YtknffngbdakblaaRows
import Derived.Test.YtknffngbdakblaaJCursor
import Derived.ProofKit
import Derived.OpenShut
import Derived.ShutString
import Derived.ChangeOld
import Derived.ChangeSlices
import Derived.Test.YtknffngbdakblaaJDrawLT
namespace Go.Proofs.Ytknffngbdakblaa
section
set_option linter.unusedSimpArgs false
set_option linter.unusedVariables false
set_option maxRecDepth 100000
open Go.ChangeShapes Go.WideShapes Go.ChangeAt Go.RowKit
theorem retB {x y : Bool} (h : x = y) : Ending.returned (.bool x) = Ending.returned (.bool y) := by rw [h]
theorem big_any (s : Option Addr) (n c : Nat) (w : World) : Calls Try.prog 4 #[.slice s n c] w fun e w' => e = .returned (.bool (decide (1048576 < n))) ∧ w' = w := by
 go_enter Try.func4, Try.ntmps4
 go_wp2
 go_ret
 refine ⟨retB ?_, rfl⟩
 rw [Bool.eq_iff_iff]
 simp
 omega
theorem ownS : ownKnob Try.prog.godebug = none := by kernel_rfl
theorem laidOutS : laidOutB Try.prog = true := by kernel_rfl
theorem bytes_read {H : Type} {enc : TypeId × Value → H} {w : World} {base b0 : Nat} {held : Bool} {k : Reach} {v : Value} {d : DataW H} {p : List MemPlace}
  (hv : Value.okWide Try.prog w k b0 22 v) (h : DataW.Trod enc Try.prog w base (fun _ => true) held 22 v d p) :
  ∃ (s : Option Addr) (n c : Nat), v = .slice s n c ∧ n ≤ maxLen ∧ Bytes w w.heap.size s n := by
 obtain ⟨s, len, cap, rfl⟩ := okWide_slice Try.underlying22 hv
 obtain ⟨fuel, hf⟩ := h
 rcases open_ints Try.underlying22 Try.underlying5 (by kernel_rfl) hf with ⟨hcs, _⟩ | ⟨a, l, c, zs, hcs, _, hl, hm, hz, _, hcell, hwz⟩
 ·simp [Value.cells] at hcs
  obtain ⟨rfl, rfl, rfl⟩ := hcs
  exact ⟨none, 0, 0, rfl, Nat.zero_le _, .inl rfl⟩
 ·simp [Value.cells] at hcs
  obtain ⟨rfl, rfl, rfl⟩ := hcs
  simp at hz
  refine ⟨some a, len, cap, rfl, by omega, ?_⟩
  by_cases h0 : len = 0
  ·exact .inl h0
  ·have c0 := hcell 0 (by omega)
   have c0' : w.cell? a = some (.int .u8 (zs.getD 0 0)) := by simpa [Addr.add] using c0
   have hs := World.cell?_spot c0'
   have hg : a.block < w.heap.size := by
    apply Classical.byContradiction
    intro hn
    have : w.heap[a.block]? = none := by simp; omega
    simp [World.cell?, this] at c0'
   obtain ⟨g, off, spot⟩ := a
   simp at hs
   subst hs
   refine .inr ⟨g, off, rfl, hg, fun i hi => ?_⟩
   have ci := hcell i (by omega)
   have e : (Addr.add ⟨g, off, none⟩ i) = ⟨g, off + i, none⟩ := by
    by_cases h : i = 0
    ·subst h; rfl
    ·simp [Addr.add, h]
   rw [e] at ci
   have hmem : zs.getD i 0 ∈ zs := by
    rw [List.getD_eq_getElem?_getD, List.getElem?_eq_getElem (by omega)]
    exact List.getElem_mem (by omega)
   have hw := bounds_u8 (hwz _ hmem)
   exact ⟨_, ci, by omega, by omega⟩
theorem Bytes.up {w w' : World} {s : Option Addr} {n : Nat} (h : Bytes w w.heap.size s n) (hb : Below w.heap.size w w') : Bytes w' w'.heap.size s n := by
 have hz := hb.size
 rcases h with h | ⟨g, o, hs, hg, hc⟩
 ·exact .inl h
 ·refine .inr ⟨g, o, hs, by omega, fun k hk => ?_⟩
  obtain ⟨b, h1, h2⟩ := hc k hk
  exact ⟨b, (hb.cell (p := ⟨g, o + k, none⟩) hg).trans h1, h2⟩
end
section
set_option linter.unusedSimpArgs false
set_option linter.unusedVariables false
set_option maxRecDepth 100000
open Go.RowKit Go.Deep
theorem SrQ.low {V : World} {lo lo' : Nat} {x1 x2 x3 : Value} (h : SrQ V lo x1 x2 x3) (hl : lo' ≤ lo) : SrQ V lo' x1 x2 x3 := by
 obtain ⟨hi, s1, s2, s3, c1, c2, c3, D, e1, e2, e3, hr, hf, hn, hB⟩ := h
 exact ⟨hi, s1, s2, s3, c1, c2, c3, D, e1, e2, e3, hr.mono hl (Nat.le_refl _), hf, hn, hB⟩
set_option maxRecDepth 100000 in
set_option maxHeartbeats 4000000 in
theorem drawSaid_any (s : Option Addr) (n c : Nat) (w : World) (hb : Bytes w w.heap.size s n) (hn : n ≤ maxLen) :
  Calls Try.prog 5 #[.slice s n c] w fun e w' => ∃ (x1 x2 x3 : Value) (who : Int), e = .returned (.tuple #[.agg #[x1, x2, x3], .int .i64 who]) ∧ 0 ≤ who ∧ who < 5 ∧ SrQ w' w.heap.size x1 x2 x3 ∧ Below w.heap.size w w' := by
 have HB := hidR hb
 have HN := hidR hn
 clear hb hn
 go_enter Try.func5, Try.ntmps5
 go_wp2_with fail
 obtain ⟨A, hA, rA, kA, sA⟩ := BoF.new w (.slice none 0 0) (.slice none 0 0) (.slice none 0 0) 28
 rw [hA]
 have SA := hidR sA
 clear hA sA
 refine (new_cb s n c A (HB.out.up kA) HN.out).mono ?_
 rintro e w1 ⟨rfl, hc1, hb1, hs1⟩
 rw [SA.out] at hc1 hs1 hb1 ⊢
 have z1 : w1.heap.size = w.heap.size + 2 := by omega
 have R1 := hidR (rA.keep (hb1.block _ (Nat.lt_succ_self _)) (by rw [SA.out]; omega))
 have K1 := hidR (kA.trans (hb1.mono (Nat.le_succ _)))
 have C1 := hidR hc1
 clear hc1 hb1 hs1 rA kA HB HN
 go_wp2_with fail
 refine (drawL_any (w.heap.size + 1) s n c w1 C1.out).mono ?_
 rintro e w2 ⟨v0, v1, x1, x2, x3, rfl, hp, hs, hc2, hb2⟩
 obtain ⟨-, p1, p2, a1, a2, pd, e0, e1, -, -, -⟩ := hp
 subst e0 e1
 have hs' := hs
 obtain ⟨-, s1, s2, s3, c1, c2, c3, D, e2, e3, e4, -, -, -, -⟩ := hs'
 subst e2 e3 e4
 have R2 := hidR (R1.out.keep (hb2.block _ (by omega) (by omega)) hb2.size)
 have K2 := hidR (K1.out.trans (hb2.below (by omega) (by omega)))
 have z2 := hb2.size
 have C2 := hidR hc2
 have S2 := hidR hs
 clear hc2 hb2 hs R1 K1 C1
 obtain ⟨V, hV⟩ : ∃ V, (w2.alloc (.cells #[.slice p1 pd.caps.length a1, .slice p2 pd.bods.length a2] 40)).alloc (.cells #[.slice s1 D.ths.length c1, .slice s2 D.chs.length c2, .slice s3 D.tr.length c3] 28) = V := ⟨_, rfl⟩
 have kV : Below w2.heap.size w2 V := by subst hV; exact ((Below.refl _ _).alloc (Nat.le_refl _) _).alloc (by simp) _
 have bV : BoF (w2.heap.size + 1) V (.slice s1 D.ths.length c1) (.slice s2 D.chs.length c2) (.slice s3 D.tr.length c3) := by
  subst hV
  exact ⟨by simp [go_sem], by simp [go_sem], by simp [go_sem], fun j => by simp [go_sem], by simp⟩
 have HV := hidR hV
 have R3 := hidR (R2.out.keep (kV.block _ (by omega)) kV.size)
 have K3 := hidR (K2.out.trans (kV.mono (by omega)))
 have C3 := hidR (C2.out.keep kV)
 have S3 := hidR (S2.out.keep (fun k _ hk => kV.block k hk) kV.size)
 have B3 := hidR bV
 have z3 := bV.z
 clear kV bV hV R2 K2 C2 S2
 go_wp2_with fail
 try rw [HV.out]
 clear HV
 obtain ⟨m0, m1, m2, mf, mz⟩ := B3.out
 go_region_law (refine step_call 11 #[.pointer (some ⟨w.heap.size + 1, 0, none⟩), .int .i64 5] (by rfl) _ _ (by rfl) (by simp [go_sem]) ent_below ?_; refine (below_cb (w.heap.size + 1) s n c 5 V.drew (C3.out.keep (Below.drew (Below.refl _ _))) (by omega) (by omega)).mono ?_; rintro e w5 ⟨z, rfl, hz0, hz5, hc5, hb5'⟩; have hb5 : But (w.heap.size + 1) V w5 := (But.of_below (Below.drew (Below.refl _ _))).trans hb5'; clear hb5' hc5; have B5 := B3.out.keep (w1 := w5) (hb5.block _ mz (by omega)) hb5.size; obtain ⟨m0', m1', m2', mf', mz'⟩ := B5; obtain ⟨g0, g1, g2, gf, gz⟩ := R3.out.keep (w1 := w5) (hb5.block _ (by omega) (by omega)) hb5.size; refine ⟨_, rfl, ?_⟩)
 all_goals
  have K5 := hidR (K3.out.trans (hb5.below (B := w.heap.size) (by omega) (by omega)))
  have S5 := hidR (S3.out.keep (V' := w5) (fun k a b => hb5.block k b (by omega)) hb5.size)
  clear m0' m1' m2' mf' m0 m1 m2 mf R3 B3 C3 K3 S3
  go_wp2
  refine bodyPost_ret (v := .tuple #[.agg #[.slice s1 D.ths.length c1, .slice s2 D.chs.length c2, .slice s3 D.tr.length c3], .int .i64 z]) (by simp [results, Try.results5, go_sem, g0, g1, g2]) rfl ⟨_, _, _, z, rfl, hz0, hz5, ?_, ?_⟩
  ·exact (S5.out.keep (fun k a b => (Below.heap_setCell _ ⟨w.heap.size, 2, none⟩ _ k (by show k ≠ w.heap.size; omega)).trans ((Below.heap_setCell _ ⟨w.heap.size, 1, none⟩ _ k (by show k ≠ w.heap.size; omega)).trans (Below.heap_setCell _ ⟨w.heap.size, 0, none⟩ _ k (by show k ≠ w.heap.size; omega)))) (by simp)).low (by omega)
  ·exact ((K5.out.setCell (p := ⟨w.heap.size, 0, none⟩) (Nat.le_refl _) _).setCell (p := ⟨w.heap.size, 1, none⟩) (Nat.le_refl _) _).setCell (p := ⟨w.heap.size, 2, none⟩) (Nat.le_refl _) _
end
end Go.Proofs.Ytknffngbdakblaa
