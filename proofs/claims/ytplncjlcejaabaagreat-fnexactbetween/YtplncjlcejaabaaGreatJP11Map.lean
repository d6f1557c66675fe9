/- The map of first steps. Conditions: bodies of at most 24 places, each of a kind that there is. -/
import Derived.Test.YtplncjlcejaabaaGreatJP11Pure
import Derived.Test.YtplncjlcejaabaaGreatJP11Jump
import Derived.Maps.OwnOps
import Derived.Maps.OwnSet
import Derived.Maps.RangeWalk
namespace Go.Proofs.YtplncjlcejaabaaGreat
set_option linter.unusedSimpArgs false
set_option linter.unusedVariables false
set_option maxRecDepth 100000
open Go.RowKit Go.Maps
theorem lawI : Keyed Tryz.prog 3 := int_keyed Tryz.underlying3
theorem zeroI (w : World) : (zeroValue 3).run Tryz.prog w = .ok (.int .i64 0) w := by kernel_rfl
def OwnF (w : World) (b n : Nat) (D : DataW Unit) : Prop := w.ownsMap Tryz.prog 3 (plainElem Tryz.prog 3) b n D
theorem OwnF.keep {w w' : World} {b n : Nat} {D : DataW Unit} (h : OwnF w b n D) (hk : w'.heap[b]? = w.heap[b]?) : OwnF w' b n D := by
 obtain ⟨es, clock, h1, h2⟩ := h
 exact ⟨es, clock, hk.trans h1, h2⟩
theorem mkMap (n : Int) (w : World) : (Instr.makeMap 118 (some (.int .i64 n))).run Tryz.prog w = .ok (.map (some w.heap.size)) (w.alloc (.map #[] 0)) := by
 simp [Instr.makeMap, run_underlying Tryz.underlying118, asInt, asIntOf]
theorem keyOf_int_mk' {x y : Int} (e : y = x) (h : (Lit.int .i64 y).wf = true) : keyOf Tryz.prog 3 (.int .i64 x) = some (.int .i64 y) := by
 subst e
 exact keyOf_int_mk Tryz.underlying3 h
theorem insR_at {w : World} {lo hi : Nat} {s : Option Addr} {l : List I5} (h : InsR w lo hi s l) {i : Nat} (hi' : i < l.length) : ∃ g off, s = some ⟨g, off, none⟩ ∧ lo ≤ g ∧ g < hi ∧ ∀ j, j < l.length → At5 w g (off + j * 5) (l.getD j z5) := by
 rcases h with rfl | ⟨g, off, rfl, h1, h2, h3⟩
 ·exact absurd hi' (Nat.not_lt_zero _)
 ·exact ⟨g, off, rfl, h1, h2, h3⟩
set_option maxRecDepth 100000 in
set_option maxHeartbeats 4000000 in
theorem firstsOf_any (s : Option Addr) (c lo hi : Nat) (l : List I5) (w : World) (h : InsR w lo hi s l) (hB : hi ≤ w.heap.size) (hr : Rt l) :
  Calls Tryz.prog 58 #[.slice s l.length c] w fun e w' => e = .returned (.tuple #[.map (some w.heap.size), .int .i64 (stV l l.length)]) ∧ OwnF w' w.heap.size l.length (mpD l l.length) ∧ Below w.heap.size w w' := by
 have hmm := mkMap
 have HI := hidP h
 have HR := hidP hr
 have hl24 := hr.len
 clear h hr
 go_enter Tryz.func58, Tryz.ntmps58
 go_wp2
 refine wp_scope_two 0 1 (fun a' w' => OwnF w' w.heap.size l.length (mpD l l.length) ∧ Below w.heap.size w w' ∧ ∃ (u0 u1 u5 u7 u8 u9 u10 u11 u12 u13 u14 u15 u16 u17 u18 u19 u20 u21 u22 u23 u24 u25 u26 u27 : Value), a' = { tmps := #[u0, u1, .map none, .int .i64 0, .map (some w.heap.size), u5, .int .i64 (stV l l.length), u7, u8, u9, u10, u11, u12, u13, u14, u15, u16, u17, u18, u19, u20, u21, u22, u23, u24, u25, u26, u27], defers := [] })
  (fun a' w' => ∃ k : Nat, k ≤ l.length ∧ OwnF w' w.heap.size k (mpD l k) ∧ Below w.heap.size w w' ∧ ∃ (u1 u7 u8 u9 u10 u11 u12 u13 u14 u15 u16 u17 u18 u19 u20 u21 u22 u23 u24 u25 u26 u27 : Value), a' = { tmps := #[.slice s l.length c, u1, .map none, .int .i64 0, .map (some w.heap.size), .int .i64 k, .int .i64 (stV l k), u7, u8, u9, u10, u11, u12, u13, u14, u15, u16, u17, u18, u19, u20, u21, u22, u23, u24, u25, u26, u27], defers := [] })
  (fun _ _ => 0) (fun a' _ => l.length + 1 - (intOf (a'.tmps.getD 5 undef)).toNat) rfl rfl (by decide) ?_ ?_ ?_
 ·go_wp2
  go_step3
  have HF : Hid (OwnF (w.alloc (.map #[] 0)) w.heap.size 0 (mpD l 0)) := World.ownsMap_made _ _ _ _
  have HB : Hid (Below w.heap.size w (w.alloc (.map #[] 0))) := (Below.refl _ _).alloc (Nat.le_refl _) _
  have hzb : w.heap.size < (w.alloc (.map #[] 0)).heap.size := by simp
  have hk : 0 ≤ l.length := Nat.zero_le _
  generalize w.alloc (.map #[] 0) = w' at HF HB hzb ⊢
  by_cases hlt : 0 < l.length
  ·obtain ⟨g, off, hs, hlo, hg, hc⟩ := insR_at HI.out hlt
   subst hs
   have hc5 := hidP (hc 0 hlt)
   clear hc
   have hsz := HR.out.sz 0 hlt
   have hbd := stV_big HR.out hk
   have wfk := stV_wf HR.out hk
   have ST := hidP (show stV l (0 + 1) = stV l 0 + sizeV (l.getD 0 z5).o from rfl)
   generalize l.getD 0 z5 = x at hc5 hsz ST
   obtain ⟨xo, xr, xa, xb, xn⟩ := x
   have WK := hidP wfk
   clear wfk
   have HST : Hid (stV l 0 = 0) := rfl
   obtain ⟨sz, hsz0⟩ : ∃ sz, sizeV xo = sz := ⟨_, rfl⟩
   have HSZ := hidP hsz0
   have hsz1 : 1 ≤ sz ∧ sz ≤ 32 := by rw [← hsz0]; exact hsz
   clear hsz0 hsz
   have b0 : (0 : Int) ≤ (0 : Int) := by omega
   have b1 : (0 : Int) < (l.length : Int) := by omega
   have b2 : ((0 : Int) == (l.length : Int)) = false := by simp; omega
   go_wp2_with (first | (at_mapUpdate; refine wpList_mapUpdate_own _ rfl _ _ _ 118 rfl 3 3 lawI Tryz.underlying118 _ w.heap.size 0 _ rfl HF.out (by unfold maxLen; omega) _ _ (.int .i64 (stV l 0)) rfl rfl (keyOf_int_mk' (HST.out)  WK.out) (.lit (.int .i64 (0 : Nat))) [] (plainElem_int Tryz.underlying3 (WalkArith.wf_i64 (by omega))) ?_; intro w1 ho1 hg1; have HO1 : Hid (OwnF w1 w.heap.size (0 + 1) (mpD l (0 + 1))) := ho1; have HB1 := hidP (HB.out.grown hg1 HB.out.size (fun j hj => by cases hj; exact Nat.le_refl _)); have hz1 := hg1.size; clear ho1 hg1; obtain ⟨f0, f1, f2, f3, f4⟩ := hc5.out.keep HB1.out (by omega); simp only [Nat.zero_mul, Nat.add_zero] at f0 f1 f2 f3 f4) | (go_at_call 77; refine (implSize_any _ _ _ _ _ _).mono ?_; rintro e w2 ⟨rfl, hb2⟩; rw [HSZ.out]))
   go_step3
   have hz2 := hb2.size
   have HB2 := hidP (HB1.out.trans (hb2.mono (by omega)))
   have HO2 := hidP (OwnF.keep HO1.out (hb2.block w.heap.size (by omega)))
   clear hb2
   have e2 : sz = stV l (0 + 1) := by rw [ST.out, HST.out, HSZ.out]; omega
   rw [e2]
   exact .inr ⟨rfl, ⟨0 + 1, by omega, HO2.out, HB2.out, _, _, _, _, _, _, _, _, _, _, _, _, _, _, _, _, _, _, _, _, _, _, rfl⟩⟩
  ·have hkn : l.length = 0 := by omega
   have b2 : ((0 : Int) == (l.length : Int)) = true := by simp [hkn]
   go_wp2
   go_step3
   exact .inl ⟨rfl, ⟨by rw [hkn]; exact HF.out, HB.out, _, _, _, _, _, _, _, _, _, _, _, _, _, _, _, _, _, _, _, _, _, _, _, _, by rw [hkn]; rfl⟩⟩
 ·rintro a' w' ⟨hF, hb, u0, u1, u5, u7, u8, u9, u10, u11, u12, u13, u14, u15, u16, u17, u18, u19, u20, u21, u22, u23, u24, u25, u26, u27, rfl⟩
  go_wp2
  simp only [jump2]
  refine bodyPost_ret (v := .tuple #[.map (some w.heap.size), .int .i64 (stV l l.length)]) (by simp [results, Tryz.results58, go_sem]) rfl ?_
  exact ⟨rfl, hF, hb⟩
 ·rintro a' w' ⟨k, hk, hF, hb, u1, u7, u8, u9, u10, u11, u12, u13, u14, u15, u16, u17, u18, u19, u20, u21, u22, u23, u24, u25, u26, u27, rfl⟩
  have HF := hidP hF
  have HB := hidP hb
  have hzb : w.heap.size < w'.heap.size := by obtain ⟨es, clock, h1, h2⟩ := hF; exact (Array.getElem?_eq_some_iff.1 h1).1
  clear hF hb
  by_cases hlt : k < l.length
  ·obtain ⟨g, off, hs, hlo, hg, hc⟩ := insR_at HI.out hlt
   subst hs
   have hc5 := hidP (hc k hlt)
   clear hc
   have hsz := HR.out.sz k hlt
   have hbd := stV_big HR.out hk
   have wfk := stV_wf HR.out hk
   have ST := hidP (show stV l (k + 1) = stV l k + sizeV (l.getD k z5).o from rfl)
   generalize l.getD k z5 = x at hc5 hsz ST
   obtain ⟨xo, xr, xa, xb, xn⟩ := x
   have WK := hidP wfk
   clear wfk
   obtain ⟨st, hst⟩ : ∃ st, stV l k = st := ⟨_, rfl⟩
   have HST := hidP hst
   rw [hst] at hbd ⊢
   clear hst
   obtain ⟨sz, hsz0⟩ : ∃ sz, sizeV xo = sz := ⟨_, rfl⟩
   have HSZ := hidP hsz0
   have hsz1 : 1 ≤ sz ∧ sz ≤ 32 := by rw [← hsz0]; exact hsz
   clear hsz0 hsz
   have b0 : (0 : Int) ≤ (k : Int) := by omega
   have b1 : (k : Int) < (l.length : Int) := by omega
   have b2 : ((k : Int) == (l.length : Int)) = false := by simp; omega
   go_wp2_with (first | (at_mapUpdate; refine wpList_mapUpdate_own _ rfl _ _ _ 118 rfl 3 3 lawI Tryz.underlying118 _ w.heap.size k _ rfl HF.out (by unfold maxLen; omega) _ _ (.int .i64 (stV l k)) rfl rfl (keyOf_int_mk' (HST.out)  WK.out) (.lit (.int .i64 (k : Nat))) [] (plainElem_int Tryz.underlying3 (WalkArith.wf_i64 (by omega))) ?_; intro w1 ho1 hg1; have HO1 : Hid (OwnF w1 w.heap.size (k + 1) (mpD l (k + 1))) := ho1; have HB1 := hidP (HB.out.grown hg1 HB.out.size (fun j hj => by cases hj; exact Nat.le_refl _)); have hz1 := hg1.size; clear ho1 hg1; obtain ⟨f0, f1, f2, f3, f4⟩ := hc5.out.keep HB1.out (by omega)) | (go_at_call 77; refine (implSize_any _ _ _ _ _ _).mono ?_; rintro e w2 ⟨rfl, hb2⟩; rw [HSZ.out]))
   go_step3
   have hz2 := hb2.size
   have HB2 := hidP (HB1.out.trans (hb2.mono (by omega)))
   have HO2 := hidP (OwnF.keep HO1.out (hb2.block w.heap.size (by omega)))
   clear hb2
   have e3 : ((k : Int) + 1) = ((k + 1 : Nat) : Int) := by omega
   have e2 : st + sz = stV l (k + 1) := by rw [ST.out, HST.out, HSZ.out]
   rw [e2, e3]
   exact .inr ⟨rfl, ⟨k + 1, by omega, HO2.out, HB2.out, _, _, _, _, _, _, _, _, _, _, _, _, _, _, _, _, _, _, _, _, _, _, rfl⟩, by simp [intOf]; omega⟩
  ·have hkn : l.length = k := by omega
   subst hkn
   have b2 : (((l.length : Nat) : Int) == (l.length : Int)) = true := by simp
   go_wp2
   go_step3
   exact .inl ⟨rfl, ⟨HF.out, HB.out, _, _, _, _, _, _, _, _, _, _, _, _, _, _, _, _, _, _, _, _, _, _, _, _, rfl⟩, by simp [intOf]⟩
end Go.Proofs.YtplncjlcejaabaaGreat
