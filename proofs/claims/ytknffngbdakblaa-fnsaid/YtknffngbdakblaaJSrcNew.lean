/- SourceNew of the program and of the specification. Conditions: the program's lists of at most 1048576. -/
import Derived.Test.YtknffngbdakblaaJG00
import Derived.Test.YtknffngbdakblaaJG01
import Derived.Test.YtknffngbdakblaaJProgOk
import Derived.Test.YtknffngbdakblaaJG02
import Derived.Test.YtknffngbdakblaaJRecApp
import Derived.Test.YtknffngbdakblaaJG08
import Derived.Test.YtknffngbdakblaaJG05
import Derived.Deep.RegionLaw
namespace Go.Proofs.Ytknffngbdakblaa
set_option linter.unusedSimpArgs false
set_option linter.unusedVariables false
set_option maxRecDepth 100000
open Go.RowKit
def newS (p : PD) : SD := ⟨List.replicate p.bods.length ⟨0, [0, 0, 0, 0], 0⟩, p.caps.map (fun c => ⟨c, [], false⟩), []⟩
def zT : Rec := ⟨.int .i64 0, [0, 0, 0, 0], .int .i64 0⟩
def zC (c : Int) : Rec := ⟨.int .i64 c, [], .bool false⟩
theorem made4 {w : World} {base : Nat} (hb : base ≤ w.heap.size) : OwnN (w.alloc (.cells (madeCells #[.int .i64 0] 4) 3)) base (.slice (some ⟨w.heap.size, 0, none⟩) 4 4) [0, 0, 0, 0] := by
 have h := World.ownsRow_lit (base := base) (e := 3) (size := 1) w (madeCells #[.int .i64 0] 4) 4 hb (by unfold maxLen; omega) (size_madeCells _ _)
 have e : (madeCells #[.int .i64 0] 4).toList = [0, 0, 0, 0].map (Value.int .i64) := by rw [show (4 : Nat) = 4 * 1 from rfl, toList_madeCells_one]; rfl
 rw [e] at h
 exact h
theorem mk4 (w : World) : (Instr.makeSlice 31 (.int .i64 4) (.int .i64 4)).run Try.prog w = .ok (.slice (some ⟨w.heap.size, 0, none⟩) 4 4) (w.alloc (.cells (madeCells #[.int .i64 0] 4) 3)) := mkInt 4 (by omega) w
set_option maxHeartbeats 4000000 in
theorem specNew_yes (s s' : Option Addr) (c c' lo hi : Nat) (p : PD) (w : World) (h : ProgR w lo hi s s' p) (hB : hi ≤ w.heap.size) (hf : Fits p) (hy : progB p = true) :
  Calls Try.prog 17 #[.agg #[.slice s p.caps.length c, .slice s' p.bods.length c']] w fun e w' => ∃ v1 v2 v3 L1 L2, e = .returned (.tuple #[.agg #[v1, v2, v3], .bool true]) ∧ OwnS w' w.heap.size v1 v2 v3 L1 L2 (newS p) ∧ Below w.heap.size w w' := by
 have HP : Hid (ProgR w lo hi s s' p) := h
 have HF : Hid (Fits p) := hf
 have HY : Hid (progB p = true) := hy
 obtain ⟨fa, fb, -⟩ := hf
 clear h hy
 go_enter Try.func17, Try.ntmps17
 go_wp2_with fail
 obtain ⟨W0, hW0, b0, k0, z0⟩ := Bo2.new w (.slice s p.caps.length c) (.slice s' p.bods.length c') 40
 rw [hW0]
 clear hW0
 obtain ⟨W1, hW1, b1, k1, z1⟩ := BoF.new W0 (.slice none 0 0) (.slice none 0 0) (.slice none 0 0) 28
 have K1 : Below w.heap.size w W1 := k0.trans (k1.mono (by omega))
 have B0 := b0.keep (Keep.of_below k1 (by omega))
 rw [z0] at b1
 rw [hW1]
 clear hW1
 refine (specProg_any s s' c c' lo hi p W1 (HP.out.keep' (Keep.of_below K1 hB)) (by omega) HF.out).mono ?_
 rintro e w1 ⟨rfl, hb1⟩
 rw [HY.out]
 have zw := hb1.size
 have KW : Hid (Below w.heap.size w w1) := K1.trans (hb1.mono (by omega))
 have R1 : Hid (BoF (w.heap.size + 1) w1 (.slice none 0 0) (.slice none 0 0) (.slice none 0 0)) := b1.below hb1 (by omega)
 have p1 := (B0.keep (Keep.of_below hb1 (by omega)))
 have P1 : Hid (Bo2 w.heap.size w1 (.slice s p.caps.length c) (.slice s' p.bods.length c')) := p1
 have pc0 := p1.c0
 have pc1 := p1.c1
 have zz : w.heap.size + 2 ≤ w1.heap.size := by omega
 have zl : w.heap.size < w1.heap.size := by omega
 have HC : Hid (IntsR w1 lo hi s p.caps) := HP.out.1.keep (Keep.of_below KW.out hB)
 clear p1 b0 b1 k0 k1 z0 z1 K1 B0 hb1 zw W0 W1 HP
 have hmk := mk4
 go_wp2
 go_loopw [5] (fun i wr => ∃ (k : Nat) (v1 : Value) (L1 : List (Rec × Value)), k ≤ p.bods.length ∧ i = .int .i64 k ∧ BoF w1.heap.size wr v1 (.slice none 0 0) (.slice none 0 0) ∧ OwnQ wr (w1.heap.size + 1) 48 v1 L1 ∧ L1.map Prod.fst = List.replicate k zT ∧ Below w1.heap.size w1 wr ∧ w1.heap.size + 1 ≤ wr.heap.size) (fun i _ => p.bods.length - (intOf i).toNat)
 case atStart =>
  obtain ⟨X, hX, bx, kx, zx⟩ := BoF.new w1 (.slice none 0 0) (.slice none 0 0) (.slice none 0 0) 28
  rw [hX]
  exact ⟨0, _, [], Nat.zero_le _, rfl, bx, OwnQ.nil _ _ _, rfl, kx, by omega⟩
 case round =>
  obtain ⟨k, v1, L1, hk, rfl, hx, ho, hm, hb, hz⟩ := hrel
  have HX : Hid (BoF w1.heap.size wr v1 (.slice none 0 0) (.slice none 0 0)) := hx
  have HO : Hid (OwnQ wr (w1.heap.size + 1) 48 v1 L1) := ho
  have HM : Hid (L1.map Prod.fst = List.replicate k zT) := hm
  have HL1 : Hid (L1.length ≤ 1048576) := by have := congrArg List.length hm; simp at this; show L1.length ≤ 1048576; omega
  have HB : Hid (Below w1.heap.size w1 wr) := hb
  have q0 := (hb.cell (p := ⟨w.heap.size, 0, none⟩) (by show w.heap.size < _; omega)).trans pc0
  have q1 := (hb.cell (p := ⟨w.heap.size, 1, none⟩) (by show w.heap.size < _; omega)).trans pc1
  have e0 := hx.c0
  have e1 := hx.c1
  have e2 := hx.c2
  have l1 : w1.heap.size < wr.heap.size := by omega
  have l2 : w.heap.size < wr.heap.size := by omega
  clear hx ho hm hb
  by_cases hlt : k < p.bods.length
  ·have b0 : (0 : Int) ≤ (k : Int) := by omega
   have b1 : (k : Int) < (p.bods.length : Int) := by omega
   go_wp2
   go_region_law (refine step_thread (by rfl) _ _ (by rfl) (wr.drew.alloc (.cells (madeCells #[.int .i64 0] 4) 3)) 0 [0, 0, 0, 0] (.slice (some ⟨wr.heap.size, 0, none⟩) 4 4) 0 (w1.heap.size + 1) v1 L1 (by rfl) (HO.out.keep (fun k _ hk => Below.heap_alloc wr.drew _ _ hk)) (made4 (w := wr.drew) (by show w1.heap.size + 1 ≤ wr.heap.size; omega)) (by rw [World.size_alloc]; rfl) (by have := HL1.out; omega) (by rw [World.size_alloc]; show w1.heap.size + 1 ≤ wr.heap.size + 1; omega) rfl (fun i z k hz hk hk' => by have h1 := (World.ownsRow.lt (HO.out.inn i z hz) _ hk').2; injection hk with hk; have h3 : wr.heap.size = k := hk; omega) ?_; intro g5 cap5 w5 hp5; have hG5 : w5.heap[w1.heap.size]? = wr.heap[w1.heap.size]? := (hp5.far w1.heap.size (by rw [World.size_alloc]; show w1.heap.size < wr.heap.size + 1; omega) (fun e => by have := (World.ownsRow.lt HO.out.row _ e).1; omega)).trans (Below.heap_alloc wr.drew _ _ (by show w1.heap.size < wr.heap.size; omega)); have hz5 : wr.heap.size + 1 ≤ w5.heap.size := (by have h := hp5.low.size; rw [World.size_alloc] at h; exact h); have x5 := HX.out.keep hG5 (by omega); have d0 := x5.c0; have d1 := x5.f; have X5 : Hid (BoF w1.heap.size w5 v1 (.slice none 0 0) (.slice none 0 0)) := x5; have P5 := (show Hid _ from hp5); clear x5 hp5 hG5)
   all_goals
    go_wp2
    go_roundw
    case rel =>
     obtain ⟨g1, g2, g3, g4⟩ := P5.out
     refine ⟨k + 1, _, L1 ++ [(zT, .slice (some ⟨wr.heap.size, 0, none⟩) 4 4)], by omega, by go_num, X5.out.set0 _, g1.keep (fun k hk hk' => Below.heap_setCell _ _ _ k (by show k ≠ w1.heap.size; omega)), ?_, ?_, by simp; omega⟩
     ·rw [List.map_append, HM.out, List.replicate_succ']; rfl
     ·exact (HB.out.trans ((Below.drew (Below.refl _ _)).alloc (by show w1.heap.size ≤ wr.heap.size; omega) _ |>.trans (g3.mono (by omega)))).setCell (p := ⟨w1.heap.size, 0, none⟩) (Nat.le_refl _) _
    case measure => simp [intOf]; omega
  ·have hke : k = p.bods.length := by omega
   subst hke
   clear hlt hk hmk
   go_wp2
   go_loopw [6] (fun i wr => ∃ (k : Nat) (v2 : Value) (L2 : List (Rec × Value)), k ≤ p.caps.length ∧ i = .int .i64 k ∧ BoF w1.heap.size wr v1 v2 (.slice none 0 0) ∧ OwnQ wr (w1.heap.size + 1) 48 v1 L1 ∧ OwnQ wr (w1.heap.size + 1) 50 v2 L2 ∧ (∀ (j : Nat) (y : Rec × Value), L2[j]? = some y → y.2 = .slice none 0 0) ∧ L2.map Prod.fst = (p.caps.take k).map zC ∧ Below w1.heap.size w1 wr ∧ w1.heap.size + 1 ≤ wr.heap.size) (fun i _ => p.caps.length - (intOf i).toNat)
   case atStart => exact ⟨0, _, [], Nat.zero_le _, rfl, HX.out, HO.out, OwnQ.nil _ _ _, fun j y hy => by simp at hy, rfl, HB.out, hz⟩
   case round =>
    clear HX HO HB q0 q1 e0 e1 e2 hz l1 l2
    obtain ⟨k, v2, L2, hk, rfl, hx, ho, ho2, hn2, hm2, hb, hz⟩ := hrel
    have HX : Hid (BoF w1.heap.size wr v1 v2 (.slice none 0 0)) := hx
    have HO : Hid (OwnQ wr (w1.heap.size + 1) 48 v1 L1) := ho
    have HO2 : Hid (OwnQ wr (w1.heap.size + 1) 50 v2 L2) := ho2
    have HN2 := (show Hid _ from hn2)
    have HM2 : Hid (L2.map Prod.fst = (p.caps.take k).map zC) := hm2
    have HL2 : Hid (L2.length ≤ 1048576) := by have := congrArg List.length hm2; simp at this; show L2.length ≤ 1048576; omega
    have HB : Hid (Below w1.heap.size w1 wr) := hb
    have q0 := (hb.cell (p := ⟨w.heap.size, 0, none⟩) (by show w.heap.size < _; omega)).trans pc0
    have e0 := hx.c0
    have e1 := hx.c1
    have e2 := hx.c2
    have l1 : w1.heap.size < wr.heap.size := by omega
    have l2 : w.heap.size < wr.heap.size := by omega
    clear hx ho ho2 hm2 hb hn2
    by_cases hlt : k < p.caps.length
    ·obtain ⟨g, off, hs, hg, hc⟩ : ∃ g off, s = some ⟨g, off, none⟩ ∧ g < hi ∧ w1.cell? ⟨g, off + k, none⟩ = some (.int .i64 (p.caps.getD k 0)) := by
      rcases HC.out with h | ⟨g, off, a, b, d, e⟩
      ·rw [h] at hlt; simp at hlt
      ·exact ⟨g, off, a, d, e k hlt⟩
     subst hs
     have f0 := (HB.out.cell (p := ⟨g, off + k, none⟩) (by show g < _; omega)).trans hc
     have HT : Hid (p.caps[k]? = some (p.caps.getD k 0)) := by show _ = _; rw [List.getD_eq_getElem?_getD, List.getElem?_eq_getElem hlt]; rfl
     generalize p.caps.getD k 0 = cc at f0 HT
     have b0 : (0 : Int) ≤ (k : Int) := by omega
     have b1 : (k : Int) < (p.caps.length : Int) := by omega
     have l3 : g < wr.heap.size := by omega
     clear hc
     go_wp2
     go_region_law (refine step_chan (by rfl) _ _ (by rfl) wr.drew cc [] (.slice none 0 0) false (w1.heap.size + 1) v2 L2 (by rfl) (HO2.out.keep (fun _ _ _ => rfl)) (World.ownsRow_nil _ _ _ _) (by rfl) (by have := HL2.out; omega) (by show w1.heap.size + 1 ≤ wr.heap.size; omega) rfl (fun i z k hz hk hk' => by cases hk) ?_; intro g5 cap5 w5 hp5; have hG5 : w5.heap[w1.heap.size]? = wr.heap[w1.heap.size]? := hp5.far w1.heap.size (by show w1.heap.size < wr.heap.size; omega) (fun e => by have := (World.ownsRow.lt HO2.out.row _ e).1; omega); have hz5 : wr.heap.size ≤ w5.heap.size := hp5.low.size; have x5 := HX.out.keep hG5 (by omega); have d0 := x5.c1; have d1 := x5.f; have X5 : Hid (BoF w1.heap.size w5 v1 v2 (.slice none 0 0)) := x5; have P5 := (show Hid _ from hp5); clear x5 hp5 hG5)
     all_goals
      go_wp2
      go_roundw
      case rel =>
       obtain ⟨g1, g2, g3, g4⟩ := P5.out
       refine ⟨k + 1, _, L2 ++ [(zC cc, .slice none 0 0)], by omega, by go_num, X5.out.set1 _, ?_, g1.keep (fun k hk hk' => Below.heap_setCell _ _ _ k (by show k ≠ w1.heap.size; omega)), ?_, ?_, ?_, by simp; omega⟩
       ·refine (HO.out.keepB (w' := w5) ?_ ?_).keep (fun k hk hk' => Below.heap_setCell _ _ _ k (by show k ≠ w1.heap.size; omega))
        ·intro k hk
         exact g2 k (World.ownsRow.lt HO.out.row _ hk).2 (ownType' HO.out.row HO2.out.row (by decide) hk)
        ·intro i x hx k hk
         exact g2 k (World.ownsRow.lt (HO.out.inn i x hx) _ hk).2 (ownType' (HO.out.inn i x hx) HO2.out.row (by decide) hk)
       ·intro j y hy
        by_cases hj : j < L2.length
        ·rw [List.getElem?_append_left hj] at hy
         exact HN2.out j y hy
        ·rw [List.getElem?_append_right (by omega)] at hy
         have hj0 : j - L2.length = 0 := by have := (List.getElem?_eq_some_iff.1 hy).1; simp at this; omega
         rw [hj0] at hy
         simp at hy
         rw [← hy]
       ·rw [List.map_append, HM2.out, List.take_add_one, HT.out, List.map_append]; rfl
       ·exact (HB.out.trans ((Below.drew (Below.refl _ _)).trans (g3.mono (by omega)))).setCell (p := ⟨w1.heap.size, 1, none⟩) (Nat.le_refl _) _
      case measure => simp [intOf]; omega
    ·have hke : k = p.caps.length := by omega
     subst hke
     clear hlt hk
     have r1 := R1.out.below HB.out (by omega)
     have y0 := r1.c0
     have y1 := r1.c1
     have y2 := r1.c2
     have y3 := r1.f
     have RR : Hid (BoF (w.heap.size + 1) wr (.slice none 0 0) (.slice none 0 0) (.slice none 0 0)) := r1
     clear r1
     obtain ⟨s1, d1, hv1⟩ := ownSl HO.out.row
     obtain ⟨s2, d2, hv2⟩ := ownSl HO2.out.row
     subst hv1
     subst hv2
     go_wp2
     have W3 := ((RR.out.set0 (.slice s1 L1.length d1)).set1 (.slice s2 L2.length d2)).set2 (.slice none 0 0)
     have far : ∀ k, w1.heap.size + 1 ≤ k → (((wr.setCell ⟨w.heap.size + 1, 0, none⟩ (.slice s1 L1.length d1)).setCell ⟨w.heap.size + 1, 1, none⟩ (.slice s2 L2.length d2)).setCell ⟨w.heap.size + 1, 2, none⟩ (.slice none 0 0)).heap[k]? = wr.heap[k]? := fun k hk => by rw [Below.heap_setCell _ _ _ k (by show k ≠ w.heap.size + 1; omega), Below.heap_setCell _ _ _ k (by show k ≠ w.heap.size + 1; omega), Below.heap_setCell _ _ _ k (by show k ≠ w.heap.size + 1; omega)]
     refine bodyPost_ret (v := .tuple #[.agg #[.slice s1 L1.length d1, .slice s2 L2.length d2, .slice none 0 0], .bool true]) (by simp [results, Try.results17, go_sem, W3.c0, W3.c1, W3.c2]) rfl ⟨_, _, _, L1, L2, rfl, ⟨?_, ?_, ?_, ?_, ?_, ?_⟩, ?_⟩
     ·rw [HM.out]; simp [newS, TD.rec3, zT]
     ·rw [HM2.out, List.take_length]; simp [newS, CD.rec3, zC, Function.comp_def]
     ·exact (HO.out.keep (fun k hk _ => far k hk)).low (by omega)
     ·exact (HO2.out.keep (fun k hk _ => far k hk)).low (by omega)
     ·exact World.ownsRow_nil _ _ _ _
     ·intro i j x y k hx hy hk hk'
      rw [HN2.out j y hy] at hk'
      cases hk'
     ·exact (((KW.out.trans (HB.out.mono (by omega))).setCell (p := ⟨w.heap.size + 1, 0, none⟩) (by show w.heap.size ≤ w.heap.size + 1; omega) _).setCell (p := ⟨w.heap.size + 1, 1, none⟩) (by show w.heap.size ≤ w.heap.size + 1; omega) _).setCell (p := ⟨w.heap.size + 1, 2, none⟩) (by show w.heap.size ≤ w.heap.size + 1; omega) _
set_option maxHeartbeats 1000000 in
theorem specNew_no (s s' : Option Addr) (c c' lo hi : Nat) (p : PD) (w : World) (h : ProgR w lo hi s s' p) (hB : hi ≤ w.heap.size) (hf : Fits p) (hy : progB p = false) :
  Calls Try.prog 17 #[.agg #[.slice s p.caps.length c, .slice s' p.bods.length c']] w fun e w' => e = .returned (.tuple #[.agg #[.slice none 0 0, .slice none 0 0, .slice none 0 0], .bool false]) ∧ Below w.heap.size w w' := by
 have HP : Hid (ProgR w lo hi s s' p) := h
 have HF : Hid (Fits p) := hf
 have HY : Hid (progB p = false) := hy
 clear h hf hy
 go_enter Try.func17, Try.ntmps17
 go_wp2_with fail
 obtain ⟨W0, hW0, b0, k0, z0⟩ := Bo2.new w (.slice s p.caps.length c) (.slice s' p.bods.length c') 40
 rw [hW0]
 clear hW0
 obtain ⟨W1, hW1, b1, k1, z1⟩ := BoF.new W0 (.slice none 0 0) (.slice none 0 0) (.slice none 0 0) 28
 have K1 : Below w.heap.size w W1 := k0.trans (k1.mono (by omega))
 rw [z0] at b1
 rw [hW1]
 clear hW1
 refine (specProg_any s s' c c' lo hi p W1 (HP.out.keep' (Keep.of_below K1 hB)) (by omega) HF.out).mono ?_
 rintro e w1 ⟨rfl, hb1⟩
 rw [HY.out]
 have zw := hb1.size
 have KW : Hid (Below w.heap.size w w1) := K1.trans (hb1.mono (by omega))
 have r1 := b1.below hb1 (by omega)
 have R1 : Hid (BoF (w.heap.size + 1) w1 (.slice none 0 0) (.slice none 0 0) (.slice none 0 0)) := r1
 have y0 := r1.c0
 have y1 := r1.c1
 have y2 := r1.c2
 have y3 := r1.f
 clear r1 b0 b1 k0 k1 z0 z1 K1 hb1 zw W0 W1 HP
 go_wp2
 have W3 := ((R1.out.set0 (.slice none 0 0)).set1 (.slice none 0 0)).set2 (.slice none 0 0)
 exact bodyPost_ret (v := .tuple #[.agg #[.slice none 0 0, .slice none 0 0, .slice none 0 0], .bool false]) (by simp [results, Try.results17, go_sem, W3.c0, W3.c1, W3.c2]) rfl ⟨rfl, ((KW.out.setCell (p := ⟨w.heap.size + 1, 0, none⟩) (by show w.heap.size ≤ w.heap.size + 1; omega) _).setCell (p := ⟨w.heap.size + 1, 1, none⟩) (by show w.heap.size ≤ w.heap.size + 1; omega) _).setCell (p := ⟨w.heap.size + 1, 2, none⟩) (by show w.heap.size ≤ w.heap.size + 1; omega) _⟩
def newA (p : PD) : SD := if progB p then newS p else ⟨[], [], []⟩
theorem newA_fits (p : PD) (hf : Fits p) : SFits (newA p) := by
 obtain ⟨a, b, -⟩ := hf
 unfold newA
 split
 ·refine ⟨⟨by simp [newS]; omega, fun i t ht => ?_⟩, ⟨by simp [newS]; omega, fun i t ht => ?_⟩, by simp [newS]⟩
  ·have := List.mem_of_getElem? ht
   simp [newS] at this
   rw [this.2]
   simp
  ·have := List.mem_of_getElem? ht
   simp [newS] at this
   obtain ⟨x, -, rfl⟩ := this
   simp
 ·exact ⟨⟨by simp, fun i t ht => by simp at ht⟩, ⟨by simp, fun i t ht => by simp at ht⟩, by simp⟩
theorem specNew_any (s s' : Option Addr) (c c' lo hi : Nat) (p : PD) (w : World) (h : ProgR w lo hi s s' p) (hB : hi ≤ w.heap.size) (hf : Fits p) :
  Calls Try.prog 17 #[.agg #[.slice s p.caps.length c, .slice s' p.bods.length c']] w fun e w' => ∃ v1 v2 v3 L1 L2, e = .returned (.tuple #[.agg #[v1, v2, v3], .bool (progB p)]) ∧ OwnS w' w.heap.size v1 v2 v3 L1 L2 (newA p) ∧ Below w.heap.size w w' := by
 unfold newA
 cases hy : progB p with
 | true => exact specNew_yes s s' c c' lo hi p w h hB hf hy
 | false =>
  refine (specNew_no s s' c c' lo hi p w h hB hf hy).mono ?_
  rintro e w' ⟨rfl, hb⟩
  exact ⟨_, _, _, [], [], rfl, ⟨rfl, rfl, OwnQ.nil _ _ _, OwnQ.nil _ _ _, World.ownsRow_nil _ _ _ _, fun i j x y k hx => by simp at hx⟩, hb⟩
end Go.Proofs.Ytknffngbdakblaa
