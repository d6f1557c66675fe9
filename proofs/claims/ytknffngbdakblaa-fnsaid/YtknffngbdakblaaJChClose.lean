/- Chapter 3: ChanClose of the program and of the specification. Conditions: lists of at most 2^30 numbers. -/
import Derived.Test.YtknffngbdakblaaJG00
import Derived.Test.YtknffngbdakblaaJChDefs
import Derived.Test.YtknffngbdakblaaJChA
import Derived.Test.YtknffngbdakblaaJG04
namespace Go.Proofs.Ytknffngbdakblaa
set_option linter.unusedSimpArgs false
set_option linter.unusedVariables false
set_option maxRecDepth 100000
open Go.RowKit
def closeB (cap : Int) (l : List Int) (cl : Bool) : Bool := okC cap l.length || cl
def closeK (cap : Int) (l : List Int) (cl : Bool) : Int := if okC cap l.length = true ∧ cl = false then 0 else 2
def ClosePost (cap : Int) (l : List Int) (cl : Bool) (w : World) (e : Ending) (w' : World) : Prop :=
 ∃ u, e = .returned (.tuple #[.agg #[.int .i64 cap, u, .bool (closeB cap l cl)], .int .i64 (closeK cap l cl)]) ∧ OwnN w' w.heap.size u l ∧ Below w.heap.size w w' ∧ w.heap.size < w'.heap.size
theorem close_bad {cap : Int} {l : List Int} {cl : Bool} (h : okC cap l.length = false) : closeB cap l cl = cl ∧ closeK cap l cl = 2 := by simp [closeB, closeK, h]
theorem close_twice {cap : Int} {l : List Int} : closeB cap l true = true ∧ closeK cap l true = 2 := by simp [closeB, closeK]
theorem close_done {cap : Int} {l : List Int} (h : okC cap l.length = true) : closeB cap l false = true ∧ closeK cap l false = 0 := by simp [closeB, closeK, h]
theorem close_mk {cap : Int} {l : List Int} {cl b : Bool} {k : Int} {w : World} {e : Ending} {w' : World} (h : closeB cap l cl = b ∧ closeK cap l cl = k) (u : Value)
  (h1 : e = .returned (.tuple #[.agg #[.int .i64 cap, u, .bool b], .int .i64 k])) (h2 : OwnN w' w.heap.size u l) (h3 : Below w.heap.size w w') (h4 : w.heap.size < w'.heap.size) : ClosePost cap l cl w e w' :=
 ⟨u, by rw [h.1, h.2]; exact h1, h2, h3, h4⟩
set_option maxHeartbeats 2000000 in
theorem specClose_any (cap : Int) (s : Option Addr) (l : List Int) (c : Nat) (cl : Bool) (w : World) (hr : RowI w w.heap.size s l) (hn : l.length ≤ 1073741824) : Calls Try.prog 37 #[.agg #[.int .i64 cap, .slice s l.length c, .bool cl]] w fun e w' => ClosePost cap l cl w e w' := by
 cases cl with
 | true =>
  go_enter Try.func37, Try.ntmps37
  go_wp2_with fail
  obtain ⟨W, hW, hX, K0⟩ := boxW w (.int .i64 cap) (.slice s l.length c) (.bool true) (.int .i64 0) (.slice none 0 0) (.bool false) 50 50
  rw [hW]
  clear hW
  refine (l3Copy_any cap s l c true W ((hr.below K0).mono (by have := hX.z; omega)) hn).mono ?_
  rintro e w1 ⟨u1, rfl, ho1, hb1, hs1⟩
  obtain ⟨s1, k1, rfl⟩ := ho1.sl
  obtain ⟨Y, hY, b1, KY, sY⟩ := box1 w1 (.int .i64 cap) (.slice s1 l.length k1) (.bool true) 50
  have BY := (hb1.trans (KY.mono (by omega)))
  have XY := hX.keep (BY.mono hX.z)
  have KK := K0.trans (BY.mono (by have := hX.z; omega))
  have HO : Hid (OwnN Y W.heap.size (.slice s1 l.length k1) l) := ho1.below KY
  have HO1 : Hid (OwnN w1 W.heap.size (.slice s1 l.length k1) l) := ho1
  have hz := hX.z
  clear hX hb1 K0 KY BY ho1
  obtain ⟨a0, a1, a2, af, az2⟩ := b1
  obtain ⟨c0, c1, c2, d0, d1, d2, f0, f1, z2, z0, z1⟩ := XY
  go_wp2_with fail
  refine bodyPost_ret (v := .tuple #[.agg #[.int .i64 cap, .slice s1 l.length k1, .bool true], .int .i64 2]) (by simp [results, Try.results37, go_sem, d0, d1, d2]) rfl ?_
  exact close_mk close_twice _ rfl (res_own HO.out hz _ _ _) (res_below KK _ _ _) (by simp; omega)
 | false =>
  go_enter Try.func37, Try.ntmps37
  go_wp2_with fail
  obtain ⟨W, hW, hX, K0⟩ := boxW w (.int .i64 cap) (.slice s l.length c) (.bool false) (.int .i64 0) (.slice none 0 0) (.bool false) 50 50
  rw [hW]
  clear hW
  refine (l3Copy_any cap s l c false W ((hr.below K0).mono (by have := hX.z; omega)) hn).mono ?_
  rintro e w1 ⟨u1, rfl, ho1, hb1, hs1⟩
  obtain ⟨s1, k1, rfl⟩ := ho1.sl
  obtain ⟨Y, hY, b1, KY, sY⟩ := box1 w1 (.int .i64 cap) (.slice s1 l.length k1) (.bool false) 50
  have BY := (hb1.trans (KY.mono (by omega)))
  have XY := hX.keep (BY.mono hX.z)
  obtain ⟨c0, c1, c2, d0, d1, d2, f0, f1, z, z0, z1⟩ := hX.keep (hb1.mono hX.z)
  have HYe := (show Hid _ from hY)
  clear hY
  have KK := K0.trans (BY.mono (by have := hX.z; omega))
  have HO : Hid (OwnN Y W.heap.size (.slice s1 l.length k1) l) := ho1.below KY
  have HO1 : Hid (OwnN w1 W.heap.size (.slice s1 l.length k1) l) := ho1
  have hz := hX.z
  clear hX hb1 K0 KY BY ho1
  have HY := (show Hid _ from b1)
  have HXY := (show Hid _ from XY)
  clear b1 XY
  go_wp2_with fail
  rw [HYe.out]
  refine (specOk_any cap s l.length c false Y hn).mono ?_
  rintro e w2 ⟨rfl, hb2⟩
  have X2 := HXY.out.keep (hb2.mono HXY.out.z)
  have Y2 := HY.out.keep (hb2.block _ HY.out.z) hb2.size
  have K2 := KK.trans (hb2.mono (by omega))
  have O2 : Hid (OwnN w2 W.heap.size (.slice s1 l.length k1) l) := HO.out.below hb2
  have hz2 := hb2.size
  clear c0 c1 c2 d0 d1 d2 f0 f1 z0 z1 HY HYe HXY HO KK hb2
  have HY := (show Hid _ from Y2)
  obtain ⟨a0, a1, a2, af, az2⟩ := Y2
  obtain ⟨c0, c1, c2, d0, d1, d2, f0, f1, z2, z0, z1⟩ := X2
  cases hok : okC cap l.length with
  | false =>
   go_wp2_with fail
   refine bodyPost_ret (v := .tuple #[.agg #[.int .i64 cap, .slice s1 l.length k1, .bool false], .int .i64 2]) (by simp [results, Try.results37, go_sem, d0, d1, d2]) rfl ?_
   exact close_mk (close_bad hok) _ rfl (res_own O2.out hz _ _ _) (res_below K2 _ _ _) (by simp; omega)
  | true =>
   have n1 : ¬ w1.heap.size = w.heap.size + 1 := by omega
   have n2 : ¬ w.heap.size + 1 = w1.heap.size := by omega
   have hgo : ∀ g cap', Value.slice s1 l.length k1 = .slice (some ⟨g, 0, none⟩) l.length cap' → g < w1.heap.size := by
    intro g cap' e
    by_cases h0 : l.length = 0
    ·rcases HO1.out.2 with ⟨h1, -⟩ | ⟨g', c', cur, hv, hb', hg', -⟩
     ·rw [h1] at e; cases e
     ·rw [hv] at e
      have := (Array.getElem?_eq_some_iff.1 hg').1
      injection e with e1; injection e1 with e1; injection e1 with e1; omega
    ·obtain ⟨g', c', hv, -, hlt⟩ := HO1.out.lt (by omega)
     rw [hv] at e
     injection e with e1; injection e1 with e1; injection e1 with e1; omega
   go_wp2_with fail
   refine bodyPost_ret (v := .tuple #[.agg #[.int .i64 cap, .slice s1 l.length k1, .bool true], .int .i64 0]) (by simp [results, Try.results37, go_sem, d0, d1, d2]) rfl ?_
   exact close_mk (close_done hok) _ rfl (res_own (O2.out.off (a := ⟨w1.heap.size, 2, none⟩) (fun g cap' e => by have := hgo g cap' e; simp; omega) _) hz _ _ _) (res_below (K2.setCell (p := ⟨w1.heap.size, 2, none⟩) (by simp; omega) _) _ _ _) (by simp; omega)
end Go.Proofs.Ytknffngbdakblaa
