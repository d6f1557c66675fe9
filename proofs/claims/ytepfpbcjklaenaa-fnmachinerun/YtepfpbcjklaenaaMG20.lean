/- Three cores under one lock: in rounds they come to their end. No condition. MachineRun of the program, whatever the machine and the picks. Conditions: the machine is of at most 2^20 cells, late is a number of 64 bits. -/
import Derived.Test.YtepfpbcjklaenaaMG00
import Derived.Test.YtepfpbcjklaenaaMG03
import Derived.Test.YtepfpbcjklaenaaMG07
import Derived.Test.YtepfpbcjklaenaaMG19
import Derived.Test.YtepfpbcjklaenaaMG01
import Derived.Test.YtepfpbcjklaenaaMG17
import Derived.Test.YtepfpbcjklaenaaMG09
import Derived.Test.YtepfpbcjklaenaaMG11
import Derived.Test.YtepfpbcjklaenaaMKOkB
import Derived.Test.YtepfpbcjklaenaaMG10
namespace Go.Proofs.Ytepfpbcjklaenaa
section
set_option linter.unusedSimpArgs false
set_option linter.unusedVariables false
set_option maxRecDepth 100000
open Go.RowKit
end
section
set_option linter.unusedSimpArgs false
set_option linter.unusedVariables false
set_option maxRecDepth 100000
open Go.RowKit
theorem hidN {p : Prop} (h : p) : Hid p := h
/- the argument's box and the answer's -/
structure Bc2 (V : World) (z : Nat) (m0 m1 m2 m3 : Value) : Prop where
 m0 : V.cell? ⟨z, 0, none⟩ = some m0
 m1 : V.cell? ⟨z, 1, none⟩ = some m1
 m2 : V.cell? ⟨z, 2, none⟩ = some m2
 m3 : V.cell? ⟨z, 3, none⟩ = some m3
 a0 : V.cell? ⟨z + 1, 0, none⟩ = some (.slice none 0 0)
 a1 : V.cell? ⟨z + 1, 1, none⟩ = some (.slice none 0 0)
 a2 : V.cell? ⟨z + 1, 2, none⟩ = some (.slice none 0 0)
 a3 : V.cell? ⟨z + 1, 3, none⟩ = some (.slice none 0 0)
 fa : ∀ j, V.frozen? ⟨z + 1, j, none⟩ = false
 z : z + 1 < V.heap.size
theorem Bc2.below {V V' : World} {z : Nat} {m0 m1 m2 m3 : Value} (h : Bc2 V z m0 m1 m2 m3) {n : Nat} (hb : Below n V V') (hn : z + 1 < n) : Bc2 V' z m0 m1 m2 m3 := by
 have c : ∀ j, V'.cell? ⟨z, j, none⟩ = V.cell? ⟨z, j, none⟩ := fun j => hb.cell (p := ⟨z, j, none⟩) (by show z < n; omega)
 have c' : ∀ j, V'.cell? ⟨z + 1, j, none⟩ = V.cell? ⟨z + 1, j, none⟩ := fun j => hb.cell (p := ⟨z + 1, j, none⟩) hn
 exact ⟨(c 0).trans h.m0, (c 1).trans h.m1, (c 2).trans h.m2, (c 3).trans h.m3, (c' 0).trans h.a0, (c' 1).trans h.a1, (c' 2).trans h.a2, (c' 3).trans h.a3, fun j => (hb.frozen (p := ⟨z + 1, j, none⟩) hn).trans (h.fa j), by have := h.z; have := hb.size; omega⟩
theorem bc2_new {w W : World} {m0 m1 m2 m3 : Value} {T0 T2 : TypeId} (hW : (w.alloc (.cells #[m0, m1, m2, m3] T0)).alloc (.cells #[.slice none 0 0, .slice none 0 0, .slice none 0 0, .slice none 0 0] T2) = W) : Bc2 W w.heap.size m0 m1 m2 m3 ∧ Below w.heap.size w W := by
 subst hW
 exact ⟨⟨by simp [go_sem], by simp [go_sem], by simp [go_sem], by simp [go_sem], by simp [go_sem], by simp [go_sem], by simp [go_sem], by simp [go_sem], fun j => by simp [go_sem], by simp⟩, ((Below.refl _ _).alloc (Nat.le_refl _) _).alloc (by simp) _⟩
/- the answer put into its box -/
theorem Bc2.put {V : World} {z : Nat} {m0 m1 m2 m3 a b c d : Value} (h : Bc2 V z m0 m1 m2 m3) : ∃ Z, (((V.setCell ⟨z + 1, 0, none⟩ a).setCell ⟨z + 1, 1, none⟩ b).setCell ⟨z + 1, 2, none⟩ c).setCell ⟨z + 1, 3, none⟩ d = Z ∧ Z.cell? ⟨z + 1, 0, none⟩ = some a ∧ Z.cell? ⟨z + 1, 1, none⟩ = some b ∧ Z.cell? ⟨z + 1, 2, none⟩ = some c ∧ Z.cell? ⟨z + 1, 3, none⟩ = some d ∧ (∀ q, q ≠ z + 1 → Z.heap[q]? = V.heap[q]?) ∧ Z.heap.size = V.heap.size ∧ ∀ (B : Nat) (A : World), Below B A V → B ≤ z + 1 → Below B A Z := by
 refine ⟨_, rfl, ?_, ?_, ?_, ?_, fun q hq => ?_, ?_, fun B A hb hz => ?_⟩
 ·simp [go_sem, h.a0, h.a1, h.a2, h.a3]
 ·simp [go_sem, h.a0, h.a1, h.a2, h.a3]
 ·simp [go_sem, h.a0, h.a1, h.a2, h.a3]
 ·simp [go_sem, h.a0, h.a1, h.a2, h.a3]
 ·exact (Below.heap_setCell _ ⟨z + 1, _, none⟩ _ q hq).trans ((Below.heap_setCell _ ⟨z + 1, _, none⟩ _ q hq).trans ((Below.heap_setCell _ ⟨z + 1, _, none⟩ _ q hq).trans (Below.heap_setCell _ ⟨z + 1, _, none⟩ _ q hq)))
 ·simp
 ·exact (((hb.setCell (p := ⟨z + 1, _, none⟩) hz _).setCell (p := ⟨z + 1, _, none⟩) hz _).setCell (p := ⟨z + 1, _, none⟩) hz _).setCell (p := ⟨z + 1, _, none⟩) hz _
/- what MachineRun answers -/
def RunQ8 (w : World) (D : MD) (C : List Int) (e : Ending) (w' : World) : Prop := ∃ (p : MP) (s : Option Addr) (c : Nat), e = .returned (.tuple #[.agg #[.slice p.s1 D.codes.length p.c1, .slice p.s2 D.cores.length p.c2, .slice p.s3 D.mem.length p.c3, .slice p.s4 D.tr.length p.c4], .slice s C.length c]) ∧ MaO w' w.heap.size w'.heap.size p D ∧ OwnN w' w.heap.size (.slice s C.length c) C ∧ (∀ q, (Value.slice s C.length c).ownBlock = some q → ∀ a ∈ p.as D, a.block ≠ q) ∧ Below w.heap.size w w'
theorem RnJ.fin {w V : World} {bm B : Nat} {vc vk vm : Value} {LC : List CV} {d : MD} {u : Value} {C : List Int} (h : RnJ w V bm B vc vk vm LC d u C) : ∃ (p : MP) (s : Option Addr) (c : Nat), u = .slice s C.length c ∧ V.cell? ⟨bm, 0, none⟩ = some (.slice p.s1 d.codes.length p.c1) ∧ V.cell? ⟨bm, 1, none⟩ = some (.slice p.s2 d.cores.length p.c2) ∧ V.cell? ⟨bm, 2, none⟩ = some (.slice p.s3 d.mem.length p.c3) ∧ V.cell? ⟨bm, 3, none⟩ = some (.slice p.s4 d.tr.length p.c4) ∧ MaO V B V.heap.size p d ∧ ∀ q, u.ownBlock = some q → ∀ a ∈ p.as d, a.block ≠ q := by
 obtain ⟨Hq, vt, LK, S, q, c3, sp⟩ := h.o
 obtain ⟨p, e1, e2, e3, e4, mo, hp⟩ := q.mo
 subst e1 e2 e3 e4
 obtain ⟨s, c, e⟩ := h.n.sl
 exact ⟨p, s, c, e, h.c0, h.c1, h.c2, c3, mo, fun q' e a ha e2 => sp q' e (e2 ▸ hp Hq q.hh a ha)⟩
theorem fin8 {w V Z : World} {z B : Nat} {m0 m1 m2 m3 : Value} {p : MP} {D : MD} {C : List Int} {s : Option Addr} {c : Nat} (hz : z = w.heap.size) (hb : Bc2 V z m0 m1 m2 m3) (hB : z + 1 < B) (mo : MaO V B V.heap.size p D) (hn : OwnN V B (.slice s C.length c) C) (sp : ∀ q, (Value.slice s C.length c).ownBlock = some q → ∀ a ∈ p.as D, a.block ≠ q) (hk : Below w.heap.size w V) (fz : ∀ q, q ≠ z + 1 → Z.heap[q]? = V.heap[q]?) (sz : Z.heap.size = V.heap.size) (bz : ∀ (B : Nat) (A : World), Below B A V → B ≤ z + 1 → Below B A Z) :
  RunQ8 w D C (.returned (.tuple #[.agg #[.slice p.s1 D.codes.length p.c1, .slice p.s2 D.cores.length p.c2, .slice p.s3 D.mem.length p.c3, .slice p.s4 D.tr.length p.c4], .slice s C.length c])) Z := by
 subst hz
 exact ⟨p, s, c, rfl, (mo.keep (fun k h1 _ => fz k (by omega))).mono (by omega) (by omega), ownLow' (ownKeep' hn (fun k e => fz k (by have := (World.ownsRow.lt hn k e).1; omega))) (by omega), sp, bz _ _ hk (by omega)⟩
set_option maxRecDepth 100000 in
set_option maxHeartbeats 8000000 in
theorem implMRun_any (s1 s2 s3 s4 s5 : Option Addr) (c1 c2 c3 c4 c5 lo hi lo' hi' : Nat) (d : MD) (l : List ND) (w : World) (h : MaR w lo hi s1 s2 s3 s4 d) (h' : NtsR w lo' hi' s5 l) (hB : hi ≤ w.heap.size) (hB' : hi' ≤ w.heap.size) (hf : MaSz d ≤ 1048576) (hl : l.length ≤ 1048576) (hlate : ∀ x ∈ l, x.v ≤ 9223372036854775807) :
  Calls Try.prog 10 #[.agg #[.slice s1 d.codes.length c1, .slice s2 d.cores.length c2, .slice s3 d.mem.length c3, .slice s4 d.tr.length c4], .slice s5 l.length c5] w (RunQ8 w (runMb d l) (runMc d l)) := by
 obtain ⟨W, hW⟩ : ∃ W, (w.alloc (.cells #[.slice s1 d.codes.length c1, .slice s2 d.cores.length c2, .slice s3 d.mem.length c3, .slice s4 d.tr.length c4] 34)).alloc (.cells #[.slice none 0 0, .slice none 0 0, .slice none 0 0, .slice none 0 0] 34) = W := ⟨_, rfl⟩
 obtain ⟨bc, kW⟩ := bc2_new hW
 have HW := hidN hW
 have H := hidN h
 have H' := hidN h'
 have HF := hidN hf
 have HLT := hidN hlate
 have BC0 := hidN bc
 have KW := hidN kW
 have zW := kW.size
 obtain ⟨RS, hRS⟩ : ∃ R, runMb d l = R := ⟨_, rfl⟩
 obtain ⟨RC, hRC⟩ : ∃ R, runMc d l = R := ⟨_, rfl⟩
 have ES := hidN hRS
 have EC := hidN hRC
 rw [hRS, hRC]
 obtain ⟨m0, m1, m2, m3, -, -, -, -, -, zz⟩ := bc
 clear hRS hRC hW kW h h' hf hlate
 go_enter Try.func10, Try.ntmps10
 go_wp2_with fail
 rw [HW.out]
 refine (sameMachine_any s1 s2 s3 s4 c1 c2 c3 c4 lo hi d W (H.out.keep (Keep.of_below KW.out hB)) (by omega) HF.out).mono ?_
 rintro e w2 ⟨vc, vk, vm, vt, LC, LK, S, rfl, q2, hb2, hz2⟩
 obtain ⟨p, rfl, rfl, rfl, rfl, -⟩ := q2.mo
 obtain ⟨Y, hY⟩ : ∃ Y, w2.alloc (.cells #[.slice p.s1 d.codes.length p.c1, .slice p.s2 d.cores.length p.c2, .slice p.s3 d.mem.length p.c3, .slice p.s4 d.tr.length p.c4] 34) = Y := ⟨_, rfl⟩
 have kY : Below w2.heap.size w2 Y := by subst hY; exact (Below.refl _ _).alloc (Nat.le_refl _) _
 have sY : w2.heap.size < Y.heap.size := by subst hY; simp
 have RJ := hidN (show RnJ W Y w2.heap.size W.heap.size (.slice p.s1 d.codes.length p.c1) (.slice p.s2 d.cores.length p.c2) (.slice p.s3 d.mem.length p.c3) LC d (.slice none 0 0) [] from
  ⟨⟨_, _, LK, S, (q2.toH (Nat.le_of_lt hz2)).keep (w' := Y) (fun b _ h1 => kY.block b h1) kY.size, by subst hY; simp [go_sem], fun q e => by cases e⟩, by subst hY; simp [go_sem], by subst hY; simp [go_sem], by subst hY; simp [go_sem], by subst hY; intro j; simp [go_sem], by subst hY; exact BxT.new _ _, World.ownsRow_nil _ _ _ _, hb2.trans (kY.mono (by omega)), by omega⟩)
 have HY := hidN hY
 have BB : Hid (W.heap.size ≤ w2.heap.size) := Nat.le_of_lt hz2
 have ZZ := hidN zz
 have BCY := hidN ((BC0.out.below hb2 zz).below kY (by omega))
 clear m0 m1 m2 m3 q2 hb2 hz2 hY kY sY
 go_upto_region 2 with fail
 rw [HY.out]
 clear HY
 have zY : Hid (w.heap.size + 1 < W.heap.size) := zz
 obtain ⟨bm, hbm⟩ : ∃ b, w2.heap.size = b := ⟨_, rfl⟩
 rw [hbm] at RJ BB ⊢
 clear hbm
 have KT : Hid (∀ V, Below W.heap.size W V → Below w.heap.size w V) := fun V k => KW.out.trans (k.mono zW)
 by_cases hll : 4000 < l.length
 ·have hli : (4000 : Int) < (l.length : Int) := by omega
  have E1 : Hid (RS = d) := by show _ = _; rw [← ES.out]; unfold runMb; rw [if_neg (by omega)]
  have E2 : Hid (RC = []) := by show _ = _; rw [← EC.out]; unfold runMc; rw [if_neg (by omega)]
  have zb := RJ.out.bx.lt
  obtain ⟨p', s', c', e', k0, k1, k2, k3, mo, sp⟩ := RJ.out.fin
  obtain ⟨-, -, -, -, a0, a1, a2, a3, fa, zz2⟩ := BCY.out
  have ne : ¬ bm = w.heap.size + 1 := by have := BB.out; have := ZZ.out; omega
  have ne' : ¬ w.heap.size + 1 = bm := fun e => ne e.symm
  have MO := hidN mo
  clear mo sp e'
  go_wp2
  obtain ⟨Z, hZ, g0, g1, g2, g3, fz, sz, bz⟩ := BCY.out.put (a := .slice p'.s1 d.codes.length p'.c1) (b := .slice p'.s2 d.cores.length p'.c2) (c := .slice p'.s3 d.mem.length p'.c3) (d := .slice p'.s4 d.tr.length p'.c4)
  refine bodyPost_ret (v := .tuple #[.agg #[.slice p'.s1 d.codes.length p'.c1, .slice p'.s2 d.cores.length p'.c2, .slice p'.s3 d.mem.length p'.c3, .slice p'.s4 d.tr.length p'.c4], .slice none 0 0]) ?_ rfl ?_
  ·rw [hZ]
   simp [results, Try.results10, go_sem, g0, g1, g2, g3]
  ·rw [hZ, E1.out, E2.out]
   exact fin8 (C := []) rfl BCY.out ZZ.out MO.out (World.ownsRow_nil _ _ _ _) (fun q e => by cases e) (KT.out _ RJ.out.k) fz sz bz
 ·have hli : ¬ (4000 : Int) < (l.length : Int) := by omega
  obtain ⟨m0, m1, m2, m3, -, -, -, -, -, zz2⟩ := BCY.out
  go_wp2_with fail
  refine (implMachineOk_any s1 s2 s3 s4 c1 c2 c3 c4 lo hi d Y (H.out.keep (Keep.of_below (KT.out _ RJ.out.k) hB)) (by have := (KT.out _ RJ.out.k).size; omega) (MaFits.of HF.out)).mono ?_
  rintro e w7 ⟨rfl, hb7⟩
  have R7 := hidN (RJ.out.keep hb7)
  have BC7 := hidN (BCY.out.below hb7 (by have := BCY.out.z; omega))
  clear m0 m1 m2 m3 zz2 hb7 RJ BCY
  cases hy : machB d with
  | false =>
   have hy' : ¬ (machB d = true) := by rw [hy]; simp
   have E1 : Hid (RS = d) := by show _ = _; rw [← ES.out]; unfold runMb; rw [if_neg (fun h => hy' h.2)]
   have E2 : Hid (RC = []) := by show _ = _; rw [← EC.out]; unfold runMc; rw [if_neg (fun h => hy' h.2)]
   have zb := R7.out.bx.lt
   obtain ⟨p', s', c', e', k0, k1, k2, k3, mo, sp⟩ := R7.out.fin
   obtain ⟨-, -, -, -, a0, a1, a2, a3, fa, zz2⟩ := BC7.out
   have ne : ¬ bm = w.heap.size + 1 := by have := BB.out; have := ZZ.out; omega
   have ne' : ¬ w.heap.size + 1 = bm := fun e => ne e.symm
   have MO := hidN mo
   clear mo sp e'
   go_wp2
   obtain ⟨Z, hZ, g0, g1, g2, g3, fz, sz, bz⟩ := BC7.out.put (a := .slice p'.s1 d.codes.length p'.c1) (b := .slice p'.s2 d.cores.length p'.c2) (c := .slice p'.s3 d.mem.length p'.c3) (d := .slice p'.s4 d.tr.length p'.c4)
   refine bodyPost_ret (v := .tuple #[.agg #[.slice p'.s1 d.codes.length p'.c1, .slice p'.s2 d.cores.length p'.c2, .slice p'.s3 d.mem.length p'.c3, .slice p'.s4 d.tr.length p'.c4], .slice none 0 0]) ?_ rfl ?_
   ·rw [hZ]
    simp [results, Try.results10, go_sem, g0, g1, g2, g3]
   ·rw [hZ, E1.out, E2.out]
    exact fin8 (C := []) rfl BC7.out ZZ.out MO.out (World.ownsRow_nil _ _ _ _) (fun q e => by cases e) (KT.out _ R7.out.k) fz sz bz
  | true =>
   have E1 : Hid (RS = rnM d l) := by show _ = _; rw [← ES.out]; unfold runMb; rw [if_pos ⟨by omega, hy⟩]
   have E2 : Hid (RC = rnC d l) := by show _ = _; rw [← EC.out]; unfold runMc; rw [if_pos ⟨by omega, hy⟩]
   have HYM := hidN hy
   clear hy
   go_wp2_with fail
   go_loopw [7, 23] (fun u i wr => ∃ k : Nat, k ≤ l.length ∧ i = .int .i64 k ∧ RnJ W wr bm W.heap.size (.slice p.s1 d.codes.length p.c1) (.slice p.s2 d.cores.length p.c2) (.slice p.s3 d.mem.length p.c3) LC (rnM d (l.take k)) u (rnC d (l.take k))) (fun _ i _ => l.length - (intOf i).toNat)
   case atStart => exact ⟨0, Nat.zero_le _, rfl, R7.out⟩
   case round =>
    obtain ⟨k, hk, rfl, rj⟩ := hrel
    have hoj := rnM_ok (l.take k) HYM.out
    have hcl : (rnC d (l.take k)).length = k := by rw [rnC_len, List.length_take]; omega
    have EA := hidN (fun (e : k = l.length) => (show rnM d (l.take k) = RS ∧ rnC d (l.take k) = RC from by rw [E1.out, E2.out, e, List.take_length]; exact ⟨rfl, rfl⟩))
    by_cases hlt : k < l.length
    ·obtain ⟨x, ek⟩ : ∃ x, l[k]? = some x := ⟨_, List.getElem?_eq_getElem hlt⟩
     have ED := hidN (rn_take (d := d) ek)
     have XL := hidN (HLT.out x (List.mem_of_getElem? ek))
     have kw := KT.out _ rj.k
     obtain ⟨g, o, es5, zg, p0, p1⟩ := H'.out.pk hB' kw ek
     subst es5
     have zg2 : g < wr.heap.size := by have := kw.size; omega
     clear ek kw
     generalize rnM d (l.take k) = M at rj hoj EA ED
     generalize rnC d (l.take k) = C at rj hcl EA ED
     obtain ⟨V, hV⟩ : ∃ V, wr.alloc (.cells #[.int .i64 x.who, .int .i64 x.v] 40) = V := ⟨_, rfl⟩
     have kV : Below wr.heap.size wr V := by subst hV; exact (Below.refl _ _).alloc (Nat.le_refl _) _
     have v0 : V.cell? ⟨wr.heap.size, 0, none⟩ = some (.int .i64 x.who) := by subst hV; simp [go_sem]
     have v1 : V.cell? ⟨wr.heap.size, 1, none⟩ = some (.int .i64 x.v) := by subst hV; simp [go_sem]
     have zV : wr.heap.size < V.heap.size := by subst hV; simp
     have RV := hidN (rj.keep kV)
     obtain ⟨Hq, vt, LK, S, q, c3, sp⟩ := RV.out.o
     have T := hidN (stepIn_any x.who x.v q RV.out.c0 RV.out.c1 RV.out.c2 c3 RV.out.fm RV.out.bx BB.out RV.out.m hoj XL.out)
     have SP := hidN sp
     have HV := hidN hV
     have HCL := hidN hcl
     have HOJ := hidN hoj
     have b0 : (0 : Int) ≤ (k : Int) := by omega
     have b1 : (k : Int) < (l.length : Int) := by omega
     obtain ⟨su, cu, eu⟩ := RV.out.n.sl
     subst eu
     clear q c3 sp rj hcl hoj EA kV hV
     go_upto_region 8 with fail
     rw [HV.out]
     clear HV p0 p1
     go_wp2_with fail
     refine Calls.mono T.out ?_
     intro e w9 ht
     obtain ⟨KK, hKK⟩ : ∃ K, (stepM M x.who x.v).2 = K := ⟨_, rfl⟩
     have he := ht.1
     rw [hKK] at ED he
     subst he
     have RT := hidN (RV.out.turn SP.out ht)
     have OK9 := hidN (stepM_ok x.who x.v HOJ.out)
     clear ht hKK RV SP T HOJ v0 v1 zV
     go_wp2_with (at_builtin; refine app_one rfl _ _ rfl w9 KK W.heap.size (.slice su C.length cu) C rfl RT.out.n rfl (by have := HCL.out; omega) RT.out.m ?_; intro g5 cap5 w5' ho5 hb5 hf5; have RA := hidN (RT.out.app OK9.out ho5 hb5 hf5); clear ho5 hb5 hf5)
     go_roundw
     case rel => exact ⟨k + 1, by omega, by go_num, by rw [ED.out.1, ED.out.2]; exact RA.out⟩
     case measure => simp [intOf]; omega
    ·have ek : k = l.length := by omega
     obtain ⟨e1', e2'⟩ := EA.out ek
     rw [e1', e2'] at rj
     clear e1' e2' hoj hcl EA
     have zb := rj.bx.lt
     have RK := hidN rj
     obtain ⟨p', s', c', e', k0, k1, k2, k3, mo, sp⟩ := rj.fin
     subst e'
     have MO := hidN mo
     have SP := hidN sp
     have ON := hidN rj.n
     have BCR := hidN (BC0.out.below rj.k ZZ.out)
     obtain ⟨-, -, -, -, a0, a1, a2, a3, fa, zz2⟩ := BCR.out
     have ne : ¬ bm = w.heap.size + 1 := by have := BB.out; have := ZZ.out; omega
     have ne' : ¬ w.heap.size + 1 = bm := fun e => ne e.symm
     have b1 : ¬ (k : Int) < (l.length : Int) := by omega
     clear mo sp rj hlt ek
     go_wp2
     obtain ⟨Z, hZ, g0, g1, g2, g3, fz, sz, bz⟩ := BCR.out.put (a := .slice p'.s1 RS.codes.length p'.c1) (b := .slice p'.s2 RS.cores.length p'.c2) (c := .slice p'.s3 RS.mem.length p'.c3) (d := .slice p'.s4 RS.tr.length p'.c4)
     refine bodyPost_ret (v := .tuple #[.agg #[.slice p'.s1 RS.codes.length p'.c1, .slice p'.s2 RS.cores.length p'.c2, .slice p'.s3 RS.mem.length p'.c3, .slice p'.s4 RS.tr.length p'.c4], .slice s' RC.length c']) ?_ rfl ?_
     ·rw [hZ]
      simp [results, Try.results10, go_sem, g0, g1, g2, g3]
     ·rw [hZ]
      exact fin8 rfl BCR.out ZZ.out MO.out ON.out SP.out (KT.out _ RK.out.k) fz sz bz
end
end Go.Proofs.Ytepfpbcjklaenaa
