/- SourceStep of the specification. Conditions: program and source fit. A step keeps a source small. Rows of rows of places that a call has made, with what they hold: each inner row has a block of its own. Conditions: fewer than 2^30 rows, fewer than 2^30 places in each. Rows of places that are written over with running numbers. Conditions: at most 2^20 + 1 places. Running numbers read back from a row of places. Conditions: at most 2^20 + 1 places. Rows of rows of places, written over with running numbers. Conditions: the numbers stay below 10^15. Running numbers read back from rows of rows of places. Conditions: the numbers stay below 10^15. Rows of integers that a call has made, written over with running numbers and looked at again. Conditions: at most 2^20 + 1 integers. A program's lists, written over with running numbers and looked at again. Conditions: the numbers stay below 10^15. Rows of a call's own, read as a program's lists. -/
import Derived.Test.YtknffngbdakblaaGreatJG00
import Derived.Test.YtknffngbdakblaaGreatJG06
import Derived.Test.YtknffngbdakblaaGreatJG05
import Derived.Test.YtknffngbdakblaaGreatJSrcOkS
import Derived.Test.YtknffngbdakblaaGreatJG07
import Derived.Test.YtknffngbdakblaaGreatJG02
import Derived.Test.YtknffngbdakblaaGreatJG01
import Derived.Test.YtknffngbdakblaaGreatJG04
import Derived.Test.YtknffngbdakblaaGreatJStepSpA
import Derived.Test.YtknffngbdakblaaGreatJStepSpB
import Derived.Test.YtknffngbdakblaaGreatJG08
import Derived.Test.YtknffngbdakblaaGreatJStepSpD
import Derived.Test.YtknffngbdakblaaGreatJSrcDup
import Derived.Deep.RegionHeld3
import Derived.Deep.DeepCutAuto
import Derived.Test.YtknffngbdakblaaGreatJG03
import Derived.Deep.RegionWith
namespace Go.Proofs.YtknffngbdakblaaGreat
section
set_option linter.unusedSimpArgs false
set_option linter.unusedVariables false
set_option maxRecDepth 100000
open Go.RowKit
theorem l4Step_any (p1 p2 : Option Addr) (a1 a2 lo hi base : Nat) (p : PD) (v1 v2 v3 : Value) (L1 L2 : List (Rec × Value)) (d : SD) (k : Nat) (t : TD) (w : World) (hP : ProgR w lo hi p1 p2 p) (hB : hi ≤ base) (hO : OwnS w base v1 v2 v3 L1 L2 d) (hb : base ≤ w.heap.size) (hR : Right p d) (ht : d.ths[k]? = some t) (hst : t.st = 0) :
  Calls Tryz.prog 54 #[.agg #[.slice p1 p.caps.length a1, .slice p2 p.bods.length a2], .agg #[v1, v2, v3], .int .i64 k] w fun e w' => StepY w base (HitS v1 v2 v3 L1 L2) (outOf p d k) d k e w' := by
 obtain ⟨q, g1, c1, gr, cr, gb, ob, gi, oi, cb, nb, s2, s3, c2, c3, y, O⟩ := hO.open hP hB hb hR ht
 have ok := O.ok
 clear O
 unfold insX Plain.insB at ok
 rw [decide_eq_true_eq] at ok
 have ho : (insOf p d k).o = 1 ∨ (insOf p d k).o = 2 ∨ (insOf p d k).o = 3 ∨ (insOf p d k).o = 4 ∨ (5 ≤ (insOf p d k).o ∧ (insOf p d k).o ≤ 9) ∨ (insOf p d k).o = 10 ∨ (insOf p d k).o = 11 ∨ (insOf p d k).o = 12 ∨ (insOf p d k).o = 13 := by omega
 rcases ho with h | h | h | h | h | h | h | h | h
 ·exact sq1 p1 p2 a1 a2 lo hi base p v1 v2 v3 L1 L2 d k t w hP hB hO hb hR ht hst h
 ·exact sq2 p1 p2 a1 a2 lo hi base p v1 v2 v3 L1 L2 d k t w hP hB hO hb hR ht hst h
 ·exact sq3 p1 p2 a1 a2 lo hi base p v1 v2 v3 L1 L2 d k t w hP hB hO hb hR ht hst h
 ·exact sq4 p1 p2 a1 a2 lo hi base p v1 v2 v3 L1 L2 d k t w hP hB hO hb hR ht hst h
 ·exact sqC p1 p2 a1 a2 lo hi base p v1 v2 v3 L1 L2 d k t w hP hB hO hb hR ht hst h
 ·exact sq10 p1 p2 a1 a2 lo hi base p v1 v2 v3 L1 L2 d k t w hP hB hO hb hR ht hst h
 ·exact sq11 p1 p2 a1 a2 lo hi base p v1 v2 v3 L1 L2 d k t w hP hB hO hb hR ht hst h
 ·exact sq12 p1 p2 a1 a2 lo hi base p v1 v2 v3 L1 L2 d k t w hP hB hO hb hR ht hst h
 ·exact sq13 p1 p2 a1 a2 lo hi base p v1 v2 v3 L1 L2 d k t w hP hB hO hb hR ht hst h
noncomputable def stepKb (p : PD) (d : SD) (who : Int) : Int := if srcB p d = true then stepK p d who else 1
noncomputable def stepSb (p : PD) (d : SD) (who : Int) : SD := if srcB p d = true then stepS p d who else ⟨[], [], []⟩
def SStepQ (w : World) (K : Int) (D : SD) (e : Ending) (w' : World) : Prop := ∃ s1 c1 s2 c2 s3 c3 L1 L2, e = .returned (.tuple #[.agg #[.slice s1 D.ths.length c1, .slice s2 D.chs.length c2, .slice s3 D.tr.length c3], .int .i64 K]) ∧ OwnS w' w.heap.size (.slice s1 D.ths.length c1) (.slice s2 D.chs.length c2) (.slice s3 D.tr.length c3) L1 L2 D ∧ Below w.heap.size w w'
theorem OwnS.nil (w : World) (base : Nat) : OwnS w base (.slice none 0 0) (.slice none 0 0) (.slice none 0 0) [] [] ⟨[], [], []⟩ := ⟨rfl, rfl, OwnQ.nil _ _ _, OwnQ.nil _ _ _, World.ownsRow_nil _ _ _ _, fun i j x y k hx => by simp at hx⟩
theorem OwnS.low {w : World} {b b' : Nat} {v1 v2 v3 : Value} {L1 L2 : List (Rec × Value)} {d : SD} (h : OwnS w b v1 v2 v3 L1 L2 d) (hb : b' ≤ b) : OwnS w b' v1 v2 v3 L1 L2 d := ⟨h.e1, h.e2, h.t.low hb, h.c.low hb, ownLow' h.n hb, h.sep⟩
theorem RecsR.thr {w wr : World} {lo hi : Nat} {s : Option Addr} {l : List TD} (h : RecsR w lo hi s (l.map TD.rec3)) (hB : hi ≤ w.heap.size) (hb : Below w.heap.size w wr) {k : Nat} {t : TD} (hk : l[k]? = some t) : ∃ g o s' c', s = some ⟨g, o, none⟩ ∧ g < w.heap.size ∧ wr.cell? ⟨g, o + k * 3, none⟩ = some (.int .i64 t.pc) ∧ wr.cell? ⟨g, o + k * 3 + 1, none⟩ = some (.slice s' t.regs.length c') ∧ wr.cell? ⟨g, o + k * 3 + 2, none⟩ = some (.int .i64 t.st) ∧ IntsR wr lo hi s' t.regs := by
 rcases h with h | ⟨g, o, hs, h1, h2, hc⟩
 ·have : l = [] := by simpa using h
  subst this
  simp at hk
 ·obtain ⟨s', c', q1, q2, q3, q4⟩ := hc k t.rec3 (by rw [List.getElem?_map, hk]; rfl)
  have cc : ∀ j, wr.cell? ⟨g, j, none⟩ = w.cell? ⟨g, j, none⟩ := fun j => hb.cell (p := ⟨g, j, none⟩) (by show g < _; omega)
  exact ⟨g, o, s', c', hs, by omega, (cc _).trans q1, (cc _).trans q2, (cc _).trans q3, q4.keep (Keep.of_below hb hB)⟩
/- the boxes: program, source, answer -/
structure Br (V : World) (z : Nat) (p0 p1 v1 v2 v3 : Value) : Prop where
 p0 : V.cell? ⟨z, 0, none⟩ = some p0
 p1 : V.cell? ⟨z, 1, none⟩ = some p1
 s : BoF (z + 1) V v1 v2 v3
 a : BoF (z + 1 + 1) V (.slice none 0 0) (.slice none 0 0) (.slice none 0 0)
 ba : BxS V (z + 1 + 1)
 zz : z + 1 + 1 < V.heap.size
theorem Br.below {V V' : World} {z : Nat} {p0 p1 v1 v2 v3 : Value} (h : Br V z p0 p1 v1 v2 v3) {B : Nat} (hb : Below B V V') (hB : z + 1 + 1 < B) : Br V' z p0 p1 v1 v2 v3 :=
 ⟨(hb.cell (p := ⟨z, 0, none⟩) (by show z < _; omega)).trans h.p0, (hb.cell (p := ⟨z, 1, none⟩) (by show z < _; omega)).trans h.p1, h.s.below hb (by omega), h.a.below hb hB, h.ba.same (hb.block _ hB), by have := hb.size; have := h.zz; omega⟩
theorem br_new {w W : World} {p0 p1 v1 v2 v3 : Value} {T0 T1 : TypeId} (hW : (((w.alloc (.cells #[p0, p1] T0)).alloc (.cells #[v1, v2, v3] T1)).alloc (.cells #[.slice none 0 0, .slice none 0 0, .slice none 0 0] 32)) = W) : Br W w.heap.size p0 p1 v1 v2 v3 ∧ Below w.heap.size w W := by
 obtain ⟨W0, h0, b0, k0, z0⟩ := Bo2.new w p0 p1 T0
 obtain ⟨W1, h1, b1, k1, z1⟩ := BoF.new W0 v1 v2 v3 T1
 obtain ⟨W2, h2, b2, k2, z2⟩ := BoF.new W1 (.slice none 0 0) (.slice none 0 0) (.slice none 0 0) 32
 have t2 : BxS W2 W1.heap.size := by rw [← h2]; exact BxS.new _ _
 have eW : W2 = W := by rw [← hW, h0, h1, h2]
 subst eW
 rw [z0] at b1
 rw [z1, z0] at b2 t2
 have b0' := (b0.keep (Keep.of_below k1 (by omega))).keep (Keep.of_below k2 (by omega))
 exact ⟨⟨b0'.c0, b0'.c1, b1.below k2 (by omega), b2, t2, by omega⟩, k0.trans ((k1.mono (by omega)).trans (k2.mono (by omega)))⟩
/- the answer's box written, and read -/
theorem Br.put {V : World} {z : Nat} {p0 p1 v1 v2 v3 : Value} (h : Br V z p0 p1 v1 v2 v3) (a b c : Value) : ∃ Z, ((V.setCell ⟨z + 1 + 1, 0, none⟩ a).setCell ⟨z + 1 + 1, 1, none⟩ b).setCell ⟨z + 1 + 1, 2, none⟩ c = Z ∧ BoF (z + 1 + 1) Z a b c ∧ (∀ base v1 v2 v3 L1 L2 d, OwnS V base v1 v2 v3 L1 L2 d → OwnS Z base v1 v2 v3 L1 L2 d) ∧ (∀ B w, Below B w V → B ≤ z + 1 + 1 → Below B w Z) := by
 refine ⟨_, rfl, ((h.a.set0 a).set1 b).set2 c, fun base v1 v2 v3 L1 L2 d q => ((q.offB h.ba).offB h.ba.set).offB h.ba.set.set, fun B w q hB => ?_⟩
 refine Below.setCell (Below.setCell (Below.setCell q ?_ _) ?_ _) ?_ _ <;> exact hB
/- a box of a source that may be there, and may be written -/
def BoxA (X : World) : Option Nat → Prop
 | none => True
 | some q => BoF q X (.slice none 0 0) (.slice none 0 0) (.slice none 0 0) ∧ BxS X q
theorem boxAS {X : World} {q : Nat} (h : BoxA X (some q)) : BoF q X (.slice none 0 0) (.slice none 0 0) (.slice none 0 0) ∧ BxS X q := h
theorem BoxA.keep {X Y : World} {p : Option Nat} (h : BoxA X p) (hb : Below X.heap.size X Y) : BoxA Y p := by
 cases p with
 | none => trivial
 | some p => exact ⟨h.1.below hb h.2.lt, h.2.same (hb.block _ h.2.lt)⟩
theorem boxA0 (X : World) : BoxA (X.alloc (.cells #[.slice none 0 0, .slice none 0 0, .slice none 0 0] 32)) (some X.heap.size) := by
 obtain ⟨W, h, b, -, -⟩ := BoF.new X (.slice none 0 0) (.slice none 0 0) (.slice none 0 0) 32
 rw [← h] at b
 exact ⟨b, BxS.new _ _⟩
theorem boxAD {X : World} {p : Option Nat} (h : BoxA X p) : BoxA X.drew p := by
 cases p with
 | none => trivial
 | some p => exact ⟨⟨h.1.c0, h.1.c1, h.1.c2, h.1.f, h.1.z⟩, h.2⟩
theorem boxAN (X : World) : BoxA X none := trivial
def CutQ (W : World) (o : Out) (d : SD) (k : Nat) (s8 s9 : Value) (wc : World) : Prop := ∃ (bo : Nat) (s1 : Option Addr) (n1 c1 : Nat) (s2 : Option Addr) (n2 c2 : Nat) (s3 : Option Addr) (n3 c3 : Nat), s8 = .pointer (some ⟨bo, 0, none⟩) ∧ s9 = .int .i64 o.code ∧ W.heap.size ≤ bo ∧ BoF bo wc (.slice s1 n1 c1) (.slice s2 n2 c2) (.slice s3 n3 c3) ∧ (o.code = 0 → ∃ L1 L2, OwnS wc W.heap.size (.slice s1 n1 c1) (.slice s2 n2 c2) (.slice s3 n3 c3) L1 L2 (doneS d k o)) ∧ Below W.heap.size W wc
theorem cutQ_new {W wM : World} {o : Out} {d : SD} {k n1 c1 n2 c2 n3 c3 : Nat} {s1 s2 s3 : Option Addr} (q : o.code = 0 → ∃ L1 L2, OwnS wM W.heap.size (.slice s1 n1 c1) (.slice s2 n2 c2) (.slice s3 n3 c3) L1 L2 (doneS d k o)) (kk : Below W.heap.size W wM) : CutQ W o d k (.pointer (some ⟨wM.heap.size, 0, none⟩)) (.int .i64 o.code) (wM.alloc (.cells #[.slice s1 n1 c1, .slice s2 n2 c2, .slice s3 n3 c3] 32)) := by
 obtain ⟨Y, hY, x, kY, -⟩ := BoF.new wM (.slice s1 n1 c1) (.slice s2 n2 c2) (.slice s3 n3 c3) 32
 rw [hY]
 refine ⟨wM.heap.size, s1, n1, c1, s2, n2, c2, s3, n3, c3, rfl, rfl, kk.size, x, fun h => ?_, kk.trans (kY.mono kk.size)⟩
 obtain ⟨L1, L2, o1⟩ := q h
 exact ⟨L1, L2, o1.keep (fun b _ h1 => kY.block b h1)⟩
theorem cutQ_set {W wM : World} {o : Out} {d : SD} {k n1 c1 n2 c2 n3 c3 bo : Nat} {s1 s2 s3 : Option Addr} (b : BoF bo wM (.slice none 0 0) (.slice none 0 0) (.slice none 0 0) ∧ BxS wM bo) (hbo : W.heap.size ≤ bo) (q : o.code = 0 → ∃ L1 L2, OwnS wM W.heap.size (.slice s1 n1 c1) (.slice s2 n2 c2) (.slice s3 n3 c3) L1 L2 (doneS d k o)) (kk : Below W.heap.size W wM) : CutQ W o d k (.pointer (some ⟨bo, 0, none⟩)) (.int .i64 o.code) (((wM.setCell ⟨bo, 0, none⟩ (.slice s1 n1 c1)).setCell ⟨bo, 1, none⟩ (.slice s2 n2 c2)).setCell ⟨bo, 2, none⟩ (.slice s3 n3 c3)) := by
 have B := b.2
 refine ⟨bo, s1, n1, c1, s2, n2, c2, s3, n3, c3, rfl, rfl, hbo, ((b.1.set0 _).set1 _).set2 _, fun h => ?_, ((kk.setCell (p := ⟨bo, _, none⟩) hbo _).setCell (p := ⟨bo, _, none⟩) hbo _).setCell (p := ⟨bo, _, none⟩) hbo _⟩
 obtain ⟨L1, L2, o1⟩ := q h
 exact ⟨L1, L2, ((o1.offB B).offB B.set).offB B.set.set⟩
set_option maxHeartbeats 2000000 in
theorem specStep_bad (p1 p2 s1 s2 s3 : Option Addr) (a1 a2 c1 c2 c3 lo hi lo' hi' : Nat) (p : PD) (d : SD) (who : Int) (w : World) (h : ProgR w lo hi p1 p2 p) (h' : SrcR w lo' hi' s1 s2 s3 d) (hB : hi ≤ w.heap.size) (hB' : hi' ≤ w.heap.size) (hf : Fits p) (hf' : SFits d) (hy : srcB p d = false) :
  Calls Tryz.prog 31 #[.agg #[.slice p1 p.caps.length a1, .slice p2 p.bods.length a2], .agg #[.slice s1 d.ths.length c1, .slice s2 d.chs.length c2, .slice s3 d.tr.length c3], .int .i64 who] w (SStepQ w 1 ⟨[], [], []⟩) := by
 have HY := hidW hy
 clear hy
 obtain ⟨W, hW⟩ : ∃ W, ((w.alloc (.cells #[.slice p1 p.caps.length a1, .slice p2 p.bods.length a2] 27)).alloc (.cells #[.slice s1 d.ths.length c1, .slice s2 d.chs.length c2, .slice s3 d.tr.length c3] 32)).alloc (.cells #[.slice none 0 0, .slice none 0 0, .slice none 0 0] 32) = W := ⟨_, rfl⟩
 obtain ⟨bc, kW⟩ := br_new hW
 have HW := hidW hW
 have H := hidW h
 have H' := hidW h'
 have HF := hidW hf
 have HF' := hidW hf'
 have BC0 := hidW bc
 have KW := hidW kW
 have zW := kW.size
 obtain ⟨m0, m1, ⟨v0, v1, v2, fs, zs⟩, ⟨r0, r1, r2, fa, za⟩, ba, zz⟩ := bc
 clear hW kW h h' hf hf'
 go_enter Tryz.func31, Tryz.ntmps31
 go_wp2_with fail
 rw [HW.out]
 refine (specSource_any p1 p2 s1 s2 s3 a1 a2 c1 c2 c3 lo hi lo' hi' p d W (H.out.keep' (Keep.of_below KW.out hB)) (H'.out.keep (Keep.of_below KW.out hB')) (by omega) (by omega) HF.out HF'.out).mono ?_
 rintro e w1 ⟨rfl, hb1⟩
 rw [HY.out]
 have bc1 := BC0.out.below hb1 zz
 have BC := hidW bc1
 have K1 := hidW (KW.out.trans (hb1.mono (by omega)))
 have z1 := hb1.size
 clear hb1 m0 m1 v0 v1 v2 fs zs r0 r1 r2 fa za ba zz
 obtain ⟨m0, m1, ⟨v0, v1, v2, fs, zs⟩, ⟨r0, r1, r2, fa, za⟩, ba, zz⟩ := bc1
 go_wp2
 obtain ⟨Z, hZ, bz, oz, kz⟩ := BC.out.put (.slice none 0 0) (.slice none 0 0) (.slice none 0 0)
 refine bodyPost_ret (v := .tuple #[.agg #[.slice none 0 0, .slice none 0 0, .slice none 0 0], .int .i64 1]) ?_ rfl ?_
 ·rw [hZ]
  simp [results, Tryz.results31, go_sem, bz.c0, bz.c1, bz.c2]
 ·rw [hZ]
  exact ⟨none, 0, none, 0, none, 0, [], [], rfl, oz _ _ _ _ _ _ _ (OwnS.nil _ _), kz _ _ K1.out (by omega)⟩
set_option maxHeartbeats 2000000 in
theorem specStep_none (p1 p2 s1 s2 s3 : Option Addr) (a1 a2 c1 c2 c3 lo hi lo' hi' : Nat) (p : PD) (d : SD) (who : Int) (w : World) (h : ProgR w lo hi p1 p2 p) (h' : SrcR w lo' hi' s1 s2 s3 d) (hB : hi ≤ w.heap.size) (hB' : hi' ≤ w.heap.size) (hf : Fits p) (hf' : SFits d) (hy : srcB p d = true) (hw : ¬ (0 ≤ who ∧ who < (d.ths.length : Int))) :
  Calls Tryz.prog 31 #[.agg #[.slice p1 p.caps.length a1, .slice p2 p.bods.length a2], .agg #[.slice s1 d.ths.length c1, .slice s2 d.chs.length c2, .slice s3 d.tr.length c3], .int .i64 who] w (SStepQ w 2 d) := by
 have HY := hidW hy
 have HWW := hidW hw
 have wl : IntKind.i64.wrap ((d.ths.length : Int) - 1) = (d.ths.length : Int) - 1 := Go.IntWalk.i64_in _ (by have := hf'.1.1; omega)
 clear hy hw
 obtain ⟨W, hW⟩ : ∃ W, ((w.alloc (.cells #[.slice p1 p.caps.length a1, .slice p2 p.bods.length a2] 27)).alloc (.cells #[.slice s1 d.ths.length c1, .slice s2 d.chs.length c2, .slice s3 d.tr.length c3] 32)).alloc (.cells #[.slice none 0 0, .slice none 0 0, .slice none 0 0] 32) = W := ⟨_, rfl⟩
 obtain ⟨bc, kW⟩ := br_new hW
 have HW := hidW hW
 have H := hidW h
 have H' := hidW h'
 have HF := hidW hf
 have HF' := hidW hf'
 have BC0 := hidW bc
 have KW := hidW kW
 have zW := kW.size
 obtain ⟨m0, m1, ⟨v0, v1, v2, fs, zs⟩, ⟨r0, r1, r2, fa, za⟩, ba, zz⟩ := bc
 clear hW kW h h' hf hf'
 go_enter Tryz.func31, Tryz.ntmps31
 go_wp2_with fail
 rw [HW.out]
 refine (specSource_any p1 p2 s1 s2 s3 a1 a2 c1 c2 c3 lo hi lo' hi' p d W (H.out.keep' (Keep.of_below KW.out hB)) (H'.out.keep (Keep.of_below KW.out hB')) (by omega) (by omega) HF.out HF'.out).mono ?_
 rintro e w1 ⟨rfl, hb1⟩
 rw [HY.out]
 have bc1 := BC0.out.below hb1 zz
 have BC := hidW bc1
 have K1 := hidW (KW.out.trans (hb1.mono (by omega)))
 have z1 := hb1.size
 clear hb1 m0 m1 v0 v1 v2 fs zs r0 r1 r2 fa za ba zz
 obtain ⟨m0, m1, ⟨v0, v1, v2, fs, zs⟩, ⟨r0, r1, r2, fa, za⟩, ba, zz⟩ := bc1
 go_wp2_with fail
 refine (l1In_is _ _ _ false _ (by have := HWW.out; unfold Plain.inB; simp; omega)).mono ?_
 rintro e w9 ⟨rfl, hw9⟩
 rw [hw9]
 clear hw9 w9
 go_wp2_with fail
 refine (specDup_any s1 s2 s3 c1 c2 c3 lo' hi' d w1 (H'.out.keep (Keep.of_below K1.out hB')) (by omega) HF'.out).mono ?_
 rintro e w5 ⟨u1, u2, u3, L1, L2, rfl, ho5, hb5⟩
 obtain ⟨t1, e1, t2, e2, t3, e3, rfl, rfl, rfl, -⟩ := ho5.src
 have O5 := hidW ho5
 have bc5 := BC.out.below hb5 zz
 have BC5 := hidW bc5
 have K5 := hidW (K1.out.trans (hb5.mono (by omega)))
 clear ho5 hb5 m0 m1 v0 v1 v2 fs zs r0 r1 r2 fa za ba zz
 obtain ⟨m0, m1, ⟨v0, v1, v2, fs, zs⟩, ⟨r0, r1, r2, fa, za⟩, ba, zz⟩ := bc5
 go_wp2
 obtain ⟨Z, hZ, bz, oz, kz⟩ := BC5.out.put (.slice t1 d.ths.length e1) (.slice t2 d.chs.length e2) (.slice t3 d.tr.length e3)
 refine bodyPost_ret (v := .tuple #[.agg #[.slice t1 d.ths.length e1, .slice t2 d.chs.length e2, .slice t3 d.tr.length e3], .int .i64 2]) ?_ rfl ?_
 ·rw [hZ]
  simp [results, Tryz.results31, go_sem, bz.c0, bz.c1, bz.c2]
 ·rw [hZ]
  exact ⟨_, _, _, _, _, _, L1, L2, rfl, oz _ _ _ _ _ _ _ (O5.out.low (by omega)), kz _ _ K5.out (by omega)⟩
set_option maxHeartbeats 2000000 in
theorem specStep_over (p1 p2 s1 s2 s3 : Option Addr) (a1 a2 c1 c2 c3 lo hi lo' hi' : Nat) (p : PD) (d : SD) (k : Nat) (t : TD) (w : World) (h : ProgR w lo hi p1 p2 p) (h' : SrcR w lo' hi' s1 s2 s3 d) (hB : hi ≤ w.heap.size) (hB' : hi' ≤ w.heap.size) (hf : Fits p) (hf' : SFits d) (hy : srcB p d = true) (ht : d.ths[k]? = some t) (hst : ¬ t.st = 0) :
  Calls Tryz.prog 31 #[.agg #[.slice p1 p.caps.length a1, .slice p2 p.bods.length a2], .agg #[.slice s1 d.ths.length c1, .slice s2 d.chs.length c2, .slice s3 d.tr.length c3], .int .i64 k] w (SStepQ w 3 d) := by
 have HY := hidW hy
 have hkl : k < d.ths.length := (List.getElem?_eq_some_iff.1 ht).1
 have wl : IntKind.i64.wrap ((d.ths.length : Int) - 1) = (d.ths.length : Int) - 1 := Go.IntWalk.i64_in _ (by have := hf'.1.1; omega)
 have b0 : (0 : Int) ≤ (k : Int) := by omega
 have b1 : (k : Int) < (d.ths.length : Int) := by omega
 have hs0 : (t.st != 0) = true := by simp [hst]
 clear hy hst
 obtain ⟨W, hW⟩ : ∃ W, ((w.alloc (.cells #[.slice p1 p.caps.length a1, .slice p2 p.bods.length a2] 27)).alloc (.cells #[.slice s1 d.ths.length c1, .slice s2 d.chs.length c2, .slice s3 d.tr.length c3] 32)).alloc (.cells #[.slice none 0 0, .slice none 0 0, .slice none 0 0] 32) = W := ⟨_, rfl⟩
 obtain ⟨bc, kW⟩ := br_new hW
 have HW := hidW hW
 have H := hidW h
 have H' := hidW h'
 have HF := hidW hf
 have HF' := hidW hf'
 have BC0 := hidW bc
 have KW := hidW kW
 have zW := kW.size
 obtain ⟨m0, m1, ⟨v0, v1, v2, fs, zs⟩, ⟨r0, r1, r2, fa, za⟩, ba, zz⟩ := bc
 clear hW kW h h' hf hf'
 go_enter Tryz.func31, Tryz.ntmps31
 go_wp2_with fail
 rw [HW.out]
 refine (specSource_any p1 p2 s1 s2 s3 a1 a2 c1 c2 c3 lo hi lo' hi' p d W (H.out.keep' (Keep.of_below KW.out hB)) (H'.out.keep (Keep.of_below KW.out hB')) (by omega) (by omega) HF.out HF'.out).mono ?_
 rintro e w1 ⟨rfl, hb1⟩
 rw [HY.out]
 have bc1 := BC0.out.below hb1 zz
 have BC := hidW bc1
 have K1 := hidW (KW.out.trans (hb1.mono (by omega)))
 have z1 := hb1.size
 clear hb1 m0 m1 v0 v1 v2 fs zs r0 r1 r2 fa za ba zz
 obtain ⟨m0, m1, ⟨v0, v1, v2, fs, zs⟩, ⟨r0, r1, r2, fa, za⟩, ba, zz⟩ := bc1
 obtain ⟨g, o, s', c', es, hg, f0, f1, f2, -⟩ := RecsR.thr H'.out.1 hB' K1.out ht
 subst es
 have zg : g < w1.heap.size := by omega
 clear f0 f1
 go_wp2_with fail
 refine (l1In_is _ _ _ true _ (by unfold Plain.inB; simp; omega)).mono ?_
 rintro e w9 ⟨rfl, hw9⟩
 rw [hw9]
 clear hw9 w9
 go_wp2_with fail
 refine (specDup_any _ s2 s3 c1 c2 c3 lo' hi' d w1 (H'.out.keep (Keep.of_below K1.out hB')) (by omega) HF'.out).mono ?_
 rintro e w5 ⟨u1, u2, u3, L1, L2, rfl, ho5, hb5⟩
 obtain ⟨t1, e1, t2, e2, t3, e3, rfl, rfl, rfl, -⟩ := ho5.src
 have O5 := hidW ho5
 have bc5 := BC.out.below hb5 zz
 have BC5 := hidW bc5
 have K5 := hidW (K1.out.trans (hb5.mono (by omega)))
 clear ho5 hb5 m0 m1 v0 v1 v2 fs zs r0 r1 r2 fa za ba zz f2
 obtain ⟨m0, m1, ⟨v0, v1, v2, fs, zs⟩, ⟨r0, r1, r2, fa, za⟩, ba, zz⟩ := bc5
 go_wp2
 obtain ⟨Z, hZ, bz, oz, kz⟩ := BC5.out.put (.slice t1 d.ths.length e1) (.slice t2 d.chs.length e2) (.slice t3 d.tr.length e3)
 refine bodyPost_ret (v := .tuple #[.agg #[.slice t1 d.ths.length e1, .slice t2 d.chs.length e2, .slice t3 d.tr.length e3], .int .i64 3]) ?_ rfl ?_
 ·rw [hZ]
  simp [results, Tryz.results31, go_sem, bz.c0, bz.c1, bz.c2]
 ·rw [hZ]
  exact ⟨_, _, _, _, _, _, L1, L2, rfl, oz _ _ _ _ _ _ _ (O5.out.low (by omega)), kz _ _ K5.out (by omega)⟩
set_option maxHeartbeats 4000000 in
theorem specStep_run (p1 p2 s1 s2 s3 : Option Addr) (a1 a2 c1 c2 c3 lo hi lo' hi' : Nat) (p : PD) (d : SD) (k : Nat) (t : TD) (w : World) (h : ProgR w lo hi p1 p2 p) (h' : SrcR w lo' hi' s1 s2 s3 d) (hB : hi ≤ w.heap.size) (hB' : hi' ≤ w.heap.size) (hf : Fits p) (hf' : SFits d) (hy : srcB p d = true) (ht : d.ths[k]? = some t) (hst : t.st = 0) :
  Calls Tryz.prog 31 #[.agg #[.slice p1 p.caps.length a1, .slice p2 p.bods.length a2], .agg #[.slice s1 d.ths.length c1, .slice s2 d.chs.length c2, .slice s3 d.tr.length c3], .int .i64 k] w (SStepQ w (outOf p d k).code (if (outOf p d k).code = 0 then doneS d k (outOf p d k) else d)) := by
 have HY := hidW hy
 have hkl : k < d.ths.length := (List.getElem?_eq_some_iff.1 ht).1
 have wl : IntKind.i64.wrap ((d.ths.length : Int) - 1) = (d.ths.length : Int) - 1 := Go.IntWalk.i64_in _ (by have := hf'.1.1; omega)
 have b0 : (0 : Int) ≤ (k : Int) := by omega
 have b1 : (k : Int) < (d.ths.length : Int) := by omega
 have HT := hidW ht
 have HST := hidW hst
 have HR := hidW (right_of hy)
 have LS := hidW (fun (B : Nat) (v1 v2 v3 : Value) (L1 L2 : List (Rec × Value)) (V : World) (hP : ProgR V lo hi p1 p2 p) (hhB : hi ≤ B) (hq : OwnS V B v1 v2 v3 L1 L2 d) (hb : B ≤ V.heap.size) => l4Step_any p1 p2 a1 a2 lo hi B p v1 v2 v3 L1 L2 d k t V hP hhB hq hb HR.out ht hst)
 obtain ⟨X, hX⟩ : ∃ X, outOf p d k = X := ⟨_, rfl⟩
 rw [hX] at LS ⊢
 obtain ⟨D, hD⟩ : ∃ D, (if X.code = 0 then doneS d k X else d) = D := ⟨_, rfl⟩
 rw [hD]
 have HD := hidW hD
 clear hX hst hy ht hD
 obtain ⟨W, hW⟩ : ∃ W, ((w.alloc (.cells #[.slice p1 p.caps.length a1, .slice p2 p.bods.length a2] 27)).alloc (.cells #[.slice s1 d.ths.length c1, .slice s2 d.chs.length c2, .slice s3 d.tr.length c3] 32)).alloc (.cells #[.slice none 0 0, .slice none 0 0, .slice none 0 0] 32) = W := ⟨_, rfl⟩
 obtain ⟨bc, kW⟩ := br_new hW
 have HW := hidW hW
 have H := hidW h
 have H' := hidW h'
 have HF := hidW hf
 have HF' := hidW hf'
 have BC0 := hidW bc
 have KW := hidW kW
 have zW := kW.size
 obtain ⟨m0, m1, ⟨v0, v1, v2, fs, zs⟩, ⟨r0, r1, r2, fa, za⟩, ba, zz⟩ := bc
 clear hW kW h h' hf hf'
 go_enter Tryz.func31, Tryz.ntmps31
 go_wp2_with fail
 rw [HW.out]
 refine (specSource_any p1 p2 s1 s2 s3 a1 a2 c1 c2 c3 lo hi lo' hi' p d W (H.out.keep' (Keep.of_below KW.out hB)) (H'.out.keep (Keep.of_below KW.out hB')) (by omega) (by omega) HF.out HF'.out).mono ?_
 rintro e w1 ⟨rfl, hb1⟩
 rw [HY.out]
 have bc1 := BC0.out.below hb1 zz
 have BC := hidW bc1
 have K1 := hidW (KW.out.trans (hb1.mono (by omega)))
 have z1 := hb1.size
 clear hb1 m0 m1 v0 v1 v2 fs zs r0 r1 r2 fa za ba zz
 obtain ⟨m0, m1, ⟨v0, v1, v2, fs, zs⟩, ⟨r0, r1, r2, fa, za⟩, ba, zz⟩ := bc1
 obtain ⟨g, o, s', c', es, hg, f0, f1, f2, -⟩ := RecsR.thr H'.out.1 hB' K1.out HT.out
 subst es
 have zg : g < w1.heap.size := by omega
 rw [HST.out] at f2
 clear f0 f1
 go_wp2_with fail
 refine (l1In_is _ _ _ true _ (by unfold Plain.inB; simp; omega)).mono ?_
 rintro e w9 ⟨rfl, hw9⟩
 rw [hw9]
 clear hw9 w9
 go_upto_region 7 with fail
 have kD : Below w1.heap.size w1 w1.drew := Below.drew (Below.refl _ _)
 have hdr : ∀ X : World, X.drew.heap.size = X.heap.size := fun _ => rfl
 have RB : Hid (∀ X, Below w1.heap.size w1 X → Br X w.heap.size (.slice p1 p.caps.length a1) (.slice p2 p.bods.length a2) (.slice (some ⟨g, o, none⟩) d.ths.length c1) (.slice s2 d.chs.length c2) (.slice s3 d.tr.length c3)) := fun X hX => BC.out.below hX zz
 have RR : Hid (∀ X, Below w1.heap.size w1 X → SrcR X lo' hi' (some ⟨g, o, none⟩) s2 s3 d) := fun X hX => (H'.out.keep (Keep.of_below K1.out hB')).keep (Keep.of_below hX (by omega))
 have RP : Hid (∀ X, Below w1.heap.size w1 X → ProgR X lo hi p1 p2 p) := fun X hX => ProgR.keep' (ProgR.keep' H.out (Keep.of_below K1.out hB)) (Keep.of_below hX (by omega))
 have CC : Hid (∀ (X0 : World) (pB : Option Nat), Below w1.heap.size w1 X0 → BoxA X0 pB → Calls Tryz.prog 30 #[.agg #[.slice (some ⟨g, o, none⟩) d.ths.length c1, .slice s2 d.chs.length c2, .slice s3 d.tr.length c3]] X0 fun e w' => ∃ (B : Nat) (t1 : Option Addr) (e1 : Nat) (t2 : Option Addr) (e2 : Nat) (t3 : Option Addr) (e3 : Nat) (L1 L2 : List (Rec × Value)), e = .returned (.agg #[.slice t1 d.ths.length e1, .slice t2 d.chs.length e2, .slice t3 d.tr.length e3]) ∧ w1.heap.size ≤ B ∧ B ≤ w'.heap.size ∧ Below w1.heap.size w1 w' ∧ Hid (OwnS w' B (.slice t1 d.ths.length e1) (.slice t2 d.chs.length e2) (.slice t3 d.tr.length e3) L1 L2 d) ∧ Hid (BoxA w' pB) ∧ Hid (∀ q, pB = some q → q < B) ∧ w'.cell? ⟨w.heap.size, 0, none⟩ = some (.slice p1 p.caps.length a1) ∧ w'.cell? ⟨w.heap.size, 1, none⟩ = some (.slice p2 p.bods.length a2) ∧ w'.cell? ⟨w.heap.size + 1, 0, none⟩ = some (.slice (some ⟨g, o, none⟩) d.ths.length c1) ∧ w'.cell? ⟨w.heap.size + 1, 1, none⟩ = some (.slice s2 d.chs.length c2) ∧ w'.cell? ⟨w.heap.size + 1, 2, none⟩ = some (.slice s3 d.tr.length c3)) := fun X0 pB hX hb => (specDup_any _ s2 s3 c1 c2 c3 lo' hi' d X0 (RR.out X0 hX) (by have := hX.size; omega) HF'.out).mono fun e w' ⟨u1, u2, u3, L1, L2, he, q, hb'⟩ => by
  obtain ⟨t1, e1, t2, e2, t3, e3, rfl, rfl, rfl, -⟩ := q.src
  have kk : Below w1.heap.size w1 w' := hX.trans (hb'.mono hX.size)
  have x := RB.out _ kk
  exact ⟨X0.heap.size, t1, e1, t2, e2, t3, e3, L1, L2, he, hX.size, hb'.size, kk, q, hb.keep hb', fun q hq => by subst hq; exact hb.2.lt, x.p0, x.p1, x.s.c0, x.s.c1, x.s.c2⟩
 have CS : Hid (∀ (X2 Y : World) (B : Nat) (t1 : Option Addr) (e1 : Nat) (t2 : Option Addr) (e2 : Nat) (t3 : Option Addr) (e3 : Nat) (L1 L2 : List (Rec × Value)) (pB : Option Nat), w1.heap.size ≤ B → B ≤ X2.heap.size → Below w1.heap.size w1 Y → OwnS X2 B (.slice t1 d.ths.length e1) (.slice t2 d.chs.length e2) (.slice t3 d.tr.length e3) L1 L2 d → Below X2.heap.size X2 Y → BoxA Y pB → (∀ q, pB = some q → q < B ∨ X2.heap.size ≤ q) → Calls Tryz.prog 54 #[.agg #[.slice p1 p.caps.length a1, .slice p2 p.bods.length a2], .agg #[.slice t1 d.ths.length e1, .slice t2 d.chs.length e2, .slice t3 d.tr.length e3], .int .i64 k] Y fun e w' => ∃ (s1 : Option Addr) (n1 c1' : Nat) (s2' : Option Addr) (n2 c2' : Nat) (s3' : Option Addr) (n3 c3' : Nat), e = .returned (.tuple #[.agg #[.slice s1 n1 c1', .slice s2' n2 c2', .slice s3' n3 c3'], .int .i64 X.code]) ∧ Below w1.heap.size w1 w' ∧ Hid (X.code = 0 → ∃ L1 L2, OwnS w' w1.heap.size (.slice s1 n1 c1') (.slice s2' n2 c2') (.slice s3' n3 c3') L1 L2 (doneS d k X)) ∧ Hid (BoxA w' pB) ∧ w'.cell? ⟨w.heap.size, 0, none⟩ = some (.slice p1 p.caps.length a1) ∧ w'.cell? ⟨w.heap.size, 1, none⟩ = some (.slice p2 p.bods.length a2) ∧ w'.cell? ⟨w.heap.size + 1, 0, none⟩ = some (.slice (some ⟨g, o, none⟩) d.ths.length c1) ∧ w'.cell? ⟨w.heap.size + 1, 1, none⟩ = some (.slice s2 d.chs.length c2) ∧ w'.cell? ⟨w.heap.size + 1, 2, none⟩ = some (.slice s3 d.tr.length c3)) := fun X2 Y B t1 e1 t2 e2 t3 e3 L1 L2 pB h1 h2 hY hq hXY hb hp => (LS.out B _ _ _ L1 L2 Y (RP.out Y hY) (by omega) (hq.keep (fun b _ hb' => hXY.block b hb')) (by have := hXY.size; omega)).mono fun e w' ⟨s1, n1, c1', s2', n2, c2', s3', n3, c3', he, q', b', fr⟩ => by
  have kk : Below w1.heap.size w1 w' := hY.trans (b'.mono h1)
  have x := RB.out _ kk
  have bx : BoxA w' pB := by
   cases pB with
   | none => trivial
   | some q =>
    have e : w'.heap[q]? = Y.heap[q]? := by
     rcases hp q rfl with h9 | h9
     ·exact b'.block q h9
     ·exact fr q hb.2.lt (fun hh => by have := (hq.hit hh).2; omega)
    exact ⟨hb.1.keep e b'.size, hb.2.same e⟩
  exact ⟨s1, n1, c1', s2', n2, c2', s3', n3, c3', he, kk, fun h0 => by obtain ⟨L1, L2, q⟩ := q' h0; exact ⟨L1, L2, q.low h1⟩, bx, x.p0, x.p1, x.s.c0, x.s.c1, x.s.c2⟩
 clear LS m0 m1 v0 v1 v2 fs zs r0 r1 r2 fa za ba f2
 obtain ⟨m0, m1, ⟨v0, v1, v2, fs, zs⟩, ⟨r0, r1, r2, fa, za⟩, ba, -⟩ := BC.out
 go_cut [8, 9] (fun s8 s9 wx => CutQ w1 X d k s8 s9 wx)
 case first =>
  go_region_held3 (fun w' => w'.cell? ⟨w.heap.size, 0, none⟩ = some (.slice p1 p.caps.length a1) ∧ w'.cell? ⟨w.heap.size, 1, none⟩ = some (.slice p2 p.bods.length a2) ∧ w'.cell? ⟨w.heap.size + 1, 0, none⟩ = some (.slice (some ⟨g, o, none⟩) d.ths.length c1) ∧ w'.cell? ⟨w.heap.size + 1, 1, none⟩ = some (.slice s2 d.chs.length c2) ∧ w'.cell? ⟨w.heap.size + 1, 2, none⟩ = some (.slice s3 d.tr.length c3)) (first | exact ⟨(RB.out _ (by repeat' (first | with_reducible exact kD | with_reducible exact kC | with_reducible exact kM | with_reducible exact Below.refl _ _ | with_reducible refine Below.drew ?_ | with_reducible refine Below.alloc ?_ (by first | omega | exact Nat.le_refl _ | (simp [hdr]; done) | (simp [hdr]; omega)) _ | with_reducible refine Below.setCell ?_ (by first | omega | exact Nat.le_refl _ | (simp [hdr]; done) | (simp [hdr]; omega)) _))).p0, (RB.out _ (by repeat' (first | with_reducible exact kD | with_reducible exact kC | with_reducible exact kM | with_reducible exact Below.refl _ _ | with_reducible refine Below.drew ?_ | with_reducible refine Below.alloc ?_ (by first | omega | exact Nat.le_refl _ | (simp [hdr]; done) | (simp [hdr]; omega)) _ | with_reducible refine Below.setCell ?_ (by first | omega | exact Nat.le_refl _ | (simp [hdr]; done) | (simp [hdr]; omega)) _))).p1, (RB.out _ (by repeat' (first | with_reducible exact kD | with_reducible exact kC | with_reducible exact kM | with_reducible exact Below.refl _ _ | with_reducible refine Below.drew ?_ | with_reducible refine Below.alloc ?_ (by first | omega | exact Nat.le_refl _ | (simp [hdr]; done) | (simp [hdr]; omega)) _ | with_reducible refine Below.setCell ?_ (by first | omega | exact Nat.le_refl _ | (simp [hdr]; done) | (simp [hdr]; omega)) _))).s.c0, (RB.out _ (by repeat' (first | with_reducible exact kD | with_reducible exact kC | with_reducible exact kM | with_reducible exact Below.refl _ _ | with_reducible refine Below.drew ?_ | with_reducible refine Below.alloc ?_ (by first | omega | exact Nat.le_refl _ | (simp [hdr]; done) | (simp [hdr]; omega)) _ | with_reducible refine Below.setCell ?_ (by first | omega | exact Nat.le_refl _ | (simp [hdr]; done) | (simp [hdr]; omega)) _))).s.c1, (RB.out _ (by repeat' (first | with_reducible exact kD | with_reducible exact kC | with_reducible exact kM | with_reducible exact Below.refl _ _ | with_reducible refine Below.drew ?_ | with_reducible refine Below.alloc ?_ (by first | omega | exact Nat.le_refl _ | (simp [hdr]; done) | (simp [hdr]; omega)) _ | with_reducible refine Below.setCell ?_ (by first | omega | exact Nat.le_refl _ | (simp [hdr]; done) | (simp [hdr]; omega)) _))).s.c2⟩ | go_keep) (first | (go_at_call 30; with_reducible refine (CC.out _ _ (by repeat' (first | with_reducible exact kD | with_reducible exact kC | with_reducible exact kM | with_reducible exact Below.refl _ _ | with_reducible refine Below.drew ?_ | with_reducible refine Below.alloc ?_ (by first | omega | exact Nat.le_refl _ | (simp [hdr]; done) | (simp [hdr]; omega)) _ | with_reducible refine Below.setCell ?_ (by first | omega | exact Nat.le_refl _ | (simp [hdr]; done) | (simp [hdr]; omega)) _)) (by first | with_reducible exact boxAD (boxA0 _) | with_reducible exact boxA0 _ | with_reducible exact boxAN _)).mono ?_; rintro e wC ⟨BB, t1, e1, t2, e2, t3, e3, L1, L2, rfl, hB1, hB2, kC, QC, HBC, HPC, yC0, yC1, yC2, yC3, yC4⟩; have zC := kC.size) | (go_at_call 54; with_reducible refine (CS.out wC _ BB t1 e1 t2 e2 t3 e3 L1 L2 _ hB1 hB2 (by repeat' (first | with_reducible exact kD | with_reducible exact kC | with_reducible exact kM | with_reducible exact Below.refl _ _ | with_reducible refine Below.drew ?_ | with_reducible refine Below.alloc ?_ (by first | omega | exact Nat.le_refl _ | (simp [hdr]; done) | (simp [hdr]; omega)) _ | with_reducible refine Below.setCell ?_ (by first | omega | exact Nat.le_refl _ | (simp [hdr]; done) | (simp [hdr]; omega)) _)) QC.out (show Below wC.heap.size wC _ from (by repeat' (first | with_reducible exact Below.refl _ _ | with_reducible refine Below.drew ?_ | with_reducible refine Below.alloc ?_ (by first | omega | exact Nat.le_refl _ | (simp [hdr]; done) | (simp [hdr]; omega)) _))) (by first | with_reducible exact boxA0 _ | exact HBC.out.keep (show Below wC.heap.size wC _ from (by repeat' (first | with_reducible exact Below.refl _ _ | with_reducible refine Below.drew ?_ | with_reducible refine Below.alloc ?_ (by first | omega | exact Nat.le_refl _ | (simp [hdr]; done) | (simp [hdr]; omega)) _)))) (by first | exact (fun q hq => .inl (HPC.out q hq)) | (intro q hq; injection hq with hq; exact .inr (by omega)))).mono ?_; rintro e wM ⟨sm1, nm1, cm1, sm2, nm2, cm2, sm3, nm3, cm3, rfl, kM, QM, HBM, yM0, yM1, yM2, yM3, yM4⟩; have zM := kM.size; (try obtain ⟨⟨b0', b1', b2', bf', b9⟩, -⟩ := boxAS HBM.out)) | fail)
  all_goals
   go_wp2_with fail
   go_meet
   first
    | with_reducible exact cutQ_new QM.out kM
    | with_reducible exact cutQ_set (boxAS HBM.out) (by omega) QM.out kM
 case rest =>
  obtain ⟨bo, q1, n1, j1, q2, n2, j2, q3, n3, j3, rfl, rfl, hbo, hx, hq, hk⟩ := hcut
  have bcc := BC.out.below hk zz
  have BCC := hidW bcc
  have HQ := hidW hq
  have BW : Hid (Below w.heap.size w wc) := K1.out.trans (hk.mono (by omega))
  obtain ⟨o0, o1, o2, of, oz'⟩ := hx
  have zc := hk.size
  have zz0 := zz
  clear CC CS m0 m1 v0 v1 v2 fs zs r0 r1 r2 fa za ba kD RB RR RP hq hk zz
  obtain ⟨m0, m1, ⟨v0, v1, v2, fs, zs⟩, ⟨r0, r1, r2, fa, za⟩, ba, zz⟩ := bcc
  have nb : ¬ bo = w.heap.size + 1 + 1 := by omega
  have nb' : ¬ w.heap.size + 1 + 1 = bo := by omega
  by_cases h0 : X.code = 0
  ·obtain ⟨L1, L2, q⟩ := HQ.out h0
   obtain ⟨t1, e1, t2, e2, t3, e3, E1, E2, E3, -⟩ := q.src
   injection E1 with E1 E1b E1c
   injection E2 with E2 E2b E2c
   injection E3 with E3 E3b E3c
   subst E1 E1b E1c E2 E2b E2c E3 E3b E3c
   have Q9 := hidW q
   obtain ⟨xt, xc, xr, xk⟩ := X
   simp only at h0
   subst h0
   clear q HQ
   go_wp2
   obtain ⟨Z, hZ, bz, oz, kz⟩ := BCC.out.put (.slice q1 (doneS d k ⟨xt, xc, xr, 0⟩).ths.length j1) (.slice q2 (doneS d k ⟨xt, xc, xr, 0⟩).chs.length j2) (.slice q3 (doneS d k ⟨xt, xc, xr, 0⟩).tr.length j3)
   refine bodyPost_ret (v := .tuple #[.agg #[.slice q1 (doneS d k ⟨xt, xc, xr, 0⟩).ths.length j1, .slice q2 (doneS d k ⟨xt, xc, xr, 0⟩).chs.length j2, .slice q3 (doneS d k ⟨xt, xc, xr, 0⟩).tr.length j3], .int .i64 0]) ?_ rfl ?_
   ·rw [hZ]
    simp [results, Tryz.results31, go_sem, bz.c0, bz.c1, bz.c2]
   ·rw [hZ]
    rw [← HD.out]
    first | rw [if_pos rfl] | rw [if_pos trivial]
    exact ⟨_, _, _, _, _, _, L1, L2, rfl, oz _ _ _ _ _ _ _ (Q9.out.low (by omega)), kz _ _ BW.out (by omega)⟩
  ·have h0' : (X.code != 0) = true := by simp [h0]
   have HX0 := hidW h0
   clear HQ o0 o1 o2 of oz' h0
   go_wp2_with fail
   refine (specDup_any _ s2 s3 c1 c2 c3 lo' hi' d wc (H'.out.keep (Keep.of_below BW.out hB')) (by omega) HF'.out).mono ?_
   rintro e w5 ⟨u1, u2, u3, L1, L2, rfl, ho5, hb5⟩
   obtain ⟨t1, e1, t2, e2, t3, e3, rfl, rfl, rfl, -⟩ := ho5.src
   have O5 := hidW ho5
   have bc5 := BCC.out.below hb5 zz
   have BC5 := hidW bc5
   have K5 := hidW (BW.out.trans (hb5.mono (by omega)))
   clear ho5 hb5 m0 m1 v0 v1 v2 fs zs r0 r1 r2 fa za ba zz
   obtain ⟨m0, m1, ⟨v0, v1, v2, fs, zs⟩, ⟨r0, r1, r2, fa, za⟩, ba, zz⟩ := bc5
   go_wp2
   obtain ⟨Z, hZ, bz, oz, kz⟩ := BC5.out.put (.slice t1 d.ths.length e1) (.slice t2 d.chs.length e2) (.slice t3 d.tr.length e3)
   refine bodyPost_ret (v := .tuple #[.agg #[.slice t1 d.ths.length e1, .slice t2 d.chs.length e2, .slice t3 d.tr.length e3], .int .i64 X.code]) ?_ rfl ?_
   ·rw [hZ]
    simp [results, Tryz.results31, go_sem, bz.c0, bz.c1, bz.c2]
   ·rw [hZ]
    rw [← HD.out, if_neg HX0.out]
    exact ⟨_, _, _, _, _, _, L1, L2, rfl, oz _ _ _ _ _ _ _ (O5.out.low (by omega)), kz _ _ K5.out (by omega)⟩
theorem specStep_any (p1 p2 s1 s2 s3 : Option Addr) (a1 a2 c1 c2 c3 lo hi lo' hi' : Nat) (p : PD) (d : SD) (who : Int) (w : World) (h : ProgR w lo hi p1 p2 p) (h' : SrcR w lo' hi' s1 s2 s3 d) (hB : hi ≤ w.heap.size) (hB' : hi' ≤ w.heap.size) (hf : Fits p) (hf' : SFits d) :
  Calls Tryz.prog 31 #[.agg #[.slice p1 p.caps.length a1, .slice p2 p.bods.length a2], .agg #[.slice s1 d.ths.length c1, .slice s2 d.chs.length c2, .slice s3 d.tr.length c3], .int .i64 who] w (SStepQ w (stepKb p d who) (stepSb p d who)) := by
 cases hy : srcB p d with
 | false =>
  have e1 : stepKb p d who = 1 := by unfold stepKb; rw [hy]; rfl
  have e2 : stepSb p d who = ⟨[], [], []⟩ := by unfold stepSb; rw [hy]; rfl
  rw [e1, e2]
  exact specStep_bad p1 p2 s1 s2 s3 a1 a2 c1 c2 c3 lo hi lo' hi' p d who w h h' hB hB' hf hf' hy
 | true =>
  have e1 : stepKb p d who = stepK p d who := by unfold stepKb; rw [hy]; rfl
  have e2 : stepSb p d who = stepS p d who := by unfold stepSb; rw [hy]; rfl
  rw [e1, e2]
  by_cases hw : 0 ≤ who ∧ who < (d.ths.length : Int)
  ·obtain ⟨k, rfl⟩ : ∃ k : Nat, who = (k : Int) := ⟨who.toNat, by omega⟩
   obtain ⟨t, ht⟩ : ∃ t, d.ths[k]? = some t := ⟨_, List.getElem?_eq_getElem (by omega)⟩
   have et : thOf d k = t := by unfold thOf; rw [List.getD_eq_getElem?_getD, ht]; rfl
   by_cases hst : t.st = 0
   ·have e3 : stepK p d k = (outOf p d k).code := by unfold stepK; rw [if_pos hw, Int.toNat_natCast, et, if_pos hst]
    have e4 : stepS p d k = if (outOf p d k).code = 0 then doneS d k (outOf p d k) else d := by unfold stepS; rw [e3, Int.toNat_natCast]
    rw [e3, e4]
    exact specStep_run p1 p2 s1 s2 s3 a1 a2 c1 c2 c3 lo hi lo' hi' p d k t w h h' hB hB' hf hf' hy ht hst
   ·have e3 : stepK p d k = 3 := by unfold stepK; rw [if_pos hw, Int.toNat_natCast, et, if_neg hst]
    have e4 : stepS p d k = d := by unfold stepS; rw [e3]; rfl
    rw [e3, e4]
    exact specStep_over p1 p2 s1 s2 s3 a1 a2 c1 c2 c3 lo hi lo' hi' p d k t w h h' hB hB' hf hf' hy ht hst
  ·have e3 : stepK p d who = 2 := by unfold stepK; rw [if_neg hw]
   have e4 : stepS p d who = d := by unfold stepS; rw [e3]; rfl
   rw [e3, e4]
   exact specStep_none p1 p2 s1 s2 s3 a1 a2 c1 c2 c3 lo hi lo' hi' p d who w h h' hB hB' hf hf' hy hw
end
section
set_option linter.unusedSimpArgs false
set_option linter.unusedVariables false
set_option maxRecDepth 100000
open Go.RowKit
theorem moveT_regs (t : TD) (b : Nat) (rg : List Int) (nx : Int) : (moveT t b rg nx).regs = rg := by unfold moveT; split <;> rfl
theorem putN_len (l : List Int) (r v : Int) : (putN l r v).length = l.length := by unfold putN; simp
theorem sendL_len (cap : Int) (l : List Int) (cl : Bool) (v : Int) : (sendL cap l cl v).length ≤ l.length + 1 := by
 unfold sendL
 split <;> simp
theorem takeL_len (cap : Int) (l : List Int) : (takeL cap l).length ≤ l.length := by
 unfold takeL
 split <;> simp
theorem getD_small {chs : List CD} {M : Nat} (hc : ∀ (i : Nat) (c : CD), chs[i]? = some c → c.list.length ≤ M) (n : Nat) : (chs.getD n zc).list.length ≤ M := by
 rw [List.getD_eq_getElem?_getD]
 cases h : chs[n]? with
 | none => exact Nat.zero_le _
 | some c => exact hc n c h
theorem set_small {chs : List CD} {M : Nat} (hc : ∀ (i : Nat) (c : CD), chs[i]? = some c → c.list.length ≤ M) (n : Nat) (y : CD) (hy : y.list.length ≤ M + 1) : ∀ (i : Nat) (c : CD), (chs.set n y)[i]? = some c → c.list.length ≤ M + 1 := by
 intro i c h
 rw [List.getElem?_set] at h
 split at h
 ·split at h
  ·injection h with h
   subst h
   exact hy
  ·cases h
 ·exact Nat.le_succ_of_le (hc i c h)
structure Sm (t : TD) (chs : List CD) (tr : List ND) (M : Nat) (o : Out) : Prop where
 a : o.t.regs.length = t.regs.length
 b : o.tr.length ≤ tr.length + 1
 c : o.chs.length = chs.length
 d : ∀ (i : Nat) (c : CD), o.chs[i]? = some c → c.list.length ≤ M + 1
theorem sm_ite {t : TD} {chs : List CD} {tr : List ND} {M : Nat} {c : Prop} [Decidable c] {x y : Out} (h1 : Sm t chs tr M x) (h2 : Sm t chs tr M y) : Sm t chs tr M (if c then x else y) := by
 by_cases h : c
 ·rw [if_pos h]; exact h1
 ·rw [if_neg h]; exact h2
theorem stepO_small (b : Nat) (t : TD) (x : I5) (chs : List CD) (tr : List ND) (k M : Nat) (hc : ∀ (i : Nat) (c : CD), chs[i]? = some c → c.list.length ≤ M) : Sm t chs tr M (stepO b t x chs tr k) := by
 have g := getD_small hc x.n.toNat
 have hc' : ∀ (i : Nat) (c : CD), chs[i]? = some c → c.list.length ≤ M + 1 := fun i c h => Nat.le_succ_of_le (hc i c h)
 have s1 : ∀ v, (sendL (chs.getD x.n.toNat zc).cap (chs.getD x.n.toNat zc).list (chs.getD x.n.toNat zc).cl v).length ≤ M + 1 := fun v => Nat.le_trans (sendL_len _ _ _ _) (Nat.succ_le_succ g)
 have s2 : (takeL (chs.getD x.n.toNat zc).cap (chs.getD x.n.toNat zc).list).length ≤ M + 1 := Nat.le_trans (takeL_len _ _) (Nat.le_succ_of_le g)
 have s3 : (chs.getD x.n.toNat zc).list.length ≤ M + 1 := Nat.le_succ_of_le g
 unfold stepO
 dsimp only
 repeat' (refine sm_ite ?_ ?_)
 all_goals
  refine ⟨?_, ?_, ?_, ?_⟩
  ·first | rfl | simp only [moveT_regs, putN_len]
  ·first | exact Nat.le_succ _ | simp
  ·first | rfl | exact List.length_set
  ·first | exact hc' | exact set_small hc _ _ (s1 _) | exact set_small hc _ _ s2 | exact set_small hc _ _ s3
theorem stepS_fits {p : PD} {d : SD} (hf : SFits d) (hR : Right p d) (who : Int) : SFits (stepS p d who) := by
 unfold stepS
 split
 ·rename_i h
  obtain ⟨q1, q2, q3, q4⟩ := stepO_small (bodyOf p who.toNat).length (thOf d who.toNat) (insOf p d who.toNat) d.chs d.tr who.toNat 4 (fun i c hc => (hR.ch i c hc).2)
  have e : (thOf d who.toNat).regs.length ≤ 4 := by
   unfold thOf
   rw [List.getD_eq_getElem?_getD]
   cases ht : d.ths[who.toNat]? with
   | none => exact Nat.zero_le _
   | some t => exact Nat.le_of_eq (hR.th _ _ ht).1
  refine ⟨⟨by show (d.ths.set _ _).length ≤ _; rw [List.length_set]; exact hf.1.1, fun i t ht => ?_⟩, ⟨?_, fun i c hc => ?_⟩, ?_⟩
  ·have ht' : (d.ths.set who.toNat (outOf p d who.toNat).t)[i]? = some t := ht
   rw [List.getElem?_set] at ht'
   split at ht'
   ·split at ht'
    ·injection ht' with ht'
     subst ht'
     show (stepO _ _ _ _ _ _).t.regs.length ≤ _
     rw [q1]
     omega
    ·cases ht'
   ·exact hf.1.2 i t ht'
  ·show (stepO _ _ _ _ _ _).chs.length ≤ _
   rw [q3]
   exact hf.2.1.1
  ·exact Nat.le_trans (q4 i c hc) (by omega)
  ·show (stepO _ _ _ _ _ _).tr.length ≤ _
   have := hR.nl
   omega
 ·exact hf
theorem stepSb_fits {p : PD} {d : SD} (hf : SFits d) (who : Int) : SFits (stepSb p d who) := by
 unfold stepSb
 split
 ·rename_i h
  exact stepS_fits hf (right_of h) who
 ·exact ⟨⟨Nat.zero_le _, fun i t h => by simp at h⟩, ⟨Nat.zero_le _, fun i t h => by simp at h⟩, Nat.zero_le _⟩
end
section
set_option linter.unusedSimpArgs false
set_option linter.unusedVariables false
set_option maxRecDepth 100000
open Go.RowKit
def cellsP (x : I5) : List Value := [.int .i64 x.o, .int .i64 x.r, .int .i64 x.a, .int .i64 x.b, .int .i64 x.n]
def flatP : List I5 → List Value
 | [] => []
 | x :: r => cellsP x ++ flatP r
theorem flatP_len : ∀ l : List I5, (flatP l).length = l.length * 5
 | [] => rfl
 | x :: r => by simp [flatP, cellsP, flatP_len r]; omega
theorem flatP_snoc : ∀ (l : List I5) (x : I5), flatP (l ++ [x]) = flatP l ++ cellsP x
 | [], x => by simp [flatP]
 | y :: r, x => by simp [flatP, flatP_snoc r x]
theorem flatP_at : ∀ (l : List I5) (i j : Nat) (hi : i < l.length) (hj : j < 5), (flatP l)[i * 5 + j]? = (cellsP (l.getD i z5))[j]?
 | [], i, j, hi, hj => absurd hi (Nat.not_lt_zero _)
 | x :: r, 0, j, hi, hj => by
  simp only [flatP, Nat.zero_mul, Nat.zero_add]
  rw [List.getElem?_append_left (by simp [cellsP]; omega)]
  simp
 | x :: r, i + 1, j, hi, hj => by
  have h5 : (cellsP x).length = 5 := rfl
  simp only [flatP]
  rw [List.getElem?_append_right (by rw [h5]; omega), h5, show (i + 1) * 5 + j - 5 = i * 5 + j by omega, flatP_at r i j (by simp at hi; omega) hj]
  simp
def OwnP (w : World) (base : Nat) (v : Value) (b : List I5) : Prop := w.ownsRow base 85 5 v b.length (flatP b)
def OwnB (w : World) (base : Nat) (v : Value) (bs : List (List I5)) : Prop :=
 ∃ xs : List Value, w.ownsRow base 62 1 v bs.length xs ∧ (∀ i, i < bs.length → OwnP w base (xs.getD i undef) (bs.getD i [])) ∧ ∀ i j k, i < bs.length → j < bs.length → i ≠ j → (xs.getD i undef).ownBlock = some k → (xs.getD j undef).ownBlock ≠ some k
theorem infoP : ∃ i, Tryz.prog.info? 85 = some i ∧ i.zero = some (.agg #[.int .i64 0, .int .i64 0, .int .i64 0, .int .i64 0, .int .i64 0]) ∧ i.size = 5 ∧ i.bytes = 40 := ⟨_, rfl, rfl, rfl, rfl⟩
theorem ownKeep {w w' : World} {base : Nat} {e : TypeId} {size n : Nat} {v : Value} {xs : List Value} (h : w.ownsRow base e size v n xs) (hb : ∀ k, v.ownBlock = some k → w'.heap[k]? = w.heap[k]?) : w'.ownsRow base e size v n xs := by
 obtain ⟨h1, h2⟩ := h
 refine ⟨h1, ?_⟩
 rcases h2 with h2 | ⟨g, cap, cur, rfl, b0, c, d⟩
 ·exact .inl h2
 ·exact .inr ⟨g, cap, cur, rfl, b0, (hb g rfl).trans c, d⟩
theorem ownLow {w : World} {b b' : Nat} {e : TypeId} {size n : Nat} {v : Value} {xs : List Value} (h : w.ownsRow b e size v n xs) (hb : b' ≤ b) : w.ownsRow b' e size v n xs := by
 obtain ⟨h1, h2⟩ := h
 refine ⟨h1, ?_⟩
 rcases h2 with h2 | ⟨g, cap, cur, a, b0, c, d⟩
 ·exact .inl h2
 ·exact .inr ⟨g, cap, cur, a, Nat.le_trans hb b0, c, d⟩
theorem ownType {w : World} {base base' : Nat} {e e' : TypeId} {size size' n n' : Nat} {v v' : Value} {xs xs' : List Value} (h : w.ownsRow base e size v n xs) (h' : w.ownsRow base' e' size' v' n' xs') (hne : e ≠ e') {k : Nat} (hk : v.ownBlock = some k) : v'.ownBlock ≠ some k := by
 intro hk'
 rcases h.2 with ⟨rfl, -⟩ | ⟨g, cap, cur, rfl, -, c, -⟩
 ·cases hk
 rcases h'.2 with ⟨rfl, -⟩ | ⟨g', cap', cur', rfl, -, c', -⟩
 ·cases hk'
 ·simp only [Value.ownBlock, Option.some.injEq] at hk hk'
  subst hk
  subst hk'
  rw [c] at c'
  injection c' with c'
  injection c' with c1 c2
  exact hne c2
theorem OwnB.keep {w w' : World} {base : Nat} {v : Value} {bs : List (List I5)} (h : OwnB w base v bs) (hb : ∀ k, base ≤ k → k < w.heap.size → w'.heap[k]? = w.heap[k]?) : OwnB w' base v bs := by
 obtain ⟨xs, h1, h2, h3⟩ := h
 exact ⟨xs, ownKeep h1 (fun k hk => hb k (World.ownsRow.lt h1 _ hk).1 (World.ownsRow.lt h1 _ hk).2), fun i hi => ownKeep (h2 i hi) (fun k hk => hb k (World.ownsRow.lt (h2 i hi) _ hk).1 (World.ownsRow.lt (h2 i hi) _ hk).2), h3⟩
theorem OwnB.nil (w : World) (base : Nat) : OwnB w base (.slice none 0 0) [] := ⟨[], World.ownsRow_nil _ _ _ _, fun i hi => absurd hi (Nat.not_lt_zero _), fun i j k hi => absurd hi (Nat.not_lt_zero _)⟩
theorem OwnB.sl {w : World} {base : Nat} {v : Value} {bs : List (List I5)} (h : OwnB w base v bs) : ∃ s c, v = .slice s bs.length c := by
 obtain ⟨xs, h, -⟩ := h
 rcases h.2 with ⟨h1, h2⟩ | ⟨g, cap, cur, a, -⟩
 ·exact ⟨none, 0, by rw [h1, h2]⟩
 ·exact ⟨_, _, a⟩
theorem OwnB.low {w : World} {b b' : Nat} {v : Value} {bs : List (List I5)} (h : OwnB w b v bs) (hb : b' ≤ b) : OwnB w b' v bs := by
 obtain ⟨xs, h1, h2, h3⟩ := h
 exact ⟨xs, ownLow h1 hb, fun i hi => ownLow (h2 i hi) hb, h3⟩
theorem getD_snoc {α : Type} (xs : List α) (y d : α) (i : Nat) : (xs ++ [y]).getD i d = if i < xs.length then xs.getD i d else if i = xs.length then y else d := by
 by_cases h : i < xs.length
 ·rw [if_pos h]; simp [List.getD_eq_getElem?_getD, List.getElem?_append_left h]
 ·rw [if_neg h]
  by_cases h2 : i = xs.length
  ·subst h2; simp [List.getD_eq_getElem?_getD]
  ·rw [if_neg h2, List.getD_eq_getElem?_getD, List.getElem?_eq_none (by simp; omega)]; rfl
end
section
set_option linter.unusedSimpArgs false
set_option linter.unusedVariables false
set_option maxRecDepth 100000
open Go.RowKit
theorem OwnN.ints {w : World} {base : Nat} {v : Value} {l : List Int} (h : OwnN w base v l) : ∃ s c, v = .slice s l.length c ∧ IntsR w base w.heap.size s l := by
 rcases Nat.eq_zero_or_pos l.length with h0 | hpos
 ·rcases h.2 with ⟨h1, h2⟩ | ⟨g, cap, cur, a, -⟩
  ·exact ⟨none, 0, by rw [h1, h2], .inl (List.length_eq_zero_iff.1 h0)⟩
  ·exact ⟨_, _, a, .inl (List.length_eq_zero_iff.1 h0)⟩
 ·obtain ⟨g, cap, rfl, -⟩ := World.ownsRow.form h hpos
  have hlt := World.ownsRow.lt h g rfl
  refine ⟨_, _, rfl, .inr ⟨g, 0, rfl, hlt.1, hlt.2, fun i hi => ?_⟩⟩
  rw [Nat.zero_add, World.ownsRow.cellAt h i (by omega), List.getElem?_map, List.getD_eq_getElem?_getD, List.getElem?_eq_getElem hi]
  rfl
theorem OwnP.ins {w : World} {base : Nat} {v : Value} {l : List I5} (h : OwnP w base v l) : ∃ s c, v = .slice s l.length c ∧ InsR w base w.heap.size s l := by
 rcases Nat.eq_zero_or_pos l.length with h0 | hpos
 ·rcases h.2 with ⟨h1, h2⟩ | ⟨g, cap, cur, a, -⟩
  ·exact ⟨none, 0, by rw [h1, h2], .inl (List.length_eq_zero_iff.1 h0)⟩
  ·exact ⟨_, _, a, .inl (List.length_eq_zero_iff.1 h0)⟩
 ·obtain ⟨g, cap, rfl, -⟩ := World.ownsRow.form h hpos
  have hlt := World.ownsRow.lt h g rfl
  refine ⟨_, _, rfl, .inr ⟨g, 0, rfl, hlt.1, hlt.2, fun i hi => ?_⟩⟩
  have hc : ∀ j, j < 5 → w.cell? ⟨g, i * 5 + j, none⟩ = (cellsP (l.getD i z5))[j]? := fun j hj => by
   rw [World.ownsRow.cellAt h (i * 5 + j) (by omega)]
   exact flatP_at l i j hi hj
  rw [Nat.zero_add]
  exact ⟨hc 0 (by omega), hc 1 (by omega), hc 2 (by omega), hc 3 (by omega), hc 4 (by omega)⟩
theorem OwnB.bods {w : World} {base : Nat} {v : Value} {l : List (List I5)} (h : OwnB w base v l) : ∃ s c, v = .slice s l.length c ∧ BodsR w base w.heap.size s l := by
 obtain ⟨xs, h1, h2, -⟩ := h
 rcases Nat.eq_zero_or_pos l.length with h0 | hpos
 ·rcases h1.2 with ⟨h1, h2⟩ | ⟨g, cap, cur, a, -⟩
  ·exact ⟨none, 0, by rw [h1, h2], .inl (List.length_eq_zero_iff.1 h0)⟩
  ·exact ⟨_, _, a, .inl (List.length_eq_zero_iff.1 h0)⟩
 ·obtain ⟨g, cap, rfl, -⟩ := World.ownsRow.form h1 hpos
  have hlt := World.ownsRow.lt h1 g rfl
  have hxl : xs.length = l.length := by have := h1.1; omega
  refine ⟨_, _, rfl, .inr ⟨g, 0, rfl, hlt.1, hlt.2, fun i hi => ?_⟩⟩
  obtain ⟨s, c, e, hi'⟩ := OwnP.ins (h2 i hi)
  refine ⟨s, c, ?_, hi'⟩
  rw [Nat.zero_add, World.ownsRow.cellAt h1 i (by omega), ← e, List.getD_eq_getElem?_getD, List.getElem?_eq_getElem (by omega)]
  rfl
theorem OwnB.prog {w : World} {base : Nat} {v v' : Value} {p : PD} (h : OwnN w base v p.caps) (h' : OwnB w base v' p.bods) : ∃ s c s' c', v = .slice s p.caps.length c ∧ v' = .slice s' p.bods.length c' ∧ ProgR w base w.heap.size s s' p := by
 obtain ⟨s, c, e, a⟩ := h.ints
 obtain ⟨s', c', e', a'⟩ := h'.bods
 exact ⟨s, c, s', c', e, e', a, a'⟩
end
end Go.Proofs.YtknffngbdakblaaGreat
