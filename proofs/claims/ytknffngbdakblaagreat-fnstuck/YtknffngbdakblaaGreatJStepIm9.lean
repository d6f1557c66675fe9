/- A turn of a thread, whole. Conditions: program and source are right. -/
import Derived.Test.YtknffngbdakblaaGreatJG00
import Derived.Test.YtknffngbdakblaaGreatJG06
import Derived.Test.YtknffngbdakblaaGreatJG13
import Derived.Test.YtknffngbdakblaaGreatJStepIm2
import Derived.Test.YtknffngbdakblaaGreatJG12
import Derived.Test.YtknffngbdakblaaGreatJG05
import Derived.Test.YtknffngbdakblaaGreatJG02
import Derived.Test.YtknffngbdakblaaGreatJG01
import Derived.Test.YtknffngbdakblaaGreatJLeaves
import Derived.Test.YtknffngbdakblaaGreatJG04
import Derived.Test.YtknffngbdakblaaGreatJStepIm8
import Derived.Test.YtknffngbdakblaaGreatJG09
namespace Go.Proofs.YtknffngbdakblaaGreat
set_option linter.unusedSimpArgs false
set_option linter.unusedVariables false
set_option maxRecDepth 100000
open Go.RowKit
/- the box of a turn, new -/
theorem tn_new (w : World) (S : Nat) (who pc nx a0 a1 a2 a3 : Int) : Tn (w.alloc (.cells #[.pointer (some ⟨S, 0, none⟩), .int .i64 who, .int .i64 pc, .int .i64 nx, .int .i64 0, .int .i64 a0, .int .i64 a1, .int .i64 a2, .int .i64 a3] 90)) w.heap.size S who pc nx 0 [a0, a1, a2, a3] ∧ BxU (w.alloc (.cells #[.pointer (some ⟨S, 0, none⟩), .int .i64 who, .int .i64 pc, .int .i64 nx, .int .i64 0, .int .i64 a0, .int .i64 a1, .int .i64 a2, .int .i64 a3] 90)) w.heap.size := by
 refine ⟨⟨by simp [go_sem], by simp [go_sem], by simp [go_sem], by simp [go_sem], by simp [go_sem], fun i hi => ?_, fun j => by simp [go_sem], by simp, rfl⟩, ⟨_, _, heap_alloc_new _ _⟩⟩
 match i, hi with
 | 0, _ => simp [go_sem]
 | 1, _ => simp [go_sem]
 | 2, _ => simp [go_sem]
 | 3, _ => simp [go_sem]
def BoxT9 (X : World) : Option Nat → Prop
 | none => True
 | some q => X.heap[q]? = some (.cells #[.pointer none, .int .i64 0, .int .i64 0, .int .i64 0, .int .i64 0, .int .i64 0, .int .i64 0, .int .i64 0, .int .i64 0] 90 (0, 0))
theorem boxTS {X : World} {q : Nat} (h : BoxT9 X (some q)) : X.heap[q]? = some (.cells #[.pointer none, .int .i64 0, .int .i64 0, .int .i64 0, .int .i64 0, .int .i64 0, .int .i64 0, .int .i64 0, .int .i64 0] 90 (0, 0)) := h
theorem BoxT9.keep {X Y : World} {p : Option Nat} (h : BoxT9 X p) (hb : Below X.heap.size X Y) : BoxT9 Y p := by
 cases p with
 | none => trivial
 | some p => exact (hb.block p (Array.getElem?_eq_some_iff.1 h).1).trans h
theorem boxT0 (X : World) : BoxT9 (X.alloc (.cells #[.pointer none, .int .i64 0, .int .i64 0, .int .i64 0, .int .i64 0, .int .i64 0, .int .i64 0, .int .i64 0, .int .i64 0] 90)) (some X.heap.size) := heap_alloc_new _ _
theorem boxTD {X : World} {p : Option Nat} (h : BoxT9 X p) : BoxT9 X.drew p := by
 cases p with
 | none => trivial
 | some p => exact h
theorem boxTN (X : World) : BoxT9 X none := trivial
theorem box9 {X : World} {q : Nat} (h : X.heap[q]? = some (.cells #[.pointer none, .int .i64 0, .int .i64 0, .int .i64 0, .int .i64 0, .int .i64 0, .int .i64 0, .int .i64 0, .int .i64 0] 90 (0, 0))) : X.cell? ⟨q, 0, none⟩ = some (.pointer none) ∧ (∀ j, 1 ≤ j → j ≤ 8 → X.cell? ⟨q, j, none⟩ = some (.int .i64 0)) ∧ (∀ j, X.frozen? ⟨q, j, none⟩ = false) ∧ q < X.heap.size := by
 refine ⟨by rw [cell_blk h]; rfl, fun j h1 h2 => ?_, fun j => ?_, (Array.getElem?_eq_some_iff.1 h).1⟩
 ·rw [cell_blk h]
  match j, h1, h2 with
  | 1, _, _ => rfl
  | 2, _, _ => rfl
  | 3, _, _ => rfl
  | 4, _, _ => rfl
  | 5, _, _ => rfl
  | 6, _, _ => rfl
  | 7, _, _ => rfl
  | 8, _, _ => rfl
 ·simp [World.frozen?, h]
theorem heap9 {wM : World} {bo S : Nat} {who pc nx a0 a1 a2 a3 : Int} (h : wM.heap[bo]? = some (.cells #[.pointer none, .int .i64 0, .int .i64 0, .int .i64 0, .int .i64 0, .int .i64 0, .int .i64 0, .int .i64 0, .int .i64 0] 90 (0, 0))) : (((((((((wM.setCell ⟨bo, 0, none⟩ (.pointer (some ⟨S, 0, none⟩))).setCell ⟨bo, 1, none⟩ (.int .i64 who)).setCell ⟨bo, 2, none⟩ (.int .i64 pc)).setCell ⟨bo, 3, none⟩ (.int .i64 nx)).setCell ⟨bo, 4, none⟩ (.int .i64 0)).setCell ⟨bo, 5, none⟩ (.int .i64 a0)).setCell ⟨bo, 6, none⟩ (.int .i64 a1)).setCell ⟨bo, 7, none⟩ (.int .i64 a2)).setCell ⟨bo, 8, none⟩ (.int .i64 a3)).heap[bo]? = some (.cells #[.pointer (some ⟨S, 0, none⟩), .int .i64 who, .int .i64 pc, .int .i64 nx, .int .i64 0, .int .i64 a0, .int .i64 a1, .int .i64 a2, .int .i64 a3] 90 (0, 0)) := by
 rw [heap_setS (heap_setS (heap_setS (heap_setS (heap_setS (heap_setS (heap_setS (heap_setS (heap_setS h))))))))]
 simp only [List.setIfInBounds_toArray, List.set_cons_zero, List.set_cons_succ]
theorem tn_of {w : World} {bo S : Nat} {who pc nx a0 a1 a2 a3 : Int} (h : w.heap[bo]? = some (.cells #[.pointer (some ⟨S, 0, none⟩), .int .i64 who, .int .i64 pc, .int .i64 nx, .int .i64 0, .int .i64 a0, .int .i64 a1, .int .i64 a2, .int .i64 a3] 90 (0, 0))) : Tn w bo S who pc nx 0 [a0, a1, a2, a3] ∧ BxU w bo := by
 refine ⟨⟨by rw [cell_blk h]; rfl, by rw [cell_blk h]; rfl, by rw [cell_blk h]; rfl, by rw [cell_blk h]; rfl, by rw [cell_blk h]; rfl, fun i hi => ?_, fun j => by simp [World.frozen?, h], (Array.getElem?_eq_some_iff.1 h).1, rfl⟩, ⟨_, _, h⟩⟩
 rw [cell_blk h]
 match i, hi with
 | 0, _ => rfl
 | 1, _ => rfl
 | 2, _ => rfl
 | 3, _ => rfl
def CutT (W : World) (S : Nat) (who pc nx : Int) (rg : List Int) (s9 : Value) (wc : World) : Prop := ∃ bo, s9 = .pointer (some ⟨bo, 0, none⟩) ∧ W.heap.size ≤ bo ∧ Tn wc bo S who pc nx 0 rg ∧ BxU wc bo ∧ Below W.heap.size W wc
theorem cutT_new {W wM : World} {S : Nat} {who pc nx a0 a1 a2 a3 : Int} (kk : Below W.heap.size W wM) : CutT W S who pc nx [a0, a1, a2, a3] (.pointer (some ⟨wM.heap.size, 0, none⟩)) (wM.alloc (.cells #[.pointer (some ⟨S, 0, none⟩), .int .i64 who, .int .i64 pc, .int .i64 nx, .int .i64 0, .int .i64 a0, .int .i64 a1, .int .i64 a2, .int .i64 a3] 90)) :=
 ⟨wM.heap.size, rfl, kk.size, (tn_new wM S who pc nx a0 a1 a2 a3).1, (tn_new wM S who pc nx a0 a1 a2 a3).2, kk.alloc kk.size _⟩
theorem cutT_set {W wM : World} {S bo : Nat} {who pc nx a0 a1 a2 a3 : Int} (b : wM.heap[bo]? = some (.cells #[.pointer none, .int .i64 0, .int .i64 0, .int .i64 0, .int .i64 0, .int .i64 0, .int .i64 0, .int .i64 0, .int .i64 0] 90 (0, 0))) (hbo : W.heap.size ≤ bo) (kk : Below W.heap.size W wM) : CutT W S who pc nx [a0, a1, a2, a3] (.pointer (some ⟨bo, 0, none⟩)) (((((((((wM.setCell ⟨bo, 0, none⟩ (.pointer (some ⟨S, 0, none⟩))).setCell ⟨bo, 1, none⟩ (.int .i64 who)).setCell ⟨bo, 2, none⟩ (.int .i64 pc)).setCell ⟨bo, 3, none⟩ (.int .i64 nx)).setCell ⟨bo, 4, none⟩ (.int .i64 0)).setCell ⟨bo, 5, none⟩ (.int .i64 a0)).setCell ⟨bo, 6, none⟩ (.int .i64 a1)).setCell ⟨bo, 7, none⟩ (.int .i64 a2)).setCell ⟨bo, 8, none⟩ (.int .i64 a3)) := by
 refine ⟨bo, rfl, hbo, (tn_of (heap9 b)).1, (tn_of (heap9 b)).2, ?_⟩
 repeat' (first | with_reducible exact kk | with_reducible refine Below.setCell ?_ hbo _)
/- what a turn answers -/
structure TurnQ (w w' : World) (S base : Nat) (v1 v2 v3 : Value) (L1 L2 : List (Rec × Value)) (D : SD) (s4 : Option Addr) (n4 c4 : Nat) (M1 M2 : List (Rec × Value)) : Prop where
 o : OwnS w' base v1 v2 (.slice s4 n4 c4) M1 M2 D
 s : BoF S w' v1 v2 (.slice s4 n4 c4)
 bs : BxS w' S
 h : ∀ q, HitS v1 v2 (.slice s4 n4 c4) M1 M2 q → HitS v1 v2 v3 L1 L2 q ∨ w.heap.size ≤ q
 f : ∀ q, q < w.heap.size → q ≠ S → ¬ HitS v1 v2 v3 L1 L2 q → w'.heap[q]? = w.heap[q]?
 b : Below base w w'
def TurnP (w : World) (S base : Nat) (v1 v2 v3 : Value) (L1 L2 : List (Rec × Value)) (K : Int) (D : SD) (e : Ending) (w' : World) : Prop := e = .returned (.int .i64 K) ∧ ∃ s4 n4 c4 M1 M2, TurnQ w w' S base v1 v2 v3 L1 L2 D s4 n4 c4 M1 M2
theorem turn_idle {w w' : World} {S base n3 c3 : Nat} {s3 : Option Addr} {v1 v2 : Value} {L1 L2 : List (Rec × Value)} {d : SD} {K : Int} (hO : OwnS w base v1 v2 (.slice s3 n3 c3) L1 L2 d) (hS : BoF S w v1 v2 (.slice s3 n3 c3)) (hbs : BxS w S) (hb : base ≤ w.heap.size) (k : Below w.heap.size w w') : TurnP w S base v1 v2 (.slice s3 n3 c3) L1 L2 K d (.returned (.int .i64 K)) w' :=
 ⟨rfl, s3, n3, c3, L1, L2, hO.keep (fun b _ h => k.block b h), hS.below k hS.z, hbs.same (k.block S hS.z), fun _ h => .inl h, fun q h1 _ _ => k.block q h1, k.mono hb⟩
set_option maxHeartbeats 2000000 in
theorem turn_none (p1 p2 : Option Addr) (a1 a2 lo hi base S : Nat) (p : PD) (v1 v2 v3 : Value) (L1 L2 : List (Rec × Value)) (d : SD) (who : Int) (w : World) (hP : ProgR w lo hi p1 p2 p) (hB : hi ≤ base) (hO : OwnS w base v1 v2 v3 L1 L2 d) (hS : BoF S w v1 v2 v3) (hbs : BxS w S) (hb : base ≤ w.heap.size) (hR : Right p d) (hSb : base ≤ S) (hw : ¬ (0 ≤ who ∧ who < (d.ths.length : Int))) :
  Calls Tryz.prog 29 #[.agg #[.slice p1 p.caps.length a1, .slice p2 p.bods.length a2], .pointer (some ⟨S, 0, none⟩), .int .i64 who] w fun e w' => TurnP w S base v1 v2 v3 L1 L2 2 d e w' := by
 obtain ⟨s1, c1, e1⟩ := ownSl hO.t.row
 obtain ⟨s3, c3, e3⟩ := ownSl hO.n
 rw [hO.l1] at e1
 subst e1 e3
 obtain ⟨W, hW, bx, kW, zW⟩ := Bo2.new w (.slice p1 p.caps.length a1) (.slice p2 p.bods.length a2) 27
 have HWW := hidW hW
 have KW := hidW kW
 have HO := hidW hO
 have HS := hidW hS
 have HBS := hidW hbs
 have ONE := hidW (show Plain.oneB who d.ths.length = false from by unfold Plain.oneB; simp; omega)
 have c0 := (kW.cell (p := ⟨S, 0, none⟩) hS.z).trans hS.c0
 have zS : S < W.heap.size := by have := hS.z; omega
 clear hW kW hO hS hbs bx zW hw
 go_enter Tryz.func29, Tryz.ntmps29
 go_upto_region 1 with fail
 rw [HWW.out]
 go_wp2_with fail
 refine (isOneOf_any _ _ _).mono ?_
 rintro e w9 ⟨rfl, hw9⟩
 rw [hw9, ONE.out]
 clear hw9 w9
 go_wp2
 go_ret
 exact turn_idle HO.out HS.out HBS.out hb KW.out
set_option maxHeartbeats 4000000 in
theorem turn_over (p1 p2 : Option Addr) (a1 a2 lo hi base S : Nat) (p : PD) (v1 v2 v3 : Value) (L1 L2 : List (Rec × Value)) (d : SD) (k : Nat) (t : TD) (w : World) (hP : ProgR w lo hi p1 p2 p) (hB : hi ≤ base) (hO : OwnS w base v1 v2 v3 L1 L2 d) (hS : BoF S w v1 v2 v3) (hbs : BxS w S) (hb : base ≤ w.heap.size) (hR : Right p d) (hSb : base ≤ S) (ht : d.ths[k]? = some t) (hst : ¬ t.st = 0) :
  Calls Tryz.prog 29 #[.agg #[.slice p1 p.caps.length a1, .slice p2 p.bods.length a2], .pointer (some ⟨S, 0, none⟩), .int .i64 k] w fun e w' => TurnP w S base v1 v2 v3 L1 L2 3 d e w' := by
 obtain ⟨q, g1, c1, gr, cr, gb, ob, gi, oi, cb, nb, s2, s3, c2, c3, y, O⟩ := hO.open hP hB hb hR ht
 have HOU := hidW O.ou
 have hbl := hR.bd k O.kb
 have hpb := hR.pb
 have HNL := hidW hR.nl
 have HCH := hidW hR.cl
 have HTL := hidW hR.tl
 have HR := hidW hR
 obtain ⟨x, hx⟩ : ∃ x, insOf p d k = x := ⟨_, rfl⟩
 rw [hx] at O HOU
 have HIX := hidW hx
 clear hx
 obtain ⟨e1, e2, e3, ep, hy, y1, y2, hq, nq, kl, kb, hbn, t0, t1, t2, b0, ⟨x0, x1, x2, x3, x4⟩, rr, f1, fr, z1, zr, zb, zi, i1, ir, ib, ii, n1, hok, -, h4⟩ := O
 subst e1 e2 e3 ep
 rw [hbn] at hbl
 have HBN := hidW hbn
 unfold insX Plain.insB at hok
 rw [decide_eq_true_eq] at hok
 have HOK := hidW hok
 obtain ⟨o, r, a, bb, n⟩ := x
 simp only at hok x0 x1 x2 x3 x4 HOU HOK
 obtain ⟨pc, rg, st⟩ := t
 simp only at hq h4 rr t0 t2
 subst hq
 have i0 : (0 : Int) ≤ (k : Int) := by omega
 have j1 : (k : Int) < (d.ths.length : Int) := by omega
 have j2 : (k : Int) < (p.bods.length : Int) := by omega
 have j3 : (0 : Int) ≤ (q : Int) := by omega
 have j4 : (q : Int) < (nb : Int) := by omega
 have w1 : IntKind.i64.wrap ((q : Int) + 1) = (q : Int) + 1 := Go.IntWalk.i64_in _ (by omega)
 have ONE := hidW (show Plain.oneB (k : Int) d.ths.length = true from by unfold Plain.oneB; simp; omega)
 obtain ⟨W, hW, bx, kW, zW⟩ := Bo2.new w (.slice p1 p.caps.length a1) (.slice (some ⟨gb, ob, none⟩) p.bods.length a2) 27
 have HWW := hidW hW
 have KW := hidW kW
 have HO := hidW hO
 have HP := hidW hP
 have HS := hidW hS
 have HBS := hidW hbs
 have HBX := hidW bx
 have HT := hidW ht
 have HY := hidW hy
 have HY1 := hidW y1
 have HY2 := hidW y2
 have H4 := hidW h4
 have hzS := hS.z
 have m1 := bx.c1
 have wz : w.heap.size < W.heap.size := by omega
 have C : ∀ g j, g < w.heap.size → W.cell? ⟨g, j, none⟩ = w.cell? ⟨g, j, none⟩ := fun g j hg => kW.cell (p := ⟨g, j, none⟩) hg
 have v0 := (C S 0 hzS).trans hS.c0
 have v2' := (C S 2 hzS).trans hS.c2
 have t0' := (C g1 _ z1).trans t0
 have t1' := (C g1 _ z1).trans t1
 have t2' := (C g1 _ z1).trans t2
 have b0' := (C gb _ zb).trans b0
 have x0' := (C gi _ zi).trans x0
 have x1' := (C gi _ zi).trans x1
 have x2' := (C gi _ zi).trans x2
 have x3' := (C gi _ zi).trans x3
 have x4' := (C gi _ zi).trans x4
 have zS : S < W.heap.size := by omega
 have zg1 : g1 < W.heap.size := by omega
 have zgb : gb < W.heap.size := by omega
 have zgi : gi < W.heap.size := by omega
 clear hW kW hO hP hS hbs bx ht hy y1 y2 hok hR hbn t0 t1 t2 b0 x0 x1 x2 x3 x4 C zW h4
 have hne := extP_ne W (fun _ => False)
 have u0 := ExtP.fit (E := fun _ => False) m1 wz (fun h => h)
 have u1 := ExtP.fit (E := fun _ => False) b0' zgb (fun h => h)
 have u2 := ExtP.fit (E := fun _ => False) t0' zg1 (fun h => h)
 have u3 := ExtP.fit (E := fun _ => False) x0' zgi (fun h => h)
 have u4 := ExtP.fit (E := fun _ => False) x1' zgi (fun h => h)
 have u5 := ExtP.fit (E := fun _ => False) x2' zgi (fun h => h)
 have u6 := ExtP.fit (E := fun _ => False) x3' zgi (fun h => h)
 have u7 := ExtP.fit (E := fun _ => False) x4' zgi (fun h => h)
 go_enter Tryz.func29, Tryz.ntmps29
 go_upto_region 1 with fail
 rw [HWW.out]
 go_wp2_with fail
 refine (isOneOf_any _ _ _).mono ?_
 rintro e w9 ⟨rfl, hw9⟩
 rw [hw9, ONE.out]
 clear hw9 w9
 go_upto_region 4 with fail
 refine regionMix W (CP W (fun _ => False)) 11 12 (by kernel_rfl) (by kernel_rfl) (fun _ _ d _ _ h => by cases d <;> exact h) (CP.drew _ _) ?_
 unfold CP
 dsimp only [List.take, List.drop]
 repeat (go_big_quiet_step (fail))
 refine wpQuiet_nil ?_
 clear hne u0 u1 u2 u3 u4 u5 u6 u7
 unfold wpListC
 go_wp2
 refine And.intro (fun _ hc => CP.below hc ((Below.refl _ _).alloc (Nat.le_refl _) _)) ?_
 refine listC_late _ _ _ _ (by decide) ?_
 obtain ⟨V, hV, hXB, kV, zV⟩ := Xb.new W.drew (.int .i64 o) (.int .i64 r) (.int .i64 a) (.int .i64 bb) (.int .i64 n) 85
 have kV' : Below W.heap.size W V := (Below.drew (Below.refl _ _)).trans kV
 have HVV := hidW hV
 have KV := hidW (KW.out.trans (kV'.mono (by omega)))
 have HXB := hidW (show Xb V W.heap.size (.int .i64 o) (.int .i64 r) (.int .i64 a) (.int .i64 bb) (.int .i64 n) from hXB)
 have hst' : (st != 0) = true := by simp; exact hst
 clear kV kV' hXB hV
 go_wp2
 go_ret
 refine turn_idle HO.out HS.out HBS.out hb ?_
 have e := HVV.out
 have kk := KV.out
 rw [← e] at kk
 exact kk
set_option maxHeartbeats 4000000 in
theorem turn_full (p1 p2 : Option Addr) (a1 a2 lo hi base S : Nat) (p : PD) (v1 v2 v3 : Value) (L1 L2 : List (Rec × Value)) (d : SD) (k : Nat) (t : TD) (w : World) (hP : ProgR w lo hi p1 p2 p) (hB : hi ≤ base) (hO : OwnS w base v1 v2 v3 L1 L2 d) (hS : BoF S w v1 v2 v3) (hbs : BxS w S) (hb : base ≤ w.heap.size) (hR : Right p d) (hSb : base ≤ S) (ht : d.ths[k]? = some t) (hst : t.st = 0) (hf : (insOf p d k).o = 10 ∧ d.tr.length = 4000) :
  Calls Tryz.prog 29 #[.agg #[.slice p1 p.caps.length a1, .slice p2 p.bods.length a2], .pointer (some ⟨S, 0, none⟩), .int .i64 k] w fun e w' => TurnP w S base v1 v2 v3 L1 L2 3 d e w' := by
 obtain ⟨q, g1, c1, gr, cr, gb, ob, gi, oi, cb, nb, s2, s3, c2, c3, y, O⟩ := hO.open hP hB hb hR ht
 have HOU := hidW O.ou
 have hbl := hR.bd k O.kb
 have hpb := hR.pb
 have HNL := hidW hR.nl
 have HCH := hidW hR.cl
 have HTL := hidW hR.tl
 have HR := hidW hR
 obtain ⟨x, hx⟩ : ∃ x, insOf p d k = x := ⟨_, rfl⟩
 rw [hx] at O HOU
 have HIX := hidW hx
 clear hx
 obtain ⟨e1, e2, e3, ep, hy, y1, y2, hq, nq, kl, kb, hbn, t0, t1, t2, b0, ⟨x0, x1, x2, x3, x4⟩, rr, f1, fr, z1, zr, zb, zi, i1, ir, ib, ii, n1, hok, -, h4⟩ := O
 subst e1 e2 e3 ep
 rw [hbn] at hbl
 have HBN := hidW hbn
 unfold insX Plain.insB at hok
 rw [decide_eq_true_eq] at hok
 have HOK := hidW hok
 obtain ⟨o, r, a, bb, n⟩ := x
 simp only at hok x0 x1 x2 x3 x4 HOU HOK
 obtain ⟨pc, rg, st⟩ := t
 simp only at hq h4 rr t0 t2
 subst hq
 have i0 : (0 : Int) ≤ (k : Int) := by omega
 have j1 : (k : Int) < (d.ths.length : Int) := by omega
 have j2 : (k : Int) < (p.bods.length : Int) := by omega
 have j3 : (0 : Int) ≤ (q : Int) := by omega
 have j4 : (q : Int) < (nb : Int) := by omega
 have w1 : IntKind.i64.wrap ((q : Int) + 1) = (q : Int) + 1 := Go.IntWalk.i64_in _ (by omega)
 have ONE := hidW (show Plain.oneB (k : Int) d.ths.length = true from by unfold Plain.oneB; simp; omega)
 obtain ⟨W, hW, bx, kW, zW⟩ := Bo2.new w (.slice p1 p.caps.length a1) (.slice (some ⟨gb, ob, none⟩) p.bods.length a2) 27
 have HWW := hidW hW
 have KW := hidW kW
 have HO := hidW hO
 have HP := hidW hP
 have HS := hidW hS
 have HBS := hidW hbs
 have HBX := hidW bx
 have HT := hidW ht
 have HY := hidW hy
 have HY1 := hidW y1
 have HY2 := hidW y2
 have H4 := hidW h4
 have hzS := hS.z
 have m1 := bx.c1
 have wz : w.heap.size < W.heap.size := by omega
 have C : ∀ g j, g < w.heap.size → W.cell? ⟨g, j, none⟩ = w.cell? ⟨g, j, none⟩ := fun g j hg => kW.cell (p := ⟨g, j, none⟩) hg
 have v0 := (C S 0 hzS).trans hS.c0
 have v2' := (C S 2 hzS).trans hS.c2
 have t0' := (C g1 _ z1).trans t0
 have t1' := (C g1 _ z1).trans t1
 have t2' := (C g1 _ z1).trans t2
 have b0' := (C gb _ zb).trans b0
 have x0' := (C gi _ zi).trans x0
 have x1' := (C gi _ zi).trans x1
 have x2' := (C gi _ zi).trans x2
 have x3' := (C gi _ zi).trans x3
 have x4' := (C gi _ zi).trans x4
 have zS : S < W.heap.size := by omega
 have zg1 : g1 < W.heap.size := by omega
 have zgb : gb < W.heap.size := by omega
 have zgi : gi < W.heap.size := by omega
 clear hW kW hO hP hS hbs bx ht hy y1 y2 hok hR hbn t0 t1 t2 b0 x0 x1 x2 x3 x4 C zW h4
 have hne := extP_ne W (fun _ => False)
 have u0 := ExtP.fit (E := fun _ => False) m1 wz (fun h => h)
 have u1 := ExtP.fit (E := fun _ => False) b0' zgb (fun h => h)
 have u2 := ExtP.fit (E := fun _ => False) t0' zg1 (fun h => h)
 have u3 := ExtP.fit (E := fun _ => False) x0' zgi (fun h => h)
 have u4 := ExtP.fit (E := fun _ => False) x1' zgi (fun h => h)
 have u5 := ExtP.fit (E := fun _ => False) x2' zgi (fun h => h)
 have u6 := ExtP.fit (E := fun _ => False) x3' zgi (fun h => h)
 have u7 := ExtP.fit (E := fun _ => False) x4' zgi (fun h => h)
 go_enter Tryz.func29, Tryz.ntmps29
 go_upto_region 1 with fail
 rw [HWW.out]
 go_wp2_with fail
 refine (isOneOf_any _ _ _).mono ?_
 rintro e w9 ⟨rfl, hw9⟩
 rw [hw9, ONE.out]
 clear hw9 w9
 go_upto_region 4 with fail
 refine regionMix W (CP W (fun _ => False)) 11 12 (by kernel_rfl) (by kernel_rfl) (fun _ _ d _ _ h => by cases d <;> exact h) (CP.drew _ _) ?_
 unfold CP
 dsimp only [List.take, List.drop]
 repeat (go_big_quiet_step (fail))
 refine wpQuiet_nil ?_
 clear hne u0 u1 u2 u3 u4 u5 u6 u7
 unfold wpListC
 go_wp2
 refine And.intro (fun _ hc => CP.below hc ((Below.refl _ _).alloc (Nat.le_refl _) _)) ?_
 refine listC_late _ _ _ _ (by decide) ?_
 obtain ⟨V, hV, hXB, kV, zV⟩ := Xb.new W.drew (.int .i64 o) (.int .i64 r) (.int .i64 a) (.int .i64 bb) (.int .i64 n) 85
 have kV' : Below W.heap.size W V := (Below.drew (Below.refl _ _)).trans kV
 have HVV := hidW hV
 have KV := hidW (KW.out.trans (kV'.mono (by omega)))
 have HXB := hidW (show Xb V W.heap.size (.int .i64 o) (.int .i64 r) (.int .i64 a) (.int .i64 bb) (.int .i64 n) from hXB)
 have hf1 : o = 10 := by have := HIX.out; rw [this] at hf; exact hf.1
 have hf2 : (d.tr.length : Int) = 4000 := by omega
 subst hst hf1
 have zv : (4000 : Int) ≤ (d.tr.length : Int) := by omega
 clear kV kV' hXB hV hf
 go_wp2
 go_ret
 refine turn_idle HO.out HS.out HBS.out hb ?_
 have e := HVV.out
 have kk := KV.out
 rw [← e] at kk
 exact kk
end Go.Proofs.YtknffngbdakblaaGreat
