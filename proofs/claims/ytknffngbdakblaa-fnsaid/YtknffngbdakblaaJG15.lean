/- A program and a source as l4DrawRun draws them are right. No condition. What l4Draw goes by: a program and a source in their boxes, ahead of the spoiling and behind it. No condition. l1Draw and DrawProgOk: a program is drawn and perhaps spoiled. Conditions: the bytes lie in memory as the reading says. -/
import Derived.Test.YtknffngbdakblaaJG00
import Derived.Test.YtknffngbdakblaaJStepSpE
import Derived.Test.YtknffngbdakblaaJG08
import Derived.Test.YtknffngbdakblaaJSrcNew
import Derived.Test.YtknffngbdakblaaJG01
import Derived.Test.YtknffngbdakblaaJG13
import Derived.Test.YtknffngbdakblaaJProgOk
import Derived.Test.YtknffngbdakblaaJG02
import Derived.Test.YtknffngbdakblaaJDrawRight2
import Derived.Test.YtknffngbdakblaaJG06
import Derived.Test.YtknffngbdakblaaJDrawRunT
import Derived.Test.YtknffngbdakblaaJG09
import Derived.Test.YtknffngbdakblaaJRecApp
import Derived.Test.YtknffngbdakblaaJG03
import Derived.Test.YtknffngbdakblaaJDrawRightR
import Derived.Test.YtknffngbdakblaaJDraw1
import Derived.Test.YtknffngbdakblaaJCursor
import Derived.Test.YtknffngbdakblaaJG14
import Derived.Test.YtknffngbdakblaaJOwn
import Derived.Test.YtknffngbdakblaaJDrawB
import Derived.Test.YtknffngbdakblaaJDrawP
namespace Go.Proofs.Ytknffngbdakblaa
section
set_option linter.unusedSimpArgs false
set_option linter.unusedVariables false
set_option maxRecDepth 100000
open Go.RowKit
theorem prog_ok {pd : PD} (h1 : 1 ≤ pd.caps.length ∧ pd.caps.length ≤ 3) (h2 : 1 ≤ pd.bods.length ∧ pd.bods.length ≤ 4) (h3 : CapsOk pd.caps) (h4 : BodsOk pd.bods pd.caps.length) : progB pd = true := by
 unfold progB capsB bodsB
 simp only [Bool.and_eq_true, decide_eq_true_eq]
 refine ⟨fun i hi => ?_, fun i hi => ?_, h1.2, ?_⟩
 ·have := h3 (pd.caps.getD i 0) (by rw [List.getD_eq_getElem?_getD, List.getElem?_eq_getElem hi]; exact List.getElem_mem hi)
  exact decide_eq_true ⟨this.1, this.2⟩
 ·exact (h4 (pd.bods.getD i []) (by rw [List.getD_eq_getElem?_getD, List.getElem?_eq_getElem hi]; exact List.getElem_mem hi)).1
 ·exact decide_eq_true ⟨by omega, by omega⟩
theorem body_pos {l : List I5} {ch : Int} (h : bodyB l ch = true) : 1 ≤ l.length := by
 unfold bodyB at h
 simp only [Bool.and_eq_true, decide_eq_true_eq] at h
 omega
theorem srcB_new {pd : PD} (h : progB pd = true) (hb : BodsOk pd.bods pd.caps.length) (hc : CapsOk pd.caps) : srcB pd (newS pd) = true := by
 unfold srcB
 rw [h]
 simp only [Bool.true_and, Bool.and_eq_true]
 refine ⟨?_, ?_, ?_⟩
 ·unfold thsB allB
  simp only [Bool.and_eq_true, decide_eq_true_eq]
  refine ⟨by simp [newS], fun i t ht => ?_⟩
  have hi : i < pd.bods.length := by have := (List.getElem?_eq_some_iff.1 ht).1; simpa [newS] using this
  have et : t = ⟨0, [0, 0, 0, 0], 0⟩ := by
   simp [newS, List.getElem?_replicate, hi] at ht
   exact ht.symm
  subst et
  have := body_pos (hb (pd.bods.getD i []) (by rw [List.getD_eq_getElem?_getD, List.getElem?_eq_getElem hi]; exact List.getElem_mem hi)).1
  unfold thB
  simp only [Bool.and_eq_true, decide_eq_true_eq]
  exact ⟨rfl, decide_eq_true ⟨by show (0 : Int) ≤ 0; omega, by show (0 : Int) ≤ 2; omega⟩, decide_eq_true ⟨by show (0 : Int) ≤ 0; omega, by show (0 : Int) < _; omega⟩⟩
 ·unfold chsB allB
  simp only [Bool.and_eq_true, decide_eq_true_eq]
  refine ⟨by simp [newS], fun i t ht => ?_⟩
  have hi : i < pd.caps.length := by have := (List.getElem?_eq_some_iff.1 ht).1; simpa [newS] using this
  have et : t = ⟨pd.caps.getD i 0, [], false⟩ := by
   simp [newS, List.getElem?_map, List.getElem?_eq_getElem hi] at ht
   rw [← ht, List.getD_eq_getElem?_getD, List.getElem?_eq_getElem hi]
   rfl
  subst et
  have := hc (pd.caps.getD i 0) (by rw [List.getD_eq_getElem?_getD, List.getElem?_eq_getElem hi]; exact List.getElem_mem hi)
  unfold chB
  simp only [Bool.and_eq_true, decide_eq_true_eq]
  exact ⟨⟨decide_eq_true ⟨this.1, this.2⟩, by show (0 : Int) ≤ _; omega⟩, by trivial⟩
 ·unfold trB allB
  simp only [Bool.and_eq_true, decide_eq_true_eq]
  exact ⟨by simp [newS], fun i t ht => by simp [newS] at ht⟩
theorem rch_ok {pd : PD} {D : SD} (h : progB pd = true) (hb : BodsOk pd.bods pd.caps.length) (hc : CapsOk pd.caps) (hr : Rch pd D) : srcB pd D = true := by
 obtain ⟨ys, rfl⟩ := hr
 have h0 : srcB pd (newA pd) = true := by unfold newA; rw [if_pos h]; exact srcB_new h hb hc
 generalize newA pd = E at h0
 induction ys generalizing E with
 | nil => exact h0
 | cons y ys ih =>
  refine ih _ ?_
  show srcB pd (stepSb pd E y) = true
  unfold stepSb
  rw [if_pos h0]
  exact srcB_step h0 y
end
section
set_option linter.unusedSimpArgs false
set_option linter.unusedVariables false
set_option maxRecDepth 100000
open Go.RowKit
/- the boxes of the answer, and what of the world is as it was -/
structure RB5 (w V : World) (cu : Nat) (s : Option Addr) (n c : Nat) : Prop where
 cb : CB V cu s n c
 but : But cu w V
 r0 : (V.cell? ⟨w.heap.size, 0, none⟩).isSome = true
 r1 : (V.cell? ⟨w.heap.size, 1, none⟩).isSome = true
 fr : ∀ j, V.frozen? ⟨w.heap.size, j, none⟩ = false
 t0 : (V.cell? ⟨w.heap.size + 1, 0, none⟩).isSome = true
 t1 : (V.cell? ⟨w.heap.size + 1, 1, none⟩).isSome = true
 t2 : (V.cell? ⟨w.heap.size + 1, 2, none⟩).isSome = true
 ft : ∀ j, V.frozen? ⟨w.heap.size + 1, j, none⟩ = false
 o1 : cu < w.heap.size
 o2 : w.heap.size + 2 ≤ V.heap.size
theorem RB5.step {w V V' : World} {cu : Nat} {s : Option Addr} {n c : Nat} (h : RB5 w V cu s n c) (hc : CB V' cu s n c) (hb : But cu V V') : RB5 w V' cu s n c := by
 have o1 := h.o1
 have o2 := h.o2
 have hs := hb.size
 have B : ∀ k, k < V.heap.size → k ≠ cu → V'.heap[k]? = V.heap[k]? := fun k a b => hb.block k a b
 have C : ∀ k j, k < V.heap.size → k ≠ cu → V'.cell? ⟨k, j, none⟩ = V.cell? ⟨k, j, none⟩ := fun k j a b => World.cell?_of_block (w := V) (B k a b)
 have F : ∀ k j, k < V.heap.size → k ≠ cu → V'.frozen? ⟨k, j, none⟩ = V.frozen? ⟨k, j, none⟩ := fun k j a b => World.frozen?_of_block (w := V) (B k a b)
 refine ⟨hc, h.but.trans hb, ?_, ?_, fun j => (F _ _ (by omega) (by omega)).trans (h.fr j), ?_, ?_, ?_, fun j => (F _ _ (by omega) (by omega)).trans (h.ft j), o1, by omega⟩
 ·rw [C _ _ (by omega) (by omega)]; exact h.r0
 ·rw [C _ _ (by omega) (by omega)]; exact h.r1
 ·rw [C _ _ (by omega) (by omega)]; exact h.t0
 ·rw [C _ _ (by omega) (by omega)]; exact h.t1
 ·rw [C _ _ (by omega) (by omega)]; exact h.t2
/- a store behind the boxes of the answer -/
theorem RB5.set {w V : World} {cu : Nat} {s : Option Addr} {n c g j : Nat} {v : Value} (h : RB5 w V cu s n c) (hg : w.heap.size + 2 ≤ g) : RB5 w (V.setCell ⟨g, j, none⟩ v) cu s n c := by
 have o1 := h.o1
 have o2 := h.o2
 obtain ⟨V', hV⟩ : ∃ V', V.setCell ⟨g, j, none⟩ v = V' := ⟨_, rfl⟩
 have B : ∀ k, k ≠ g → V'.heap[k]? = V.heap[k]? := fun k a => by rw [← hV]; exact Below.heap_setCell _ ⟨g, j, none⟩ _ k a
 have C : ∀ k j, k ≠ g → V'.cell? ⟨k, j, none⟩ = V.cell? ⟨k, j, none⟩ := fun k j a => World.cell?_of_block (w := V) (B k a)
 have F : ∀ k j, k ≠ g → V'.frozen? ⟨k, j, none⟩ = V.frozen? ⟨k, j, none⟩ := fun k j a => World.frozen?_of_block (w := V) (B k a)
 have hs : V'.heap.size = V.heap.size := by rw [← hV]; simp
 have hc : CB V' cu s n c := by rw [← hV]; exact h.cb.set (a := ⟨g, j, none⟩) (by show cu < g; omega)
 have hb : But cu w V' := by rw [← hV]; exact but_set1 h.but (by omega)
 rw [hV]
 refine ⟨hc, hb, ?_, ?_, fun j => (F _ _ (by omega)).trans (h.fr j), ?_, ?_, ?_, fun j => (F _ _ (by omega)).trans (h.ft j), o1, by omega⟩
 ·rw [C _ _ (by omega)]; exact h.r0
 ·rw [C _ _ (by omega)]; exact h.r1
 ·rw [C _ _ (by omega)]; exact h.t0
 ·rw [C _ _ (by omega)]; exact h.t1
 ·rw [C _ _ (by omega)]; exact h.t2
def NtOk (l : List ND) : Prop := ∀ (i : Nat) (t : ND), l[i]? = some t → 0 ≤ t.who ∧ t.who ≤ 15
/- a program, and a source, as they are read -/
def PgQ (V : World) (lo : Nat) (v0 v1 : Value) : Prop := ∃ (hi : Nat) (p1 p2 : Option Addr) (a1 a2 : Nat) (pd : PD), v0 = .slice p1 pd.caps.length a1 ∧ v1 = .slice p2 pd.bods.length a2 ∧ ProgR V lo hi p1 p2 pd ∧ Fits pd ∧ hi ≤ V.heap.size
def SrQ (V : World) (lo : Nat) (x1 x2 x3 : Value) : Prop := ∃ (hi : Nat) (s1 s2 s3 : Option Addr) (c1 c2 c3 : Nat) (D : SD), x1 = .slice s1 D.ths.length c1 ∧ x2 = .slice s2 D.chs.length c2 ∧ x3 = .slice s3 D.tr.length c3 ∧ SrcR V lo hi s1 s2 s3 D ∧ SFits D ∧ NtOk D.tr ∧ hi ≤ V.heap.size
theorem PgQ.keep {V V' : World} {lo : Nat} {v0 v1 : Value} (h : PgQ V lo v0 v1) (hk : ∀ k, lo ≤ k → k < V.heap.size → V'.heap[k]? = V.heap[k]?) (hs : V.heap.size ≤ V'.heap.size) : PgQ V' lo v0 v1 := by
 obtain ⟨hi, p1, p2, a1, a2, pd, e0, e1, hp, hf, hB⟩ := h
 exact ⟨hi, p1, p2, a1, a2, pd, e0, e1, hp.keep' (fun k a b => hk k a (by omega)), hf, by omega⟩
theorem SrQ.keep {V V' : World} {lo : Nat} {x1 x2 x3 : Value} (h : SrQ V lo x1 x2 x3) (hk : ∀ k, lo ≤ k → k < V.heap.size → V'.heap[k]? = V.heap[k]?) (hs : V.heap.size ≤ V'.heap.size) : SrQ V' lo x1 x2 x3 := by
 obtain ⟨hi, s1, s2, s3, c1, c2, c3, D, e1, e2, e3, hr, hf, hn, hB⟩ := h
 exact ⟨hi, s1, s2, s3, c1, c2, c3, D, e1, e2, e3, hr.keep (fun k a b => hk k a (by omega)), hf, hn, by omega⟩
/- behind the spoiling -/
structure EndS (w V : World) (cu : Nat) (s : Option Addr) (n c P S : Nat) (v0 v1 x1 x2 x3 : Value) : Prop where
 rb : RB5 w V cu s n c
 k0 : V.cell? ⟨P, 0, none⟩ = some v0
 k1 : V.cell? ⟨P, 1, none⟩ = some v1
 sb : BoF S V x1 x2 x3
 pg : PgQ V (w.heap.size + 2) v0 v1
 sr : SrQ V (w.heap.size + 2) x1 x2 x3
 oP : w.heap.size + 2 ≤ P
 oS : w.heap.size + 2 ≤ S
 oV : P < V.heap.size
theorem EndS.fin {w V : World} {cu : Nat} {s : Option Addr} {n c P S : Nat} {v0 v1 x1 x2 x3 : Value} (h : EndS w V cu s n c P S v0 v1 x1 x2 x3) (u0 u1 u2 u3 u4 : Value) :
  ∃ V5, (((((V.setCell ⟨w.heap.size, 0, none⟩ u0).setCell ⟨w.heap.size, 1, none⟩ u1).setCell ⟨w.heap.size + 1, 0, none⟩ u2).setCell ⟨w.heap.size + 1, 1, none⟩ u3).setCell ⟨w.heap.size + 1, 2, none⟩ u4).drew = V5 ∧ PgQ V5 (w.heap.size + 2) v0 v1 ∧ SrQ V5 (w.heap.size + 2) x1 x2 x3 ∧ CB V5 cu s n c ∧ But cu w V5 := by
 have o1 := h.rb.o1
 obtain ⟨Z, hV⟩ : ∃ Z, ((((V.setCell ⟨w.heap.size, 0, none⟩ u0).setCell ⟨w.heap.size, 1, none⟩ u1).setCell ⟨w.heap.size + 1, 0, none⟩ u2).setCell ⟨w.heap.size + 1, 1, none⟩ u3).setCell ⟨w.heap.size + 1, 2, none⟩ u4 = Z := ⟨_, rfl⟩
 have B0 : ∀ k, k ≠ w.heap.size → k ≠ w.heap.size + 1 → Z.heap[k]? = V.heap[k]? := fun k a b => by
  rw [← hV]
  exact (Below.heap_setCell _ ⟨w.heap.size + 1, 2, none⟩ _ k b).trans ((Below.heap_setCell _ ⟨w.heap.size + 1, 1, none⟩ _ k b).trans ((Below.heap_setCell _ ⟨w.heap.size + 1, 0, none⟩ _ k b).trans ((Below.heap_setCell _ ⟨w.heap.size, 1, none⟩ _ k a).trans (Below.heap_setCell _ ⟨w.heap.size, 0, none⟩ _ k a))))
 have hs0 : Z.heap.size = V.heap.size := by rw [← hV]; simp
 have hcb0 : CB Z cu s n c := by
  rw [← hV]
  exact ((((h.rb.cb.set (a := ⟨w.heap.size, 0, none⟩) o1).set (a := ⟨w.heap.size, 1, none⟩) o1).set (a := ⟨w.heap.size + 1, 0, none⟩) (by show cu < w.heap.size + 1; omega)).set (a := ⟨w.heap.size + 1, 1, none⟩) (by show cu < w.heap.size + 1; omega)).set (a := ⟨w.heap.size + 1, 2, none⟩) (by show cu < w.heap.size + 1; omega)
 have bl : Below 0 V Z := by
  rw [← hV]
  exact ((((((Below.refl 0 V).setCell (p := ⟨w.heap.size, 0, none⟩) (Nat.zero_le _) _).setCell (p := ⟨w.heap.size, 1, none⟩) (Nat.zero_le _) _).setCell (p := ⟨w.heap.size + 1, 0, none⟩) (Nat.zero_le _) _).setCell (p := ⟨w.heap.size + 1, 1, none⟩) (Nat.zero_le _) _).setCell (p := ⟨w.heap.size + 1, 2, none⟩) (Nat.zero_le _) _)
 rw [hV]
 clear hV
 have B : ∀ k, k ≠ w.heap.size → k ≠ w.heap.size + 1 → Z.drew.heap[k]? = V.heap[k]? := B0
 have hs : Z.drew.heap.size = V.heap.size := hs0
 exact ⟨Z.drew, rfl, h.pg.keep (fun k a _ => B k (by omega) (by omega)) (by omega), h.sr.keep (fun k a _ => B k (by omega) (by omega)) (by omega), hcb0.keep (Below.drew (Below.refl _ _)), ⟨bl.os.trans h.rb.but.os, bl.tape.trans h.rb.but.tape, bl.output.trans h.rb.but.output, by rw [hs]; exact h.rb.but.size, fun k a b => (B k (by omega) (by omega)).trans (h.rb.but.block k a b)⟩⟩
/- ahead of the spoiling -/
structure DL (w V : World) (cu : Nat) (s : Option Addr) (n c P S lo hi base : Nat) (p1 p2 : Option Addr) (a1 a2 : Nat) (pd : PD) (x1 x2 x3 : Value) (L1 L2 : List (Rec × Value)) (D : SD) : Prop where
 rb : RB5 w V cu s n c
 k0 : V.cell? ⟨P, 0, none⟩ = some (.slice p1 pd.caps.length a1)
 k1 : V.cell? ⟨P, 1, none⟩ = some (.slice p2 pd.bods.length a2)
 kf : ∀ j, V.frozen? ⟨P, j, none⟩ = false
 sb : BoF S V x1 x2 x3
 sx : BxS V S
 pg : ProgR V lo hi p1 p2 pd
 ow : OwnS V base x1 x2 x3 L1 L2 D
 hf : Fits pd
 hF : SFits D
 ok : srcB pd D = true
 o2 : w.heap.size + 2 ≤ lo
 o3 : lo ≤ hi
 o4 : hi ≤ base
 o5 : base ≤ P
 o6 : P < S
 o7 : S < V.heap.size
 fa : ∀ k, HitS x1 x2 x3 L1 L2 k → k < P
theorem DL.step {w V : World} {cu : Nat} {s : Option Addr} {n c P S lo hi base : Nat} {p1 p2 : Option Addr} {a1 a2 : Nat} {pd : PD} {x1 x2 x3 : Value} {L1 L2 : List (Rec × Value)} {D : SD} (h : DL w V cu s n c P S lo hi base p1 p2 a1 a2 pd x1 x2 x3 L1 L2 D) {V' : World} (hc : CB V' cu s n c) (hb : But cu V V') : DL w V' cu s n c P S lo hi base p1 p2 a1 a2 pd x1 x2 x3 L1 L2 D := by
 have o1 := h.rb.o1
 have o2 := h.o2
 have o3 := h.o3
 have o4 := h.o4
 have o5 := h.o5
 have o6 := h.o6
 have o7 := h.o7
 have hs := hb.size
 have B : ∀ k, k < V.heap.size → k ≠ cu → V'.heap[k]? = V.heap[k]? := fun k a b => hb.block k a b
 refine ⟨h.rb.step hc hb, (World.cell?_of_block (w := V) (a := ⟨P, 0, none⟩) (B P (by omega) (by omega))).trans h.k0, (World.cell?_of_block (w := V) (a := ⟨P, 1, none⟩) (B P (by omega) (by omega))).trans h.k1, fun j => (World.frozen?_of_block (w := V) (a := ⟨P, j, none⟩) (B P (by omega) (by omega))).trans (h.kf j), h.sb.keep (B S o7 (by omega)) hs, h.sx.same (B S o7 (by omega)), h.pg.keep' (fun k a b => B k (by omega) (by omega)), h.ow.keep (fun k a b => B k b (by omega)), h.hf, h.hF, h.ok, o2, o3, o4, o5, o6, by omega, h.fa⟩
theorem NtOk.of {p : PD} {D : SD} (h : srcB p D = true) (hb : p.bods.length ≤ 4) : NtOk D.tr := by
 unfold srcB trB allB at h
 simp only [Bool.and_eq_true, decide_eq_true_eq] at h
 intro i t ht
 have := of_decide_eq_true (h.2.2.2.2 i t ht)
 omega
theorem DL.srq {w V : World} {cu : Nat} {s : Option Addr} {n c P S lo hi base : Nat} {p1 p2 : Option Addr} {a1 a2 : Nat} {pd : PD} {x1 x2 x3 : Value} {L1 L2 : List (Rec × Value)} {D : SD} (h : DL w V cu s n c P S lo hi base p1 p2 a1 a2 pd x1 x2 x3 L1 L2 D) (hb : pd.bods.length ≤ 4) : SrQ V (w.heap.size + 2) x1 x2 x3 := by
 obtain ⟨s1, c1, s2, c2, s3, c3, e1, e2, e3, hr⟩ := h.ow.src
 exact ⟨V.heap.size, s1, s2, s3, c1, c2, c3, D, e1, e2, e3, hr.mono (by have := h.o2; have := h.o3; have := h.o4; omega) (Nat.le_refl _), h.hF, NtOk.of h.ok hb, Nat.le_refl _⟩
theorem DL.pgq {w V : World} {cu : Nat} {s : Option Addr} {n c P S lo hi base : Nat} {p1 p2 : Option Addr} {a1 a2 : Nat} {pd : PD} {x1 x2 x3 : Value} {L1 L2 : List (Rec × Value)} {D : SD} (h : DL w V cu s n c P S lo hi base p1 p2 a1 a2 pd x1 x2 x3 L1 L2 D) : PgQ V (w.heap.size + 2) (.slice p1 pd.caps.length a1) (.slice p2 pd.bods.length a2) := ⟨hi, p1, p2, a1, a2, pd, rfl, rfl, ⟨h.pg.1.mono h.o2 (Nat.le_refl _), h.pg.2.mono h.o2 (Nat.le_refl _)⟩, h.hf, by have := h.o4; have := h.o5; have := h.o6; have := h.o7; omega⟩
end
section
set_option linter.unusedSimpArgs false
set_option linter.unusedVariables false
set_option maxRecDepth 100000
open Go.RowKit Go.Deep
theorem OwnC.form {w : World} {base n : Nat} {v : Value} (h : OwnC w base v n) (hn : 0 < n) : ∃ g cap, v = .slice (some ⟨g, 0, none⟩) n cap ∧ base ≤ g ∧ g < w.heap.size := by
 obtain ⟨xs, h1, -⟩ := h
 exact h1.form hn
theorem OwnSx88.form {w : World} {base n : Nat} {v : Value} (h : OwnSx88 w base v n) (hn : 0 < n) : ∃ g cap, v = .slice (some ⟨g, 0, none⟩) n cap ∧ base ≤ g ∧ g < w.heap.size := by
 obtain ⟨xs, h1, -⟩ := h
 exact h1.form hn
theorem OwnC.at {w : World} {base n g cap k : Nat} (h : OwnC w base (.slice (some ⟨g, 0, none⟩) n cap) n) (hk : k < n) : ∃ z : Int, w.cell? ⟨g, k, none⟩ = some (.int .i64 z) ∧ w.frozen? ⟨g, k, none⟩ = false := by
 obtain ⟨xs, h1, h2⟩ := h
 obtain ⟨u, h3, h4, h5, -⟩ := own_cell (k := k) h1 (by omega)
 obtain ⟨z, rfl⟩ := h2 u h4
 exact ⟨z, h3, h5⟩
theorem OwnSx88.at {w : World} {base n g cap k : Nat} (h : OwnSx88 w base (.slice (some ⟨g, 0, none⟩) n cap) n) (hk : k < n) : ∃ (g' m cap' : Nat), w.cell? ⟨g, k, none⟩ = some (.slice (some ⟨g', 0, none⟩) m cap') ∧ 1 ≤ m ∧ m ≤ 12 ∧ OwnI w base (.slice (some ⟨g', 0, none⟩) m cap') m ∧ base ≤ g' ∧ g' < w.heap.size := by
 obtain ⟨xs, h1, h2⟩ := h
 obtain ⟨u, h3, h4, h5, -⟩ := own_cell (k := k) h1 (by omega)
 obtain ⟨m, m1, m2, h6⟩ := h2 u h4
 obtain ⟨g', cap', rfl, h7, h8⟩ := h6.form (by omega)
 exact ⟨g', m, cap', h3, m1, m2, h6, h7, h8⟩
theorem own_type {w : World} {base size n g cap : Nat} {e : TypeId} {xs : List Value} (h : w.ownsRow base e size (.slice (some ⟨g, 0, none⟩) n cap) n xs) : ∃ cur fr, w.heap[g]? = some (.cells cur e fr) := row_of h g rfl
/- anything stored into a block of another kind -/
theorem own_kind {w : World} {base size n : Nat} {e E : TypeId} {v : Value} {xs : List Value} {a : Addr} {x : Value} {cur' : Array Value} {fr' : Nat × Nat} (h : w.ownsRow base e size v n xs) (hE : w.heap[a.block]? = some (.cells cur' E fr')) (hne : e ≠ E) : (w.setCell a x).ownsRow base e size v n xs := by
 obtain ⟨h1, h2⟩ := h
 refine ⟨h1, ?_⟩
 rcases h2 with h2 | ⟨g, cap, cur, hv, hb, hg, h3⟩
 ·exact .inl h2
 ·refine .inr ⟨g, cap, cur, hv, hb, (Below.heap_setCell w a x g ?_).trans hg, h3⟩
  intro e'
  rw [← e', hg] at hE
  cases hE
  exact hne rfl
theorem OwnC.kind {w : World} {base n : Nat} {E : TypeId} {v x : Value} {a : Addr} {cur' : Array Value} {fr' : Nat × Nat} (h : OwnC w base v n) (hE : w.heap[a.block]? = some (.cells cur' E fr')) (hne : 3 ≠ E) : OwnC (w.setCell a x) base v n := by
 obtain ⟨xs, h1, h2⟩ := h
 exact ⟨xs, own_kind h1 hE hne, h2⟩
theorem OwnSx88.kind {w : World} {base n : Nat} {E : TypeId} {v x : Value} {a : Addr} {cur' : Array Value} {fr' : Nat × Nat} (h : OwnSx88 w base v n) (hE : w.heap[a.block]? = some (.cells cur' E fr')) (hne : 59 ≠ E) (hne' : 57 ≠ E) : OwnSx88 (w.setCell a x) base v n := by
 obtain ⟨xs, h1, h2⟩ := h
 refine ⟨xs, own_kind h1 hE hne, fun u hu => ?_⟩
 obtain ⟨m, m1, m2, q, q1, q2⟩ := h2 u hu
 exact ⟨m, m1, m2, q, own_kind q1 hE hne', q2⟩
/- the state: the cursor at p, the answer's cells at R, the program's at P -/
structure Ps (w0 w : World) (p : Nat) (s : Option Addr) (n c R P : Nat) (v0 v1 : Value) : Prop where
 cb : CB w p s n c
 but : But p w0 w
 c0 : w.cell? ⟨P, 0, none⟩ = some v0
 c1 : w.cell? ⟨P, 1, none⟩ = some v1
 fP : ∀ j, w.frozen? ⟨P, j, none⟩ = false
 r0 : (w.cell? ⟨R, 0, none⟩).isSome = true
 r1 : (w.cell? ⟨R, 1, none⟩).isSome = true
 fR : ∀ j, w.frozen? ⟨R, j, none⟩ = false
 lt : P < w.heap.size
 kind : ∃ cur fr, w.heap[P]? = some (.cells cur 40 fr)
 pR : p < R
 RP : R < P
 old : w0.heap.size ≤ R
theorem Ps.step {w0 w w' : World} {p n c R P : Nat} {s : Option Addr} {v0 v1 : Value} (h : Ps w0 w p s n c R P v0 v1) (hc : CB w' p s n c) (hb : But p w w') : Ps w0 w' p s n c R P v0 v1 := by
 have h1 := h.lt
 have h2 := h.pR
 have h4 := h.RP
 have h3 := hb.size
 refine ⟨hc, h.but.trans hb, (hb.cell (p := ⟨P, 0, none⟩) h1 (by show P ≠ p; omega)).trans h.c0, (hb.cell (p := ⟨P, 1, none⟩) h1 (by show P ≠ p; omega)).trans h.c1, fun j => (hb.frozen (p := ⟨P, j, none⟩) h1 (by show P ≠ p; omega)).trans (h.fP j),
  by rw [hb.cell (p := ⟨R, 0, none⟩) (by show R < _; omega) (by show R ≠ p; omega)]; exact h.r0, by rw [hb.cell (p := ⟨R, 1, none⟩) (by show R < _; omega) (by show R ≠ p; omega)]; exact h.r1, fun j => (hb.frozen (p := ⟨R, j, none⟩) (by show R < _; omega) (by show R ≠ p; omega)).trans (h.fR j), by omega, ?_, h.pR, h.RP, h.old⟩
 obtain ⟨cur, fr, hk⟩ := h.kind
 exact ⟨cur, fr, (hb.block P h1 (by omega)).trans hk⟩
theorem Ps.alloc {w0 w : World} {p n c R P : Nat} {s : Option Addr} {v0 v1 : Value} (h : Ps w0 w p s n c R P v0 v1) (o : Obj) : Ps w0 (w.alloc o) p s n c R P v0 v1 := h.step (h.cb.alloc o) ((But.refl _ _).alloc o)
theorem Ps.drew {w0 w : World} {p n c R P : Nat} {s : Option Addr} {v0 v1 : Value} (h : Ps w0 w p s n c R P v0 v1) : Ps w0 w.drew p s n c R P v0 v1 := h.step (h.cb.keep (Below.drew (Below.refl _ _))) (But.of_below (Below.drew (Below.refl _ _)))
theorem Ps.grown {w0 w w' : World} {p n c R P : Nat} {s : Option Addr} {v0 v1 : Value} {row : Option Nat} {E : TypeId} (h : Ps w0 w p s n c R P v0 v1) (hg : w.grownBy w' row) (hr : ∀ k, row = some k → R < k) (hrow : RowOf w row E) (hE : E ≠ 40) : Ps w0 w' p s n c R P v0 v1 := by
 have h1 := h.lt
 have h2 := h.pR
 have h4 := h.old
 have h5 := h.RP
 have h3 := hg.size
 obtain ⟨cur, fr, hkind⟩ := h.kind
 have hP : w'.heap[P]? = w.heap[P]? := hg.block P h1 (fun e => by
  obtain ⟨cur', fr', h6⟩ := hrow P e.symm
  rw [hkind] at h6
  cases h6
  exact hE rfl)
 have hR : w'.heap[R]? = w.heap[R]? := hg.block R (by omega) (fun e => by have := hr R e.symm; omega)
 have clP : ∀ j, w'.cell? ⟨P, j, none⟩ = w.cell? ⟨P, j, none⟩ := fun j => World.cell?_of_block (w := w) hP
 have clR : ∀ j, w'.cell? ⟨R, j, none⟩ = w.cell? ⟨R, j, none⟩ := fun j => World.cell?_of_block (w := w) hR
 have fzP : ∀ j, w'.frozen? ⟨P, j, none⟩ = w.frozen? ⟨P, j, none⟩ := fun j => World.frozen?_of_block (w := w) hP
 have fzR : ∀ j, w'.frozen? ⟨R, j, none⟩ = w.frozen? ⟨R, j, none⟩ := fun j => World.frozen?_of_block (w := w) hR
 exact ⟨h.cb.grown hg (fun k e => by have := hr k e; omega), h.but.grown hg (fun k e => by have := hr k e; omega), (clP _).trans h.c0, (clP _).trans h.c1, fun j => (fzP _).trans (h.fP j), by rw [clR]; exact h.r0, by rw [clR]; exact h.r1, fun j => (fzR _).trans (h.fR j), by omega, ⟨cur, fr, hP.trans hkind⟩, h.pR, h.RP, h.old⟩
theorem new3x90 (w : World) (x y z : Value) (T : TypeId) : ∀ j u, [x, y, z][j]? = some u → (w.alloc (.cells #[x, y, z] T)).cell? (Addr.add ⟨w.heap.size, 0, none⟩ j) = some u := by
 intro j u h
 match j, h with
 | 0, h => simpa [Addr.add, go_sem] using h
 | 1, h => simpa [Addr.add, go_sem] using h
 | 2, h => simpa [Addr.add, go_sem] using h
/- append of three ones -/
theorem app_ones {ops : Array Oper} {rest : List Oper} {o : Oper} {a : Act} {Q : Exit → Act → World → Prop} (hgd : o.guard = none) (s x : Operand) (ho : o.op = .call { callee := .builtin .append, args := #[s, x], argTypes := #[31, 31] })
  (w : World) (base n : Nat) (v : Value) (hs : a.eval s = v) (hown : OwnC w base v n) (hx : a.eval x = .slice (some ⟨w.heap.size, 0, none⟩) 3 3) (hn : n ≤ 1000) (hbase : base ≤ w.heap.size)
  (h : ∀ g cap w', OwnC w' base (.slice (some ⟨g, 0, none⟩) (n + 3) cap) (n + 3) → (w.alloc (.cells #[.int .i64 1, .int .i64 1, .int .i64 1] 3)).grownBy w' v.ownBlock → (∀ k, v.ownBlock = some k → base ≤ k) → RowOf (w.alloc (.cells #[.int .i64 1, .int .i64 1, .int .i64 1] 3)) v.ownBlock 3 → wpList Try.prog ops Q rest (a.put o.dst (.slice (some ⟨g, 0, none⟩) (n + 3) cap)) w') :
  wpList Try.prog ops Q (o :: rest) a (w.alloc (.cells #[.int .i64 1, .int .i64 1, .int .i64 1] 3)) := by
 obtain ⟨i0, hi, hz0, hz1, hz2⟩ := info3
 obtain ⟨xs, h1, h2⟩ := hown
 have h1' := own_block (w' := w.alloc (.cells #[.int .i64 1, .int .i64 1, .int .i64 1] 3)) h1 (fun k _ hk => Below.heap_alloc _ _ _ hk)
 refine wpList_append_lies _ hgd s x 31 ho base 3 i0 _ 1 8 Try.underlying31 hi hz0 hz1 hz2 rfl (by decide) v n xs hs h1' ⟨w.heap.size, 0, none⟩ 3 3 [.int .i64 1, .int .i64 1, .int .i64 1] hx rfl (new3x90 w _ _ _ _) (fun u hu => by simp at hu; subst hu; rfl) (by decide) (by unfold maxLen; omega) (by omega) (by simp; omega) _ rfl ?_
 intro g cap w' q1 q2 q3 q4
 exact h g cap w' ⟨_, q1, h2.append (allInt_cons _ (allInt_cons _ (allInt_cons _ allInt_nil)))⟩ q2 (own_row h1) (row_of h1')
end
end Go.Proofs.Ytknffngbdakblaa
