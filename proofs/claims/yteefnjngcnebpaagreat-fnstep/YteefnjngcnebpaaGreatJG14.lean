/- SourceOk of the program, whole. Conditions: lists of at most 1048576. Runs of a source: a step keeps it right; rows of picks, and rounds. No condition. l4DrawRun: a program that is right and a source that it has come to by drawn steps. Conditions: the cursor and its bytes lie in memory as the reading says. -/
import Derived.Test.YteefnjngcnebpaaGreatJG00
import Derived.Test.YteefnjngcnebpaaGreatJG05
import Derived.Test.YteefnjngcnebpaaGreatJProgOk
import Derived.Test.YteefnjngcnebpaaGreatJG01
import Derived.Test.YteefnjngcnebpaaGreatJSrcOk2
import Derived.Test.YteefnjngcnebpaaGreatJG10
import Derived.Test.YteefnjngcnebpaaGreatJG07
import Derived.Test.YteefnjngcnebpaaGreatJG06
import Derived.Test.YteefnjngcnebpaaGreatJG03
import Derived.Test.YteefnjngcnebpaaGreatJG02
import Derived.Test.YteefnjngcnebpaaGreatJG08
import Derived.Test.YteefnjngcnebpaaGreatJG11
import Derived.Test.YteefnjngcnebpaaGreatJG13
namespace Go.Proofs.YteefnjngcnebpaaGreat
section
set_option linter.unusedSimpArgs false
set_option linter.unusedVariables false
set_option maxRecDepth 100000
open Go.RowKit
theorem src1 {p : PD} {d : SD} (h : progB p = false) : srcB p d = false := by unfold srcB; rw [h]; rfl
theorem src2 {p : PD} {d : SD} (h : thsB d.ths p.bods = false) : srcB p d = false := by unfold srcB; rw [h]; simp
theorem src3 {p : PD} {d : SD} (h : chsB d.chs p.caps = false) : srcB p d = false := by unfold srcB; rw [h]; simp
theorem src4 {p : PD} {d : SD} (h1 : progB p = true) (h2 : thsB d.ths p.bods = true) (h3 : chsB d.chs p.caps = true) : srcB p d = trB d.tr p.bods.length := by unfold srcB; rw [h1, h2, h3]; rfl
theorem fiveB {w W : World} {a b c d e : Value} {T T' : TypeId} (hW : (w.alloc (.cells #[a, b] T)).alloc (.cells #[c, d, e] T') = W) : Below w.heap.size w W ∧ w.heap.size < W.heap.size ∧ w.heap.size + 1 < W.heap.size ∧ (W.cell? ⟨w.heap.size, 0, none⟩ = some a ∧ W.cell? ⟨w.heap.size, 1, none⟩ = some b) ∧ W.cell? ⟨w.heap.size + 1, 0, none⟩ = some c ∧ W.cell? ⟨w.heap.size + 1, 1, none⟩ = some d ∧ W.cell? ⟨w.heap.size + 1, 2, none⟩ = some e := by
 subst hW
 exact ⟨((Below.refl _ _).alloc (Nat.le_refl _) _).alloc (by simp) _, by simp; omega, by simp, ⟨by simp [go_sem], by simp [go_sem]⟩, by simp [go_sem], by simp [go_sem], by simp [go_sem]⟩
set_option maxRecDepth 100000 in
set_option maxHeartbeats 4000000 in
theorem implSource_any (p1 p2 s1 s2 s3 : Option Addr) (a1 a2 c1 c2 c3 lo hi lo' hi' : Nat) (p : PD) (d : SD) (w : World) (h : ProgR w lo hi p1 p2 p) (h' : SrcR w lo' hi' s1 s2 s3 d) (hB : hi ≤ w.heap.size) (hB' : hi' ≤ w.heap.size) (hf : Fits p) (hf' : SFits d) :
  Calls Tryz.prog 9 #[.agg #[.slice p1 p.caps.length a1, .slice p2 p.bods.length a2], .agg #[.slice s1 d.ths.length c1, .slice s2 d.chs.length c2, .slice s3 d.tr.length c3]] w fun e w' => e = .returned (.bool (srcB p d)) ∧ Below w.heap.size w w' := by
 have H : Hid (ProgR w lo hi p1 p2 p) := h
 have H' : Hid (SrcR w lo' hi' s1 s2 s3 d) := h'
 have FP : Hid (Fits p) := hf
 have FS : Hid (SFits d) := hf'
 have n1 := hf.2.1
 have n2 := hf.1
 have n3 := hf'.2.2
 clear h h' hf hf'
 go_enter Tryz.func9, Tryz.ntmps9
 go_wp2_with fail
 obtain ⟨W, hW⟩ : ∃ W, (w.alloc (.cells #[.slice p1 p.caps.length a1, .slice p2 p.bods.length a2] 27)).alloc (.cells #[.slice s1 d.ths.length c1, .slice s2 d.chs.length c2, .slice s3 d.tr.length c3] 32) = W := ⟨_, rfl⟩
 obtain ⟨ka, z0, z1, ⟨x0, x1⟩, y0, y1, y2⟩ := fiveB hW
 rw [hW]
 clear hW
 have K : Hid (Below w.heap.size w W) := ka
 clear ka
 refine (implProg_any p1 p2 a1 a2 lo hi p W (H.out.keep' (Keep.of_below K.out hB)) (by omega) FP.out).mono ?_
 rintro e w1 ⟨rfl, hb1⟩
 have K1 : Hid (Below w.heap.size w w1) := K.out.trans (hb1.mono (by omega))
 have x0' := (hb1.cell (p := ⟨w.heap.size, 0, none⟩) z0).trans x0
 have x1' := (hb1.cell (p := ⟨w.heap.size, 1, none⟩) z0).trans x1
 have y0' := (hb1.cell (p := ⟨w.heap.size + 1, 0, none⟩) z1).trans y0
 have y1' := (hb1.cell (p := ⟨w.heap.size + 1, 1, none⟩) z1).trans y1
 have y2' := (hb1.cell (p := ⟨w.heap.size + 1, 2, none⟩) z1).trans y2
 have zs := hb1.size
 have z0' : w.heap.size < w1.heap.size := by omega
 have z1' : w.heap.size + 1 < w1.heap.size := by omega
 clear x0 x1 y0 y1 y2 hb1 K z0 z1 zs
 cases hp : progB p
 ·have F : Hid (srcB p d = false) := src1 hp
  clear hp
  go_wp2
  go_ret
  exact ⟨by rw [F.out]; rfl, K1.out⟩
 have HP : Hid (progB p = true) := hp
 clear hp
 go_wp2_with fail
 refine (threadsOk_any s1 p2 c1 a2 lo' hi' lo hi d.ths p.bods w1 (H'.out.keep (Keep.of_below K1.out hB')).1 (H.out.keep' (Keep.of_below K1.out hB)).2 (by omega) (by omega) FS.out.1.1 FS.out.1.2 FP.out.2.1 FP.out.2.2).mono ?_
 rintro e w2 ⟨rfl, hb2⟩
 have K2 : Hid (Below w.heap.size w w2) := K1.out.trans (hb2.mono (by omega))
 have x0 := (hb2.cell (p := ⟨w.heap.size, 0, none⟩) z0').trans x0'
 have x1 := (hb2.cell (p := ⟨w.heap.size, 1, none⟩) z0').trans x1'
 have y1 := (hb2.cell (p := ⟨w.heap.size + 1, 1, none⟩) z1').trans y1'
 have y2 := (hb2.cell (p := ⟨w.heap.size + 1, 2, none⟩) z1').trans y2'
 have zs := hb2.size
 have z0 : w.heap.size < w2.heap.size := by omega
 have z1 : w.heap.size + 1 < w2.heap.size := by omega
 clear x0' x1' y0' y1' y2' hb2 K1 z0' z1' zs
 cases ht : thsB d.ths p.bods
 ·have F : Hid (srcB p d = false) := src2 ht
  clear ht
  go_wp2
  go_ret
  exact ⟨by rw [F.out]; rfl, K2.out⟩
 have HTs : Hid (thsB d.ths p.bods = true) := ht
 clear ht
 go_wp2_with fail
 refine (chansOk_any s2 p1 c2 a1 lo' hi' lo hi d.chs p.caps w2 (H'.out.keep (Keep.of_below K2.out hB')).2.1 (H.out.keep' (Keep.of_below K2.out hB)).1 (by omega) (by omega) FS.out.2.1.1 FS.out.2.1.2 FP.out.1).mono ?_
 rintro e w3 ⟨rfl, hb3⟩
 have K3 : Hid (Below w.heap.size w w3) := K2.out.trans (hb3.mono (by omega))
 have x1' := (hb3.cell (p := ⟨w.heap.size, 1, none⟩) z0).trans x1
 have y2' := (hb3.cell (p := ⟨w.heap.size + 1, 2, none⟩) z1).trans y2
 have zs := hb3.size
 have z0' : w.heap.size < w3.heap.size := by omega
 have z1' : w.heap.size + 1 < w3.heap.size := by omega
 clear x0 x1 y1 y2 hb3 K2 z0 z1 zs
 cases hc : chsB d.chs p.caps
 ·have F : Hid (srcB p d = false) := src3 hc
  clear hc
  go_wp2
  go_ret
  exact ⟨by rw [F.out]; rfl, K3.out⟩
 have F : Hid (srcB p d = trB d.tr p.bods.length) := src4 HP.out HTs.out hc
 clear hc
 go_wp2_with fail
 refine (traceOk_any s3 c3 lo' hi' p.bods.length d.tr w3 (H'.out.keep (Keep.of_below K3.out hB')).2.2 (by omega) n3 n1).mono ?_
 rintro e w4 ⟨rfl, hb4⟩
 have K4 : Hid (Below w.heap.size w w4) := K3.out.trans (hb4.mono (by omega))
 clear x1' y2' hb4
 go_wp2
 go_ret
 exact ⟨by rw [F.out]; rfl, K4.out⟩
end
section
set_option linter.unusedSimpArgs false
set_option linter.unusedVariables false
set_option maxRecDepth 100000
open Go.RowKit
theorem thB_move {t : TD} {b : Nat} {rg : List Int} {nx : Int} (h4 : rg.length = 4) (ht : thB t b = true) : thB (moveT t b rg nx) b = true := by
 unfold moveT
 split
 ·rename_i h
  unfold thB Plain.inB Plain.oneB
  simp only [Bool.and_eq_true, decide_eq_true_eq]
  exact ⟨h4, ⟨by omega, by omega⟩, h⟩
 ·unfold thB Plain.inB Plain.oneB at ht ⊢
  simp only [Bool.and_eq_true, decide_eq_true_eq] at ht ⊢
  exact ⟨h4, ⟨by omega, by omega⟩, ht.2.2⟩
theorem thB_halt {t : TD} {b : Nat} {s : Int} (hs : 0 ≤ s ∧ s ≤ 2) (ht : thB t b = true) : thB (haltT t s) b = true := by
 unfold haltT
 unfold thB Plain.inB Plain.oneB at ht ⊢
 simp only [Bool.and_eq_true, decide_eq_true_eq] at ht ⊢
 exact ⟨ht.1, hs, ht.2.2⟩
theorem thB_len {t : TD} {b : Nat} (ht : thB t b = true) : t.regs.length = 4 := by
 unfold thB at ht
 simp only [Bool.and_eq_true, decide_eq_true_eq] at ht
 exact ht.1
theorem chB_send {c : CD} {cap : Int} (v : Int) (h : chB c cap = true) : chB ⟨c.cap, sendL c.cap c.list c.cl v, c.cl⟩ cap = true := by
 unfold chB at h ⊢
 simp only [Bool.and_eq_true, decide_eq_true_eq] at h ⊢
 refine ⟨⟨h.1.1, ?_⟩, h.2⟩
 unfold sendL
 split
 ·rename_i q
  simp only [List.length_append, List.length_cons, List.length_nil]
  omega
 ·exact h.1.2
theorem chB_take {c : CD} {cap : Int} (h : chB c cap = true) : chB ⟨c.cap, takeL c.cap c.list, c.cl⟩ cap = true := by
 unfold chB at h ⊢
 simp only [Bool.and_eq_true, decide_eq_true_eq] at h ⊢
 refine ⟨⟨h.1.1, ?_⟩, h.2⟩
 have := takeL_len c.cap c.list
 have := h.1.2
 show ((takeL c.cap c.list).length : Int) ≤ c.cap
 omega
theorem chB_shut {c : CD} {cap : Int} (b : Bool) (h : chB c cap = true) : chB ⟨c.cap, c.list, b⟩ cap = true := h
theorem chs_set {chs : List CD} {caps : List Int} (hc : ∀ (i : Nat) (c : CD), chs[i]? = some c → chB c (caps.getD i 0) = true) (n : Nat) (y : CD) (hy : chB (chs.getD n zc) (caps.getD n 0) = true → chB y (caps.getD n 0) = true) : ∀ (i : Nat) (c : CD), (chs.set n y)[i]? = some c → chB c (caps.getD i 0) = true := by
 intro i c h
 rcases set_at h with ⟨rfl, rfl, hl⟩ | ⟨-, h⟩
 ·refine hy ?_
  have := hc i _ (List.getElem?_eq_getElem hl)
  rw [List.getD_eq_getElem?_getD, List.getElem?_eq_getElem hl]
  exact this
 ·exact hc i c h
structure Ko (b : Nat) (caps : List Int) (n m : Nat) (o : Out) : Prop where
 a : thB o.t b = true
 b : o.chs.length = m
 c : ∀ (i : Nat) (c : CD), o.chs[i]? = some c → chB c (caps.getD i 0) = true
 d : o.tr.length ≤ 4000 ∧ ∀ (i : Nat) (z : ND), o.tr[i]? = some z → Plain.oneB z.who n = true
theorem ko_ite {b n m : Nat} {caps : List Int} {c : Prop} [Decidable c] {x y : Out} (h1 : c → Ko b caps n m x) (h2 : ¬ c → Ko b caps n m y) : Ko b caps n m (if c then x else y) := by
 by_cases h : c
 ·rw [if_pos h]; exact h1 h
 ·rw [if_neg h]; exact h2 h
theorem tr_add {tr : List ND} {n k : Nat} {v : Int} (h : tr.length ≤ 4000 ∧ ∀ (i : Nat) (z : ND), tr[i]? = some z → Plain.oneB z.who n = true) (hk : k < n) (hne : ¬ tr.length = 4000) : (tr ++ [(⟨(k : Int), v⟩ : ND)]).length ≤ 4000 ∧ ∀ (i : Nat) (z : ND), (tr ++ [(⟨(k : Int), v⟩ : ND)])[i]? = some z → Plain.oneB z.who n = true := by
 refine ⟨by simp; omega, fun i z hz => ?_⟩
 by_cases hi : i < tr.length
 ·rw [List.getElem?_append_left hi] at hz
  exact h.2 i z hz
 ·rw [List.getElem?_append_right (by omega)] at hz
  have : i - tr.length = 0 := by
   have := (List.getElem?_eq_some_iff.1 hz).1
   simpa using this
  rw [this] at hz
  simp at hz
  subst hz
  unfold Plain.oneB
  simp
  omega
theorem stepO_ko (b : Nat) (t : TD) (x : I5) (chs : List CD) (tr : List ND) (k n : Nat) (caps : List Int) (ht : thB t b = true) (hc : ∀ (i : Nat) (c : CD), chs[i]? = some c → chB c (caps.getD i 0) = true) (hn : tr.length ≤ 4000 ∧ ∀ (i : Nat) (z : ND), tr[i]? = some z → Plain.oneB z.who n = true) (hk : k < n) : Ko b caps n chs.length (stepO b t x chs tr k) := by
 have h4 := thB_len ht
 have S1 : ∀ (v : Int) (i : Nat) (c : CD), (chs.set x.n.toNat ⟨(chs.getD x.n.toNat zc).cap, sendL (chs.getD x.n.toNat zc).cap (chs.getD x.n.toNat zc).list (chs.getD x.n.toNat zc).cl v, (chs.getD x.n.toNat zc).cl⟩)[i]? = some c → chB c (caps.getD i 0) = true := fun v => chs_set hc _ _ (chB_send (c := chs.getD x.n.toNat zc) v)
 have S2 : ∀ (i : Nat) (c : CD), (chs.set x.n.toNat ⟨(chs.getD x.n.toNat zc).cap, takeL (chs.getD x.n.toNat zc).cap (chs.getD x.n.toNat zc).list, (chs.getD x.n.toNat zc).cl⟩)[i]? = some c → chB c (caps.getD i 0) = true := chs_set hc _ _ (chB_take (c := chs.getD x.n.toNat zc))
 have S3 : ∀ (b : Bool) (i : Nat) (c : CD), (chs.set x.n.toNat ⟨(chs.getD x.n.toNat zc).cap, (chs.getD x.n.toNat zc).list, b⟩)[i]? = some c → chB c (caps.getD i 0) = true := fun b => chs_set hc _ _ (chB_shut (c := chs.getD x.n.toNat zc) b)
 unfold stepO
 dsimp only
 repeat' (refine ko_ite (fun _ => ?_) (fun _ => ?_))
 all_goals
  refine ⟨?_, ?_, ?_, ?_⟩
  ·first | with_reducible exact ht | with_reducible exact thB_halt (by decide) ht | with_reducible exact thB_move h4 ht | exact thB_move (by simp only [putN_len]; exact h4) ht
  ·first | rfl | exact List.length_set
  ·first | with_reducible exact hc | with_reducible exact S1 _ | with_reducible exact S2 | with_reducible exact S3 _
  ·first | exact hn | exact tr_add hn hk (by assumption)
theorem srcB_step {p : PD} {d : SD} (h : srcB p d = true) (who : Int) : srcB p (stepS p d who) = true := by
 have hR := right_of h
 unfold stepS
 split
 ·rename_i hk
  have hw : 0 ≤ who ∧ who < d.ths.length := by
   by_cases hw : 0 ≤ who ∧ who < d.ths.length
   ·exact hw
   ·unfold stepK at hk
    rw [if_neg hw] at hk
    cases hk
  obtain ⟨k, rfl⟩ : ∃ k : Nat, who = (k : Int) := ⟨who.toNat, by omega⟩
  rw [Int.toNat_natCast]
  have hl : k < d.ths.length := by omega
  unfold srcB at h ⊢
  rw [Bool.and_eq_true, Bool.and_eq_true, Bool.and_eq_true] at h ⊢
  obtain ⟨h1, h2, h3, h4⟩ := h
  unfold thsB at h2 ⊢
  unfold chsB at h3 ⊢
  unfold trB at h4 ⊢
  rw [Bool.and_eq_true] at h2 h3 h4 ⊢
  rw [Bool.and_eq_true, Bool.and_eq_true]
  obtain ⟨t1, t2⟩ := h2
  obtain ⟨c1, c2⟩ := h3
  obtain ⟨n1, n2⟩ := h4
  have t1 := of_decide_eq_true t1
  have c1 := of_decide_eq_true c1
  have n1 := of_decide_eq_true n1
  have et : d.ths[k]? = some (thOf d k) := by unfold thOf; rw [List.getD_eq_getElem?_getD, List.getElem?_eq_getElem hl]; rfl
  obtain ⟨q1, q2, q3, q4, q5⟩ := stepO_ko (bodyOf p k).length (thOf d k) (insOf p d k) d.chs d.tr k p.bods.length p.caps (all_get t2 k _ et) (all_get c2) ⟨n1, all_get n2⟩ (by omega)
  refine ⟨h1, ⟨decide_eq_true (by show (d.ths.set _ _).length = _; rw [List.length_set]; exact t1), all_yes fun i t ht => ?_⟩, ⟨decide_eq_true (by show (outOf p d k).chs.length = _; exact q2.trans c1), all_yes q3⟩, ⟨decide_eq_true q4, all_yes q5⟩⟩
  rcases set_at ht with ⟨rfl, rfl, -⟩ | ⟨-, ht⟩
  ·exact q1
  ·exact all_get t2 i t ht
 ·exact h
end
section
set_option linter.unusedSimpArgs false
set_option linter.unusedVariables false
set_option maxRecDepth 100000
open Go.RowKit
structure DRx94 (w V : World) (cu : Nat) (s : Option Addr) (n c P S lo hi base : Nat) (p1 p2 : Option Addr) (a1 a2 : Nat) (pd : PD) (x1 x2 x3 : Value) (D : SD) : Prop where
 cb : CB V cu s n c
 but : But cu w V
 r0 : (V.cell? ⟨w.heap.size, 0, none⟩).isSome = true
 r1 : (V.cell? ⟨w.heap.size, 1, none⟩).isSome = true
 fr : ∀ j, V.frozen? ⟨w.heap.size, j, none⟩ = false
 t0 : (V.cell? ⟨w.heap.size + 1, 0, none⟩).isSome = true
 t1 : (V.cell? ⟨w.heap.size + 1, 1, none⟩).isSome = true
 t2 : (V.cell? ⟨w.heap.size + 1, 2, none⟩).isSome = true
 ft : ∀ j, V.frozen? ⟨w.heap.size + 1, j, none⟩ = false
 k0 : V.cell? ⟨P, 0, none⟩ = some (.slice p1 pd.caps.length a1)
 k1 : V.cell? ⟨P, 1, none⟩ = some (.slice p2 pd.bods.length a2)
 sb : BoF S V x1 x2 x3
 sx : BxS V S
 pg : ProgR V lo hi p1 p2 pd
 ow : ∃ L1 L2, OwnS V base x1 x2 x3 L1 L2 D
 o1 : cu < w.heap.size
 o2 : w.heap.size + 2 ≤ lo
 o3 : lo ≤ hi
 o4 : hi ≤ P
 o5 : P < base
 o6 : base ≤ S
 o7 : S < V.heap.size
theorem DRx94.step {w V V' : World} {cu : Nat} {s : Option Addr} {n c P S lo hi base : Nat} {p1 p2 : Option Addr} {a1 a2 : Nat} {pd : PD} {x1 x2 x3 : Value} {D : SD} (h : DRx94 w V cu s n c P S lo hi base p1 p2 a1 a2 pd x1 x2 x3 D) (hc : CB V' cu s n c) (hb : But cu V V') : DRx94 w V' cu s n c P S lo hi base p1 p2 a1 a2 pd x1 x2 x3 D := by
 have o1 := h.o1
 have o2 := h.o2
 have o3 := h.o3
 have o4 := h.o4
 have o5 := h.o5
 have o6 := h.o6
 have o7 := h.o7
 have hs := hb.size
 have B : ∀ k, k < V.heap.size → k ≠ cu → V'.heap[k]? = V.heap[k]? := fun k a b => hb.block k a b
 have C : ∀ k j, k < V.heap.size → k ≠ cu → V'.cell? ⟨k, j, none⟩ = V.cell? ⟨k, j, none⟩ := fun k j a b => World.cell?_of_block (w := V) (B k a b)
 have F : ∀ k j, k < V.heap.size → k ≠ cu → V'.frozen? ⟨k, j, none⟩ = V.frozen? ⟨k, j, none⟩ := fun k j a b => World.frozen?_of_block (w := V) (B k a b)
 refine ⟨hc, h.but.trans hb, ?_, ?_, fun j => (F _ _ (by omega) (by omega)).trans (h.fr j), ?_, ?_, ?_, fun j => (F _ _ (by omega) (by omega)).trans (h.ft j), (C _ _ (by omega) (by omega)).trans h.k0, (C _ _ (by omega) (by omega)).trans h.k1, h.sb.keep (B _ o7 (by omega)) hs, ?_, h.pg.keep' (fun k a b => B k (by omega) (by omega)), ?_, o1, o2, o3, o4, o5, o6, by omega⟩
 ·rw [C _ _ (by omega) (by omega)]; exact h.r0
 ·rw [C _ _ (by omega) (by omega)]; exact h.r1
 ·rw [C _ _ (by omega) (by omega)]; exact h.t0
 ·rw [C _ _ (by omega) (by omega)]; exact h.t1
 ·rw [C _ _ (by omega) (by omega)]; exact h.t2
 ·obtain ⟨cs, f, e⟩ := h.sx
  exact ⟨cs, f, (B _ o7 (by omega)).trans e⟩
 ·obtain ⟨L1, L2, o⟩ := h.ow
  exact ⟨L1, L2, o.keep (fun k a b => B k b (by omega))⟩
/- another source put into the box -/
theorem DRx94.put {w V : World} {cu : Nat} {s : Option Addr} {n c P S lo hi base : Nat} {p1 p2 : Option Addr} {a1 a2 : Nat} {pd : PD} {x1 x2 x3 y1 y2 y3 : Value} {D D' : SD} {L1 L2 : List (Rec × Value)} (h : DRx94 w V cu s n c P S lo hi base p1 p2 a1 a2 pd x1 x2 x3 D) (o : OwnS V base y1 y2 y3 L1 L2 D') : DRx94 w (((V.setCell ⟨S, 0, none⟩ y1).setCell ⟨S, 1, none⟩ y2).setCell ⟨S, 2, none⟩ y3) cu s n c P S lo hi base p1 p2 a1 a2 pd y1 y2 y3 D' := by
 have o1 := h.o1
 have o2 := h.o2
 have o3 := h.o3
 have o4 := h.o4
 have o5 := h.o5
 have o6 := h.o6
 have o7 := h.o7
 obtain ⟨V', hV⟩ : ∃ V', ((V.setCell ⟨S, 0, none⟩ y1).setCell ⟨S, 1, none⟩ y2).setCell ⟨S, 2, none⟩ y3 = V' := ⟨_, rfl⟩
 have B : ∀ k, k ≠ S → V'.heap[k]? = V.heap[k]? := fun k a => by
  subst hV
  exact (Below.heap_setCell _ ⟨S, 2, none⟩ _ k a).trans ((Below.heap_setCell _ ⟨S, 1, none⟩ _ k a).trans (Below.heap_setCell _ ⟨S, 0, none⟩ _ k a))
 have C : ∀ k j, k ≠ S → V'.cell? ⟨k, j, none⟩ = V.cell? ⟨k, j, none⟩ := fun k j a => World.cell?_of_block (w := V) (B k a)
 have F : ∀ k j, k ≠ S → V'.frozen? ⟨k, j, none⟩ = V.frozen? ⟨k, j, none⟩ := fun k j a => World.frozen?_of_block (w := V) (B k a)
 have hs : V'.heap.size = V.heap.size := by subst hV; simp
 have hcb : CB V' cu s n c := by subst hV; exact ((h.cb.set (a := ⟨S, 0, none⟩) (by show cu < S; omega)).set (a := ⟨S, 1, none⟩) (by show cu < S; omega)).set (a := ⟨S, 2, none⟩) (by show cu < S; omega)
 have hsb : BoF S V' y1 y2 y3 := by subst hV; exact ((h.sb.set0 _).set1 _).set2 _
 have hsx : BxS V' S := by subst hV; exact h.sx.set.set.set
 have how : OwnS V' base y1 y2 y3 L1 L2 D' := by subst hV; exact ((o.offB h.sx).offB h.sx.set).offB h.sx.set.set
 have hbut : But cu w V' := ⟨by subst hV; exact h.but.os, by subst hV; exact h.but.tape, by subst hV; exact h.but.output, by rw [hs]; exact h.but.size, fun k a b => (B k (by omega)).trans (h.but.block k a b)⟩
 rw [hV]
 refine ⟨hcb, hbut, ?_, ?_, fun j => (F _ _ (by omega)).trans (h.fr j), ?_, ?_, ?_, fun j => (F _ _ (by omega)).trans (h.ft j), (C _ _ (by omega)).trans h.k0, (C _ _ (by omega)).trans h.k1, hsb, hsx, h.pg.keep' (fun k a b => B k (by omega)), ⟨L1, L2, how⟩, o1, o2, o3, o4, o5, o6, by omega⟩
 ·rw [C _ _ (by omega)]; exact h.r0
 ·rw [C _ _ (by omega)]; exact h.r1
 ·rw [C _ _ (by omega)]; exact h.t0
 ·rw [C _ _ (by omega)]; exact h.t1
 ·rw [C _ _ (by omega)]; exact h.t2
theorem DRx94.fin {w V : World} {cu : Nat} {s : Option Addr} {n c P S lo hi base : Nat} {p1 p2 : Option Addr} {a1 a2 : Nat} {pd : PD} {x1 x2 x3 : Value} {D : SD} (h : DRx94 w V cu s n c P S lo hi base p1 p2 a1 a2 pd x1 x2 x3 D) (u0 u1 u2 u3 u4 : Value) :
  ∃ V5, (((((V.setCell ⟨w.heap.size, 0, none⟩ u0).setCell ⟨w.heap.size, 1, none⟩ u1).setCell ⟨w.heap.size + 1, 0, none⟩ u2).setCell ⟨w.heap.size + 1, 1, none⟩ u3).setCell ⟨w.heap.size + 1, 2, none⟩ u4).drew = V5 ∧ ProgR V5 lo hi p1 p2 pd ∧ (∃ L1 L2, OwnS V5 base x1 x2 x3 L1 L2 D) ∧ CB V5 cu s n c ∧ But cu w V5 ∧ base ≤ V5.heap.size := by
 have o1 := h.o1
 have o2 := h.o2
 have o3 := h.o3
 have o4 := h.o4
 have o5 := h.o5
 have o6 := h.o6
 have o7 := h.o7
 obtain ⟨Z, hV⟩ : ∃ Z, ((((V.setCell ⟨w.heap.size, 0, none⟩ u0).setCell ⟨w.heap.size, 1, none⟩ u1).setCell ⟨w.heap.size + 1, 0, none⟩ u2).setCell ⟨w.heap.size + 1, 1, none⟩ u3).setCell ⟨w.heap.size + 1, 2, none⟩ u4 = Z := ⟨_, rfl⟩
 have B0 : ∀ k, k ≠ w.heap.size → k ≠ w.heap.size + 1 → Z.heap[k]? = V.heap[k]? := fun k a b => by
  rw [← hV]
  exact (Below.heap_setCell _ ⟨w.heap.size + 1, 2, none⟩ _ k b).trans ((Below.heap_setCell _ ⟨w.heap.size + 1, 1, none⟩ _ k b).trans ((Below.heap_setCell _ ⟨w.heap.size + 1, 0, none⟩ _ k b).trans ((Below.heap_setCell _ ⟨w.heap.size, 1, none⟩ _ k a).trans (Below.heap_setCell _ ⟨w.heap.size, 0, none⟩ _ k a))))
 have hs0 : Z.heap.size = V.heap.size := by rw [← hV]; simp
 have hcb0 : CB Z cu s n c := by
  rw [← hV]
  exact ((((h.cb.set (a := ⟨w.heap.size, 0, none⟩) o1).set (a := ⟨w.heap.size, 1, none⟩) o1).set (a := ⟨w.heap.size + 1, 0, none⟩) (by show cu < w.heap.size + 1; omega)).set (a := ⟨w.heap.size + 1, 1, none⟩) (by show cu < w.heap.size + 1; omega)).set (a := ⟨w.heap.size + 1, 2, none⟩) (by show cu < w.heap.size + 1; omega)
 have bl : Below 0 V Z := by
  rw [← hV]
  exact ((((((Below.refl 0 V).setCell (p := ⟨w.heap.size, 0, none⟩) (Nat.zero_le _) _).setCell (p := ⟨w.heap.size, 1, none⟩) (Nat.zero_le _) _).setCell (p := ⟨w.heap.size + 1, 0, none⟩) (Nat.zero_le _) _).setCell (p := ⟨w.heap.size + 1, 1, none⟩) (Nat.zero_le _) _).setCell (p := ⟨w.heap.size + 1, 2, none⟩) (Nat.zero_le _) _)
 have ho0 : Z.os = V.os ∧ Z.tape = V.tape ∧ Z.output = V.output := ⟨bl.os, bl.tape, bl.output⟩
 rw [hV]
 clear hV
 have B : ∀ k, k ≠ w.heap.size → k ≠ w.heap.size + 1 → Z.drew.heap[k]? = V.heap[k]? := B0
 have hs : Z.drew.heap.size = V.heap.size := hs0
 have hcb : CB Z.drew cu s n c := hcb0.keep (Below.drew (Below.refl _ _))
 refine ⟨Z.drew, rfl, h.pg.keep' (fun k a b => B k (by omega) (by omega)), ?_, hcb, ⟨ho0.1.trans h.but.os, ho0.2.1.trans h.but.tape, ho0.2.2.trans h.but.output, by rw [hs]; exact h.but.size, fun k a b => (B k (by omega) (by omega)).trans (h.but.block k a b)⟩, by omega⟩
 obtain ⟨L1, L2, o⟩ := h.ow
 exact ⟨L1, L2, o.keep (fun k a b => B k (by omega) (by omega))⟩
end
end Go.Proofs.YteefnjngcnebpaaGreat
