/- The laws FnExactReads and FnExactSets of the given statements: at every argument the program answers as the specification, its answer owns its memory. No condition. -/
import Derived.Test.YtkmobmnbdapjkahFrames
import Derived.Test.YtkmobmnbdapjkahToIns
import Derived.Test.YtkmobmnbdapjkahRegs
import Derived.Test.YtkmobmnbdapjkahMarks
namespace Go.Proofs.Ytkmobmnbdapjkah
set_option linter.unusedSimpArgs false
set_option linter.unusedVariables false
open Go.ChangeShapes Go.WideShapes Go.ChangeAt Go.RowKit

def Spot (w : World) (B : Nat) (s : Option Addr) (n : Nat) : Prop :=
  n = 0 ∨ ∃ g, s = some ⟨g, 0, none⟩ ∧ B ≤ g ∧ g < w.heap.size ∧ (∀ i, i < n → (w.cell? ⟨g, 0 + i, none⟩).isSome = true) ∧ (∀ i, i < n → w.frozen? ⟨g, 0 + i, none⟩ = false)
def Marked (w : World) (s : Option Addr) (n : Nat) (q : Int) : Prop :=
  n = 0 ∨ ∃ g, s = some ⟨g, 0, none⟩ ∧ g < w.heap.size ∧ (∀ i, i < n → w.cell? ⟨g, 0 + i, none⟩ = some (.int .i64 (q + i)))

theorem Spot.drewN {w : World} {B : Nat} {s : Option Addr} {n : Nat} (h : Spot w B s n) (m : Nat) : Spot (w.drewN m) B s n := h
theorem Marked.keep {w w' : World} {s : Option Addr} {n : Nat} {q : Int} (h : Marked w s n q) (hb : Below w.heap.size w w') : Marked w' s n q := by
  rcases h with h | ⟨g, hs, hg, hc⟩
  · exact .inl h
  · exact .inr ⟨g, hs, by have := hb.size; omega, fun i hi => (hb.cell hg).trans (hc i hi)⟩
theorem Ints.keep {w w' : World} {s : Option Addr} {l : List Int} (h : Ints w s l) (hb : Below w.heap.size w w') : Ints w' s l := by
  rcases h with h | ⟨g, o, hs, hg, hc⟩
  · exact .inl h
  · exact .inr ⟨g, o, hs, by have := hb.size; omega, fun i hi => (hb.cell hg).trans (hc i hi)⟩
theorem Ints.drewN {w : World} {s : Option Addr} {l : List Int} (h : Ints w s l) (m : Nat) : Ints (w.drewN m) s l := h
def IntsB (w : World) (B : Nat) (s : Option Addr) (l : List Int) : Prop :=
  l = [] ∨ ∃ g o, s = some ⟨g, o, none⟩ ∧ g < B ∧ ∀ i, i < l.length → w.cell? ⟨g, o + i, none⟩ = some (.int .i64 (l.getD i 0))
theorem IntsB.ints {w : World} {B : Nat} {s : Option Addr} {l : List Int} (h : IntsB w B s l) (hB : B ≤ w.heap.size) : Ints w s l := by
  rcases h with h | ⟨g, o, hs, hg, hc⟩
  · exact .inl h
  · exact .inr ⟨g, o, hs, by omega, hc⟩
theorem IntsB.keep {w w' : World} {B : Nat} {s : Option Addr} {l : List Int} (h : IntsB w B s l) (hb : Below B w w') : IntsB w' B s l := by
  rcases h with h | ⟨g, o, hs, hg, hc⟩
  · exact .inl h
  · exact .inr ⟨g, o, hs, hg, fun i hi => (hb.cell hg).trans (hc i hi)⟩

theorem mark_any (s : Option Addr) (n c B : Nat) (q : Int) (w : World) (h : Spot w B s n) (hB : B ≤ w.heap.size) (hn : n ≤ 1000000000) (hq : 0 ≤ q) (hq' : q ≤ 1000000000) :
    Calls Try.prog 16 #[.slice s n c, .int .i64 q] w fun e w' => e = .returned (.int .i64 (q + n)) ∧ Marked w' s n q ∧ Below B w w' := by
  rcases h with rfl | ⟨g, rfl, hg, hg', hs, hf⟩
  · refine (markIntS_none s c q w).mono ?_
    rintro e w' ⟨rfl, rfl⟩
    exact ⟨by simp, .inl rfl, Below.refl _ _⟩
  · refine (markIntS_some g 0 n c q w hs hf hn hq hq').mono ?_
    rintro e w' ⟨rfl, ho, hc⟩
    exact ⟨rfl, .inr ⟨g, rfl, by have := ho.size; omega, hc⟩, ho.below hg hB⟩
theorem held_any (s : Option Addr) (n c : Nat) (q : Int) (w : World) (h : Marked w s n q) (hn : n ≤ 1000000000) (hq : 0 ≤ q) (hq' : q ≤ 1000000000) :
    Calls Try.prog 17 #[.slice s n c, .int .i64 q] w fun e w' => e = .returned (.int .i64 (q + n)) ∧ w' = w := by
  rcases h with rfl | ⟨g, rfl, hg, hs⟩
  · refine (heldIntS_none s c q w).mono ?_
    rintro e w' ⟨rfl, rfl⟩
    exact ⟨by simp, rfl⟩
  · exact heldIntS_some g 0 n c q w hs hn hq hq'

theorem Fresh.intsB {w w' : World} {s : Option Addr} {c : Nat} {l : List Int}
    (h : l = [] ∨ ∃ g, s = some ⟨g, 0, none⟩ ∧ w.heap.size ≤ g ∧ g < w'.heap.size ∧ (∀ i, i < l.length → w'.cell? ⟨g, 0 + i, none⟩ = some (.int .i64 (l.getD i 0))) ∧ (∀ i, i < l.length → w'.frozen? ⟨g, 0 + i, none⟩ = false)) :
    IntsB w' w'.heap.size s l ∧ Spot w' w.heap.size s l.length := by
  rcases h with rfl | ⟨g, rfl, h1, h2, h3, h4⟩
  · exact ⟨.inl rfl, .inl rfl⟩
  · exact ⟨.inr ⟨g, 0, rfl, h2, h3⟩, .inr ⟨g, rfl, h1, h2, fun i hi => by rw [h3 i hi]; rfl, h4⟩⟩

theorem ownR : ownKnob Try.prog.godebug = none := by kernel_rfl
theorem laidOutR : laidOutB Try.prog = true := by kernel_rfl
theorem readsL_le (o a b : Int) : (Plain.readsL o a b).length ≤ 2 := by unfold Plain.readsL; split <;> (try split) <;> simp
theorem setsL_le (o a b : Int) : (Plain.setsL o a b).length ≤ 2 := by unfold Plain.setsL; split <;> (try split) <;> simp

set_option maxHeartbeats 1000000 in
theorem walkReads (o r a b n : Int) (w : World) : Calls Try.prog 4 #[.agg #[.int .i64 o, .int .i64 r, .int .i64 a, .int .i64 b, .int .i64 n]] w fun e w' => e = .returned (.bool true) ∧ Below w.heap.size w w' := by
  have hl : (Plain.readsL o a b).length ≤ 2 := readsL_le _ _ _
  have S : Hid (∀ w, Calls Try.prog 12 #[.agg #[.int .i64 o, .int .i64 r, .int .i64 a, .int .i64 b, .int .i64 n]] w fun e w' => ∃ v, e = .returned v ∧ Fresh w w' v (Plain.readsL o a b)) := fun w => specReads_any o r a b n w
  have I : Hid (∀ w, Calls Try.prog 14 #[.agg #[.int .i64 o, .int .i64 r, .int .i64 a, .int .i64 b, .int .i64 n]] w fun e w' => ∃ v, e = .returned v ∧ Fresh w w' v (Plain.readsL o a b)) := fun w => implReads_any o r a b n w
  generalize Plain.readsL o a b = l at S I hl
  have hq : ((1 : Int) + (l.length : Int) != 1 + (l.length : Int)) = false := by simp
  have hq0 : ¬ ((1 : Int) + (l.length : Int) < 0) := by omega
  go_enter Try.func4, Try.ntmps4
  go_wp2_with fail
  refine (toIns_any _ _ _ _ _ _).mono ?_
  rintro e w1 ⟨rfl, hb1⟩
  obtain ⟨c0, c1, c2, c3, c4, hz⟩ := boxed5 hb1
  go_wp2_with fail
  refine (S.out _).mono ?_
  rintro e w2 ⟨v, rfl, s, c, rfl, hb2, hf2⟩
  obtain ⟨d0, d1, d2, d3, d4, hz2⟩ := carryK hb2 hz c0 c1 c2 c3 c4
  clear c0 c1 c2 c3 c4
  obtain ⟨hi2, -⟩ := Fresh.intsB (c := c) hf2
  have HI : Hid (IntsB w2 w2.heap.size s l) := hi2
  clear hi2 hf2
  go_wp2_with fail
  refine (toIns_any _ _ _ _ _ _).mono ?_
  rintro e w3 ⟨rfl, hb3⟩
  obtain ⟨c0, c1, c2, c3, c4, hz3⟩ := carryK hb3 (by omega) d0 d1 d2 d3 d4
  clear d0 d1 d2 d3 d4
  go_wp2_with fail
  refine (I.out _).mono ?_
  rintro e w4 ⟨v, rfl, s', c', rfl, hb4, hf4⟩
  obtain ⟨d0, d1, d2, d3, d4, hz4⟩ := carryK hb4 (by omega) c0 c1 c2 c3 c4
  clear c0 c1 c2 c3 c4
  obtain ⟨hi4, hsp4⟩ := Fresh.intsB (c := c') hf4
  have HG : Hid (IntsB w4 w4.heap.size s' l) := hi4
  have HSP : Hid (Spot w4 w3.heap.size s' l.length) := hsp4
  have HI4 : Hid (IntsB w4 w2.heap.size s l) := (HI.out.keep (hb3.mono (Nat.le_refl _))).keep (hb4.mono (by omega))
  clear hi4 hsp4 hf4
  go_wp2_with fail
  refine (eqIntS_any _ _ l l _ _ _ (HG.out.ints (Nat.le_refl _)) (HI4.out.ints (by omega)) (by omega)).mono ?_
  rintro e w5 ⟨rfl, m5, rfl⟩
  rw [decide_eq_true (rfl : l = l)]
  go_wp2_with fail
  refine (mark_any s' l.length c' w3.heap.size 1 _ (HSP.out.drewN m5) (by simp; omega) (by omega) (by omega) (by omega)).mono ?_
  rintro e w6 ⟨rfl, hm6, hb6⟩
  have HM : Hid (Marked w6 s' l.length 1) := hm6
  clear hm6
  have hz6 : w4.heap.size ≤ w6.heap.size := hb6.size
  obtain ⟨c0, c1, c2, c3, c4, -⟩ := carryK (w1 := w4) (w2 := w6) (K := w3.heap.size) ⟨hb6.os, hb6.tape, hb6.output, hb6.size, hb6.block⟩ (by omega) d0 d1 d2 d3 d4
  clear d0 d1 d2 d3 d4
  have HI6 : Hid (IntsB w6 w2.heap.size s l) := (HI4.out.keep (w' := w6) ⟨hb6.os, hb6.tape, hb6.output, hb6.size, fun k hk => hb6.block k (by omega)⟩)
  go_wp2_with fail
  refine (held_any s' l.length c' 1 _ HM.out (by omega) (by omega) (by omega)).mono ?_
  rintro e w7 ⟨rfl, rfl⟩
  go_wp2_with fail
  refine (toIns_any _ _ _ _ _ _).mono ?_
  rintro e w8 ⟨rfl, hb8⟩
  have hz8 := hb8.size
  go_wp2_with fail
  refine (I.out _).mono ?_
  rintro e w9 ⟨v, rfl, s'', c'', rfl, hb9, hf9⟩
  have hz9 := hb9.size
  obtain ⟨hi9, -⟩ := Fresh.intsB (c := c'') hf9
  have HG9 : Hid (IntsB w9 w9.heap.size s'' l) := hi9
  have HI9 : Hid (IntsB w9 w2.heap.size s l) := (HI6.out.keep (hb8.mono (by omega))).keep (hb9.mono (by omega))
  have HM9 : Hid (Marked w9 s' l.length 1) := (HM.out.keep hb8).keep hb9
  clear hi9 hf9
  go_wp2_with fail
  refine (eqIntS_any _ _ l l _ _ _ (HG9.out.ints (Nat.le_refl _)) (HI9.out.ints (by omega)) (by omega)).mono ?_
  rintro e w10 ⟨rfl, m10, rfl⟩
  rw [decide_eq_true (rfl : l = l)]
  go_wp2_with fail
  refine (held_any s' l.length c' 1 (w9.drewN m10) HM9.out (by omega) (by omega) (by omega)).mono ?_
  rintro e w11 ⟨rfl, rfl⟩
  go_wp2
  go_ret
  refine ⟨rfl, ?_⟩
  have k1 : Below w.heap.size w w1 := ((Below.refl _ _).alloc (Nat.le_refl _) _).trans (hb1.mono (by simp))
  have k4 : Below w.heap.size w w4 := ((k1.trans (hb2.mono (by omega))).trans (hb3.mono (by omega))).trans (hb4.mono (by omega))
  have k6 : Below w.heap.size w w7 := k4.trans ⟨hb6.os, hb6.tape, hb6.output, hb6.size, fun k hk => hb6.block k (by omega)⟩
  have k9 : Below w.heap.size w w9 := (k6.trans (hb8.mono (by omega))).trans (hb9.mono (by omega))
  exact ⟨k9.os, k9.tape, k9.output, k9.size, k9.block⟩

set_option maxRecDepth 100000 in
theorem liftedReads (os : Os) (started : os.Started) (H : Type) (enc : TypeId × Value → H) :
    ReturnsInHanded {} Try.checked os 4 .any (Rows.fnExactReadsSpec.pre6 enc Try.prog Try.f4 Rows.fnExactReadsRow.domain false) (Rows.fnExactReadsSpec.post enc Try.prog Try.f4 false true false false) := by
  refine returnsInHanded_of_change (C := Try.checked) ownR started (by kernel_rfl) Try.func4
    (ChangeSpec.witness6 (enc := enc) (C := Try.checked) false ⟨#[], #[.agg #[.int .i64 0, .int .i64 0, .int .i64 0, .int .i64 0, .int .i64 0]], []⟩ 8 (by kernel_rfl) (by kernel_rfl) (by kernel_rfl) (by kernel_rfl)) ?_
  intro W base args ds gs before hval0 hW hcnd _
  have hval : ∀ (j : Nat) t v, Try.f4.params[j]? = some t → args[j]? = some v → Value.okWide Try.prog W .any base t v := hval0
  have hW' := hW
  obtain ⟨p, q, hA0, hV, rfl, hfz, hnd⟩ := hW
  have hA : DataW.TrodAll enc Try.prog W 0 (fun _ => true) true Try.f4.params.toList args.toList ds p := hA0
  rw [Try.params4] at hA hval
  obtain ⟨v0, d0, hargs, rfl, h0⟩ := trodAll_one hA
  obtain rfl : args = #[v0] := by cases args; simp_all
  obtain ⟨rfl, rfl⟩ := trodVars_none hV
  have k0 := h0
  have lt0 : ∀ x ∈ p, x.block < W.heap.size := by obtain ⟨m, hm⟩ := k0; exact DataW.trod_lt m _ _ _ hm
  obtain ⟨o, r, a, b, n, rfl, w0⟩ := open_ins (hval 0 35 v0 rfl rfl) h0
  clear hA0 hval0
  refine (walkReads o r a b n W).mono fun e W' ⟨he, bel⟩ => ?_
  subst he
  exact ⟨_, rfl, _, _, _, [], _, [], hW', trodAll_mk1 (shut_bool Try.underlying4 _), trodAll_mk1 (Below.trod laidOutR (by kernel_rfl) (of_decide_eq_true (by kernel_rfl)) k0 bel lt0), rfl, bel.frame _, fun h => by cases h⟩

theorem fnExactReads_holds : Rows.FnExactReadsSaid :=
  OpenClaim.holds_of_wide 4 Try.f4 rfl rfl rfl rfl rfl rfl rfl ⟨rfl, rfl, rfl, rfl, rfl⟩ rfl rfl rfl rfl rfl (by kernel_rfl) Try.func4 (by kernel_rfl)
    (of_decide_eq_true (by kernel_rfl)) (by unfold Func.isWrapper; first | (rw [if_pos (by decide +kernel)]; kernel_rfl) | (rw [if_neg (by decide +kernel)]; exact ⟨rfl, rfl⟩))
    (fun os started H enc _ => liftedReads os started H enc)
#print axioms fnExactReads_holds

set_option maxHeartbeats 1000000 in
theorem walkSets (o r a b n : Int) (w : World) : Calls Try.prog 5 #[.agg #[.int .i64 o, .int .i64 r, .int .i64 a, .int .i64 b, .int .i64 n]] w fun e w' => e = .returned (.bool true) ∧ Below w.heap.size w w' := by
  have hl : (Plain.setsL o r b).length ≤ 2 := setsL_le _ _ _
  have S : Hid (∀ w, Calls Try.prog 18 #[.agg #[.int .i64 o, .int .i64 r, .int .i64 a, .int .i64 b, .int .i64 n]] w fun e w' => ∃ v, e = .returned v ∧ Fresh w w' v (Plain.setsL o r b)) := fun w => specSets_any o r a b n w
  have I : Hid (∀ w, Calls Try.prog 19 #[.agg #[.int .i64 o, .int .i64 r, .int .i64 a, .int .i64 b, .int .i64 n]] w fun e w' => ∃ v, e = .returned v ∧ Fresh w w' v (Plain.setsL o r b)) := fun w => implSets_any o r a b n w
  generalize Plain.setsL o r b = l at S I hl
  have hq : ((1 : Int) + (l.length : Int) != 1 + (l.length : Int)) = false := by simp
  have hq0 : ¬ ((1 : Int) + (l.length : Int) < 0) := by omega
  go_enter Try.func5, Try.ntmps5
  go_wp2_with fail
  refine (toIns_any _ _ _ _ _ _).mono ?_
  rintro e w1 ⟨rfl, hb1⟩
  obtain ⟨c0, c1, c2, c3, c4, hz⟩ := boxed5 hb1
  go_wp2_with fail
  refine (S.out _).mono ?_
  rintro e w2 ⟨v, rfl, s, c, rfl, hb2, hf2⟩
  obtain ⟨d0, d1, d2, d3, d4, hz2⟩ := carryK hb2 hz c0 c1 c2 c3 c4
  clear c0 c1 c2 c3 c4
  obtain ⟨hi2, -⟩ := Fresh.intsB (c := c) hf2
  have HI : Hid (IntsB w2 w2.heap.size s l) := hi2
  clear hi2 hf2
  go_wp2_with fail
  refine (toIns_any _ _ _ _ _ _).mono ?_
  rintro e w3 ⟨rfl, hb3⟩
  obtain ⟨c0, c1, c2, c3, c4, hz3⟩ := carryK hb3 (by omega) d0 d1 d2 d3 d4
  clear d0 d1 d2 d3 d4
  go_wp2_with fail
  refine (I.out _).mono ?_
  rintro e w4 ⟨v, rfl, s', c', rfl, hb4, hf4⟩
  obtain ⟨d0, d1, d2, d3, d4, hz4⟩ := carryK hb4 (by omega) c0 c1 c2 c3 c4
  clear c0 c1 c2 c3 c4
  obtain ⟨hi4, hsp4⟩ := Fresh.intsB (c := c') hf4
  have HG : Hid (IntsB w4 w4.heap.size s' l) := hi4
  have HSP : Hid (Spot w4 w3.heap.size s' l.length) := hsp4
  have HI4 : Hid (IntsB w4 w2.heap.size s l) := (HI.out.keep (hb3.mono (Nat.le_refl _))).keep (hb4.mono (by omega))
  clear hi4 hsp4 hf4
  go_wp2_with fail
  refine (eqIntS_any _ _ l l _ _ _ (HG.out.ints (Nat.le_refl _)) (HI4.out.ints (by omega)) (by omega)).mono ?_
  rintro e w5 ⟨rfl, m5, rfl⟩
  rw [decide_eq_true (rfl : l = l)]
  go_wp2_with fail
  refine (mark_any s' l.length c' w3.heap.size 1 _ (HSP.out.drewN m5) (by simp; omega) (by omega) (by omega) (by omega)).mono ?_
  rintro e w6 ⟨rfl, hm6, hb6⟩
  have HM : Hid (Marked w6 s' l.length 1) := hm6
  clear hm6
  have hz6 : w4.heap.size ≤ w6.heap.size := hb6.size
  obtain ⟨c0, c1, c2, c3, c4, -⟩ := carryK (w1 := w4) (w2 := w6) (K := w3.heap.size) ⟨hb6.os, hb6.tape, hb6.output, hb6.size, hb6.block⟩ (by omega) d0 d1 d2 d3 d4
  clear d0 d1 d2 d3 d4
  have HI6 : Hid (IntsB w6 w2.heap.size s l) := (HI4.out.keep (w' := w6) ⟨hb6.os, hb6.tape, hb6.output, hb6.size, fun k hk => hb6.block k (by omega)⟩)
  go_wp2_with fail
  refine (held_any s' l.length c' 1 _ HM.out (by omega) (by omega) (by omega)).mono ?_
  rintro e w7 ⟨rfl, rfl⟩
  go_wp2_with fail
  refine (toIns_any _ _ _ _ _ _).mono ?_
  rintro e w8 ⟨rfl, hb8⟩
  have hz8 := hb8.size
  go_wp2_with fail
  refine (I.out _).mono ?_
  rintro e w9 ⟨v, rfl, s'', c'', rfl, hb9, hf9⟩
  have hz9 := hb9.size
  obtain ⟨hi9, -⟩ := Fresh.intsB (c := c'') hf9
  have HG9 : Hid (IntsB w9 w9.heap.size s'' l) := hi9
  have HI9 : Hid (IntsB w9 w2.heap.size s l) := (HI6.out.keep (hb8.mono (by omega))).keep (hb9.mono (by omega))
  have HM9 : Hid (Marked w9 s' l.length 1) := (HM.out.keep hb8).keep hb9
  clear hi9 hf9
  go_wp2_with fail
  refine (eqIntS_any _ _ l l _ _ _ (HG9.out.ints (Nat.le_refl _)) (HI9.out.ints (by omega)) (by omega)).mono ?_
  rintro e w10 ⟨rfl, m10, rfl⟩
  rw [decide_eq_true (rfl : l = l)]
  go_wp2_with fail
  refine (held_any s' l.length c' 1 (w9.drewN m10) HM9.out (by omega) (by omega) (by omega)).mono ?_
  rintro e w11 ⟨rfl, rfl⟩
  go_wp2
  go_ret
  refine ⟨rfl, ?_⟩
  have k1 : Below w.heap.size w w1 := ((Below.refl _ _).alloc (Nat.le_refl _) _).trans (hb1.mono (by simp))
  have k4 : Below w.heap.size w w4 := ((k1.trans (hb2.mono (by omega))).trans (hb3.mono (by omega))).trans (hb4.mono (by omega))
  have k6 : Below w.heap.size w w7 := k4.trans ⟨hb6.os, hb6.tape, hb6.output, hb6.size, fun k hk => hb6.block k (by omega)⟩
  have k9 : Below w.heap.size w w9 := (k6.trans (hb8.mono (by omega))).trans (hb9.mono (by omega))
  exact ⟨k9.os, k9.tape, k9.output, k9.size, k9.block⟩

set_option maxRecDepth 100000 in
theorem liftedSets (os : Os) (started : os.Started) (H : Type) (enc : TypeId × Value → H) :
    ReturnsInHanded {} Try.checked os 5 .any (Rows.fnExactSetsSpec.pre6 enc Try.prog Try.f5 Rows.fnExactSetsRow.domain false) (Rows.fnExactSetsSpec.post enc Try.prog Try.f5 false true false false) := by
  refine returnsInHanded_of_change (C := Try.checked) ownR started (by kernel_rfl) Try.func5
    (ChangeSpec.witness6 (enc := enc) (C := Try.checked) false ⟨#[], #[.agg #[.int .i64 0, .int .i64 0, .int .i64 0, .int .i64 0, .int .i64 0]], []⟩ 8 (by kernel_rfl) (by kernel_rfl) (by kernel_rfl) (by kernel_rfl)) ?_
  intro W base args ds gs before hval0 hW hcnd _
  have hval : ∀ (j : Nat) t v, Try.f5.params[j]? = some t → args[j]? = some v → Value.okWide Try.prog W .any base t v := hval0
  have hW' := hW
  obtain ⟨p, q, hA0, hV, rfl, hfz, hnd⟩ := hW
  have hA : DataW.TrodAll enc Try.prog W 0 (fun _ => true) true Try.f5.params.toList args.toList ds p := hA0
  rw [Try.params5] at hA hval
  obtain ⟨v0, d0, hargs, rfl, h0⟩ := trodAll_one hA
  obtain rfl : args = #[v0] := by cases args; simp_all
  obtain ⟨rfl, rfl⟩ := trodVars_none hV
  have k0 := h0
  have lt0 : ∀ x ∈ p, x.block < W.heap.size := by obtain ⟨m, hm⟩ := k0; exact DataW.trod_lt m _ _ _ hm
  obtain ⟨o, r, a, b, n, rfl, w0⟩ := open_ins (hval 0 35 v0 rfl rfl) h0
  clear hA0 hval0
  refine (walkSets o r a b n W).mono fun e W' ⟨he, bel⟩ => ?_
  subst he
  exact ⟨_, rfl, _, _, _, [], _, [], hW', trodAll_mk1 (shut_bool Try.underlying4 _), trodAll_mk1 (Below.trod laidOutR (by kernel_rfl) (of_decide_eq_true (by kernel_rfl)) k0 bel lt0), rfl, bel.frame _, fun h => by cases h⟩

theorem fnExactSets_holds : Rows.FnExactSetsSaid :=
  OpenClaim.holds_of_wide 5 Try.f5 rfl rfl rfl rfl rfl rfl rfl ⟨rfl, rfl, rfl, rfl, rfl⟩ rfl rfl rfl rfl rfl (by kernel_rfl) Try.func5 (by kernel_rfl)
    (of_decide_eq_true (by kernel_rfl)) (by unfold Func.isWrapper; first | (rw [if_pos (by decide +kernel)]; kernel_rfl) | (rw [if_neg (by decide +kernel)]; exact ⟨rfl, rfl⟩))
    (fun os started H enc _ => liftedSets os started H enc)
#print axioms fnExactSets_holds

end Go.Proofs.Ytkmobmnbdapjkah
