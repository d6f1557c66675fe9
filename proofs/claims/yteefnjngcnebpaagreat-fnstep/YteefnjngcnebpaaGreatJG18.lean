/- The frame of a law over drawn bytes: they are a slice of bytes in memory; laws.big counts them. No condition. The draw of FnStep: a program, a source as they are read, and who. Conditions: the code's bytes lie in memory. What a step of a source turns: its own thread, registers that the place sets, one note at most. No condition. Lists of integers as they lie in memory, and what the laws' small functions make of them. Conditions: the lists are of at most a thousand million numbers. The laws' sameSource of two sources that read alike, and within. Conditions: the sources lie in memory as the reading says. The laws' within: whether a number is in a row. Conditions: the row lies in memory as the reading says. -/
import Derived.Test.YteefnjngcnebpaaGreatJG00
import Derived.Test.YteefnjngcnebpaaGreatRows
import Derived.Test.YteefnjngcnebpaaGreatJG11
import Derived.ProofKit
import Derived.OpenShut
import Derived.ShutString
import Derived.ChangeOld
import Derived.ChangeSlices
import Derived.Test.YteefnjngcnebpaaGreatJDrawLT
import Derived.Test.YteefnjngcnebpaaGreatJG14
import Derived.Test.YteefnjngcnebpaaGreatChecked
import Derived.WalkKit
import Derived.KernelRfl
import Derived.WalkSpells
import Derived.WalkLawsBesides
import Derived.Deep.QuietTactic
import Derived.BigQuiet
import Derived.Test.YteefnjngcnebpaaGreatJG06
import Derived.Test.YteefnjngcnebpaaGreatJG02
namespace Go.Proofs.YteefnjngcnebpaaGreat
section
set_option linter.unusedSimpArgs false
set_option linter.unusedVariables false
set_option maxRecDepth 100000
open Go.ChangeShapes Go.WideShapes Go.ChangeAt Go.RowKit
theorem retB {x y : Bool} (h : x = y) : Ending.returned (.bool x) = Ending.returned (.bool y) := by rw [h]
theorem big_any (s : Option Addr) (n c : Nat) (w : World) : Calls Tryz.prog 4 #[.slice s n c] w fun e w' => e = .returned (.bool (decide (1048576 < n))) ∧ w' = w := by
 go_enter Tryz.func4, Tryz.ntmps4
 go_wp2
 go_ret
 refine ⟨retB ?_, rfl⟩
 rw [Bool.eq_iff_iff]
 simp
 omega
theorem ownS : ownKnob Tryz.prog.godebug = none := by kernel_rfl
theorem laidOutS : laidOutB Tryz.prog = true := by kernel_rfl
theorem bytes_read {H : Type} {enc : TypeId × Value → H} {w : World} {base b0 : Nat} {held : Bool} {k : Reach} {v : Value} {d : DataW H} {p : List MemPlace}
  (hv : Value.okWide Tryz.prog w k b0 22 v) (h : DataW.Trod enc Tryz.prog w base (fun _ => true) held 22 v d p) :
  ∃ (s : Option Addr) (n c : Nat), v = .slice s n c ∧ n ≤ maxLen ∧ Bytes w w.heap.size s n := by
 obtain ⟨s, len, cap, rfl⟩ := okWide_slice Tryz.underlying22 hv
 obtain ⟨fuel, hf⟩ := h
 rcases open_ints Tryz.underlying22 Tryz.underlying5 (by kernel_rfl) hf with ⟨hcs, _⟩ | ⟨a, l, c, zs, hcs, _, hl, hm, hz, _, hcell, hwz⟩
 ·simp [Value.cells] at hcs
  obtain ⟨rfl, rfl, rfl⟩ := hcs
  exact ⟨none, 0, 0, rfl, Nat.zero_le _, .inl rfl⟩
 ·simp [Value.cells] at hcs
  obtain ⟨rfl, rfl, rfl⟩ := hcs
  simp at hz
  refine ⟨some a, len, cap, rfl, by omega, ?_⟩
  by_cases h0 : len = 0
  ·exact .inl h0
  ·have c0 := hcell 0 (by omega)
   have c0' : w.cell? a = some (.int .u8 (zs.getD 0 0)) := by simpa [Addr.add] using c0
   have hs := World.cell?_spot c0'
   have hg : a.block < w.heap.size := by
    apply Classical.byContradiction
    intro hn
    have : w.heap[a.block]? = none := by simp; omega
    simp [World.cell?, this] at c0'
   obtain ⟨g, off, spot⟩ := a
   simp at hs
   subst hs
   refine .inr ⟨g, off, rfl, hg, fun i hi => ?_⟩
   have ci := hcell i (by omega)
   have e : (Addr.add ⟨g, off, none⟩ i) = ⟨g, off + i, none⟩ := by
    by_cases h : i = 0
    ·subst h; rfl
    ·simp [Addr.add, h]
   rw [e] at ci
   have hmem : zs.getD i 0 ∈ zs := by
    rw [List.getD_eq_getElem?_getD, List.getElem?_eq_getElem (by omega)]
    exact List.getElem_mem (by omega)
   have hw := bounds_u8 (hwz _ hmem)
   exact ⟨_, ci, by omega, by omega⟩
theorem Bytes.up {w w' : World} {s : Option Addr} {n : Nat} (h : Bytes w w.heap.size s n) (hb : Below w.heap.size w w') : Bytes w' w'.heap.size s n := by
 have hz := hb.size
 rcases h with h | ⟨g, o, hs, hg, hc⟩
 ·exact .inl h
 ·refine .inr ⟨g, o, hs, by omega, fun k hk => ?_⟩
  obtain ⟨b, h1, h2⟩ := hc k hk
  exact ⟨b, (hb.cell (p := ⟨g, o + k, none⟩) hg).trans h1, h2⟩
end
section
set_option linter.unusedSimpArgs false
set_option linter.unusedVariables false
set_option maxRecDepth 100000
open Go.RowKit Go.Deep
theorem SrQ.low {V : World} {lo lo' : Nat} {x1 x2 x3 : Value} (h : SrQ V lo x1 x2 x3) (hl : lo' ≤ lo) : SrQ V lo' x1 x2 x3 := by
 obtain ⟨hi, s1, s2, s3, c1, c2, c3, D, e1, e2, e3, hr, hf, hn, hB⟩ := h
 exact ⟨hi, s1, s2, s3, c1, c2, c3, D, e1, e2, e3, hr.mono hl (Nat.le_refl _), hf, hn, hB⟩
/- a box of two cells -/
structure BoP (G : Nat) (W : World) (a b : Value) : Prop where
 c0 : W.cell? ⟨G, 0, none⟩ = some a
 c1 : W.cell? ⟨G, 1, none⟩ = some b
 f : ∀ j, W.frozen? ⟨G, j, none⟩ = false
 z : G < W.heap.size
theorem BoP.keep {G : Nat} {W w1 : World} {a b : Value} (h : BoP G W a b) (hb : w1.heap[G]? = W.heap[G]?) (hs : W.heap.size ≤ w1.heap.size) : BoP G w1 a b :=
 ⟨(World.cell?_of_block hb).trans h.c0, (World.cell?_of_block hb).trans h.c1, fun j => (World.frozen?_of_block hb).trans (h.f j), Nat.lt_of_lt_of_le h.z hs⟩
theorem heap5 (w : World) (A B : Nat) (u0 u1 u2 u3 u4 : Value) (k : Nat) (h1 : k ≠ A) (h2 : k ≠ B) : (((((w.setCell ⟨A, 0, none⟩ u0).setCell ⟨A, 1, none⟩ u1).setCell ⟨B, 0, none⟩ u2).setCell ⟨B, 1, none⟩ u3).setCell ⟨B, 2, none⟩ u4).heap[k]? = w.heap[k]? :=
 (Below.heap_setCell _ ⟨B, 2, none⟩ _ k h2).trans ((Below.heap_setCell _ ⟨B, 1, none⟩ _ k h2).trans ((Below.heap_setCell _ ⟨B, 0, none⟩ _ k h2).trans ((Below.heap_setCell _ ⟨A, 1, none⟩ _ k h1).trans (Below.heap_setCell _ ⟨A, 0, none⟩ _ k h1))))
set_option maxRecDepth 100000 in
set_option maxHeartbeats 8000000 in
theorem drawStep_any (s : Option Addr) (n c : Nat) (w : World) (hb : Bytes w w.heap.size s n) (hn : n ≤ maxLen) :
  Calls Tryz.prog 5 #[.slice s n c] w fun e w' => ∃ (v0 v1 x1 x2 x3 : Value) (who : Int), e = .returned (.tuple #[.agg #[v0, v1], .agg #[x1, x2, x3], .int .i64 who]) ∧ PgQ w' w.heap.size v0 v1 ∧ SrQ w' w.heap.size x1 x2 x3 ∧ Below w.heap.size w w' := by
 have HB := hidR hb
 have HN := hidR hn
 clear hb hn
 go_enter Tryz.func5, Tryz.ntmps5
 go_wp2_with fail
 obtain ⟨A, hA⟩ : ∃ A, (w.alloc (.cells #[.slice none 0 0, .slice none 0 0] 27)).alloc (.cells #[.slice none 0 0, .slice none 0 0, .slice none 0 0] 32) = A := ⟨_, rfl⟩
 have kA : Below w.heap.size w A := by subst hA; exact ((Below.refl _ _).alloc (Nat.le_refl _) _).alloc (by simp) _
 have sA : A.heap.size = w.heap.size + 2 := by subst hA; simp
 have rA : BoF (w.heap.size + 1) A (.slice none 0 0) (.slice none 0 0) (.slice none 0 0) := by
  subst hA
  exact ⟨by simp [go_sem], by simp [go_sem], by simp [go_sem], fun j => by simp [go_sem], by simp⟩
 have qA : BoP w.heap.size A (.slice none 0 0) (.slice none 0 0) := by
  subst hA
  exact ⟨by simp [go_sem], by simp [go_sem], fun j => by simp [go_sem], by simp; omega⟩
 rw [hA]
 have SA := hidR sA
 clear hA sA
 refine (new_cb s n c A (HB.out.up kA) HN.out).mono ?_
 rintro e w1 ⟨rfl, hc1, hb1, hs1⟩
 rw [SA.out] at hc1 hs1 hb1 ⊢
 have z1 : w1.heap.size = w.heap.size + 3 := by omega
 have R1 := hidR (rA.keep (hb1.block _ (Nat.lt_succ_self _)) (by rw [SA.out]; omega))
 have Q1 := hidR (qA.keep (hb1.block _ (by omega)) (by rw [SA.out]; omega))
 have K1 := hidR (kA.trans (hb1.mono (by omega)))
 have C1 := hidR hc1
 clear hc1 hb1 hs1 rA qA kA HB HN
 go_wp2_with fail
 refine (drawL_any (w.heap.size + 2) s n c w1 C1.out).mono ?_
 rintro e w2 ⟨v0, v1, x1, x2, x3, rfl, hp, hs, hc2, hb2⟩
 have hp' := hp
 obtain ⟨-, p1, p2, a1, a2, pd, e0, e1, -, -, -⟩ := hp'
 subst e0 e1
 have hs' := hs
 obtain ⟨-, s1, s2, s3, c1, c2, c3, D, e2, e3, e4, -, -, -, -⟩ := hs'
 subst e2 e3 e4
 have R2 := hidR (R1.out.keep (hb2.block _ (by omega) (by omega)) hb2.size)
 have Q2 := hidR (Q1.out.keep (hb2.block _ (by omega) (by omega)) hb2.size)
 have K2 := hidR (K1.out.trans (hb2.below (by omega) (by omega)))
 have z2 := hb2.size
 have C2 := hidR hc2
 have S2 := hidR hs
 have P2 := hidR hp
 clear hc2 hb2 hs hp R1 Q1 K1 C1
 obtain ⟨V, hV⟩ : ∃ V, (w2.alloc (.cells #[.slice p1 pd.caps.length a1, .slice p2 pd.bods.length a2] 27)).alloc (.cells #[.slice s1 D.ths.length c1, .slice s2 D.chs.length c2, .slice s3 D.tr.length c3] 32) = V := ⟨_, rfl⟩
 have kV : Below w2.heap.size w2 V := by subst hV; exact ((Below.refl _ _).alloc (Nat.le_refl _) _).alloc (by simp) _
 have bV : BoF (w2.heap.size + 1) V (.slice s1 D.ths.length c1) (.slice s2 D.chs.length c2) (.slice s3 D.tr.length c3) := by
  subst hV
  exact ⟨by simp [go_sem], by simp [go_sem], by simp [go_sem], fun j => by simp [go_sem], by simp⟩
 have qV : BoP w2.heap.size V (.slice p1 pd.caps.length a1) (.slice p2 pd.bods.length a2) := by
  subst hV
  exact ⟨by simp [go_sem], by simp [go_sem], fun j => by simp [go_sem], by simp; omega⟩
 have HV := hidR hV
 have R3 := hidR (R2.out.keep (kV.block _ (by omega)) kV.size)
 have Q3 := hidR (Q2.out.keep (kV.block _ (by omega)) kV.size)
 have K3 := hidR (K2.out.trans (kV.mono (by omega)))
 have C3 := hidR (C2.out.keep kV)
 have S3 := hidR (S2.out.keep (fun k _ hk => kV.block k hk) kV.size)
 have P3 := hidR (P2.out.keep (fun k _ hk => kV.block k hk) kV.size)
 have B3 := hidR bV
 have D3 := hidR qV
 have z3 := bV.z
 clear kV bV qV hV R2 Q2 K2 C2 S2 P2
 go_wp2_with fail
 try rw [HV.out]
 clear HV
 obtain ⟨m0, m1, m2, mf, mz⟩ := B3.out
 obtain ⟨k0, k1, kf, kz⟩ := D3.out
 go_region_law (first
  | (refine step_call 16 #[.pointer (some ⟨w.heap.size + 2, 0, none⟩), .int .i64 5] (by rfl) _ _ (by rfl) (by simp [go_sem]) ent_below ?_; refine (below_cb (w.heap.size + 2) s n c 5 V.drew (C3.out.keep (Below.drew (Below.refl _ _))) (by omega) (by omega)).mono ?_; rintro e w5 ⟨z, rfl, hz0, hz5, hc5, hb5'⟩; have hb5 : But (w.heap.size + 2) V w5 := (But.of_below (Below.drew (Below.refl _ _))).trans hb5'; clear hb5'; obtain ⟨m0', m1', m2', mf', mz'⟩ := B3.out.keep (w1 := w5) (hb5.block _ mz (by omega)) hb5.size; obtain ⟨k0', k1', kf', kz'⟩ := D3.out.keep (w1 := w5) (hb5.block _ kz (by omega)) hb5.size; refine ⟨_, rfl, ?_⟩)
  | (refine step_call 16 #[.pointer (some ⟨w.heap.size + 2, 0, none⟩), .int .i64 20] (by rfl) _ _ (by rfl) (by simp [go_sem]) ent_below ?_; refine (below_cb (w.heap.size + 2) s n c 20 w5 hc5 (by omega) (by omega)).mono ?_; rintro e w6 ⟨y, rfl, hy0, hy5, hc6, hb6'⟩; have hb6 : But (w.heap.size + 2) V w6 := hb5.trans hb6'; clear hb6'; obtain ⟨m0', m1', m2', mf', mz'⟩ := B3.out.keep (w1 := w6) (hb6.block _ mz (by omega)) hb6.size; obtain ⟨k0', k1', kf', kz'⟩ := D3.out.keep (w1 := w6) (hb6.block _ kz (by omega)) hb6.size; obtain ⟨g0, g1, g2, gf, gz⟩ := R3.out.keep (w1 := w6) (hb6.block _ (by omega) (by omega)) hb6.size; obtain ⟨f0, f1, ff, fz⟩ := Q3.out.keep (w1 := w6) (hb6.block _ (by omega) (by omega)) hb6.size; refine ⟨_, rfl, ?_⟩))
 all_goals
  have K6 := hidR (K3.out.trans (hb6.below (B := w.heap.size) (by omega) (by omega)))
  have S6 := hidR (S3.out.keep (V' := w6) (fun k a b => hb6.block k b (by omega)) hb6.size)
  have P6 := hidR (P3.out.keep (V' := w6) (fun k a b => hb6.block k b (by omega)) hb6.size)
  clear m0' m1' m2' mf' m0 m1 m2 mf k0' k1' kf' k0 k1 kf R3 Q3 B3 D3 C3 K3 S3 P3
  go_wp2
  refine bodyPost_ret (v := .tuple #[.agg #[.slice p1 pd.caps.length a1, .slice p2 pd.bods.length a2], .agg #[.slice s1 D.ths.length c1, .slice s2 D.chs.length c2, .slice s3 D.tr.length c3], _]) (by simp [results, Tryz.results5, go_sem, g0, g1, g2, f0, f1]; first | rfl | exact ⟨rfl, rfl⟩) rfl ⟨_, _, _, _, _, _, rfl, ?_, ?_, ?_⟩
  ·exact (P6.out.keep (fun k a b => heap5 _ _ _ _ _ _ _ _ k (by omega) (by omega)) (by simp)).low (by omega)
  ·exact (S6.out.keep (fun k a b => heap5 _ _ _ _ _ _ _ _ k (by omega) (by omega)) (by simp)).low (by omega)
  ·exact ((((K6.out.setCell (p := ⟨w.heap.size, 0, none⟩) (Nat.le_refl _) _).setCell (p := ⟨w.heap.size, 1, none⟩) (Nat.le_refl _) _).setCell (p := ⟨w.heap.size + 1, 0, none⟩) (by show w.heap.size ≤ w.heap.size + 1; omega) _).setCell (p := ⟨w.heap.size + 1, 1, none⟩) (by show w.heap.size ≤ w.heap.size + 1; omega) _).setCell (p := ⟨w.heap.size + 1, 2, none⟩) (by show w.heap.size ≤ w.heap.size + 1; omega) _
end
section
set_option linter.unusedSimpArgs false
set_option linter.unusedVariables false
set_option maxRecDepth 100000
open Go.RowKit
theorem putN_off (l : List Int) (i v : Int) (r : Nat) (h0 : 0 ≤ i) (h : (r : Int) ≠ i) : (putN l i v).getD r 0 = l.getD r 0 := by
 unfold putN
 rw [List.getD_eq_getElem?_getD, List.getD_eq_getElem?_getD, List.getElem?_set_ne (by omega)]
theorem out_ite {P : Out → Prop} {c : Prop} [Decidable c] {x y : Out} (h1 : c → P x) (h2 : ¬ c → P y) : P (if c then x else y) := by
 by_cases h : c
 ·rw [if_pos h]; exact h1 h
 ·rw [if_neg h]; exact h2 h
def RegsP (r : Nat) (z : Int) (o : Out) : Prop := o.t.regs.getD r 0 = z
def TrlP (n : Nat) (o : Out) : Prop := n ≤ o.tr.length ∧ o.tr.length ≤ n + 1
def CodeP (o : Out) : Prop := ¬ o.code = 1
theorem step_regs {b k : Nat} {t : TD} {x : I5} {chs : List CD} {tr : List ND} {pl ch : Int} (hx : insX x pl ch = true) (r : Nat) (hne : t.regs.getD r 0 ≠ (stepO b t x chs tr k).t.regs.getD r 0) : (r : Int) ∈ Plain.setsL x.o x.r x.b := by
 unfold insX Plain.insB at hx
 rw [decide_eq_true_eq] at hx
 have h0 : 0 ≤ x.r ∧ 0 ≤ x.b := ⟨hx.1, hx.2.2.2.2.1⟩
 refine Classical.byContradiction fun hn => hne ?_
 have hn1 : (x.o = 1 ∨ x.o = 2 ∨ x.o = 3 ∨ x.o = 4 ∨ x.o = 7) → (r : Int) ≠ x.r := by
  intro h e
  apply hn
  unfold Plain.setsL
  rw [if_pos h, e]
  exact List.mem_singleton.2 rfl
 have hn2 : (x.o = 6 ∨ x.o = 8) → (r : Int) ≠ x.r ∧ (r : Int) ≠ x.b := by
  intro h
  unfold Plain.setsL at hn
  rw [if_neg (by omega), if_pos h] at hn
  simp at hn
  exact hn
 clear hn hne hx
 symm
 show RegsP r (t.regs.getD r 0) (stepO b t x chs tr k)
 unfold stepO
 dsimp only
 repeat' (refine out_ite (P := RegsP r (t.regs.getD r 0)) (fun _ => ?_) fun _ => ?_)
 all_goals first
  | rfl
  | exact congrArg (fun l : List Int => l.getD r 0) (moveT_regs _ _ _ _)
  | exact (congrArg (fun l : List Int => l.getD r 0) (moveT_regs _ _ _ _)).trans (putN_off _ _ _ r h0.1 (hn1 (by omega)))
  | exact (congrArg (fun l : List Int => l.getD r 0) (moveT_regs _ _ _ _)).trans ((putN_off _ _ _ r h0.2 (hn2 (by omega)).2).trans (putN_off _ _ _ r h0.1 (hn2 (by omega)).1))
theorem step_trl (b k : Nat) (t : TD) (x : I5) (chs : List CD) (tr : List ND) : tr.length ≤ (stepO b t x chs tr k).tr.length ∧ (stepO b t x chs tr k).tr.length ≤ tr.length + 1 := by
 show TrlP tr.length (stepO b t x chs tr k)
 unfold stepO
 dsimp only
 repeat' (refine out_ite (P := TrlP tr.length) (fun _ => ?_) fun _ => ?_)
 all_goals (unfold TrlP; dsimp only; first | (constructor <;> omega) | (rw [List.length_append, List.length_singleton]; constructor <;> omega))
/- the ways of a step -/
theorem step_ways (p : PD) (d : SD) (who : Int) : (stepKb p d who = 1 ∧ stepSb p d who = ⟨[], [], []⟩) ∨ (¬ stepKb p d who = 0 ∧ ¬ stepKb p d who = 1 ∧ stepSb p d who = d) ∨ (stepKb p d who = 0 ∧ srcB p d = true ∧ ∃ k : Nat, who = (k : Int) ∧ k < d.ths.length ∧ stepSb p d who = doneS d k (outOf p d k)) := by
 unfold stepKb stepSb
 cases h : srcB p d with
 | false => exact .inl ⟨rfl, rfl⟩
 | true =>
  rw [if_pos rfl, if_pos rfl]
  unfold stepS
  by_cases h0 : stepK p d who = 0
  ·rw [if_pos h0]
   refine .inr (.inr ⟨h0, rfl, who.toNat, ?_⟩)
   unfold stepK at h0
   split at h0
   ·rename_i hw
    exact ⟨by omega, by omega, rfl⟩
   ·omega
  ·rw [if_neg h0]
   refine .inr (.inl ⟨h0, ?_, rfl⟩)
   unfold stepK
   split
   ·split
    ·show CodeP (outOf p d who.toNat)
     unfold outOf stepO
     dsimp only
     repeat' (refine out_ite (P := CodeP) (fun _ => ?_) fun _ => ?_)
     all_goals (unfold CodeP; dsimp only; omega)
    ·omega
   ·omega
end
section
set_option linter.unusedSimpArgs false
set_option linter.unusedVariables false
set_option maxRecDepth 100000
open Go.RowKit
set_option maxHeartbeats 400000 in
theorem sameInts_any (s s' : Option Addr) (l l' : List Int) (c c' : Nat) (w : World) (h : Ints w s l) (h' : Ints w s' l') (hb : l.length ≤ 1000000000) :
  Calls Tryz.prog 11 #[.slice s l.length c, .slice s' l'.length c'] w fun e w' => e = .returned (.bool (decide (l = l'))) ∧ ∃ n, w' = w.drewN n := by
 by_cases hn : l.length = l'.length
 ·have hne : ((l.length : Int) != (l'.length : Int)) = false := by simp; omega
  have HN : Hid (l.length = l'.length) := hn
  rcases h with rfl | ⟨g, o, rfl, hg, hc⟩
  ·have : l' = [] := by cases l' with | nil => rfl | cons a t => simp at hn
   subst this
   clear hn
   go_enter Tryz.func11, Tryz.ntmps11
   go_wp2
   go_loop [5] (fun i => i = .int .i64 0) (fun _ => 0)
   case atStart => rfl
   case round =>
    subst hrel
    go_wp2
    go_ret
    exact ⟨by simp, 0, rfl⟩
  ·rcases h' with rfl | ⟨g', o', rfl, hg', hc'⟩
   ·have : l = [] := by cases l with | nil => rfl | cons a t => simp at hn
    subst this
    clear hn
    go_enter Tryz.func11, Tryz.ntmps11
    go_wp2
    go_loop [5] (fun i => i = .int .i64 0) (fun _ => 0)
    case atStart => rfl
    case round =>
     subst hrel
     go_wp2
     go_ret
     exact ⟨by simp, 0, rfl⟩
   ·have HC : Hid (∀ i, i < l.length → w.cell? ⟨g, o + i, none⟩ = some (.int .i64 (l.getD i 0))) := hc
    have HC' : Hid (∀ i, i < l'.length → w.cell? ⟨g', o' + i, none⟩ = some (.int .i64 (l'.getD i 0))) := hc'
    clear hn hc hc'
    go_enter Tryz.func11, Tryz.ntmps11
    go_wp2
    go_loopw [5] (fun i wr => ∃ k m : Nat, k ≤ l.length ∧ i = .int .i64 k ∧ (∀ j, j < k → l.getD j 0 = l'.getD j 0) ∧ wr = w.drewN m) (fun i _ => l.length - (intOf i).toNat)
    case atStart => exact ⟨0, 0, Nat.zero_le _, rfl, fun j hj => absurd hj (Nat.not_lt_zero _), rfl⟩
    case round =>
     obtain ⟨k, m, hk, rfl, hj, rfl⟩ := hrel
     have HJ : Hid (∀ j, j < k → l.getD j 0 = l'.getD j 0) := hj
     clear hj
     by_cases hlt : k < l.length
     ·have hlt' : k < l'.length := by have := HN.out; omega
      have e1 := HC.out k hlt
      have e2 := HC'.out k hlt'
      generalize hx : l.getD k 0 = x at e1
      generalize hy : l'.getD k 0 = y at e2
      have HX : Hid (l.getD k 0 = x) := hx
      have HY : Hid (l'.getD k 0 = y) := hy
      clear hx hy
      have b0 : (0 : Int) ≤ (k : Int) := by omega
      have b1 : (k : Int) < (l.length : Int) := by omega
      have b2 : (k : Int) < (l'.length : Int) := by omega
      by_cases hxy : x = y
      ·have hd : (x != y) = false := by simp [hxy]
       have HXY : Hid (x = y) := hxy
       clear hxy
       go_wp2_with fail
       go_quiet (fail)
       go_wp2
       go_roundw
       case rel =>
        refine ⟨k + 1, _, by omega, by go_num, ?_, rfl⟩
        intro j hj
        by_cases e : j < k
        ·exact HJ.out j e
        ·have : j = k := by omega
         subst this
         rw [HX.out, HY.out, HXY.out]
       case measure => simp [intOf]; omega
      ·have hd : (x != y) = true := by simp [hxy]
       have HXY : Hid (¬ x = y) := hxy
       clear hxy
       go_wp2_with fail
       go_quiet (fail)
       go_wp2
       go_ret
       refine ⟨ret_bool' ?_, m + nq, World.drewN_drewN _ _ _⟩
       symm
       rw [decide_eq_false_iff_not]
       rintro rfl
       exact HXY.out (HX.out.symm.trans HY.out)
     ·go_wp2
      go_ret
      refine ⟨ret_bool' ?_, _, rfl⟩
      symm
      rw [decide_eq_true_iff]
      exact getD_eq_all l l' HN.out (fun j hj => HJ.out j (by omega))
 ·have hne : ((l.length : Int) != (l'.length : Int)) = true := by simp; omega
  have HN : Hid (¬ l.length = l'.length) := hn
  clear hn
  go_enter Tryz.func11, Tryz.ntmps11
  go_wp2
  go_ret
  refine ⟨ret_bool' ?_, 0, rfl⟩
  symm
  rw [decide_eq_false_iff_not]
  rintro rfl
  exact HN.out rfl
end
section
set_option linter.unusedSimpArgs false
set_option linter.unusedVariables false
set_option maxRecDepth 100000
open Go.RowKit
theorem hidK {p : Prop} (h : p) : Hid p := h
theorem NtsR.at {w wr : World} {lo hi : Nat} {s : Option Addr} {l : List ND} (h : NtsR w lo hi s l) (hB : hi ≤ w.heap.size) (hb : Below w.heap.size w wr) {k : Nat} {t : ND} (hk : l[k]? = some t) : ∃ g o, s = some ⟨g, o, none⟩ ∧ g < w.heap.size ∧ wr.cell? ⟨g, o + k * 2, none⟩ = some (.int .i64 t.who) ∧ wr.cell? ⟨g, o + k * 2 + 1, none⟩ = some (.int .i64 t.v) := by
 rcases h with h | ⟨g, o, hs, h1, h2, hc⟩
 ·subst h; simp at hk
 ·have cc : ∀ j, wr.cell? ⟨g, j, none⟩ = w.cell? ⟨g, j, none⟩ := fun j => hb.cell (p := ⟨g, j, none⟩) (by show g < _; omega)
  exact ⟨g, o, hs, by omega, (cc _).trans (hc k t hk).1, (cc _).trans (hc k t hk).2⟩
theorem RecsR.thd {w wr : World} {lo hi : Nat} {s : Option Addr} {l : List TD} (h : RecsR w lo hi s (l.map TD.rec3)) (hB : hi ≤ w.heap.size) (hb : Below w.heap.size w wr) {k : Nat} {t : TD} (hk : l[k]? = some t) : ∃ g o s' c', s = some ⟨g, o, none⟩ ∧ g < w.heap.size ∧ wr.cell? ⟨g, o + k * 3, none⟩ = some (.int .i64 t.pc) ∧ wr.cell? ⟨g, o + k * 3 + 1, none⟩ = some (.slice s' t.regs.length c') ∧ wr.cell? ⟨g, o + k * 3 + 2, none⟩ = some (.int .i64 t.st) ∧ IntsR wr lo hi s' t.regs := by
 rcases h with h | ⟨g, o, hs, h1, h2, hc⟩
 ·have : l = [] := by simpa using h
  subst this
  simp at hk
 ·obtain ⟨s', c', q1, q2, q3, q4⟩ := hc k t.rec3 (by rw [List.getElem?_map, hk]; rfl)
  have cc : ∀ j, wr.cell? ⟨g, j, none⟩ = w.cell? ⟨g, j, none⟩ := fun j => hb.cell (p := ⟨g, j, none⟩) (by show g < _; omega)
  exact ⟨g, o, s', c', hs, by omega, (cc _).trans q1, (cc _).trans q2, (cc _).trans q3, q4.keep (Keep.of_below hb hB)⟩
theorem RecsR.chn {w wr : World} {lo hi : Nat} {s : Option Addr} {l : List CD} (h : RecsR w lo hi s (l.map CD.rec3)) (hB : hi ≤ w.heap.size) (hb : Below w.heap.size w wr) {k : Nat} {t : CD} (hk : l[k]? = some t) : ∃ g o s' c', s = some ⟨g, o, none⟩ ∧ g < w.heap.size ∧ wr.cell? ⟨g, o + k * 3, none⟩ = some (.int .i64 t.cap) ∧ wr.cell? ⟨g, o + k * 3 + 1, none⟩ = some (.slice s' t.list.length c') ∧ wr.cell? ⟨g, o + k * 3 + 2, none⟩ = some (.bool t.cl) ∧ IntsR wr lo hi s' t.list := by
 rcases h with h | ⟨g, o, hs, h1, h2, hc⟩
 ·have : l = [] := by simpa using h
  subst this
  simp at hk
 ·obtain ⟨s', c', q1, q2, q3, q4⟩ := hc k t.rec3 (by rw [List.getElem?_map, hk]; rfl)
  have cc : ∀ j, wr.cell? ⟨g, j, none⟩ = w.cell? ⟨g, j, none⟩ := fun j => hb.cell (p := ⟨g, j, none⟩) (by show g < _; omega)
  exact ⟨g, o, s', c', hs, by omega, (cc _).trans q1, (cc _).trans q2, (cc _).trans q3, q4.keep (Keep.of_below hb hB)⟩
set_option maxHeartbeats 2000000 in
theorem sameNotes_eq (s s' : Option Addr) (c c' lo hi lo' hi' : Nat) (l : List ND) (w : World) (h : NtsR w lo hi s l) (h' : NtsR w lo' hi' s' l) (hB : hi ≤ w.heap.size) (hB' : hi' ≤ w.heap.size) (hl : l.length ≤ 1048576) :
  Calls Tryz.prog 22 #[.slice s l.length c, .slice s' l.length c'] w fun e w' => e = .returned (.bool true) ∧ Below w.heap.size w w' := by
 have H := hidK h
 have H' := hidK h'
 clear h h'
 have hne : ((l.length : Int) != (l.length : Int)) = false := by simp
 go_enter Tryz.func22, Tryz.ntmps22
 go_wp2
 go_loopw [5] (fun i wr => ∃ k : Nat, k ≤ l.length ∧ i = .int .i64 k ∧ Below w.heap.size w wr) (fun i _ => l.length - (intOf i).toNat)
 case atStart => exact ⟨0, Nat.zero_le _, rfl, Below.refl _ _⟩
 case round =>
  obtain ⟨k, hk, rfl, hb⟩ := hrel
  have HB := hidK hb
  by_cases hlt : k < l.length
  ·obtain ⟨t, ht⟩ : ∃ t, l[k]? = some t := ⟨_, List.getElem?_eq_getElem hlt⟩
   obtain ⟨g, o, es, hg, f0, f1⟩ := H.out.at hB hb ht
   obtain ⟨g', o', es', hg', f0', f1'⟩ := H'.out.at hB' hb ht
   have zb := hb.size
   have hgr : g < wr.heap.size := by omega
   have hgr' : g' < wr.heap.size := by omega
   subst es es'
   clear hb ht hne
   have b0 : (0 : Int) ≤ (k : Int) := by omega
   have b1 : (k : Int) < (l.length : Int) := by omega
   go_wp2_with fail
   go_quiet (fail)
   go_wp2
   go_roundw
   case rel => exact ⟨k + 1, by omega, by go_num, HB.out.trans ⟨rfl, rfl, rfl, Nat.le_refl _, fun _ _ => rfl⟩⟩
   case measure => simp [intOf]; omega
  ·go_wp2
   go_ret
   exact ⟨rfl, HB.out⟩
set_option maxRecDepth 100000 in
set_option maxHeartbeats 4000000 in
theorem sameSource_eq (s1 s2 s3 r1 r2 r3 : Option Addr) (c1 c2 c3 d1 d2 d3 lo hi lo' hi' : Nat) (D : SD) (w : World) (h : SrcR w lo hi s1 s2 s3 D) (h' : SrcR w lo' hi' r1 r2 r3 D) (hB : hi ≤ w.heap.size) (hB' : hi' ≤ w.heap.size) (hf : SFits D) :
  Calls Tryz.prog 8 #[.agg #[.slice s1 D.ths.length c1, .slice s2 D.chs.length c2, .slice s3 D.tr.length c3], .agg #[.slice r1 D.ths.length d1, .slice r2 D.chs.length d2, .slice r3 D.tr.length d3]] w fun e w' => e = .returned (.bool true) ∧ Below w.heap.size w w' := by
 have H := hidK h
 have H' := hidK h'
 have HF := hidK hf
 clear h h' hf
 have hn1 : ((D.ths.length : Int) != (D.ths.length : Int)) = false := by simp
 have hn2 : ((D.chs.length : Int) != (D.chs.length : Int)) = false := by simp
 have hL1 := HF.out.1.1
 have hL2 := HF.out.2.1.1
 go_enter Tryz.func8, Tryz.ntmps8
 go_wp2_with fail
 obtain ⟨W, hW⟩ : ∃ W, (w.alloc (.cells #[.slice s1 D.ths.length c1, .slice s2 D.chs.length c2, .slice s3 D.tr.length c3] 32)).alloc (.cells #[.slice r1 D.ths.length d1, .slice r2 D.chs.length d2, .slice r3 D.tr.length d3] 32) = W := ⟨_, rfl⟩
 have kW : Below w.heap.size w W := by subst hW; exact ((Below.refl _ _).alloc (Nat.le_refl _) _).alloc (by simp) _
 have b1 : BoF w.heap.size W (.slice s1 D.ths.length c1) (.slice s2 D.chs.length c2) (.slice s3 D.tr.length c3) := by
  subst hW
  exact ⟨by simp [go_sem], by simp [go_sem], by simp [go_sem], fun j => by simp [go_sem], by simp; omega⟩
 have b2 : BoF (w.heap.size + 1) W (.slice r1 D.ths.length d1) (.slice r2 D.chs.length d2) (.slice r3 D.tr.length d3) := by
  subst hW
  exact ⟨by simp [go_sem], by simp [go_sem], by simp [go_sem], fun j => by simp [go_sem], by simp⟩
 rw [hW]
 clear hW hn1 hn2
 have zW := kW.size
 refine (sameNotes_eq s3 r3 c3 d3 lo hi lo' hi' D.tr W (H.out.2.2.keep (Keep.of_below kW hB)) (H'.out.2.2.keep (Keep.of_below kW hB')) (by omega) (by omega) HF.out.2.2).mono ?_
 rintro e w1 ⟨rfl, hb1⟩
 have B1 := hidK (b1.below hb1 b1.z)
 have B2 := hidK (b2.below hb1 b2.z)
 have K1 := hidK (kW.trans (hb1.mono zW))
 clear b1 b2 kW hb1
 go_wp2_with fail
 go_loopw [5] (fun i wr => ∃ k : Nat, k ≤ D.ths.length ∧ i = .int .i64 k ∧ Below w.heap.size w wr ∧ BoF w.heap.size wr (.slice s1 D.ths.length c1) (.slice s2 D.chs.length c2) (.slice s3 D.tr.length c3) ∧ BoF (w.heap.size + 1) wr (.slice r1 D.ths.length d1) (.slice r2 D.chs.length d2) (.slice r3 D.tr.length d3)) (fun i _ => D.ths.length - (intOf i).toNat)
 case atStart => exact ⟨0, Nat.zero_le _, rfl, K1.out, B1.out, B2.out⟩
 case round =>
  obtain ⟨k, hk, rfl, hb, hx1, hx2⟩ := hrel
  have HB := hidK hb
  have X1 := hidK hx1
  have X2 := hidK hx2
  clear B1 B2 K1
  have zb := hb.size
  obtain ⟨p0, -, -, -, pz⟩ := hx1
  obtain ⟨q0, -, -, -, qz⟩ := hx2
  by_cases hlt : k < D.ths.length
  ·obtain ⟨t, ht⟩ : ∃ t, D.ths[k]? = some t := ⟨_, List.getElem?_eq_getElem hlt⟩
   obtain ⟨g, o, s', c', es, hg, f0, f1, f2, fi⟩ := RecsR.thd H.out.1 hB hb ht
   obtain ⟨g', o', r', e', es', hg', f0', f1', f2', fi'⟩ := RecsR.thd H'.out.1 hB' hb ht
   have hl4 := HF.out.1.2 k t ht
   have hgr : g < wr.heap.size := by omega
   have hgr' : g' < wr.heap.size := by omega
   subst es es'
   have CI : Hid (∀ X : Ext wr, Calls Tryz.prog 11 #[.slice s' t.regs.length c', .slice r' t.regs.length e'] X.w fun e w' => e = .returned (.bool true) ∧ Below X.w.heap.size X.w w') := fun X => by
    have hz := X.b.size
    refine (sameInts_any s' r' t.regs t.regs c' e' X.w ((fi.keep (Keep.of_below X.b (by omega))).ints (by omega)) ((fi'.keep (Keep.of_below X.b (by omega))).ints (by omega)) (by omega)).mono ?_
    rintro e w2 ⟨rfl, m, rfl⟩
    exact ⟨by simp, rfl, rfl, rfl, Nat.le_refl _, fun _ _ => rfl⟩
   clear hb ht fi fi'
   have b0 : (0 : Int) ≤ (k : Int) := by omega
   have b1 : (k : Int) < (D.ths.length : Int) := by omega
   have hne := ext_ne wr
   have u0 := Ext.fit p0 pz
   have u1 := Ext.fit q0 qz
   have u2 := Ext.fit f0 hgr
   have u3 := Ext.fit f1 hgr
   have u4 := Ext.fit f2 hgr
   have u5 := Ext.fit f0' hgr'
   have u6 := Ext.fit f1' hgr'
   have u7 := Ext.fit f2' hgr'
   go_wp2_with fail
   refine regionExt wr (by kernel_rfl) (by kernel_rfl) ?_
   repeat (go_big_quiet_step (first | (rename_i X; go_at_call 11; refine Calls.mono (CI.out X) ?_; rintro e w3 ⟨rfl, hb3⟩; exact ⟨rfl, X.on hb3⟩) | fail))
   refine wpQuiet_nil ?_
   rintro w5 ⟨X5, rfl⟩
   obtain ⟨U, hU⟩ : ∃ U, X5.w = U := ⟨_, rfl⟩
   have hb5 := X5.b
   rw [hU] at hb5 ⊢
   have K5 := hidK (HB.out.trans (hb5.mono zb))
   have B5 := hidK (X1.out.below hb5 pz)
   have B6 := hidK (X2.out.below hb5 qz)
   clear hU X5 hb5 hne u0 u1 u2 u3 u4 u5 u6 u7
   go_wp2
   go_roundw
   case rel => exact ⟨k + 1, by omega, by go_num, K5.out, B5.out, B6.out⟩
   case measure => simp [intOf]; omega
  ·go_wp2_with fail
   clear hb p0 q0
   go_loopw [6] (fun i wr => ∃ k : Nat, k ≤ D.chs.length ∧ i = .int .i64 k ∧ Below w.heap.size w wr ∧ BoF w.heap.size wr (.slice s1 D.ths.length c1) (.slice s2 D.chs.length c2) (.slice s3 D.tr.length c3) ∧ BoF (w.heap.size + 1) wr (.slice r1 D.ths.length d1) (.slice r2 D.chs.length d2) (.slice r3 D.tr.length d3)) (fun i _ => D.chs.length - (intOf i).toNat)
   case atStart => exact ⟨0, Nat.zero_le _, rfl, HB.out, X1.out, X2.out⟩
   case round =>
    obtain ⟨k, hk, rfl, hb, hx1, hx2⟩ := hrel
    have HC := hidK hb
    have Y1 := hidK hx1
    have Y2 := hidK hx2
    have zb := hb.size
    obtain ⟨-, p0, -, -, pz⟩ := hx1
    obtain ⟨-, q0, -, -, qz⟩ := hx2
    by_cases hlt : k < D.chs.length
    ·obtain ⟨t, ht⟩ : ∃ t, D.chs[k]? = some t := ⟨_, List.getElem?_eq_getElem hlt⟩
     obtain ⟨g, o, s', c', es, hg, f0, f1, f2, fi⟩ := RecsR.chn H.out.2.1 hB hb ht
     obtain ⟨g', o', r', e', es', hg', f0', f1', f2', fi'⟩ := RecsR.chn H'.out.2.1 hB' hb ht
     have hl4 := HF.out.2.1.2 k t ht
     have hgr : g < wr.heap.size := by omega
     have hgr' : g' < wr.heap.size := by omega
     subst es es'
     have CI : Hid (∀ X : Ext wr, Calls Tryz.prog 11 #[.slice s' t.list.length c', .slice r' t.list.length e'] X.w fun e w' => e = .returned (.bool true) ∧ Below X.w.heap.size X.w w') := fun X => by
      have hz := X.b.size
      refine (sameInts_any s' r' t.list t.list c' e' X.w ((fi.keep (Keep.of_below X.b (by omega))).ints (by omega)) ((fi'.keep (Keep.of_below X.b (by omega))).ints (by omega)) (by omega)).mono ?_
      rintro e w2 ⟨rfl, m, rfl⟩
      exact ⟨by simp, rfl, rfl, rfl, Nat.le_refl _, fun _ _ => rfl⟩
     clear hb ht fi fi'
     have b0 : (0 : Int) ≤ (k : Int) := by omega
     have b1 : (k : Int) < (D.chs.length : Int) := by omega
     have hne := ext_ne wr
     have u0 := Ext.fit p0 pz
     have u1 := Ext.fit q0 qz
     have u2 := Ext.fit f0 hgr
     have u3 := Ext.fit f1 hgr
     have u4 := Ext.fit f2 hgr
     have u5 := Ext.fit f0' hgr'
     have u6 := Ext.fit f1' hgr'
     have u7 := Ext.fit f2' hgr'
     go_wp2_with fail
     refine regionExt wr (by kernel_rfl) (by kernel_rfl) ?_
     repeat (go_big_quiet_step (first | (rename_i X; go_at_call 11; refine Calls.mono (CI.out X) ?_; rintro e w3 ⟨rfl, hb3⟩; exact ⟨rfl, X.on hb3⟩) | fail))
     refine wpQuiet_nil ?_
     rintro w5 ⟨X5, rfl⟩
     obtain ⟨U, hU⟩ : ∃ U, X5.w = U := ⟨_, rfl⟩
     have hb5 := X5.b
     rw [hU] at hb5 ⊢
     have K5 := hidK (HC.out.trans (hb5.mono zb))
     have B5 := hidK (Y1.out.below hb5 pz)
     have B6 := hidK (Y2.out.below hb5 qz)
     clear hU X5 hb5 hne u0 u1 u2 u3 u4 u5 u6 u7
     go_wp2
     go_roundw
     case rel => exact ⟨k + 1, by omega, by go_num, K5.out, B5.out, B6.out⟩
     case measure => simp [intOf]; omega
    ·go_wp2
     go_ret
     exact ⟨rfl, HC.out⟩
end
section
set_option linter.unusedSimpArgs false
set_option linter.unusedVariables false
set_option maxRecDepth 100000
open Go.RowKit
set_option maxHeartbeats 2000000 in
theorem within_any (s : Option Addr) (c : Nat) (l : List Int) (x : Int) (w : World) (h : Ints w s l) (hl : l.length ≤ 1048576) :
  Calls Tryz.prog 13 #[.slice s l.length c, .int .i64 x] w fun e w' => e = .returned (.bool (decide (x ∈ l))) ∧ Below w.heap.size w w' := by
 have H : Hid (Ints w s l) := h
 clear h
 go_enter Tryz.func13, Tryz.ntmps13
 go_wp2
 go_loopw [5] (fun i wr => ∃ k m : Nat, k ≤ l.length ∧ i = .int .i64 k ∧ (∀ j, j < k → l.getD j 0 ≠ x) ∧ wr = w.drewN m) (fun i _ => l.length - (intOf i).toNat)
 case atStart => exact ⟨0, 0, Nat.zero_le _, rfl, fun j hj => absurd hj (Nat.not_lt_zero _), rfl⟩
 case round =>
  obtain ⟨k, m, hk, rfl, hj, rfl⟩ := hrel
  have HJ : Hid (∀ j, j < k → l.getD j 0 ≠ x) := hj
  clear hj
  have kb : Below w.heap.size w (w.drewN m) := ⟨rfl, rfl, rfl, Nat.le_refl _, fun _ _ => rfl⟩
  by_cases hlt : k < l.length
  ·obtain ⟨g, o, hs, hg, hc⟩ : ∃ g o, s = some ⟨g, o, none⟩ ∧ g < w.heap.size ∧ w.cell? ⟨g, o + k, none⟩ = some (.int .i64 (l.getD k 0)) := by
    rcases H.out with h | ⟨g, o, hs, hg, hc⟩
    ·rw [h] at hlt; simp at hlt
    ·exact ⟨g, o, hs, hg, hc k hlt⟩
   subst hs
   have hmem : l.getD k 0 ∈ l := by
    rw [List.getD_eq_getElem?_getD, List.getElem?_eq_getElem hlt]
    exact List.getElem_mem hlt
   generalize hy : l.getD k 0 = y at hc hmem
   have HY : Hid (l.getD k 0 = y) := hy
   have HM : Hid (y ∈ l) := hmem
   have KB : Hid (Below w.heap.size w (w.drewN m)) := kb
   clear hy hmem kb
   have b0 : (0 : Int) ≤ (k : Int) := by omega
   have b1 : (k : Int) < (l.length : Int) := by omega
   by_cases he : y = x
   ·have hd : (y == x) = true := by simp [he]
    have HE : Hid (y = x) := he
    clear he
    go_wp2
    go_ret
    refine ⟨?_, rfl, rfl, rfl, Nat.le_refl _, fun _ _ => rfl⟩
    rw [decide_eq_true (by rw [← HE.out]; exact HM.out)]
    rfl
   ·have hd : (y == x) = false := by simp [he]
    have HE : Hid (¬ y = x) := he
    clear he
    go_wp2
    go_roundw
    case rel =>
     refine ⟨k + 1, _, by omega, by go_num, ?_, rfl⟩
     intro j hj
     by_cases e : j < k
     ·exact HJ.out j e
     ·have : j = k := by omega
      subst this
      rw [HY.out]
      exact HE.out
    case measure => simp [intOf]; omega
  ·have hno : ¬ x ∈ l := by
    intro hx
    obtain ⟨i, hi, e⟩ := List.getElem_of_mem hx
    refine HJ.out i (by omega) ?_
    rw [List.getD_eq_getElem?_getD, List.getElem?_eq_getElem hi]
    exact e
   go_wp2
   go_ret
   exact ⟨by rw [decide_eq_false hno]; rfl, kb⟩
end
end Go.Proofs.YteefnjngcnebpaaGreat
