/- The code of a body, without a program: the code of its places, one behind the other. Conditions: bodies that are right. A scope in which the run jumps to several labels: what holds at each jump, and a measure that each pass from a label lowers. No condition. The map of first steps. Conditions: bodies of at most 24 places, each of a kind that there is. -/
import Derived.Test.YthkpkdehicoikaaGreatJ14
import Derived.Test.YthkpkdehicoikaaGreatJ28
import Derived.Test.YthkpkdehicoikaaGreatJ34
import Derived.Test.YthkpkdehicoikaaGreatE9Base
import Derived.ScopeJumps
import Derived.WalkMore
import Derived.WalkKit
import Derived.Test.YthkpkdehicoikaaGreatP11Pure
import Derived.Maps.OwnOps
import Derived.Maps.OwnSet
import Derived.Maps.RangeWalk
namespace Go.Proofs.YthkpkdehicoikaaGreat
section
set_option linter.unusedSimpArgs false
set_option linter.unusedVariables false
set_option maxRecDepth 100000
open Go.RowKit

def emX (cs ss : List Int) (x : I5) (fr : Int) : List I5 := emitM cs ss x.o x.r x.a x.b x.n fr
def cdM (cs : List Int) (l : List I5) : Nat → List I5
  | 0 => []
  | k + 1 => cdM cs l k ++ emX cs (stL l l.length) (l.getD k z5) (stV l k)
theorem cdM_len (cs : List Int) (l : List I5) : ∀ k, (cdM cs l k).length ≤ 40 * k
  | 0 => by simp [cdM]
  | k + 1 => by
    have h1 := cdM_len cs l k
    have h2 := emitM_len cs (stL l l.length) (l.getD k z5).o (l.getD k z5).r (l.getD k z5).a (l.getD k z5).b (l.getD k z5).n (stV l k)
    simp only [cdM, emX, List.length_append]
    omega
theorem sumC_bd : ∀ l : List Int, (∀ c ∈ l, 1 ≤ c ∧ c ≤ 4) → 0 ≤ sumC l ∧ sumC l ≤ 8 * l.length
  | [], _ => by simp [sumC]
  | c :: r, h => by
    have h1 := sumC_bd r (fun x hx => h x (List.mem_cons_of_mem _ hx))
    have h2 := h c (List.mem_cons_self ..)
    simp [sumC] at h1 ⊢
    omega
theorem caps_all {p : PD} (h : progB p = true) : ∀ c ∈ p.caps, 1 ≤ c ∧ c ≤ 4 := fun c hc => by
  obtain ⟨i, hi, e⟩ := List.getElem_of_mem hc
  have := (progB_len h).2.2.2 i hi
  rw [List.getD_eq_getElem?_getD, List.getElem?_eq_getElem hi] at this
  simp at this
  rw [← e]
  exact this
theorem caps_R {p : PD} (h : progB p = true) : capsR p.caps = true := by
  unfold capsR
  rw [List.all_eq_true]
  intro c hc
  exact decide_eq_true (caps_all h c hc)
theorem base_ok {p : PD} (h : progB p = true) {n : Int} (h0 : 0 ≤ n) (h1 : n < p.caps.length) : baseV p.caps n ≠ -1 := by
  have a := sumC_bd p.caps (caps_all h)
  have b := sumC_bd (p.caps.take n.toNat) (fun c hc => caps_all h c (List.mem_of_mem_take hc))
  have c := (progB_len h).2.2.1
  unfold baseV
  rw [if_pos ⟨caps_R h, by omega, h0, h1⟩]
  omega
theorem right_ok {p : PD} (h : progB p = true) : rightC p.caps = true := by
  have a := sumC_bd p.caps (caps_all h)
  have c := (progB_len h).2.2.1
  unfold rightC
  rw [caps_R h, Bool.true_and]
  exact decide_eq_true (by omega)
theorem chanM_pos (o r a x rm b fr : Int) : 0 < (chanM o r a x rm b fr).length := by
  unfold chanM
  repeat' split
  all_goals
    rw [togL_len]
    simp [lens, lockR, askR, faultR, openR, roundR, putR, letR, triedR, takenR, roundT, keepT, keepR, noneT, noneR, cameR]
theorem emitM_pos {cs ss : List Int} {o r a x n fr : Int} (h : Plain.insB o r a x n ss.length cs.length = true) (hb : ∀ m : Int, 0 ≤ m → m < cs.length → baseV cs m ≠ -1) : 0 < (emitM cs ss o r a x n fr).length := by
  have h' := h
  simp only [Plain.insB, decide_eq_true_eq] at h'
  unfold emitM
  rw [if_pos h]
  repeat' split
  all_goals first | exact chanM_pos _ _ _ _ _ _ _ | (simp; done) | (exfalso; rename_i hz; exact hb n (by omega) (by omega) hz)
theorem em_pos {p : PD} (h : progB p = true) {b : Nat} (hb : b < p.bods.length) {k : Nat} (hk : k < (p.bods.getD b []).length) (fr : Int) : 0 < (emX p.caps (stL (p.bods.getD b []) (p.bods.getD b []).length) ((p.bods.getD b []).getD k z5) fr).length := by
  have h1 : bodyB (p.bods.getD b []) p.caps.length = true := by
    simp only [progB, bodsB, Bool.and_eq_true, decide_eq_true_eq] at h
    exact h.2.1 b hb
  have h2 : insX ((p.bods.getD b []).getD k z5) (p.bods.getD b []).length p.caps.length = true := by
    simp only [bodyB, Bool.and_eq_true, decide_eq_true_eq] at h1
    exact h1.1 k hk
  unfold emX
  refine emitM_pos ?_ (fun m h0 h1 => base_ok h h0 h1)
  rw [stL_len]
  exact h2
theorem flat_fl : ∀ l : List I5, (fl5 l).map (Value.int .i64) = flatP l
  | [] => rfl
  | x :: r => by simp [fl5, flatP, cellsP, flat_fl r]
end

section
set_option linter.unusedSimpArgs false
set_option linter.unusedVariables false
set_option maxRecDepth 100000
open Go.RowKit

def jumpM (J : Nat → Act → World → Prop) (Q : Exit → Act → World → Prop) : Exit → Act → World → Prop
  | .goto l', a, w => J l' a w
  | e, a, w => Q e a w

theorem wp_scope_many {P : Program} {a : Act} {w : World} {Q : Exit → Act → World → Prop} {c : Code} (rest : Nat → Code) (J : Nat → Act → World → Prop) (μ : Nat → Act → World → Nat) (hf : ∀ l a w, J l a w → findLabel c l = some (rest l))
    (first : c.wp P (jumpM J Q) a w)
    (pass : ∀ l a w, J l a w → (rest l).wp P (jumpM (fun l' a' w' => J l' a' w' ∧ μ l' a' w' < μ l a w) Q) a w) : (Code.scope c).wp P Q a w := by
  intro b k cs
  have hg : ∀ l a w, J l a w → gotoIn l (.inScope c :: k) = some (.code (rest l) :: .inScope c :: k) := fun l a w h => by simp [gotoIn, hf l a w h]
  have key : ∀ n l a w, μ l a w = n → J l a w → ∃ e a' w', Q e a' w' ∧ Arrives P (lone (b.at a (.code (rest l) :: .inScope c :: k)) cs w) b k cs e a' w' := by
    intro n
    induction n using Nat.strongRecOn with
    | _ n ih =>
      intro l a w hn hJ
      obtain ⟨e, a₁, w₁, hq, harr⟩ := pass l a w hJ b (.inScope c :: k) cs
      cases e with
      | normal => exact ⟨.normal, a₁, w₁, hq, Steps.trans harr (.one step_inScope)⟩
      | exit id => exact ⟨.exit id, a₁, w₁, hq, fun k' hk => harr k' (by simp [exitTo, hk])⟩
      | goto l' =>
        obtain ⟨hJ', hlt⟩ := hq
        obtain ⟨e₂, a₂, w₂, hq₂, harr₂⟩ := ih _ (by omega) l' a₁ w₁ rfl hJ'
        exact ⟨e₂, a₂, w₂, hq₂, .of_steps (harr _ (hg l' a₁ w₁ hJ')) harr₂⟩
      | ret => exact ⟨_, a₁, w₁, hq, harr⟩
      | panic ch => exact ⟨_, a₁, w₁, hq, harr⟩
      | outgrown => exact ⟨_, a₁, w₁, hq, harr⟩
  obtain ⟨e, a₁, w₁, hq, harr⟩ := first b (.inScope c :: k) cs
  cases e with
  | normal => exact ⟨.normal, a₁, w₁, hq, .head step_scope (Steps.trans harr (.one step_inScope))⟩
  | exit id => exact ⟨.exit id, a₁, w₁, hq, fun k' hk => .head step_scope (harr k' (by simp [exitTo, hk]))⟩
  | goto l' =>
    have hJ' : J l' a₁ w₁ := hq
    obtain ⟨e₂, a₂, w₂, hq₂, harr₂⟩ := key _ l' a₁ w₁ rfl hJ'
    exact ⟨e₂, a₂, w₂, hq₂, .of_steps (.head step_scope (harr _ (hg l' a₁ w₁ hJ'))) harr₂⟩
  | ret => exact ⟨_, a₁, w₁, hq, .of_steps (.one step_scope) harr⟩
  | panic ch => exact ⟨_, a₁, w₁, hq, .of_steps (.one step_scope) harr⟩
  | outgrown => exact ⟨_, a₁, w₁, hq, .of_steps (.one step_scope) harr⟩

def jump2 (l0 l1 : Nat) (J0 J1 : Act → World → Prop) (Q : Exit → Act → World → Prop) : Exit → Act → World → Prop
  | .goto l', a, w => (l' = l0 ∧ J0 a w) ∨ (l' = l1 ∧ J1 a w)
  | e, a, w => Q e a w
theorem wp_post {P : Program} {a : Act} {w : World} {Q Q' : Exit → Act → World → Prop} {c : Code} (h : c.wp P Q a w) (hq : ∀ e a w, Q e a w → Q' e a w) : c.wp P Q' a w := by
  intro b k cs
  obtain ⟨e, a', w', h1, h2⟩ := h b k cs
  exact ⟨e, a', w', hq _ _ _ h1, h2⟩
theorem wp_scope_two {P : Program} {a : Act} {w : World} {Q : Exit → Act → World → Prop} {c rest0 rest1 : Code} (l0 l1 : Nat) (J0 J1 : Act → World → Prop) (μ0 μ1 : Act → World → Nat) (hf0 : findLabel c l0 = some rest0) (hf1 : findLabel c l1 = some rest1) (hne : l0 ≠ l1)
    (first : c.wp P (jump2 l0 l1 J0 J1 Q) a w)
    (pass0 : ∀ a w, J0 a w → rest0.wp P (jump2 l0 l1 (fun a' w' => J0 a' w' ∧ μ0 a' w' < μ0 a w) (fun a' w' => J1 a' w' ∧ μ1 a' w' < μ0 a w) Q) a w)
    (pass1 : ∀ a w, J1 a w → rest1.wp P (jump2 l0 l1 (fun a' w' => J0 a' w' ∧ μ0 a' w' < μ1 a w) (fun a' w' => J1 a' w' ∧ μ1 a' w' < μ1 a w) Q) a w) : (Code.scope c).wp P Q a w := by
  refine wp_scope_many (fun l => if l = l0 then rest0 else rest1) (fun l a w => (l = l0 ∧ J0 a w) ∨ (l = l1 ∧ J1 a w)) (fun l a w => if l = l0 then μ0 a w else μ1 a w) ?_ ?_ ?_
  · rintro l a w (⟨rfl, -⟩ | ⟨rfl, -⟩)
    · simp [hf0]
    · simp [hf1, Ne.symm hne]
  · refine wp_post first fun e a w h => ?_
    cases e <;> exact h
  · rintro l a w (⟨rfl, hJ⟩ | ⟨rfl, hJ⟩)
    · rw [if_pos rfl]
      refine wp_post (pass0 a w hJ) fun e a' w' h => ?_
      cases e with
      | goto l' =>
        rcases h with ⟨rfl, h⟩ | ⟨rfl, h⟩
        · exact ⟨.inl ⟨rfl, h.1⟩, by simpa using h.2⟩
        · exact ⟨.inr ⟨rfl, h.1⟩, by simpa [Ne.symm hne] using h.2⟩
      | _ => exact h
    · rw [if_neg (Ne.symm hne)]
      refine wp_post (pass1 a w hJ) fun e a' w' h => ?_
      cases e with
      | goto l' =>
        rcases h with ⟨rfl, h⟩ | ⟨rfl, h⟩
        · exact ⟨.inl ⟨rfl, h.1⟩, by simpa [Ne.symm hne] using h.2⟩
        · exact ⟨.inr ⟨rfl, h.1⟩, by simpa [Ne.symm hne] using h.2⟩
      | _ => exact h
end

section
set_option linter.unusedSimpArgs false
set_option linter.unusedVariables false
set_option maxRecDepth 100000
open Go.RowKit Go.Maps

theorem lawI : Keyed Tryz.prog 3 := int_keyed Tryz.underlying3
theorem zeroI (w : World) : (zeroValue 3).run Tryz.prog w = .ok (.int .i64 0) w := by kernel_rfl
def OwnF (w : World) (b n : Nat) (D : DataW Unit) : Prop := w.ownsMap Tryz.prog 3 (plainElem Tryz.prog 3) b n D
theorem OwnF.keep {w w' : World} {b n : Nat} {D : DataW Unit} (h : OwnF w b n D) (hk : w'.heap[b]? = w.heap[b]?) : OwnF w' b n D := by
  obtain ⟨es, clock, h1, h2⟩ := h
  exact ⟨es, clock, hk.trans h1, h2⟩
theorem mkMap (n : Int) (w : World) : (Instr.makeMap 84 (some (.int .i64 n))).run Tryz.prog w = .ok (.map (some w.heap.size)) (w.alloc (.map #[] 0)) := by
  simp [Instr.makeMap, run_underlying Tryz.underlying84, asInt, asIntOf]
theorem keyOf_int_mk' {x y : Int} (e : y = x) (h : (Lit.int .i64 y).wf = true) : keyOf Tryz.prog 3 (.int .i64 x) = some (.int .i64 y) := by
  subst e
  exact keyOf_int_mk Tryz.underlying3 h
theorem insR_at {w : World} {lo hi : Nat} {s : Option Addr} {l : List I5} (h : InsR w lo hi s l) {i : Nat} (hi' : i < l.length) : ∃ g off, s = some ⟨g, off, none⟩ ∧ lo ≤ g ∧ g < hi ∧ ∀ j, j < l.length → At5 w g (off + j * 5) (l.getD j z5) := by
  rcases h with rfl | ⟨g, off, rfl, h1, h2, h3⟩
  · exact absurd hi' (Nat.not_lt_zero _)
  · exact ⟨g, off, rfl, h1, h2, h3⟩

set_option maxRecDepth 100000 in
set_option maxHeartbeats 4000000 in
theorem firstsOf_any (s : Option Addr) (c lo hi : Nat) (l : List I5) (w : World) (h : InsR w lo hi s l) (hB : hi ≤ w.heap.size) (hr : Rt l) :
    Calls Tryz.prog 73 #[.slice s l.length c] w fun e w' => e = .returned (.tuple #[.map (some w.heap.size), .int .i64 (stV l l.length)]) ∧ OwnF w' w.heap.size l.length (mpD l l.length) ∧ Below w.heap.size w w' := by
  have hmm := mkMap
  have HI := hidP h
  have HR := hidP hr
  have hl24 := hr.len
  clear h hr
  go_enter Tryz.func73, Tryz.ntmps73
  go_wp2
  refine wp_scope_two 0 1 (fun a' w' => OwnF w' w.heap.size l.length (mpD l l.length) ∧ Below w.heap.size w w' ∧ ∃ (u0 u1 u5 u7 u8 u9 u10 u11 u12 u13 u14 u15 u16 u17 u18 u19 u20 u21 u22 u23 u24 u25 u26 u27 : Value), a' = { tmps := #[u0, u1, .map none, .int .i64 0, .map (some w.heap.size), u5, .int .i64 (stV l l.length), u7, u8, u9, u10, u11, u12, u13, u14, u15, u16, u17, u18, u19, u20, u21, u22, u23, u24, u25, u26, u27], defers := [] })
    (fun a' w' => ∃ k : Nat, k ≤ l.length ∧ OwnF w' w.heap.size k (mpD l k) ∧ Below w.heap.size w w' ∧ ∃ (u1 u7 u8 u9 u10 u11 u12 u13 u14 u15 u16 u17 u18 u19 u20 u21 u22 u23 u24 u25 u26 u27 : Value), a' = { tmps := #[.slice s l.length c, u1, .map none, .int .i64 0, .map (some w.heap.size), .int .i64 k, .int .i64 (stV l k), u7, u8, u9, u10, u11, u12, u13, u14, u15, u16, u17, u18, u19, u20, u21, u22, u23, u24, u25, u26, u27], defers := [] })
    (fun _ _ => 0) (fun a' _ => l.length + 1 - (intOf (a'.tmps.getD 5 undef)).toNat) rfl rfl (by decide) ?_ ?_ ?_
  · go_wp2
    go_step3
    have HF : Hid (OwnF (w.alloc (.map #[] 0)) w.heap.size 0 (mpD l 0)) := World.ownsMap_made _ _ _ _
    have HB : Hid (Below w.heap.size w (w.alloc (.map #[] 0))) := (Below.refl _ _).alloc (Nat.le_refl _) _
    have hzb : w.heap.size < (w.alloc (.map #[] 0)).heap.size := by simp
    have hk : 0 ≤ l.length := Nat.zero_le _
    generalize w.alloc (.map #[] 0) = w' at HF HB hzb ⊢
    by_cases hlt : 0 < l.length
    · obtain ⟨g, off, hs, hlo, hg, hc⟩ := insR_at HI.out hlt
      subst hs
      have hc5 := hidP (hc 0 hlt)
      clear hc
      have hsz := HR.out.sz 0 hlt
      have hbd := stV_big HR.out hk
      have wfk := stV_wf HR.out hk
      have ST := hidP (show stV l (0 + 1) = stV l 0 + sizeV (l.getD 0 z5).o from rfl)
      generalize l.getD 0 z5 = x at hc5 hsz ST
      obtain ⟨xo, xr, xa, xb, xn⟩ := x
      have WK := hidP wfk
      clear wfk
      have HST : Hid (stV l 0 = 0) := rfl
      obtain ⟨sz, hsz0⟩ : ∃ sz, sizeV xo = sz := ⟨_, rfl⟩
      have HSZ := hidP hsz0
      have hsz1 : 1 ≤ sz ∧ sz ≤ 32 := by rw [← hsz0]; exact hsz
      clear hsz0 hsz
      have b0 : (0 : Int) ≤ (0 : Int) := by omega
      have b1 : (0 : Int) < (l.length : Int) := by omega
      have b2 : ((0 : Int) == (l.length : Int)) = false := by simp; omega
      go_wp2_with (first | (at_mapUpdate; refine wpList_mapUpdate_own _ rfl _ _ _ 84 rfl 3 3 lawI Tryz.underlying84 _ w.heap.size 0 _ rfl HF.out (by unfold maxLen; omega) _ _ (.int .i64 (stV l 0)) rfl rfl (keyOf_int_mk' (HST.out)  WK.out) (.lit (.int .i64 (0 : Nat))) [] (plainElem_int Tryz.underlying3 (WalkArith.wf_i64 (by omega))) ?_; intro w1 ho1 hg1; have HO1 : Hid (OwnF w1 w.heap.size (0 + 1) (mpD l (0 + 1))) := ho1; have HB1 := hidP (HB.out.grown hg1 HB.out.size (fun j hj => by cases hj; exact Nat.le_refl _)); have hz1 := hg1.size; clear ho1 hg1; obtain ⟨f0, f1, f2, f3, f4⟩ := hc5.out.keep HB1.out (by omega); simp only [Nat.zero_mul, Nat.add_zero] at f0 f1 f2 f3 f4) | (go_at_call 83; refine (implSize_any _ _ _ _ _ _).mono ?_; rintro e w2 ⟨rfl, hb2⟩; rw [HSZ.out]))
      go_step3
      have hz2 := hb2.size
      have HB2 := hidP (HB1.out.trans (hb2.mono (by omega)))
      have HO2 := hidP (OwnF.keep HO1.out (hb2.block w.heap.size (by omega)))
      clear hb2
      have e2 : sz = stV l (0 + 1) := by rw [ST.out, HST.out, HSZ.out]; omega
      rw [e2]
      exact .inr ⟨rfl, ⟨0 + 1, by omega, HO2.out, HB2.out, _, _, _, _, _, _, _, _, _, _, _, _, _, _, _, _, _, _, _, _, _, _, rfl⟩⟩
    · have hkn : l.length = 0 := by omega
      have b2 : ((0 : Int) == (l.length : Int)) = true := by simp [hkn]
      go_wp2
      go_step3
      exact .inl ⟨rfl, ⟨by rw [hkn]; exact HF.out, HB.out, _, _, _, _, _, _, _, _, _, _, _, _, _, _, _, _, _, _, _, _, _, _, _, _, by rw [hkn]; rfl⟩⟩
  · rintro a' w' ⟨hF, hb, u0, u1, u5, u7, u8, u9, u10, u11, u12, u13, u14, u15, u16, u17, u18, u19, u20, u21, u22, u23, u24, u25, u26, u27, rfl⟩
    go_wp2
    simp only [jump2]
    refine bodyPost_ret (v := .tuple #[.map (some w.heap.size), .int .i64 (stV l l.length)]) (by simp [results, Tryz.results73, go_sem]) rfl ?_
    exact ⟨rfl, hF, hb⟩
  · rintro a' w' ⟨k, hk, hF, hb, u1, u7, u8, u9, u10, u11, u12, u13, u14, u15, u16, u17, u18, u19, u20, u21, u22, u23, u24, u25, u26, u27, rfl⟩
    have HF := hidP hF
    have HB := hidP hb
    have hzb : w.heap.size < w'.heap.size := by obtain ⟨es, clock, h1, h2⟩ := hF; exact (Array.getElem?_eq_some_iff.1 h1).1
    clear hF hb
    by_cases hlt : k < l.length
    · obtain ⟨g, off, hs, hlo, hg, hc⟩ := insR_at HI.out hlt
      subst hs
      have hc5 := hidP (hc k hlt)
      clear hc
      have hsz := HR.out.sz k hlt
      have hbd := stV_big HR.out hk
      have wfk := stV_wf HR.out hk
      have ST := hidP (show stV l (k + 1) = stV l k + sizeV (l.getD k z5).o from rfl)
      generalize l.getD k z5 = x at hc5 hsz ST
      obtain ⟨xo, xr, xa, xb, xn⟩ := x
      have WK := hidP wfk
      clear wfk
      obtain ⟨st, hst⟩ : ∃ st, stV l k = st := ⟨_, rfl⟩
      have HST := hidP hst
      rw [hst] at hbd ⊢
      clear hst
      obtain ⟨sz, hsz0⟩ : ∃ sz, sizeV xo = sz := ⟨_, rfl⟩
      have HSZ := hidP hsz0
      have hsz1 : 1 ≤ sz ∧ sz ≤ 32 := by rw [← hsz0]; exact hsz
      clear hsz0 hsz
      have b0 : (0 : Int) ≤ (k : Int) := by omega
      have b1 : (k : Int) < (l.length : Int) := by omega
      have b2 : ((k : Int) == (l.length : Int)) = false := by simp; omega
      go_wp2_with (first | (at_mapUpdate; refine wpList_mapUpdate_own _ rfl _ _ _ 84 rfl 3 3 lawI Tryz.underlying84 _ w.heap.size k _ rfl HF.out (by unfold maxLen; omega) _ _ (.int .i64 (stV l k)) rfl rfl (keyOf_int_mk' (HST.out)  WK.out) (.lit (.int .i64 (k : Nat))) [] (plainElem_int Tryz.underlying3 (WalkArith.wf_i64 (by omega))) ?_; intro w1 ho1 hg1; have HO1 : Hid (OwnF w1 w.heap.size (k + 1) (mpD l (k + 1))) := ho1; have HB1 := hidP (HB.out.grown hg1 HB.out.size (fun j hj => by cases hj; exact Nat.le_refl _)); have hz1 := hg1.size; clear ho1 hg1; obtain ⟨f0, f1, f2, f3, f4⟩ := hc5.out.keep HB1.out (by omega)) | (go_at_call 83; refine (implSize_any _ _ _ _ _ _).mono ?_; rintro e w2 ⟨rfl, hb2⟩; rw [HSZ.out]))
      go_step3
      have hz2 := hb2.size
      have HB2 := hidP (HB1.out.trans (hb2.mono (by omega)))
      have HO2 := hidP (OwnF.keep HO1.out (hb2.block w.heap.size (by omega)))
      clear hb2
      have e3 : ((k : Int) + 1) = ((k + 1 : Nat) : Int) := by omega
      have e2 : st + sz = stV l (k + 1) := by rw [ST.out, HST.out, HSZ.out]
      rw [e2, e3]
      exact .inr ⟨rfl, ⟨k + 1, by omega, HO2.out, HB2.out, _, _, _, _, _, _, _, _, _, _, _, _, _, _, _, _, _, _, _, _, _, _, rfl⟩, by simp [intOf]; omega⟩
    · have hkn : l.length = k := by omega
      subst hkn
      have b2 : (((l.length : Nat) : Int) == (l.length : Int)) = true := by simp
      go_wp2
      go_step3
      exact .inl ⟨rfl, ⟨HF.out, HB.out, _, _, _, _, _, _, _, _, _, _, _, _, _, _, _, _, _, _, _, _, _, _, _, _, rfl⟩, by simp [intOf]⟩
end

end Go.Proofs.YthkpkdehicoikaaGreat
