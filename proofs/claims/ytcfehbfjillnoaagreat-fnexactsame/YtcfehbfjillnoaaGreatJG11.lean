/- First steps, without a program: where each place begins, what the map of first steps holds, what its keys are when they are told sorted. Conditions: bodies of at most 24 places, each of a kind that there is. A scope in which the run jumps to several labels: what holds at each jump, and a measure that each pass from a label lowers. No condition. The map of first steps. Conditions: bodies of at most 24 places, each of a kind that there is. The body that is asked for: nothing where there is none. Conditions: programs that fit. PlaceOf of the program: the place that a step belongs to, out of the map of first steps. Conditions: programs that fit. -/
import Derived.Test.YtcfehbfjillnoaaGreatJG00
import Derived.Test.YtcfehbfjillnoaaGreatJG01
import Derived.Test.YtcfehbfjillnoaaGreatJG03
import Derived.Test.YtcfehbfjillnoaaGreatJProgOk
import Derived.Test.YtcfehbfjillnoaaGreatJE10Of
import Derived.Maps.Range
import Derived.Maps.Ext
import Derived.ScopeJumps
import Derived.WalkMore
import Derived.WalkKit
import Derived.Maps.OwnOps
import Derived.Maps.OwnSet
import Derived.Maps.RangeWalk
import Derived.Test.YtcfehbfjillnoaaGreatJLeaves
import Derived.Test.YtcfehbfjillnoaaGreatJG04
namespace Go.Proofs.YtcfehbfjillnoaaGreat
section
set_option linter.unusedSimpArgs false
set_option linter.unusedVariables false
set_option maxRecDepth 100000
open Go.RowKit Go.Maps
theorem hidP {p : Prop} (h : p) : Hid p := h
def stV (l : List I5) : Nat → Int
 | 0 => 0
 | n + 1 => stV l n + sizeV (l.getD n z5).o
def stL (l : List I5) (n : Nat) : List Int := (List.range n).map (stV l)
structure Rt (l : List I5) : Prop where
 len : l.length ≤ 24
 sz : ∀ i, i < l.length → 1 ≤ sizeV (l.getD i z5).o ∧ sizeV (l.getD i z5).o ≤ 32
theorem rt_nil : Rt [] := ⟨Nat.zero_le _, fun i hi => absurd hi (Nat.not_lt_zero _)⟩
theorem size_op {o : Int} (h1 : 1 ≤ o) (h2 : o ≤ 13) : 1 ≤ sizeV o ∧ sizeV o ≤ 32 := by
 unfold sizeV
 repeat' split
 all_goals omega
theorem insB_op {o r a b n pl ch : Int} (h : Plain.insB o r a b n pl ch = true) : 1 ≤ o ∧ o ≤ 13 := by
 simp only [Plain.insB, decide_eq_true_eq] at h
 omega
theorem bodyB_rt {l : List I5} {ch : Int} (h : bodyB l ch = true) : Rt l ∧ 1 ≤ l.length := by
 simp only [bodyB, Bool.and_eq_true, decide_eq_true_eq] at h
 exact ⟨⟨h.2.1.2, fun i hi => by obtain ⟨h1, h2⟩ := insB_op (h.1 i hi); exact size_op h1 h2⟩, h.2.1.1⟩
theorem progB_body {p : PD} (h : progB p = true) {i : Nat} (hi : i < p.bods.length) : Rt (p.bods.getD i []) ∧ 1 ≤ (p.bods.getD i []).length := by
 simp only [progB, bodsB, Bool.and_eq_true, decide_eq_true_eq] at h
 exact bodyB_rt (h.2.1 i hi)
theorem progB_len {p : PD} (h : progB p = true) : 1 ≤ p.bods.length ∧ p.bods.length ≤ 4 ∧ p.caps.length ≤ 3 ∧ ∀ i, i < p.caps.length → 1 ≤ p.caps.getD i 0 ∧ p.caps.getD i 0 ≤ 4 := by
 simp only [progB, capsB, Plain.inB, Bool.and_eq_true, decide_eq_true_eq] at h
 refine ⟨by omega, by omega, h.2.2.1, h.1⟩
theorem stV_step {l : List I5} (h : Rt l) {i : Nat} (hi : i < l.length) : stV l i + 1 ≤ stV l (i + 1) ∧ stV l (i + 1) ≤ stV l i + 32 := by
 have := h.sz i hi
 simp only [stV]
 omega
theorem stV_bd {l : List I5} (h : Rt l) : ∀ i, i ≤ l.length → 0 ≤ stV l i ∧ stV l i ≤ 32 * i
 | 0, _ => by simp [stV]
 | i + 1, hi => by have := stV_bd h i (by omega); have := stV_step h (i := i) (by omega); omega
theorem stV_lt {l : List I5} (h : Rt l) {i : Nat} : ∀ j, i < j → j ≤ l.length → stV l i < stV l j
 | 0, h1, _ => absurd h1 (Nat.not_lt_zero _)
 | j + 1, h1, h2 => by
  have s := stV_step h (i := j) (by omega)
  rcases Nat.lt_or_ge i j with h3 | h3
  ·have := stV_lt h j h3 (by omega); omega
  ·have : i = j := by omega
   subst this
   omega
theorem stV_inj {l : List I5} (h : Rt l) {i j : Nat} (hi : i ≤ l.length) (hj : j ≤ l.length) (e : stV l i = stV l j) : i = j := by
 rcases Nat.lt_trichotomy i j with h1 | h1 | h1
 ·have := stV_lt h j h1 hj; omega
 ·exact h1
 ·have := stV_lt h i h1 hi; omega
theorem stV_big {l : List I5} (h : Rt l) {i : Nat} (hi : i ≤ l.length) : 0 ≤ stV l i ∧ stV l i ≤ 768 := by
 have := stV_bd h i hi
 have := h.len
 omega
theorem stV_wf {l : List I5} (h : Rt l) {i : Nat} (hi : i ≤ l.length) : (Lit.int .i64 (stV l i)).wf = true := by
 have := stV_big h hi
 exact WalkArith.wf_i64 (by omega)
theorem stL_len (l : List I5) (n : Nat) : (stL l n).length = n := by simp [stL]
theorem stL_at (l : List I5) {n i : Nat} (hi : i < n) : (stL l n).getD i 0 = stV l i := by simp [stL, List.getD_eq_getElem?_getD, hi]
theorem stL_succ (l : List I5) (n : Nat) : stL l (n + 1) = stL l n ++ [stV l n] := by simp [stL, List.range_succ]
/- the map of first steps -/
def mpD (l : List I5) : Nat → DataW Unit
 | 0 => .map []
 | n + 1 => (mpD l n).put (.int .i64 (stV l n)) (.lit (.int .i64 n))
theorem mpD_map (l : List I5) : ∀ n, IsMap (mpD l n)
 | 0 => isMap_empty
 | n + 1 => (mpD_map l n).put _ _
theorem isK (x : Int) : WideAt.IsKeyLit (Lit.int .i64 x) := trivial
theorem ne_key {x y : Int} (h : x ≠ y) : Lit.int .i64 x ≠ Lit.int .i64 y := fun e => h (by simpa using e)
theorem mpD_has {l : List I5} (x : Int) : ∀ n, Maps.has (mpD l n) (.int .i64 x) = true ↔ ∃ i, i < n ∧ stV l i = x
 | 0 => by simp [mpD, Maps.has]
 | n + 1 => by
  by_cases e : x = stV l n
  ·subst e
   rw [mpD, has_put_same (mpD_map l n) (isK _)]
   exact ⟨fun _ => ⟨n, Nat.lt_succ_self _, rfl⟩, fun _ => rfl⟩
  ·rw [mpD, has_put_other (ne_key e), mpD_has x n]
   constructor
   ·rintro ⟨i, hi, h⟩; exact ⟨i, by omega, h⟩
   ·rintro ⟨i, hi, h⟩
    refine ⟨i, ?_, h⟩
    have : i ≠ n := fun e' => e (by rw [← h, e'])
    omega
theorem mpD_at {l : List I5} (h : Rt l) {i : Nat} (z : DataW Unit) : ∀ n, i < n → n ≤ l.length → (mpD l n).atKey (.int .i64 (stV l i)) z = .lit (.int .i64 i)
 | 0, h1, _ => absurd h1 (Nat.not_lt_zero _)
 | n + 1, h1, h2 => by
  by_cases e : i = n
  ·subst e
   exact atKey_put_same (mpD_map l i) (isK _) _ _
  ·rw [mpD, atKey_put_other (ne_key fun e' => e (stV_inj h (by omega) (by omega) e'))]
   exact mpD_at h z n (by omega) (by omega)
theorem place_one {l : List I5} (h : Rt l) {at' : Int} {i j : Nat} (hi : i < l.length) (hj : j < l.length) (a1 : stV l i ≤ at') (a2 : at' < stV l (i + 1)) (b1 : stV l j ≤ at') (b2 : at' < stV l (j + 1)) : i = j := by
 rcases Nat.lt_trichotomy i j with h1 | h1 | h1
 ·rcases Nat.lt_or_ge (i + 1) j with h2 | h2
  ·have := stV_lt h j h2 (by omega); omega
  ·have : i + 1 = j := by omega
   rw [this] at a2; omega
 ·exact h1
 ·rcases Nat.lt_or_ge (j + 1) i with h2 | h2
  ·have := stV_lt h i h2 (by omega); omega
  ·have : j + 1 = i := by omega
   rw [this] at b2; omega
end
section
set_option linter.unusedSimpArgs false
set_option linter.unusedVariables false
set_option maxRecDepth 100000
open Go.RowKit
def jumpM (J : Nat → Act → World → Prop) (Q : Exit → Act → World → Prop) : Exit → Act → World → Prop
 | .goto l', a, w => J l' a w
 | e, a, w => Q e a w
theorem wp_scope_many {P : Program} {a : Act} {w : World} {Q : Exit → Act → World → Prop} {c : Code} (rest : Nat → Code) (J : Nat → Act → World → Prop) (μ : Nat → Act → World → Nat) (hf : ∀ l a w, J l a w → findLabel c l = some (rest l))
  (first : c.wp P (jumpM J Q) a w)
  (pass : ∀ l a w, J l a w → (rest l).wp P (jumpM (fun l' a' w' => J l' a' w' ∧ μ l' a' w' < μ l a w) Q) a w) : (Code.scope c).wp P Q a w := by
 intro b k cs
 have hg : ∀ l a w, J l a w → gotoIn l (.inScope c :: k) = some (.code (rest l) :: .inScope c :: k) := fun l a w h => by simp [gotoIn, hf l a w h]
 have key : ∀ n l a w, μ l a w = n → J l a w → ∃ e a' w', Q e a' w' ∧ Arrives P (lone (b.at a (.code (rest l) :: .inScope c :: k)) cs w) b k cs e a' w' := by
  intro n
  induction n using Nat.strongRecOn with
  | _ n ih =>
   intro l a w hn hJ
   obtain ⟨e, a₁, w₁, hq, harr⟩ := pass l a w hJ b (.inScope c :: k) cs
   cases e with
   | normal => exact ⟨.normal, a₁, w₁, hq, Steps.trans harr (.one step_inScope)⟩
   | exit id => exact ⟨.exit id, a₁, w₁, hq, fun k' hk => harr k' (by simp [exitTo, hk])⟩
   | goto l' =>
    obtain ⟨hJ', hlt⟩ := hq
    obtain ⟨e₂, a₂, w₂, hq₂, harr₂⟩ := ih _ (by omega) l' a₁ w₁ rfl hJ'
    exact ⟨e₂, a₂, w₂, hq₂, .of_steps (harr _ (hg l' a₁ w₁ hJ')) harr₂⟩
   | ret => exact ⟨_, a₁, w₁, hq, harr⟩
   | panic ch => exact ⟨_, a₁, w₁, hq, harr⟩
   | outgrown => exact ⟨_, a₁, w₁, hq, harr⟩
 obtain ⟨e, a₁, w₁, hq, harr⟩ := first b (.inScope c :: k) cs
 cases e with
 | normal => exact ⟨.normal, a₁, w₁, hq, .head step_scope (Steps.trans harr (.one step_inScope))⟩
 | exit id => exact ⟨.exit id, a₁, w₁, hq, fun k' hk => .head step_scope (harr k' (by simp [exitTo, hk]))⟩
 | goto l' =>
  have hJ' : J l' a₁ w₁ := hq
  obtain ⟨e₂, a₂, w₂, hq₂, harr₂⟩ := key _ l' a₁ w₁ rfl hJ'
  exact ⟨e₂, a₂, w₂, hq₂, .of_steps (.head step_scope (harr _ (hg l' a₁ w₁ hJ'))) harr₂⟩
 | ret => exact ⟨_, a₁, w₁, hq, .of_steps (.one step_scope) harr⟩
 | panic ch => exact ⟨_, a₁, w₁, hq, .of_steps (.one step_scope) harr⟩
 | outgrown => exact ⟨_, a₁, w₁, hq, .of_steps (.one step_scope) harr⟩
def jump2 (l0 l1 : Nat) (J0 J1 : Act → World → Prop) (Q : Exit → Act → World → Prop) : Exit → Act → World → Prop
 | .goto l', a, w => (l' = l0 ∧ J0 a w) ∨ (l' = l1 ∧ J1 a w)
 | e, a, w => Q e a w
theorem wp_post {P : Program} {a : Act} {w : World} {Q Q' : Exit → Act → World → Prop} {c : Code} (h : c.wp P Q a w) (hq : ∀ e a w, Q e a w → Q' e a w) : c.wp P Q' a w := by
 intro b k cs
 obtain ⟨e, a', w', h1, h2⟩ := h b k cs
 exact ⟨e, a', w', hq _ _ _ h1, h2⟩
theorem wp_scope_two {P : Program} {a : Act} {w : World} {Q : Exit → Act → World → Prop} {c rest0 rest1 : Code} (l0 l1 : Nat) (J0 J1 : Act → World → Prop) (μ0 μ1 : Act → World → Nat) (hf0 : findLabel c l0 = some rest0) (hf1 : findLabel c l1 = some rest1) (hne : l0 ≠ l1)
  (first : c.wp P (jump2 l0 l1 J0 J1 Q) a w)
  (pass0 : ∀ a w, J0 a w → rest0.wp P (jump2 l0 l1 (fun a' w' => J0 a' w' ∧ μ0 a' w' < μ0 a w) (fun a' w' => J1 a' w' ∧ μ1 a' w' < μ0 a w) Q) a w)
  (pass1 : ∀ a w, J1 a w → rest1.wp P (jump2 l0 l1 (fun a' w' => J0 a' w' ∧ μ0 a' w' < μ1 a w) (fun a' w' => J1 a' w' ∧ μ1 a' w' < μ1 a w) Q) a w) : (Code.scope c).wp P Q a w := by
 refine wp_scope_many (fun l => if l = l0 then rest0 else rest1) (fun l a w => (l = l0 ∧ J0 a w) ∨ (l = l1 ∧ J1 a w)) (fun l a w => if l = l0 then μ0 a w else μ1 a w) ?_ ?_ ?_
 ·rintro l a w (⟨rfl, -⟩ | ⟨rfl, -⟩)
  ·simp [hf0]
  ·simp [hf1, Ne.symm hne]
 ·refine wp_post first fun e a w h => ?_
  cases e <;> exact h
 ·rintro l a w (⟨rfl, hJ⟩ | ⟨rfl, hJ⟩)
  ·rw [if_pos rfl]
   refine wp_post (pass0 a w hJ) fun e a' w' h => ?_
   cases e with
   | goto l' =>
    rcases h with ⟨rfl, h⟩ | ⟨rfl, h⟩
    ·exact ⟨.inl ⟨rfl, h.1⟩, by simpa using h.2⟩
    ·exact ⟨.inr ⟨rfl, h.1⟩, by simpa [Ne.symm hne] using h.2⟩
   | _ => exact h
  ·rw [if_neg (Ne.symm hne)]
   refine wp_post (pass1 a w hJ) fun e a' w' h => ?_
   cases e with
   | goto l' =>
    rcases h with ⟨rfl, h⟩ | ⟨rfl, h⟩
    ·exact ⟨.inl ⟨rfl, h.1⟩, by simpa [Ne.symm hne] using h.2⟩
    ·exact ⟨.inr ⟨rfl, h.1⟩, by simpa [Ne.symm hne] using h.2⟩
   | _ => exact h
end
section
set_option linter.unusedSimpArgs false
set_option linter.unusedVariables false
set_option maxRecDepth 100000
open Go.RowKit Go.Maps
theorem lawI : Keyed Tryz.prog 3 := int_keyed Tryz.underlying3
theorem zeroI (w : World) : (zeroValue 3).run Tryz.prog w = .ok (.int .i64 0) w := by kernel_rfl
def OwnF (w : World) (b n : Nat) (D : DataW Unit) : Prop := w.ownsMap Tryz.prog 3 (plainElem Tryz.prog 3) b n D
theorem OwnF.keep {w w' : World} {b n : Nat} {D : DataW Unit} (h : OwnF w b n D) (hk : w'.heap[b]? = w.heap[b]?) : OwnF w' b n D := by
 obtain ⟨es, clock, h1, h2⟩ := h
 exact ⟨es, clock, hk.trans h1, h2⟩
theorem mkMap (n : Int) (w : World) : (Instr.makeMap 169 (some (.int .i64 n))).run Tryz.prog w = .ok (.map (some w.heap.size)) (w.alloc (.map #[] 0)) := by
 simp [Instr.makeMap, run_underlying Tryz.underlying169, asInt, asIntOf]
theorem keyOf_int_mk' {x y : Int} (e : y = x) (h : (Lit.int .i64 y).wf = true) : keyOf Tryz.prog 3 (.int .i64 x) = some (.int .i64 y) := by
 subst e
 exact keyOf_int_mk Tryz.underlying3 h
theorem insR_at {w : World} {lo hi : Nat} {s : Option Addr} {l : List I5} (h : InsR w lo hi s l) {i : Nat} (hi' : i < l.length) : ∃ g off, s = some ⟨g, off, none⟩ ∧ lo ≤ g ∧ g < hi ∧ ∀ j, j < l.length → At5 w g (off + j * 5) (l.getD j z5) := by
 rcases h with rfl | ⟨g, off, rfl, h1, h2, h3⟩
 ·exact absurd hi' (Nat.not_lt_zero _)
 ·exact ⟨g, off, rfl, h1, h2, h3⟩
set_option maxRecDepth 100000 in
set_option maxHeartbeats 4000000 in
theorem firstsOf_any (s : Option Addr) (c lo hi : Nat) (l : List I5) (w : World) (h : InsR w lo hi s l) (hB : hi ≤ w.heap.size) (hr : Rt l) :
  Calls Tryz.prog 114 #[.slice s l.length c] w fun e w' => e = .returned (.tuple #[.map (some w.heap.size), .int .i64 (stV l l.length)]) ∧ OwnF w' w.heap.size l.length (mpD l l.length) ∧ Below w.heap.size w w' := by
 have hmm := mkMap
 have HI := hidP h
 have HR := hidP hr
 have hl24 := hr.len
 clear h hr
 go_enter Tryz.func114, Tryz.ntmps114
 go_wp2
 refine wp_scope_two 0 1 (fun a' w' => OwnF w' w.heap.size l.length (mpD l l.length) ∧ Below w.heap.size w w' ∧ ∃ (u0 u1 u5 u7 u8 u9 u10 u11 u12 u13 u14 u15 u16 u17 u18 u19 u20 u21 u22 u23 u24 u25 u26 u27 : Value), a' = { tmps := #[u0, u1, .map none, .int .i64 0, .map (some w.heap.size), u5, .int .i64 (stV l l.length), u7, u8, u9, u10, u11, u12, u13, u14, u15, u16, u17, u18, u19, u20, u21, u22, u23, u24, u25, u26, u27], defers := [] })
  (fun a' w' => ∃ k : Nat, k ≤ l.length ∧ OwnF w' w.heap.size k (mpD l k) ∧ Below w.heap.size w w' ∧ ∃ (u1 u7 u8 u9 u10 u11 u12 u13 u14 u15 u16 u17 u18 u19 u20 u21 u22 u23 u24 u25 u26 u27 : Value), a' = { tmps := #[.slice s l.length c, u1, .map none, .int .i64 0, .map (some w.heap.size), .int .i64 k, .int .i64 (stV l k), u7, u8, u9, u10, u11, u12, u13, u14, u15, u16, u17, u18, u19, u20, u21, u22, u23, u24, u25, u26, u27], defers := [] })
  (fun _ _ => 0) (fun a' _ => l.length + 1 - (intOf (a'.tmps.getD 5 undef)).toNat) rfl rfl (by decide) ?_ ?_ ?_
 ·go_wp2
  go_step3
  have HF : Hid (OwnF (w.alloc (.map #[] 0)) w.heap.size 0 (mpD l 0)) := World.ownsMap_made _ _ _ _
  have HB : Hid (Below w.heap.size w (w.alloc (.map #[] 0))) := (Below.refl _ _).alloc (Nat.le_refl _) _
  have hzb : w.heap.size < (w.alloc (.map #[] 0)).heap.size := by simp
  have hk : 0 ≤ l.length := Nat.zero_le _
  generalize w.alloc (.map #[] 0) = w' at HF HB hzb ⊢
  by_cases hlt : 0 < l.length
  ·obtain ⟨g, off, hs, hlo, hg, hc⟩ := insR_at HI.out hlt
   subst hs
   have hc5 := hidP (hc 0 hlt)
   clear hc
   have hsz := HR.out.sz 0 hlt
   have hbd := stV_big HR.out hk
   have wfk := stV_wf HR.out hk
   have ST := hidP (show stV l (0 + 1) = stV l 0 + sizeV (l.getD 0 z5).o from rfl)
   generalize l.getD 0 z5 = x at hc5 hsz ST
   obtain ⟨xo, xr, xa, xb, xn⟩ := x
   have WK := hidP wfk
   clear wfk
   have HST : Hid (stV l 0 = 0) := rfl
   obtain ⟨sz, hsz0⟩ : ∃ sz, sizeV xo = sz := ⟨_, rfl⟩
   have HSZ := hidP hsz0
   have hsz1 : 1 ≤ sz ∧ sz ≤ 32 := by rw [← hsz0]; exact hsz
   clear hsz0 hsz
   have b0 : (0 : Int) ≤ (0 : Int) := by omega
   have b1 : (0 : Int) < (l.length : Int) := by omega
   have b2 : ((0 : Int) == (l.length : Int)) = false := by simp; omega
   go_wp2_with (first | (at_mapUpdate; refine wpList_mapUpdate_own _ rfl _ _ _ 169 rfl 3 3 lawI Tryz.underlying169 _ w.heap.size 0 _ rfl HF.out (by unfold maxLen; omega) _ _ (.int .i64 (stV l 0)) rfl rfl (keyOf_int_mk' (HST.out)  WK.out) (.lit (.int .i64 (0 : Nat))) [] (plainElem_int Tryz.underlying3 (WalkArith.wf_i64 (by omega))) ?_; intro w1 ho1 hg1; have HO1 : Hid (OwnF w1 w.heap.size (0 + 1) (mpD l (0 + 1))) := ho1; have HB1 := hidP (HB.out.grown hg1 HB.out.size (fun j hj => by cases hj; exact Nat.le_refl _)); have hz1 := hg1.size; clear ho1 hg1; obtain ⟨f0, f1, f2, f3, f4⟩ := hc5.out.keep HB1.out (by omega); simp only [Nat.zero_mul, Nat.add_zero] at f0 f1 f2 f3 f4) | (go_at_call 139; refine (implSize_any _ _ _ _ _ _).mono ?_; rintro e w2 ⟨rfl, hb2⟩; rw [HSZ.out]))
   go_step3
   have hz2 := hb2.size
   have HB2 := hidP (HB1.out.trans (hb2.mono (by omega)))
   have HO2 := hidP (OwnF.keep HO1.out (hb2.block w.heap.size (by omega)))
   clear hb2
   have e2 : sz = stV l (0 + 1) := by rw [ST.out, HST.out, HSZ.out]; omega
   rw [e2]
   exact .inr ⟨rfl, ⟨0 + 1, by omega, HO2.out, HB2.out, _, _, _, _, _, _, _, _, _, _, _, _, _, _, _, _, _, _, _, _, _, _, rfl⟩⟩
  ·have hkn : l.length = 0 := by omega
   have b2 : ((0 : Int) == (l.length : Int)) = true := by simp [hkn]
   go_wp2
   go_step3
   exact .inl ⟨rfl, ⟨by rw [hkn]; exact HF.out, HB.out, _, _, _, _, _, _, _, _, _, _, _, _, _, _, _, _, _, _, _, _, _, _, _, _, by rw [hkn]; rfl⟩⟩
 ·rintro a' w' ⟨hF, hb, u0, u1, u5, u7, u8, u9, u10, u11, u12, u13, u14, u15, u16, u17, u18, u19, u20, u21, u22, u23, u24, u25, u26, u27, rfl⟩
  go_wp2
  simp only [jump2]
  refine bodyPost_ret (v := .tuple #[.map (some w.heap.size), .int .i64 (stV l l.length)]) (by simp [results, Tryz.results114, go_sem]) rfl ?_
  exact ⟨rfl, hF, hb⟩
 ·rintro a' w' ⟨k, hk, hF, hb, u1, u7, u8, u9, u10, u11, u12, u13, u14, u15, u16, u17, u18, u19, u20, u21, u22, u23, u24, u25, u26, u27, rfl⟩
  have HF := hidP hF
  have HB := hidP hb
  have hzb : w.heap.size < w'.heap.size := by obtain ⟨es, clock, h1, h2⟩ := hF; exact (Array.getElem?_eq_some_iff.1 h1).1
  clear hF hb
  by_cases hlt : k < l.length
  ·obtain ⟨g, off, hs, hlo, hg, hc⟩ := insR_at HI.out hlt
   subst hs
   have hc5 := hidP (hc k hlt)
   clear hc
   have hsz := HR.out.sz k hlt
   have hbd := stV_big HR.out hk
   have wfk := stV_wf HR.out hk
   have ST := hidP (show stV l (k + 1) = stV l k + sizeV (l.getD k z5).o from rfl)
   generalize l.getD k z5 = x at hc5 hsz ST
   obtain ⟨xo, xr, xa, xb, xn⟩ := x
   have WK := hidP wfk
   clear wfk
   obtain ⟨st, hst⟩ : ∃ st, stV l k = st := ⟨_, rfl⟩
   have HST := hidP hst
   rw [hst] at hbd ⊢
   clear hst
   obtain ⟨sz, hsz0⟩ : ∃ sz, sizeV xo = sz := ⟨_, rfl⟩
   have HSZ := hidP hsz0
   have hsz1 : 1 ≤ sz ∧ sz ≤ 32 := by rw [← hsz0]; exact hsz
   clear hsz0 hsz
   have b0 : (0 : Int) ≤ (k : Int) := by omega
   have b1 : (k : Int) < (l.length : Int) := by omega
   have b2 : ((k : Int) == (l.length : Int)) = false := by simp; omega
   go_wp2_with (first | (at_mapUpdate; refine wpList_mapUpdate_own _ rfl _ _ _ 169 rfl 3 3 lawI Tryz.underlying169 _ w.heap.size k _ rfl HF.out (by unfold maxLen; omega) _ _ (.int .i64 (stV l k)) rfl rfl (keyOf_int_mk' (HST.out)  WK.out) (.lit (.int .i64 (k : Nat))) [] (plainElem_int Tryz.underlying3 (WalkArith.wf_i64 (by omega))) ?_; intro w1 ho1 hg1; have HO1 : Hid (OwnF w1 w.heap.size (k + 1) (mpD l (k + 1))) := ho1; have HB1 := hidP (HB.out.grown hg1 HB.out.size (fun j hj => by cases hj; exact Nat.le_refl _)); have hz1 := hg1.size; clear ho1 hg1; obtain ⟨f0, f1, f2, f3, f4⟩ := hc5.out.keep HB1.out (by omega)) | (go_at_call 139; refine (implSize_any _ _ _ _ _ _).mono ?_; rintro e w2 ⟨rfl, hb2⟩; rw [HSZ.out]))
   go_step3
   have hz2 := hb2.size
   have HB2 := hidP (HB1.out.trans (hb2.mono (by omega)))
   have HO2 := hidP (OwnF.keep HO1.out (hb2.block w.heap.size (by omega)))
   clear hb2
   have e3 : ((k : Int) + 1) = ((k + 1 : Nat) : Int) := by omega
   have e2 : st + sz = stV l (k + 1) := by rw [ST.out, HST.out, HSZ.out]
   rw [e2, e3]
   exact .inr ⟨rfl, ⟨k + 1, by omega, HO2.out, HB2.out, _, _, _, _, _, _, _, _, _, _, _, _, _, _, _, _, _, _, _, _, _, _, rfl⟩, by simp [intOf]; omega⟩
  ·have hkn : l.length = k := by omega
   subst hkn
   have b2 : (((l.length : Nat) : Int) == (l.length : Int)) = true := by simp
   go_wp2
   go_step3
   exact .inl ⟨rfl, ⟨HF.out, HB.out, _, _, _, _, _, _, _, _, _, _, _, _, _, _, _, _, _, _, _, _, _, _, _, _, rfl⟩, by simp [intOf]⟩
end
section
set_option linter.unusedSimpArgs false
set_option linter.unusedVariables false
set_option maxRecDepth 100000
open Go.RowKit
def bodV (p : PD) (b : Int) : List I5 := if progB p = true ∧ 0 ≤ b ∧ b < p.bods.length then p.bods.getD b.toNat [] else []
theorem bodV_rt (p : PD) (b : Int) : Rt (bodV p b) := by
 unfold bodV
 split
 ·rename_i h
  exact (progB_body h.1 (by omega)).1
 ·exact rt_nil
theorem bodV_no {p : PD} {b : Int} (h : ¬ (progB p = true ∧ 0 ≤ b ∧ b < p.bods.length)) : bodV p b = [] := by unfold bodV; rw [if_neg h]
theorem bodV_yes {p : PD} {b : Int} (h : progB p = true) (h0 : 0 ≤ b) (h1 : b < p.bods.length) : bodV p b = p.bods.getD b.toNat [] := by unfold bodV; rw [if_pos ⟨h, h0, h1⟩]
theorem bods_at {w : World} {lo hi : Nat} {s' : Option Addr} {l : List (List I5)} (h : BodsR w lo hi s' l) {i : Nat} (hi' : i < l.length) : ∃ g off, s' = some ⟨g, off, none⟩ ∧ g < hi ∧ BodR w lo hi g (off + i) (l.getD i []) := by
 rcases h with rfl | ⟨g, off, rfl, _, hg, hc⟩
 ·exact absurd hi' (Nat.not_lt_zero _)
 ·exact ⟨g, off, rfl, hg, hc i hi'⟩
theorem oneOf_is11 (n c : Int) (v : Bool) (w : World) (h : Plain.oneB n c = v) : Calls Tryz.prog 83 #[.int .i64 n, .int .i64 c] w fun e w' => e = .returned (.bool v) ∧ w' = w := by
 subst h
 exact isOneOf_any n c w
set_option maxRecDepth 100000 in
set_option maxHeartbeats 2000000 in
theorem bodyOf_any (s s' : Option Addr) (c c' lo hi : Nat) (p : PD) (b : Int) (w : World) (h : ProgR w lo hi s s' p) (hB : hi ≤ w.heap.size) (hf : Fits p) :
  Calls Tryz.prog 115 #[.agg #[.slice s p.caps.length c, .slice s' p.bods.length c'], .int .i64 b] w fun e w' => (∃ s1 c1, e = .returned (.slice s1 (bodV p b).length c1) ∧ InsR w' lo hi s1 (bodV p b)) ∧ Below w.heap.size w w' := by
 have HP := hidP h
 have HF := hidP hf
 have hfn := hf.2.1
 clear h hf
 obtain ⟨W, hW, bx, kb, zb⟩ := Bo2.new w (.slice s p.caps.length c) (.slice s' p.bods.length c') 44
 have HB2 := hidP bx
 have HK := hidP kb
 obtain ⟨x0, x1⟩ := bx
 clear kb
 go_enter Tryz.func115, Tryz.ntmps115
 go_wp2_with fail
 refine (implProg_any s s' c c' lo hi p W (ProgR.keep' HP.out (Keep.of_below HK.out hB)) (by omega) HF.out).mono ?_
 rintro e w1 ⟨rfl, hb1⟩
 have K1 := hidP (HK.out.trans (hb1.mono (by omega)))
 clear x0 x1
 obtain ⟨x0, x1⟩ := HB2.out.keep (Keep.of_below hb1 (by omega))
 have hz1 := hb1.size
 clear hb1
 cases hp : progB p
 ·have E := hidP (bodV_no (p := p) (b := b) (fun h => by rw [hp] at h; cases h.1))
  clear hp
  go_wp2
  go_ret
  exact ⟨⟨none, 0, by rw [E.out]; rfl, by rw [E.out]; exact .inl rfl⟩, K1.out⟩
 ·have E := hidP hp
  clear hp
  cases hq : Plain.oneB b p.bods.length
  ·have E2 := hidP (bodV_no (p := p) (b := b) (fun h => by simp only [Plain.oneB, decide_eq_false_iff_not] at hq; exact hq h.2))
   have HQ := hidP hq
   clear hq
   go_wp2_with (go_at_call 83; refine (oneOf_is11 _ _ false _ HQ.out).mono ?_; rintro e w2 ⟨rfl, rfl⟩)
   go_ret
   exact ⟨⟨none, 0, by rw [E2.out]; rfl, by rw [E2.out]; exact .inl rfl⟩, K1.out⟩
  ·have HQ := hidP hq
   simp only [Plain.oneB, decide_eq_true_eq] at hq
   obtain ⟨q0, q1⟩ := hq
   obtain ⟨j, rfl⟩ : ∃ j : Nat, b = j := ⟨b.toNat, by omega⟩
   have E2 := hidP (bodV_yes E.out q0 q1)
   obtain ⟨g, off, rfl, hg, s1, c1, hcell, hin⟩ := bods_at ((ProgR.keep' HP.out (Keep.of_below K1.out hB)).2) (i := j) (by omega)
   have HIN := hidP hin
   clear hin
   go_wp2_with (go_at_call 83; refine (oneOf_is11 _ _ true _ HQ.out).mono ?_; rintro e w2 ⟨rfl, rfl⟩)
   go_ret
   refine ⟨⟨s1, c1, by rw [E2.out]; rfl, by rw [E2.out]; exact HIN.out⟩, K1.out⟩
end
section
set_option linter.unusedSimpArgs false
set_option linter.unusedVariables false
set_option maxRecDepth 100000
open Go.RowKit Go.Maps
def placeV (l : List I5) (q : Int) : Int × Bool := match (List.range l.length).find? (fun i => decide (stV l i ≤ q ∧ q < stV l (i + 1))) with
 | some i => ((i : Int), decide (stV l i = q))
 | none => (-1, false)
theorem placeV_at {l : List I5} (h : Rt l) {q : Int} {i : Nat} (hi : i < l.length) (a1 : stV l i ≤ q) (a2 : q < stV l (i + 1)) : placeV l q = ((i : Int), decide (stV l i = q)) := by
 unfold placeV
 have : (List.range l.length).find? (fun i => decide (stV l i ≤ q ∧ q < stV l (i + 1))) = some i := by
  cases hf : (List.range l.length).find? (fun i => decide (stV l i ≤ q ∧ q < stV l (i + 1))) with
  | none =>
   have := List.find?_eq_none.1 hf i (List.mem_range.2 hi)
   exact absurd (decide_eq_true ⟨a1, a2⟩) this
  | some j =>
   have h1 := List.find?_some hf
   have h2 := List.mem_range.1 (List.mem_of_find?_eq_some hf)
   simp only [decide_eq_true_eq] at h1
   rw [place_one h hi h2 a1 a2 h1.1 h1.2]
 rw [this]
theorem placeV_no {l : List I5} (h : Rt l) {q : Int} (hq : ¬ (0 ≤ q ∧ q < stV l l.length)) : placeV l q = (-1, false) := by
 unfold placeV
 have : (List.range l.length).find? (fun i => decide (stV l i ≤ q ∧ q < stV l (i + 1))) = none := by
  refine List.find?_eq_none.2 fun i hi => ?_
  have hi' := List.mem_range.1 hi
  simp only [decide_eq_true_eq]
  rintro ⟨h1, h2⟩
  have b := stV_bd h i (by omega)
  refine hq ⟨by omega, ?_⟩
  rcases Nat.lt_or_ge (i + 1) l.length with h3 | h3
  ·have := stV_lt h l.length h3 (Nat.le_refl _); omega
  ·have : i + 1 = l.length := by omega
   rw [← this]; exact h2
 rw [this]
structure PlI (l : List I5) (q : Int) (left : Lit → Bool) (own : Int) : Prop where
 at' : ∃ i, i < l.length ∧ own = stV l i ∧ own ≤ q
 top : ∀ j, j < l.length → stV l j ≤ q → left (.int .i64 (stV l j)) = false → stV l j ≤ own
theorem PlI.start {l : List I5} {q : Int} (hl : 0 < l.length) (hq : 0 ≤ q) : PlI l q (Maps.has (mpD l l.length)) 0 :=
 ⟨⟨0, hl, rfl, hq⟩, fun j hj _ h => by rw [(mpD_has _ _).2 ⟨j, hj, rfl⟩] at h; cases h⟩
theorem PlI.low {l : List I5} {q own x : Int} {left : Lit → Bool} (h : PlI l q left own) (hx : ∃ i, i < l.length ∧ stV l i = x) (hq : x ≤ q) (m : Int) (hm : m = if own < x then x else own) : PlI l q (fun z => left z && !z.sameKey (.int .i64 x)) m := by
 obtain ⟨⟨i, hi, e, ho⟩, ht⟩ := h
 obtain ⟨j, hj, ej⟩ := hx
 refine ⟨?_, fun k hk hkq hl => ?_⟩
 ·by_cases hlt : own < x
  ·rw [if_pos hlt] at hm; exact ⟨j, hj, by rw [hm, ej], by omega⟩
  ·rw [if_neg hlt] at hm; exact ⟨i, hi, by rw [hm, e], by omega⟩
 ·have hm2 : own ≤ m ∧ x ≤ m := by rw [hm]; split <;> omega
  by_cases e2 : stV l k = x
  ·omega
  ·have : left (.int .i64 (stV l k)) = false := by
    have := hl
    simp only [Lit.sameKey] at this
    simpa [e2] using this
   have := ht k hk hkq this
   omega
theorem PlI.high {l : List I5} {q own x : Int} {left : Lit → Bool} (h : PlI l q left own) (hq : ¬ x ≤ q) : PlI l q (fun z => left z && !z.sameKey (.int .i64 x)) own := by
 refine ⟨h.at', fun k hk hkq hl => h.top k hk hkq ?_⟩
 have e2 : stV l k ≠ x := by omega
 have := hl
 simp only [Lit.sameKey] at this
 simpa [e2] using this
theorem PlI.stop {l : List I5} {q own : Int} {left : Lit → Bool} (h : PlI l q left own) (hl : ∀ z, left z = false) (hr : Rt l) (hq : q < stV l l.length) : ∃ i, i < l.length ∧ own = stV l i ∧ stV l i ≤ q ∧ q < stV l (i + 1) := by
 obtain ⟨i, hi, e, ho⟩ := h.at'
 refine ⟨i, hi, e, by omega, ?_⟩
 rcases Nat.lt_or_ge (i + 1) l.length with h3 | h3
 ·rcases Int.lt_or_le q (stV l (i + 1)) with h4 | h4
  ·exact h4
  ·have := h.top (i + 1) h3 h4 (hl _)
   have := stV_lt hr (i + 1) (Nat.lt_succ_self i) (by omega)
   omega
 ·have : i + 1 = l.length := by omega
  rw [this]; exact hq
set_option maxRecDepth 100000 in
set_option maxHeartbeats 4000000 in
theorem implPlace_any (s s' : Option Addr) (c c' lo hi : Nat) (p : PD) (b q : Int) (w : World) (h : ProgR w lo hi s s' p) (hB : hi ≤ w.heap.size) (hf : Fits p) :
  Calls Tryz.prog 84 #[.agg #[.slice s p.caps.length c, .slice s' p.bods.length c'], .int .i64 b, .int .i64 q] w fun e w' => e = .returned (.tuple #[.int .i64 (placeV (bodV p b) q).1, .bool (placeV (bodV p b) q).2]) ∧ Below w.heap.size w w' := by
 have HP := hidP h
 have HF := hidP hf
 obtain ⟨l, hl⟩ : ∃ l, bodV p b = l := ⟨_, rfl⟩
 have HR := hidP (hl ▸ bodV_rt p b)
 have HL := hidP hl
 rw [hl]
 clear h hf hl
 obtain ⟨W, hW, bx, kb, zb⟩ := Bo2.new w (.slice s p.caps.length c) (.slice s' p.bods.length c') 44
 have HB2 := hidP bx
 have HK := hidP kb
 obtain ⟨x0, x1⟩ := bx
 clear kb
 go_enter Tryz.func84, Tryz.ntmps84
 go_wp2_with fail
 refine (bodyOf_any s s' c c' lo hi p b W (ProgR.keep' HP.out (Keep.of_below HK.out hB)) (by omega) HF.out).mono ?_
 rintro e w1 ⟨⟨s1, c1, rfl, hin⟩, hb1⟩
 rw [HL.out] at hin ⊢
 have K1 := hidP (HK.out.trans (hb1.mono (by omega)))
 have HI := hidP hin
 have hz1 := hb1.size
 clear hb1 hin x0 x1 HB2
 go_wp2_with fail
 refine (firstsOf_any s1 c1 lo hi l w1 HI.out (by omega) HR.out).mono ?_
 rintro e w2 ⟨rfl, ho2, hb2⟩
 have K2 := hidP (K1.out.trans (hb2.mono (by omega)))
 have HO := hidP ho2
 have hz2 : w1.heap.size < w2.heap.size := by obtain ⟨es, clock, h1, h2⟩ := ho2; exact (Array.getElem?_eq_some_iff.1 h1).1
 clear hb2 ho2 HI
 cases hq : Plain.oneB q (stV l l.length)
 ·have E := hidP (placeV_no HR.out (q := q) (fun h => by simp only [Plain.oneB, decide_eq_false_iff_not] at hq; exact hq h))
  have HQ := hidP hq
  clear hq
  go_wp2_with (go_at_call 83; refine (oneOf_is11 _ _ false _ HQ.out).mono ?_; rintro e w3 ⟨rfl, h3⟩; rw [h3]; clear h3 w3)
  refine bodyPost_ret (v := .tuple #[.int .i64 (-1), .bool false]) (by simp [results, Tryz.results84, go_sem]) rfl ?_
  exact ⟨by rw [E.out], K2.out⟩
 ·have HQ := hidP hq
  simp only [Plain.oneB, decide_eq_true_eq] at hq
  obtain ⟨q0, q1⟩ := hq
  have Q1 := hidP q1
  have hl0 : 0 < l.length := by
   rcases Nat.eq_zero_or_pos l.length with e | e
   ·rw [e] at q1; simp [stV] at q1; omega
   ·exact e
  clear q1
  go_wp2_with (first | (go_at_call 83; refine (oneOf_is11 _ _ true _ HQ.out).mono ?_; rintro e w3 ⟨rfl, h3⟩; rw [h3]; clear h3 w3) | (at_range; refine wpList_range_own _ rfl _ 169 rfl 3 3 lawI Tryz.underlying169 _ w1.heap.size l.length _ rfl HO.out ?_; intro w3 hrg0 hg0 hs0) | go_in)
  go_frame
  go_loopw [10] (fun v wr => ∃ (own : Int) (left : Lit → Bool) (cnt : Nat), v = .int .i64 own ∧ wr.ranges Tryz.prog 3 (plainElem Tryz.prog 3) w1.heap.size w2.heap.size l.length (mpD l l.length) left cnt ∧ PlI l q left own ∧ Below w.heap.size w wr)
   (fun _ wr => wr.rangeLeft w1.heap.size w2.heap.size)
  case atStart => exact ⟨0, _, _, rfl, hrg0, PlI.start hl0 q0, K2.out.grown hg0 (by omega) (fun j hj => by cases hj)⟩
  case round =>
   obtain ⟨own, left, cnt, rfl, hrg, hpl, hnx⟩ := hrel
   go_wp2_with (first
    | (at_next; refine wpList_next_ranges_ii _ rfl _ rfl 3 3 .i64 .i64 lawI Tryz.underlying3 Tryz.underlying3 w1.heap.size w2.heap.size l.length _ _ _ rfl hrg ?_ ?_)
    | go_in)
   ·intro hc0 hl1
    obtain ⟨i, hi, ei, i1, i2⟩ := hpl.stop hl1 HR.out Q1.out
    have EP := hidP (placeV_at HR.out hi i1 i2)
    have EI := hidP ei
    have HOW : Hid (OwnF wr w1.heap.size l.length (mpD l l.length)) := hrg.owns
    have KB := hidP hnx
    clear hpl hrg hnx ei hc0 hl1
    go_wp2_with (first | (at_lookup; refine wpList_lookup_own_int _ rfl _ _ 169 rfl 3 3 .i64 lawI Tryz.underlying169 Tryz.underlying3 (zeroI _) w1.heap.size l.length _ rfl HOW.out _ (.int .i64 (stV l i)) rfl (keyOf_int_mk' EI.out.symm (stV_wf HR.out (by omega))) ?_; intro ci hci hwc) | go_in)
    have e1 : ci = i := by rw [mpD_at HR.out _ l.length hi (Nat.le_refl _)] at hci; simpa using hci.symm
    refine bodyPost_ret (v := .tuple #[.int .i64 ci, .bool (own == q)]) (by simp [results, Tryz.results84, go_sem]) rfl ?_
    refine ⟨?_, KB.out⟩
    rw [EP.out, e1, EI.out]
    rfl
   ·intro x cx w4 cnt4 hwx hwc hlx hat hrg4 hlt4 hg4 hs4 hen
    have hx : ∃ i, i < l.length ∧ stV l i = x := (mpD_has x _).1 (has_true_of_atKey hat)
    have KB := hidP (hnx.grown hg4 hnx.size (fun j hj => by cases hj; omega))
    by_cases hxq : x ≤ q
    ·go_wp2
     exact ⟨⟨_, _, cnt4, rfl, hrg4, hpl.low hx hxq _ rfl, KB.out⟩, by rw [hrg4.left_eq, hrg.left_eq]; exact hlt4⟩
    ·go_wp2
     go_roundw
     case rel => exact ⟨own, _, cnt4, rfl, hrg4, hpl.high hxq, KB.out⟩
     case measure => rw [hrg4.left_eq, hrg.left_eq]; exact hlt4
end
end Go.Proofs.YtcfehbfjillnoaaGreat
