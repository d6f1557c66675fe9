/- CodeOk of the program, at every list of at most 1048576 steps. Compile of the program. Conditions: programs that fit. -/
import Derived.Test.YtehjbpjjegajjaaGreatJG00
import Derived.Test.YtehjbpjjegajjaaGreatJSpecIns
import Derived.Test.YtehjbpjjegajjaaGreatJG01
import Derived.Test.YtehjbpjjegajjaaGreatJG06
import Derived.Test.YtehjbpjjegajjaaGreatJG10
import Derived.Test.YtehjbpjjegajjaaGreatJG11
import Derived.Test.YtehjbpjjegajjaaGreatJG05
import Derived.Test.YtehjbpjjegajjaaGreatJProgOk
import Derived.Test.YtehjbpjjegajjaaGreatJG15
import Derived.Test.YtehjbpjjegajjaaGreatJG02
import Derived.Test.YtehjbpjjegajjaaGreatJG07
import Derived.Test.YtehjbpjjegajjaaGreatJG12
import Derived.Test.YtehjbpjjegajjaaGreatJG16
import Derived.Test.YtehjbpjjegajjaaGreatJStepOwn
namespace Go.Proofs.YtehjbpjjegajjaaGreat
section
set_option linter.unusedSimpArgs false
set_option linter.unusedVariables false
set_option maxRecDepth 100000
open Go.RowKit
theorem endsCode_any (o r a b n : Int) (w : World) : Calls Tryz.prog 88 #[.agg #[.int .i64 o, .int .i64 r, .int .i64 a, .int .i64 b, .int .i64 n]] w fun e w' => e = .returned (.bool (Plain.endB o)) ∧ Below w.heap.size w w' := by
 by_cases h1 : o = 10
 ·subst h1
  go_enter Tryz.func88, Tryz.ntmps88
  go_wp2
  go_ret
  exact ⟨rfl, (Below.refl _ _).alloc (Nat.le_refl _) _⟩
 have h2 : (o == 10) = false := by simp [h1]
 by_cases h3 : o = 12
 ·subst h3
  go_enter Tryz.func88, Tryz.ntmps88
  go_wp2
  go_ret
  exact ⟨rfl, (Below.refl _ _).alloc (Nat.le_refl _) _⟩
 have h4 : (o == 12) = false := by simp [h3]
 go_enter Tryz.func88, Tryz.ntmps88
 go_wp2
 go_ret
 exact ⟨ret_bool (by rw [Bool.eq_iff_iff]; simp [Plain.endB, h1, h3]), (Below.refl _ _).alloc (Nat.le_refl _) _⟩
set_option maxRecDepth 100000 in
set_option maxHeartbeats 1000000 in
theorem implCode_some (g off c B : Nat) (l : List I5) (w : World) (hg : g < B) (hc : ∀ i, i < l.length → At5 w g (off + i * 5) (l.getD i z5)) (hB : B ≤ w.heap.size) (hl1 : 1 ≤ l.length) (hl : l.length ≤ 800) :
  Calls Tryz.prog 50 #[.slice (some ⟨g, off, none⟩) l.length c] w fun e w' => e = .returned (.bool (codeB l)) ∧ Below w.heap.size w w' := by
 have HC : Hid (∀ i, i < l.length → At5 w g (off + i * 5) (l.getD i z5)) := hc
 clear hc
 have q1 : ¬ (l.length : Int) < 1 := by omega
 have q2 : ¬ 800 < (l.length : Int) := by omega
 go_enter Tryz.func50, Tryz.ntmps50
 go_wp2
 go_loopw [15] (fun i wr => ∃ k : Nat, k ≤ l.length ∧ i = .int .i64 k ∧ Below w.heap.size w wr ∧ (∀ i, i < k → stX (l.getD i z5) l.length = true)) (fun i _ => l.length - (intOf i).toNat)
 case atStart => exact ⟨0, Nat.zero_le _, rfl, Below.refl _ _, fun i hi => absurd hi (Nat.not_lt_zero _)⟩
 case round =>
  obtain ⟨k, hk, rfl, hb, hd⟩ := hrel
  have HB : Hid (Below w.heap.size w wr) := hb
  have HD : Hid (∀ i, i < k → stX (l.getD i z5) l.length = true) := hd
  clear hb hd
  by_cases hlt : k < l.length
  ·obtain ⟨f0, f1, f2, f3, f4⟩ := (HC.out k hlt).keep HB.out (by omega)
   cases hv : stX (l.getD k z5) l.length
   ·have F : Hid (codeB l = false) := code_no hlt hv
    generalize l.getD k z5 = x at f0 f1 f2 f3 f4 hv
    obtain ⟨xo, xr, xa, xb, xn⟩ := x
    have V : Hid (Plain.stepB xo xr xa xb xn l.length = false) := hv
    clear hv
    have b0 : (0 : Int) ≤ (k : Int) := by omega
    have b1 : (k : Int) < (l.length : Int) := by omega
    go_wp2_with fail
    refine (stepOk_any _ _ _ _ _ _ _).mono ?_
    rintro e w1 ⟨rfl, hb1⟩
    rw [V.out]
    have hs1 := HB.out.size
    go_wp2
    go_ret
    exact ⟨by rw [F.out]; rfl, (HB.out.alloc hs1 _).trans (hb1.mono (by simp; omega))⟩
   ·have HV : Hid (stX (l.getD k z5) l.length = true) := hv
    generalize l.getD k z5 = x at f0 f1 f2 f3 f4 hv
    obtain ⟨xo, xr, xa, xb, xn⟩ := x
    have V : Hid (Plain.stepB xo xr xa xb xn l.length = true) := hv
    clear hv
    have b0 : (0 : Int) ≤ (k : Int) := by omega
    have b1 : (k : Int) < (l.length : Int) := by omega
    go_wp2_with fail
    refine (stepOk_any _ _ _ _ _ _ _).mono ?_
    rintro e w1 ⟨rfl, hb1⟩
    rw [V.out]
    have hs1 := HB.out.size
    have HB1 : Hid (Below w.heap.size w w1) := (HB.out.alloc hs1 _).trans (hb1.mono (by simp; omega))
    clear hb1
    go_wp2
    go_roundw
    case rel =>
     refine ⟨k + 1, by omega, by go_num, HB1.out, ?_⟩
     intro i hi
     by_cases e : i = k
     ·subst e; exact HV.out
     ·exact HD.out i (by omega)
    case measure => simp [intOf]; omega
  ·have : k = l.length := by omega
   subst this
   have F : Hid (codeB l = lastBx47 l) := by
    show _ = _
    rw [code_all HD.out, decide_eq_true ⟨hl1, hl⟩]
    simp
   obtain ⟨f0, f1, f2, f3, f4⟩ := (HC.out (l.length - 1) (by omega)).keep HB.out (by omega)
   generalize hx : l.getD (l.length - 1) z5 = x at f0 f1 f2 f3 f4
   have FX : Hid (lastBx47 l = Plain.endB x.o) := by show _ = _; unfold lastBx47; rw [hx]
   clear hx
   obtain ⟨xo, xr, xa, xb, xn⟩ := x
   have b0 : (1 : Int) ≤ (l.length : Int) := by omega
   have b1 : (l.length : Int) - 1 < (l.length : Int) := by omega
   go_wp2_with fail
   refine (endsCode_any _ _ _ _ _ _).mono ?_
   rintro e w1 ⟨rfl, hb1⟩
   have hs1 := HB.out.size
   go_wp2
   go_ret
   exact ⟨ret_bool (by rw [F.out, FX.out]), HB.out.trans (hb1.mono hs1)⟩
theorem implCode_bad (s : Option Addr) (n c : Nat) (w : World) (hn : n ≤ 1048576) (h : n < 1 ∨ 800 < n) :
  Calls Tryz.prog 50 #[.slice s n c] w fun e w' => e = .returned (.bool false) ∧ w' = w := by
 by_cases h2 : n < 1
 ·have q1 : (n : Int) < 1 := by omega
  clear h h2
  go_enter Tryz.func50, Tryz.ntmps50
  go_wp2
  go_ret
  exact ⟨rfl, rfl⟩
 ·have q1 : ¬ (n : Int) < 1 := by omega
  have q2 : 800 < (n : Int) := by omega
  clear h h2
  go_enter Tryz.func50, Tryz.ntmps50
  go_wp2
  go_ret
  exact ⟨rfl, rfl⟩
theorem implCode_any (s : Option Addr) (c B : Nat) (l : List I5) (w : World) (h : InsB w B s l) (hB : B ≤ w.heap.size) (hl : l.length ≤ 1048576) :
  Calls Tryz.prog 50 #[.slice s l.length c] w fun e w' => e = .returned (.bool (codeB l)) ∧ Below w.heap.size w w' := by
 by_cases hd : 1 ≤ l.length ∧ l.length ≤ 800
 ·obtain ⟨h2, h3⟩ := hd
  rcases h with rfl | ⟨g, off, rfl, hg, hc⟩
  ·simp at h2
  ·exact implCode_some g off c B l w hg hc hB h2 h3
 ·have F : codeB l = false := by
   refine code_short ?_
   simp [Plain.inB]
   omega
  rw [F]
  refine (implCode_bad s l.length c w hl (by omega)).mono ?_
  rintro e w' ⟨rfl, rfl⟩
  exact ⟨rfl, Below.refl _ _⟩
end
section
set_option linter.unusedSimpArgs false
set_option linter.unusedVariables false
set_option maxRecDepth 100000
open Go.RowKit
def cdAt (p : PD) (k : Nat) : List I5 := cdM p.caps (p.bods.getD k []) (p.bods.getD k []).length
def cdL (p : PD) (n : Nat) : List (List I5) := (List.range n).map (cdAt p)
theorem cdL_len (p : PD) (n : Nat) : (cdL p n).length = n := by simp [cdL]
theorem cdL_succ (p : PD) (n : Nat) : cdL p (n + 1) = cdL p n ++ [cdAt p n] := by simp [cdL, List.range_succ]
theorem cdL_at (p : PD) {n i : Nat} (h : i < n) : (cdL p n).getD i [] = cdAt p i := by simp [cdL, List.getD_eq_getElem?_getD, h]
def cpM (p : PD) : List (List I5) × Bool := if progB p = true ∧ ∀ i, i < p.bods.length → codeB (cdAt p i) = true then (cdL p p.bods.length, true) else ([], false)
theorem cpM_yes {p : PD} (h : progB p = true) (h2 : ∀ i, i < p.bods.length → codeB (cdAt p i) = true) : cpM p = (cdL p p.bods.length, true) := by unfold cpM; rw [if_pos ⟨h, h2⟩]
theorem cpM_no {p : PD} {k : Nat} (hk : k < p.bods.length) (h : codeB (cdAt p k) = false) : cpM p = ([], false) := by
 unfold cpM
 rw [if_neg (fun h2 => by rw [h2.2 k hk] at h; cases h)]
theorem cpM_none {p : PD} (h : progB p = false) : cpM p = ([], false) := by
 unfold cpM
 rw [if_neg (fun h2 => by rw [h2.1] at h; cases h)]
def lenOf : Value → Nat
 | .slice _ n _ => n
 | _ => 0
theorem own5_six {w : World} {base : Nat} {v : Value} {l : List I5} (h : OwnT5 w base v l) : OwnP6 w base v l := by
 show w.ownsRow base 97 5 v l.length (flatP l)
 rw [← flat_fl]
 exact h
theorem own_hu {w : World} {base : Nat} {e : TypeId} {size n : Nat} {v : Value} {xs : List Value} (h : w.ownsRow base e size v n xs) : v.ownBlock = none ∨ ∃ k, v.ownBlock = some k ∧ base ≤ k := by
 rcases hob : v.ownBlock with _ | kk
 ·exact .inl rfl
 ·exact .inr ⟨kk, rfl, (World.ownsRow.lt h _ hob).1⟩
theorem ok_step {p : PD} {k : Nat} (h : ∀ i, i < k → codeB (cdAt p i) = true) (h2 : codeB (cdAt p k) = true) : ∀ i, i < k + 1 → codeB (cdAt p i) = true := fun i hi => by
 by_cases e : i = k
 ·subst e; exact h2
 ·exact h i (by omega)
theorem own_last {w : World} {base g cap k : Nat} {e : TypeId} {xs : List Value} {u : Value} (h : w.ownsRow base e 1 (.slice (some ⟨g, 0, none⟩) (k + 1) cap) (k + 1) (xs ++ [u])) (hx : xs.length = k) : w.cell? ⟨g, k, none⟩ = some u := by
 have := World.ownsRow.cells h (g := g) rfl k u (by rw [List.getElem?_append_right (by omega)]; simp [hx])
 have e : (Addr.add ⟨g, 0, none⟩ k) = ⟨g, k, none⟩ := by by_cases h : k = 0 <;> simp [Addr.add, h]
 rw [e] at this
 exact this
theorem wp6 {o : Oper} {a : Act} {K : Act → World → Prop} {Q : Exit → Act → World → Prop} (s x : Operand) (ho : o.op = .call { callee := .builtin .append, args := #[s, x], argTypes := #[27, 27] })
  (w : World) (base : Nat) (v : Value) (xs : List Value) (n : Nat) (hs : a.eval s = v) (hown : w.ownsRow base 69 1 v n xs) (g0 c : Nat) (u : Value) (hu : u.oneCell' = true) (hx : a.eval x = .slice (some ⟨g0, 0, none⟩) 1 c) (hc : w.cell? ⟨g0, 0, none⟩ = some u) (hn : n ≤ 1000) (hbase : base ≤ w.heap.size)
  (h : ∀ g cap w', w'.ownsRow base 69 1 (.slice (some ⟨g, 0, none⟩) (n + 1) cap) (n + 1) (xs ++ [u]) → w.grownBy w' v.ownBlock → (v.ownBlock = some g ∨ g = w.heap.size) → g < w'.heap.size → K (a.put o.dst (.slice (some ⟨g, 0, none⟩) (n + 1) cap)) w') : Oper.wp Tryz.prog o a w K Q := by
 obtain ⟨i0, hi0, hz0, hz1, hz2⟩ := infoB6
 refine wp_append_lies w s x 27 ho base 69 i0 _ 1 24 Tryz.underlying27 hi0 hz0 hz1 hz2 rfl (by decide) v n xs hs hown ⟨g0, 0, none⟩ 1 c [u] hx rfl (fun j y hj => ?_) (fun y hy => by simp at hy; subst hy; exact hu) (by decide) (by unfold maxLen; omega) (by omega) hbase _ rfl h
 cases j with
 | zero => simp at hj; subst hj; simpa [Addr.add] using hc
 | succ j => simp at hj
theorem step6 {ops : Array Oper} {o : Oper} {a : Act} {K : Act → World → Prop} {Q : Exit → Act → World → Prop} {E : Prop} (hgd : o.guard = none) (s x : Operand) (ho : o.op = .call { callee := .builtin .append, args := #[s, x], argTypes := #[27, 27] })
  (w : World) (base : Nat) (v : Value) (xs : List Value) (n : Nat) (hs : a.eval s = v) (hown : w.ownsRow base 69 1 v n xs) (g0 c : Nat) (u : Value) (hu : u.oneCell' = true) (hx : a.eval x = .slice (some ⟨g0, 0, none⟩) 1 c) (hc : w.cell? ⟨g0, 0, none⟩ = some u) (hn : n ≤ 1000) (hbase : base ≤ w.heap.size)
  (h : ∀ g cap w', w'.ownsRow base 69 1 (.slice (some ⟨g, 0, none⟩) (n + 1) cap) (n + 1) (xs ++ [u]) → w.grownBy w' v.ownBlock → (v.ownBlock = some g ∨ g = w.heap.size) → g < w'.heap.size → K (a.put o.dst (.slice (some ⟨g, 0, none⟩) (n + 1) cap)) w') : if Region.wanted o (yielded ops a.tmps) = true then Oper.wp Tryz.prog o a w K Q else E := by
 have hw : Region.wanted o (yielded ops a.tmps) = true := by simp [Region.wanted, hgd]
 rw [if_pos hw]
 exact wp6 s x ho w base v xs n hs hown g0 c u hu hx hc hn hbase h
theorem app6 {ops : Array Oper} {rest : List Oper} {o : Oper} {a : Act} {Q : Exit → Act → World → Prop} (hgd : o.guard = none) (s x : Operand) (ho : o.op = .call { callee := .builtin .append, args := #[s, x], argTypes := #[27, 27] })
  (w : World) (base : Nat) (v : Value) (xs : List Value) (n : Nat) (hs : a.eval s = v) (hown : w.ownsRow base 69 1 v n xs) (g0 c : Nat) (u : Value) (hu : u.oneCell' = true) (hx : a.eval x = .slice (some ⟨g0, 0, none⟩) 1 c) (hc : w.cell? ⟨g0, 0, none⟩ = some u) (hn : n ≤ 1000) (hbase : base ≤ w.heap.size)
  (h : ∀ g cap w', w'.ownsRow base 69 1 (.slice (some ⟨g, 0, none⟩) (n + 1) cap) (n + 1) (xs ++ [u]) → w.grownBy w' v.ownBlock → (v.ownBlock = some g ∨ g = w.heap.size) → g < w'.heap.size → wpList Tryz.prog ops Q rest (a.put o.dst (.slice (some ⟨g, 0, none⟩) (n + 1) cap)) w') : wpList Tryz.prog ops Q (o :: rest) a w :=
 wpList_plain hgd fun _ hK => wp6 s x ho w base v xs n hs hown g0 c u hu hx hc hn hbase fun g cap w' h2 h3 h4 h5 => hK _ _ (h g cap w' h2 h3 h4 h5)
set_option maxRecDepth 100000 in
set_option maxHeartbeats 8000000 in
theorem implCompile_any (s s' : Option Addr) (c c' lo hi : Nat) (p : PD) (w : World) (h : ProgR w lo hi s s' p) (hB : hi ≤ w.heap.size) (hf : Fits p) :
  Calls Tryz.prog 19 #[.agg #[.slice s p.caps.length c, .slice s' p.bods.length c']] w fun e w' => ∃ v, e = .returned (.tuple #[v, .bool (cpM p).2]) ∧ OwnB6 w' w.heap.size v (cpM p).1 ∧ Below w.heap.size w w' := by
 have HP := hidP h
 have HF := hidP hf
 have hfn := hf.2.1
 clear h hf
 obtain ⟨W, hW, bx, kb, zb⟩ := Bo2.new w (.slice s p.caps.length c) (.slice s' p.bods.length c') 39
 have HBX := hidP bx
 have KW0 := hidP kb
 have hzW : w.heap.size + 1 ≤ W.heap.size := by omega
 clear zb
 obtain ⟨x0, x1⟩ := bx
 clear kb
 go_enter Tryz.func19, Tryz.ntmps19
 go_wp2
 refine wp_scope_two 0 1 (fun a' w' => Below w.heap.size w w' ∧ cpM p = ([], false) ∧ ∃ (u0 u1 u2 u3 u4 u5 u6 u7 u8 u9 u10 u11 u12 u13 u14 u15 u16 u17 u18 u19 u20 u21 u22 u23 u24 u25 u26 u27 u28 u29 u30 u31 u32 u33 u34 u35 u36 u37 u38 u39 : Value), a' = { tmps := #[u0, u1, u2, u3, u4, u5, u6, u7, u8, u9, u10, u11, u12, u13, u14, u15, u16, u17, u18, u19, u20, u21, u22, u23, u24, u25, u26, u27, u28, u29, u30, u31, u32, u33, u34, u35, u36, u37, u38, u39], defers := [] })
  (fun a' w' => progB p = true ∧ ∃ k : Nat, k ≤ p.bods.length ∧ ∃ sv cv, OwnB6 w' (w.heap.size + 1) (.slice sv k cv) (cdL p k) ∧ Below (w.heap.size + 1) W w' ∧ (∀ i, i < k → codeB (cdAt p i) = true) ∧ ∃ (u0 u5 u6 u7 u8 u9 u10 u11 u12 u13 u14 u15 u16 u17 u18 u19 u20 u21 u22 u23 u24 u25 u26 u27 u28 u29 u30 u31 u32 u33 u34 u35 u36 u37 u38 u39 : Value), a' = { tmps := #[u0, .pointer (some ⟨w.heap.size, 0, none⟩), .slice none 0 0, .bool false, .slice sv k cv, u5, u6, u7, u8, u9, u10, u11, u12, u13, u14, u15, u16, u17, u18, u19, u20, u21, u22, u23, u24, u25, u26, u27, u28, u29, u30, u31, u32, u33, u34, u35, u36, u37, u38, u39], defers := [] })
  (fun _ _ => 0) (fun a' _ => p.bods.length + 1 - (lenOf (a'.tmps.getD 4 undef))) rfl rfl (by decide) ?_ ?_ ?_
 ·go_wp2_with fail
  refine (implProg_any s s' c c' lo hi p W (ProgR.keep' HP.out (Keep.of_below KW0.out hB)) (by omega) HF.out).mono ?_
  rintro e w1 ⟨rfl, hb1⟩
  have hz1 := hb1.size
  have K1 := hidP (KW0.out.trans (hb1.mono (by omega)))
  have K1W := hidP hb1
  clear x0 x1
  obtain ⟨x0, x1⟩ := HBX.out.keep (Keep.of_below hb1 (by omega))
  clear hb1
  cases hp : progB p
  ·have EC := hidP (cpM_none hp)
   clear hp
   go_wp2
   go_step3
   exact .inl ⟨rfl, K1.out, EC.out, _, _, _, _, _, _, _, _, _, _, _, _, _, _, _, _, _, _, _, _, _, _, _, _, _, _, _, _, _, _, _, _, _, _, _, _, _, _, _, _, rfl⟩
  ·have HPB := hidP hp
   clear hp
   go_wp2_with (go_at_call 48; refine (haveBases_yes s c lo hi p w1 HPB.out ((ProgR.keep' HP.out (Keep.of_below K1.out hB)).1) (by omega)).mono ?_; rintro e w' ⟨rfl, hb2⟩)
   go_step3
   have HBW : Hid (Below (w.heap.size + 1) W w') := (K1W.out.trans (hb2.mono hz1)).mono hzW
   have HB := hidP (KW0.out.trans (HBW.out.mono (Nat.le_succ _)))
   have HO : Hid (OwnB6 w' (w.heap.size + 1) (.slice none 0 0) (cdL p 0)) := OwnB6.nil _ _
   have HOK : Hid (∀ i, i < 0 → codeB (cdAt p i) = true) := fun i hi => absurd hi (Nat.not_lt_zero _)
   clear hb2 x0 x1
   by_cases hlt : 0 < p.bods.length
   ·have hne : ((0 : Int) == (p.bods.length : Int)) = false := beq_eq_false_iff_ne.2 (by omega)
    obtain ⟨gb, offb, hs2, hgb, s1, c1, hcell, hin⟩ := bods_at ((ProgR.keep' HP.out (Keep.of_below HB.out hB)).2) (i := 0) hlt
    subst hs2
    rw [Nat.add_zero] at hcell
    have HIN := hidP hin
    clear hin
    obtain ⟨hrt, hl1⟩ := progB_body HPB.out (i := 0) hlt
    have hem := hidP (fun (kk : Nat) (hkk : kk < (p.bods.getD 0 []).length) => em_pos HPB.out (b := 0) hlt hkk (stV (p.bods.getD 0 []) kk))
    have ECD := hidP (show cdAt p 0 = cdM p.caps (p.bods.getD 0 []) (p.bods.getD 0 []).length from rfl)
    obtain ⟨l, hl⟩ : ∃ l, p.bods.getD 0 [] = l := ⟨_, rfl⟩
    rw [hl] at hcell HIN hrt hl1 hem ECD
    clear hl
    have HRT := hidP hrt
    have hl24 := hrt.len
    clear hrt
    have hcpl := (progB_len HPB.out).2.2.1
    obtain ⟨x0, x1⟩ := HBX.out.keep (Keep.of_below HBW.out (Nat.le_refl _))
    have HCPW := hidP ((ProgR.keep' HP.out (Keep.of_below HB.out hB)).1)
    have side1 : w.heap.size < w'.heap.size := by have := HBW.out.size; omega
    have side2 : hi ≤ w'.heap.size := by omega
    have side3 : gb < w'.heap.size := by omega
    have side4 : p.caps.length ≤ 1048576 := by omega
    have side5 : 0 ≤ 1000 := by have := (progB_len HPB.out).2.1; omega
    have b0 : (0 : Int) ≤ (0 : Int) := by omega
    have b1 : (0 : Int) < (p.bods.length : Int) := by omega
    have HO6 : Hid (OwnB6 w' (w.heap.size + 1) (.slice none 0 0) (cdL p 0)) := HO.out
    obtain ⟨xs, r1, r2, r3⟩ := HO.out
    rw [cdL_len] at r1 r2 r3
    have HR1 := hidP r1
    have hvb : ∀ kk, (Value.slice none 0 0).ownBlock = some kk → w.heap.size + 1 ≤ kk ∧ kk < w'.heap.size := fun kk e => World.ownsRow.lt r1 _ e
    have HVB := hidP hvb
    have HR23 := hidP (And.intro r2 r3)
    clear r1 r2 r3 hvb
    have HCE := hidP hcell
    go_wp2_with fail
    go_region_held3 (fun w'' => w''.cell? ⟨w.heap.size, 0, none⟩ = some (.slice s p.caps.length c) ∧ w''.cell? ⟨w.heap.size, 1, none⟩ = some (.slice (some ⟨gb, offb, none⟩) p.bods.length c') ∧ w''.cell? ⟨gb, offb, none⟩ = some (.slice s1 l.length c1)) (go_keep) (first | (go_at_call 49; refine (codeOf_any s s1 c c1 lo hi lo hi p.caps l w'.drew (show IntsR w'.drew lo hi s p.caps from HCPW.out) side2 side4 (show InsR w'.drew lo hi s1 l from HIN.out) side2 HRT.out hem.out).mono ?_; rintro e y1 ⟨v1, rfl, hv1, hbu⟩; rw [← ECD.out] at hv1; obtain ⟨sL, cL, eL⟩ := own5_sl hv1; subst eL; have kbu : Below w'.heap.size w' y1 := ⟨hbu.os, hbu.tape, hbu.output, hbu.size, hbu.block⟩; have hzu := kbu.size; have HV1 : Hid (OwnT5 y1 w'.heap.size (.slice sL (cdAt p 0).length cL) (cdAt p 0)) := hv1; have KBU := hidP kbu; clear x0 x1 hcell hv1 hbu kbu; have x0 := (KBU.out.cell (p := ⟨w.heap.size, 0, none⟩) side1).trans (HBX.out.keep (Keep.of_below HBW.out (Nat.le_refl _))).c0; have x1 := (KBU.out.cell (p := ⟨w.heap.size, 1, none⟩) side1).trans (HBX.out.keep (Keep.of_below HBW.out (Nat.le_refl _))).c1; have hcell := (KBU.out.cell (p := ⟨gb, offb, none⟩) side3).trans HCE.out) | (refine step6 rfl _ _ rfl (y1.alloc (.cells #[.slice sL (cdAt p 0).length cL] 69)) (w.heap.size + 1) (.slice none 0 0) xs 0 rfl (ownKeep HR1.out (fun kk e => (Below.heap_alloc _ _ _ (Nat.lt_of_lt_of_le (HVB.out kk e).2 hzu)).trans (KBU.out.block kk (HVB.out kk e).2))) y1.heap.size 1 (.slice sL (cdAt p 0).length cL) rfl rfl (by simp [go_sem]) side5 (by simp; omega) ?_; intro g7 c7 w7 ho7 hg7 ha7 hlt7; have HO7 := hidP ho7; have HK7 := hidP (fun kk (h1 : kk < y1.heap.size) (h2 : (Value.slice none 0 0).ownBlock ≠ some kk) => (hg7.block kk (by simp; omega) (fun e => h2 e.symm)).trans (Below.heap_alloc y1 (.cells #[.slice sL (cdAt p 0).length cL] 69) kk h1)); have HG7 := hidP hg7; have hy0 : w.heap.size < y1.heap.size := Nat.lt_of_lt_of_le side1 hzu; have hyb : gb < y1.heap.size := Nat.lt_of_lt_of_le side3 hzu; have i0 := (World.cell?_of_block (a := ⟨w.heap.size, 0, none⟩) (HK7.out w.heap.size hy0 (fun e => absurd (HVB.out _ e).1 (by omega)))).trans x0; have i1 := (World.cell?_of_block (a := ⟨w.heap.size, 1, none⟩) (HK7.out w.heap.size hy0 (fun e => absurd (HVB.out _ e).1 (by omega)))).trans x1; have i2 := (World.cell?_of_block (a := ⟨gb, offb, none⟩) (HK7.out gb hyb (fun e => absurd (HVB.out _ e).1 (by omega)))).trans hcell; clear ho7 hg7 ha7) | fail)
    clear i0 i1 i2
    have hw7 : y1.heap.size + 1 ≤ w7.heap.size := by have := HG7.out.size; simpa using this
    have HB7 : Hid (Below (w.heap.size + 1) W w7) := ⟨HG7.out.os.trans (KBU.out.os.trans HBW.out.os), HG7.out.tape.trans (KBU.out.tape.trans HBW.out.tape), HG7.out.output.trans (KBU.out.output.trans HBW.out.output), by have := HBW.out.size; omega, fun kk hk2 => (HK7.out kk (by omega) (fun e => absurd (HVB.out _ e).1 (by omega))).trans ((KBU.out.block kk (by omega)).trans (HBW.out.block kk hk2))⟩
    have OB : Hid (OwnB6 w7 (w.heap.size + 1) (.slice (some ⟨g7, 0, none⟩) (0 + 1) c7) (cdL p (0 + 1))) := by
     show OwnB6 w7 (w.heap.size + 1) (.slice (some ⟨g7, 0, none⟩) (0 + 1) c7) (cdL p (0 + 1))
     have hlk := cdL_len p 0
     have := OwnB6.grow (w := w') (w' := w7) (base := w.heap.size + 1) (g := g7) (cap := c7) (v := .slice none 0 0) (u := .slice sL (cdAt p 0).length cL) (bs := cdL p 0) (xs := xs) (b := cdAt p 0) (by rw [hlk]; exact HR1.out) (by rw [hlk]; exact HR23.out.1) (by rw [hlk]; exact HR23.out.2) (own_hu HV1.out) (by rw [hlk]; exact HO7.out) (fun kk h1 h2 h3 => (HK7.out kk (by omega) h3).trans (KBU.out.block kk h2)) (own5_six (ownKeep (ownLow HV1.out (by omega)) (fun kk e => HK7.out kk (World.ownsRow.lt HV1.out _ e).2 (fun e2 => absurd (HVB.out _ e2).2 (by have := (World.ownsRow.lt HV1.out _ e).1; omega)))))
     rw [hlk] at this
     rw [cdL_succ]
     exact this
    have hcl : w7.cell? ⟨g7, 0, none⟩ = some (.slice sL (cdAt p 0).length cL) := own_last HO7.out (by have := HR1.out.1; omega)
    have hLi := (SB5.of (ownKeep (base := w'.heap.size) HV1.out (fun kk e => HK7.out kk (World.ownsRow.lt HV1.out _ e).2 (fun e2 => absurd (HVB.out _ e2).2 (by have := (World.ownsRow.lt HV1.out _ e).1; omega))) : OwnT5 w7 w'.heap.size (.slice sL (cdAt p 0).length cL) (cdAt p 0))).insB
    have HLI := hidP hLi
    clear hLi
    have hcn := cdM_len p.caps l l.length
    rw [← ECD.out] at hcn
    cases hcb : codeB (cdAt p 0)
    ·have HCB := hidP hcb
     have EC := hidP (cpM_no (p := p) (k := 0) hlt hcb)
     clear hcb
     go_wp2_with (go_at_call 50; refine (implCode_any sL cL w7.heap.size (cdAt p 0) w7 HLI.out (Nat.le_refl _) (by omega)).mono ?_; rintro e w8 ⟨rfl, hb8⟩; rw [HCB.out])
     go_step3
     go_wp2
     simp only [jump2]
     refine bodyPost_ret (v := .tuple #[.slice none 0 0, .bool false]) (by simp [results, Tryz.results19, go_sem]) rfl ?_
     exact ⟨.slice none 0 0, by rw [EC.out], by rw [EC.out]; exact OwnB6.nil _ _, KW0.out.trans ((HB7.out.mono (Nat.le_succ _)).trans (hb8.mono (by omega)))⟩
    ·have HCB := hidP hcb
     clear hcb
     go_wp2_with (go_at_call 50; refine (implCode_any sL cL w7.heap.size (cdAt p 0) w7 HLI.out (Nat.le_refl _) (by omega)).mono ?_; rintro e w8 ⟨rfl, hb8⟩; rw [HCB.out])
     go_step3
     exact .inr ⟨rfl, ⟨HPB.out, 0 + 1, by omega, some ⟨g7, 0, none⟩, c7, OB.out.below hb8, HB7.out.trans (hb8.mono (by omega)), (ok_step HOK.out HCB.out), _, _, _, _, _, _, _, _, _, _, _, _, _, _, _, _, _, _, _, _, _, _, _, _, _, _, _, _, _, _, _, _, _, _, _, _, rfl⟩⟩
   ·have hkn : p.bods.length = 0 := by omega
    exfalso
    have := (progB_len HPB.out).1
    omega
 ·rintro a' w' ⟨hb, hcp, u0, u1, u2, u3, u4, u5, u6, u7, u8, u9, u10, u11, u12, u13, u14, u15, u16, u17, u18, u19, u20, u21, u22, u23, u24, u25, u26, u27, u28, u29, u30, u31, u32, u33, u34, u35, u36, u37, u38, u39, rfl⟩
  go_wp2
  simp only [jump2]
  refine bodyPost_ret (v := .tuple #[.slice none 0 0, .bool false]) (by simp [results, Tryz.results19, go_sem]) rfl ?_
  exact ⟨.slice none 0 0, by rw [hcp], by rw [hcp]; exact OwnB6.nil _ _, hb⟩
 ·rintro a' w' ⟨hpb, k, hk, sv, cv, hO, hbW, hok, u0, u5, u6, u7, u8, u9, u10, u11, u12, u13, u14, u15, u16, u17, u18, u19, u20, u21, u22, u23, u24, u25, u26, u27, u28, u29, u30, u31, u32, u33, u34, u35, u36, u37, u38, u39, rfl⟩
  have HPB := hidP hpb
  have HO := hidP hO
  have HBW := hidP hbW
  have HOK := hidP hok
  have HB := hidP (KW0.out.trans (hbW.mono (Nat.le_succ _)))
  clear hpb hO hbW hok
  by_cases hlt : k < p.bods.length
  ·have hne : ((k : Int) == (p.bods.length : Int)) = false := beq_eq_false_iff_ne.2 (by omega)
   obtain ⟨gb, offb, hs2, hgb, s1, c1, hcell, hin⟩ := bods_at ((ProgR.keep' HP.out (Keep.of_below HB.out hB)).2) (i := k) hlt
   subst hs2
   have HIN := hidP hin
   clear hin
   obtain ⟨hrt, hl1⟩ := progB_body HPB.out (i := k) hlt
   have hem := hidP (fun (kk : Nat) (hkk : kk < (p.bods.getD k []).length) => em_pos HPB.out (b := k) hlt hkk (stV (p.bods.getD k []) kk))
   have ECD := hidP (show cdAt p k = cdM p.caps (p.bods.getD k []) (p.bods.getD k []).length from rfl)
   obtain ⟨l, hl⟩ : ∃ l, p.bods.getD k [] = l := ⟨_, rfl⟩
   rw [hl] at hcell HIN hrt hl1 hem ECD
   clear hl
   have HRT := hidP hrt
   have hl24 := hrt.len
   clear hrt
   have hcpl := (progB_len HPB.out).2.2.1
   obtain ⟨x0, x1⟩ := HBX.out.keep (Keep.of_below HBW.out (Nat.le_refl _))
   have HCPW := hidP ((ProgR.keep' HP.out (Keep.of_below HB.out hB)).1)
   have side1 : w.heap.size < w'.heap.size := by have := HBW.out.size; omega
   have side2 : hi ≤ w'.heap.size := by omega
   have side3 : gb < w'.heap.size := by omega
   have side4 : p.caps.length ≤ 1048576 := by omega
   have side5 : k ≤ 1000 := by have := (progB_len HPB.out).2.1; omega
   have b0 : (0 : Int) ≤ (k : Int) := by omega
   have b1 : (k : Int) < (p.bods.length : Int) := by omega
   have HO6 : Hid (OwnB6 w' (w.heap.size + 1) (.slice sv k cv) (cdL p k)) := HO.out
   obtain ⟨xs, r1, r2, r3⟩ := HO.out
   rw [cdL_len] at r1 r2 r3
   have HR1 := hidP r1
   have hvb : ∀ kk, (Value.slice sv k cv).ownBlock = some kk → w.heap.size + 1 ≤ kk ∧ kk < w'.heap.size := fun kk e => World.ownsRow.lt r1 _ e
   have HVB := hidP hvb
   have HR23 := hidP (And.intro r2 r3)
   clear r1 r2 r3 hvb
   have HCE := hidP hcell
   go_wp2_with fail
   go_region_held3 (fun w'' => w''.cell? ⟨w.heap.size, 0, none⟩ = some (.slice s p.caps.length c) ∧ w''.cell? ⟨w.heap.size, 1, none⟩ = some (.slice (some ⟨gb, offb, none⟩) p.bods.length c') ∧ w''.cell? ⟨gb, offb + k, none⟩ = some (.slice s1 l.length c1)) (go_keep) (first | (go_at_call 49; refine (codeOf_any s s1 c c1 lo hi lo hi p.caps l w'.drew (show IntsR w'.drew lo hi s p.caps from HCPW.out) side2 side4 (show InsR w'.drew lo hi s1 l from HIN.out) side2 HRT.out hem.out).mono ?_; rintro e y1 ⟨v1, rfl, hv1, hbu⟩; rw [← ECD.out] at hv1; obtain ⟨sL, cL, eL⟩ := own5_sl hv1; subst eL; have kbu : Below w'.heap.size w' y1 := ⟨hbu.os, hbu.tape, hbu.output, hbu.size, hbu.block⟩; have hzu := kbu.size; have HV1 : Hid (OwnT5 y1 w'.heap.size (.slice sL (cdAt p k).length cL) (cdAt p k)) := hv1; have KBU := hidP kbu; clear x0 x1 hcell hv1 hbu kbu; have x0 := (KBU.out.cell (p := ⟨w.heap.size, 0, none⟩) side1).trans (HBX.out.keep (Keep.of_below HBW.out (Nat.le_refl _))).c0; have x1 := (KBU.out.cell (p := ⟨w.heap.size, 1, none⟩) side1).trans (HBX.out.keep (Keep.of_below HBW.out (Nat.le_refl _))).c1; have hcell := (KBU.out.cell (p := ⟨gb, offb + k, none⟩) side3).trans HCE.out) | (refine step6 rfl _ _ rfl (y1.alloc (.cells #[.slice sL (cdAt p k).length cL] 69)) (w.heap.size + 1) (.slice sv k cv) xs k rfl (ownKeep HR1.out (fun kk e => (Below.heap_alloc _ _ _ (Nat.lt_of_lt_of_le (HVB.out kk e).2 hzu)).trans (KBU.out.block kk (HVB.out kk e).2))) y1.heap.size 1 (.slice sL (cdAt p k).length cL) rfl rfl (by simp [go_sem]) side5 (by simp; omega) ?_; intro g7 c7 w7 ho7 hg7 ha7 hlt7; have HO7 := hidP ho7; have HK7 := hidP (fun kk (h1 : kk < y1.heap.size) (h2 : (Value.slice sv k cv).ownBlock ≠ some kk) => (hg7.block kk (by simp; omega) (fun e => h2 e.symm)).trans (Below.heap_alloc y1 (.cells #[.slice sL (cdAt p k).length cL] 69) kk h1)); have HG7 := hidP hg7; have hy0 : w.heap.size < y1.heap.size := Nat.lt_of_lt_of_le side1 hzu; have hyb : gb < y1.heap.size := Nat.lt_of_lt_of_le side3 hzu; have i0 := (World.cell?_of_block (a := ⟨w.heap.size, 0, none⟩) (HK7.out w.heap.size hy0 (fun e => absurd (HVB.out _ e).1 (by omega)))).trans x0; have i1 := (World.cell?_of_block (a := ⟨w.heap.size, 1, none⟩) (HK7.out w.heap.size hy0 (fun e => absurd (HVB.out _ e).1 (by omega)))).trans x1; have i2 := (World.cell?_of_block (a := ⟨gb, offb + k, none⟩) (HK7.out gb hyb (fun e => absurd (HVB.out _ e).1 (by omega)))).trans hcell; clear ho7 hg7 ha7) | fail)
   clear i0 i1 i2
   have hw7 : y1.heap.size + 1 ≤ w7.heap.size := by have := HG7.out.size; simpa using this
   have HB7 : Hid (Below (w.heap.size + 1) W w7) := ⟨HG7.out.os.trans (KBU.out.os.trans HBW.out.os), HG7.out.tape.trans (KBU.out.tape.trans HBW.out.tape), HG7.out.output.trans (KBU.out.output.trans HBW.out.output), by have := HBW.out.size; omega, fun kk hk2 => (HK7.out kk (by omega) (fun e => absurd (HVB.out _ e).1 (by omega))).trans ((KBU.out.block kk (by omega)).trans (HBW.out.block kk hk2))⟩
   have OB : Hid (OwnB6 w7 (w.heap.size + 1) (.slice (some ⟨g7, 0, none⟩) (k + 1) c7) (cdL p (k + 1))) := by
    show OwnB6 w7 (w.heap.size + 1) (.slice (some ⟨g7, 0, none⟩) (k + 1) c7) (cdL p (k + 1))
    have hlk := cdL_len p k
    have := OwnB6.grow (w := w') (w' := w7) (base := w.heap.size + 1) (g := g7) (cap := c7) (v := .slice sv k cv) (u := .slice sL (cdAt p k).length cL) (bs := cdL p k) (xs := xs) (b := cdAt p k) (by rw [hlk]; exact HR1.out) (by rw [hlk]; exact HR23.out.1) (by rw [hlk]; exact HR23.out.2) (own_hu HV1.out) (by rw [hlk]; exact HO7.out) (fun kk h1 h2 h3 => (HK7.out kk (by omega) h3).trans (KBU.out.block kk h2)) (own5_six (ownKeep (ownLow HV1.out (by omega)) (fun kk e => HK7.out kk (World.ownsRow.lt HV1.out _ e).2 (fun e2 => absurd (HVB.out _ e2).2 (by have := (World.ownsRow.lt HV1.out _ e).1; omega)))))
    rw [hlk] at this
    rw [cdL_succ]
    exact this
   have hcl : w7.cell? ⟨g7, k, none⟩ = some (.slice sL (cdAt p k).length cL) := own_last HO7.out (by have := HR1.out.1; omega)
   have hLi := (SB5.of (ownKeep (base := w'.heap.size) HV1.out (fun kk e => HK7.out kk (World.ownsRow.lt HV1.out _ e).2 (fun e2 => absurd (HVB.out _ e2).2 (by have := (World.ownsRow.lt HV1.out _ e).1; omega))) : OwnT5 w7 w'.heap.size (.slice sL (cdAt p k).length cL) (cdAt p k))).insB
   have HLI := hidP hLi
   clear hLi
   have hcn := cdM_len p.caps l l.length
   rw [← ECD.out] at hcn
   cases hcb : codeB (cdAt p k)
   ·have HCB := hidP hcb
    have EC := hidP (cpM_no (p := p) (k := k) hlt hcb)
    clear hcb
    go_wp2_with (go_at_call 50; refine (implCode_any sL cL w7.heap.size (cdAt p k) w7 HLI.out (Nat.le_refl _) (by omega)).mono ?_; rintro e w8 ⟨rfl, hb8⟩; rw [HCB.out])
    go_step3
    go_wp2
    simp only [jump2]
    refine bodyPost_ret (v := .tuple #[.slice none 0 0, .bool false]) (by simp [results, Tryz.results19, go_sem]) rfl ?_
    exact ⟨.slice none 0 0, by rw [EC.out], by rw [EC.out]; exact OwnB6.nil _ _, KW0.out.trans ((HB7.out.mono (Nat.le_succ _)).trans (hb8.mono (by omega)))⟩
   ·have HCB := hidP hcb
    clear hcb
    go_wp2_with (go_at_call 50; refine (implCode_any sL cL w7.heap.size (cdAt p k) w7 HLI.out (Nat.le_refl _) (by omega)).mono ?_; rintro e w8 ⟨rfl, hb8⟩; rw [HCB.out])
    go_step3
    exact .inr ⟨rfl, ⟨HPB.out, k + 1, by omega, some ⟨g7, 0, none⟩, c7, OB.out.below hb8, HB7.out.trans (hb8.mono (by omega)), (ok_step HOK.out HCB.out), _, _, _, _, _, _, _, _, _, _, _, _, _, _, _, _, _, _, _, _, _, _, _, _, _, _, _, _, _, _, _, _, _, _, _, _, rfl⟩, by show p.bods.length + 1 - (k + 1) < p.bods.length + 1 - k; omega⟩
  ·have hkn : p.bods.length = k := by omega
   subst hkn
   have hne : ((p.bods.length : Int) == (p.bods.length : Int)) = true := by simp
   obtain ⟨x0, x1⟩ := HBX.out.keep (Keep.of_below HBW.out (Nat.le_refl _))
   have EC := hidP (cpM_yes HPB.out HOK.out)
   go_wp2
   simp only [jump2]
   refine bodyPost_ret (v := .tuple #[.slice sv p.bods.length cv, .bool true]) (by simp [results, Tryz.results19, go_sem]) rfl ?_
   exact ⟨_, by rw [EC.out], by rw [EC.out]; exact HO.out.low (Nat.le_succ _), HB.out⟩
end
end Go.Proofs.YtehjbpjjegajjaaGreat
