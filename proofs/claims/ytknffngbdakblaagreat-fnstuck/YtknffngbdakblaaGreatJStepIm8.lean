/- settle, walked. No condition. -/
import Derived.Test.YtknffngbdakblaaGreatJG00
import Derived.Test.YtknffngbdakblaaGreatJG13
import Derived.Test.YtknffngbdakblaaGreatJStepIm2
import Derived.Test.YtknffngbdakblaaGreatJG06
import Derived.Test.YtknffngbdakblaaGreatJLeaves
import Derived.ChangeKeysEq
namespace Go.Proofs.YtknffngbdakblaaGreat
set_option linter.unusedSimpArgs false
set_option linter.unusedVariables false
set_option maxRecDepth 100000
open Go.RowKit
theorem eqR (a b c d a' b' c' d' : Int) (w : World) : (Op.equal 87 (.agg #[.int .i64 a, .int .i64 b, .int .i64 c, .int .i64 d]) (.agg #[.int .i64 a', .int .i64 b', .int .i64 c', .int .i64 d'])).run Tryz.prog w = .ok (a == a' && (b == b' && (c == c' && d == d'))) w := by
 have hi : ∃ i, Tryz.prog.info? 3 = some i := ⟨_, rfl⟩
 obtain ⟨i, hi⟩ := hi
 show (Op.equalIn (9999 + 1) _ _ _).run Tryz.prog w = _
 rw [run_equalIn_array w 9999 _ _ Tryz.underlying87 hi]
 have e : ∀ (x y : Int), (Op.equalIn 9999 3 (.int .i64 x) (.int .i64 y)).run Tryz.prog w = .ok (x == y) w := fun x y => run_equalIn_int w 9998 _ _ _ x y Tryz.underlying3
 have er : List.range 4 = [0, 1, 2, 3] := rfl
 rw [er]
 have hc : Tryz.prog.cellsOf 3 = 1 := rfl
 rw [hc]
 have p : ∀ (x0 x1 x2 x3 : Value), (part 3 #[x0, x1, x2, x3] 0).run Tryz.prog w = .ok x0 w ∧ (part 3 #[x0, x1, x2, x3] 1).run Tryz.prog w = .ok x1 w ∧ (part 3 #[x0, x1, x2, x3] 2).run Tryz.prog w = .ok x2 w ∧ (part 3 #[x0, x1, x2, x3] 3).run Tryz.prog w = .ok x3 w := fun x0 x1 x2 x3 => ⟨by simp [part, go_sem], by simp [part, go_sem], by simp [part, go_sem], by simp [part, go_sem]⟩
 simp only [Op.eqItems, Sem.run_bind, Nat.zero_mul, Nat.one_mul, Nat.mul_one, (p _ _ _ _).1, (p _ _ _ _).2.1, (p _ _ _ _).2.2.1, (p _ _ _ _).2.2.2, Result.andThen_ok, e]
 by_cases h0 : a = a' <;> by_cases h1 : b = b' <;> by_cases h2 : c = c' <;> by_cases h3 : d = d' <;> simp [Op.eqItems, Sem.run_bind, (p _ _ _ _).1, (p _ _ _ _).2.1, (p _ _ _ _).2.2.1, (p _ _ _ _).2.2.2, Result.andThen_ok, e, h0, h1, h2, h3]
theorem SetQ.drew {w w2 : World} {S base g1 c1 n3 c3 k : Nat} {s3 : Option Addr} {v2 : Value} {L1 L2 M : List (Rec × Value)} {d : SD} {T : TD} (h : SetQ w w2 S base g1 c1 n3 c3 k s3 v2 L1 L2 M d T) : SetQ w w2.drew S base g1 c1 n3 c3 k s3 v2 L1 L2 M d T :=
 ⟨h.o.keepB (fun _ _ => rfl), h.s.keep rfl (Nat.le_refl _), h.bs.same rfl, h.h, h.f, h.b.drew⟩
theorem gR (x y : Operand) (xs ys : Array Value) (w : World) : (eqGuard .neq 87 x y (.agg xs) (.agg ys)).run Tryz.prog w = .ok () w := by
 simp [eqGuard, go_sem]
set_option maxHeartbeats 8000000 in
theorem settle_any (b S base n3 c3 g1 c1 k nb : Nat) (s3 : Option Addr) (v2 : Value) (L1 L2 : List (Rec × Value)) (d : SD) (who pc nx st : Int) (rg : List Int) (t : TD) (code : Int) (w : World) (h : Rd w b S base (.slice (some ⟨g1, 0, none⟩) d.ths.length c1) v2 (.slice s3 n3 c3) L1 L2 d who pc nx st rg) (ht : d.ths[k]? = some t) (h4 : t.regs.length = 4) (hkl : k < 1000) :
  Calls Tryz.prog 52 #[.pointer (some ⟨b, 0, none⟩), .pointer (some ⟨g1, k * 3, none⟩), .int .i64 code, .int .i64 nb] w fun e w' => e = .returned (.tuple #[]) ∧ ∃ M, SetQ w w' S base g1 c1 n3 c3 k s3 v2 L1 L2 M d (if code = 2 ∨ ¬ (0 ≤ nx ∧ nx < (nb : Int)) then ⟨t.pc, rg, 2⟩ else ⟨nx, rg, st⟩) := by
 have hk : k < d.ths.length := (List.getElem?_eq_some_iff.1 ht).1
 obtain ⟨g9, c9, y, e9, hy, ey, hg0, hg1, k0, k1, k2, kf⟩ := h.o.thread ht
 injection e9 with h1 h2 h3
 injection h1 with h1
 injection h1 with h1
 subst h1 h3
 clear h2
 obtain ⟨gr, cr, y2, ar, zr, rr, fr⟩ := h.o.regs hy ey h4
 rw [y2] at k1
 have ON : OwnN w base (.slice (some ⟨gr, 0, none⟩) 4 cr) t.regs := by have q := h.o.t.inn k y hy; rw [ey, y2] at q; exact q
 obtain ⟨x0, x1, x2, x3, rest, hcur⟩ := own_cur ON h4
 obtain ⟨tpc, trg, tst⟩ := t
 simp only at h4 rr k0 k2 ON
 obtain ⟨r0, r1, r2, r3, rfl⟩ : ∃ a b c d, trg = [a, b, c, d] := by
  match trg, h4 with
  | [a, b, c, d], _ => exact ⟨a, b, c, d, rfl⟩
 obtain ⟨a0, a1, a2, a3, rfl⟩ : ∃ a b c d, rg = [a, b, c, d] := by
  match rg, h.t.l with
  | [a, b, c, d], _ => exact ⟨a, b, c, d, rfl⟩
 have RG : Hid (∀ X, Below w.heap.size w X → Calls Tryz.prog 50 #[.slice (some ⟨gr, 0, none⟩) 4 cr] X fun e w' => e = .returned (.agg #[.int .i64 r0, .int .i64 r1, .int .i64 r2, .int .i64 r3]) ∧ Below X.heap.size X w') := fun X hX => regsOf_any (some ⟨gr, 0, none⟩) cr gr (gr + 1) [r0, r1, r2, r3] X (.inr ⟨gr, 0, rfl, Nat.le_refl _, Nat.lt_succ_self _, fun i hi => by rw [Nat.zero_add]; exact (hX.cell (p := ⟨gr, i, none⟩) zr).trans (rr i hi)⟩) (by have := hX.size; omega) rfl
 have HH := hidW h
 have HT := hidW ht
 have HY := hidW hy
 have HY2 := hidW y2
 have HCUR := hidW hcur
 have K1 := hidW k1
 have hz := h.t.z
 have m0 : w.cell? ⟨b, 5, none⟩ = some (.int .i64 a0) := h.t.r 0 (by omega)
 have m1 : w.cell? ⟨b, 6, none⟩ = some (.int .i64 a1) := h.t.r 1 (by omega)
 have m2 : w.cell? ⟨b, 7, none⟩ = some (.int .i64 a2) := h.t.r 2 (by omega)
 have m3 : w.cell? ⟨b, 8, none⟩ = some (.int .i64 a3) := h.t.r 3 (by omega)
 obtain ⟨T, hTT⟩ : ∃ T : TD, (if code = 2 ∨ ¬ (0 ≤ nx ∧ nx < (nb : Int)) then (⟨tpc, [a0, a1, a2, a3], 2⟩ : TD) else ⟨nx, [a0, a1, a2, a3], st⟩) = T := ⟨_, rfl⟩
 rw [hTT]
 have HTT := hidW hTT
 clear hTT
 have E4 : Hid (∀ x y : Int, x = y → (x == y) = true) := fun x y e => by simp [e]
 have hne := ext_ne w
 have u0 := Ext.fit m0 hz
 have u1 := Ext.fit m1 hz
 have u2 := Ext.fit m2 hz
 have u3 := Ext.fit m3 hz
 have u4 := Ext.fit k1 hg1
 clear h hy y2 hcur ey ON m0 m1 m2 m3 k0 k1 k2 kf rr fr
 obtain ⟨bv, hbv⟩ : ∃ bv, (a0 == r0 && (a1 == r1 && (a2 == r2 && a3 == r3))) = bv := ⟨_, rfl⟩
 have EQ4 := hidW (fun w => eqR a0 a1 a2 a3 r0 r1 r2 r3 w)
 rw [hbv] at EQ4
 cases bv
 ·clear hbv
  go_enter Tryz.func52, Tryz.ntmps52
  go_upto_region 0 with fail
  refine regionExt w (by kernel_rfl) (by kernel_rfl) ?_
  repeat (go_big_quiet_step ((rename_i X; go_at_call 50; refine Calls.mono (RG.out _ X.b) ?_; rintro e w3 ⟨rfl, hb3⟩; exact ⟨rfl, X.on hb3⟩)))
  refine Go.BigFrame.wpQuiet_want (by rfl) (fun K hK => ⟨.bool true, fun w' _ => ?_, hK _ ?_⟩)
  ·have q := EQ4.out w'
   simp [Oper.quietAt, execOp, gR, binOp, q, Oper.quietUpon, go_sem]
  refine wpQuiet_nil ?_
  clear hne u0 u1 u2 u3 u4 EQ4
  rintro w3 ⟨X3, rfl⟩
  obtain ⟨V2, hX3⟩ : ∃ V2, X3.w = V2 := ⟨_, rfl⟩
  have hb3 := X3.b
  rw [hX3] at hb3 ⊢
  clear hX3 X3
  have B3 := hidW hb3
  have k1 := (hb3.cell (p := ⟨g1, k * 3 + 1, none⟩) hg1).trans K1.out
  have zg1 : g1 < V2.heap.size := by have := hb3.size; omega
  have hne := ext_ne V2
  have u4 := Ext.fit k1 zg1
  clear hb3 k1
  go_wp2_with fail
  refine regionSuf V2 8 (by decide) (by kernel_rfl) (by kernel_rfl) (by kernel_rfl) (by kernel_rfl) ?_
  dsimp only [List.take, List.drop]
  repeat (go_big_quiet_step (fail))
  refine wpQuiet_nil ?_
  clear hne u4
  rintro w4 ⟨X4, rfl⟩
  obtain ⟨V3, hX4⟩ : ∃ V3, X4.w = V3 := ⟨_, rfl⟩
  have hb4 := X4.b
  rw [hX4] at hb4 ⊢
  clear hX4 X4
  have B4 := hidW (B3.out.trans (hb4.mono B3.out.size))
  clear hb4
  have HG4 := (B4.out.block gr zr).trans HCUR.out
  refine app_cpy4 rfl _ _ rfl V3 gr (x0 :: x1 :: x2 :: x3 :: rest) HG4 _ _ b 5 rfl rfl [a0, a1, a2, a3] rfl (fun i hi => (B4.out.cell (p := ⟨b, 5 + i, none⟩) hz).trans (HH.out.t.r i hi)) (by simp) ?_
  intro V5 q1 q2 q3 q4 q5 q6
  obtain ⟨LL, hm⟩ := mid_ne HH.out HT.out rfl HY.out HY2.out B4.out ar HG4 q1 q2 q3 q4 q5 q6
  have HM := hidW hm
  have nbr : b ≠ gr := fun e => HH.out.o.hitU HH.out.bt (by rw [e]; exact .inl (.inr ⟨k, y, HY.out, by rw [HY2.out]; rfl⟩))
  have HBTU := hidW (HH.out.bt.same ((q2 b nbr).trans (B4.out.block b hz)))
  clear hm q1 q2 q3 q4 q5 q6 HG4
  have hkb := HM.out.o
  obtain ⟨g9, c9, y9, e9, -, -, -, zg, l0, -, l2, lf⟩ := HM.out.o.thread (show (⟨d.ths.set k ⟨tpc, [a0, a1, a2, a3], tst⟩, d.chs, d.tr⟩ : SD).ths[k]? = some ⟨tpc, [a0, a1, a2, a3], tst⟩ from List.getElem?_set_self hk)
  injection e9 with h1 h2 h3
  injection h1 with h1
  injection h1 with h1
  subst h1 h3
  clear h2 hkb
  obtain ⟨-, -, -, p3, p4, -, pf, pz, -⟩ := HM.out.t
  by_cases h2c : code = 2
  ·have HTE := hidW (show (⟨tpc, [a0, a1, a2, a3], 2⟩ : TD) = T from by rw [← HTT.out, if_pos (.inl h2c)])
   obtain ⟨M, q⟩ := mid_fault HM.out hk hg0
   have Q9 := hidW q
   have hee : (code == 2) = true := by simp [h2c]
   clear q h2c
   go_wp2
   refine bodyPost_ret (v := .tuple #[]) (by simp [results, Tryz.results52, go_sem]) rfl ⟨rfl, M, ?_⟩
   rw [← HTE.out]
   exact Q9.out
  have hee : (code == 2) = false := by simp [h2c]
  by_cases hin : 0 ≤ nx ∧ nx < (nb : Int)
  ·have HTE := hidW (show (⟨nx, [a0, a1, a2, a3], st⟩ : TD) = T from by rw [← HTT.out, if_neg (fun q => by rcases q with q | q; exact h2c q; exact q hin)])
   obtain ⟨M, q⟩ := mid_done HM.out hk hg0
   have Q9 := hidW q
   have ONE := hidW (show Plain.oneB nx nb = true from by unfold Plain.oneB; simp; omega)
   clear q h2c hin
   go_wp2_with fail
   refine (isOneOf_any _ _ _).mono ?_
   rintro e w9 ⟨rfl, hw9⟩
   rw [hw9, ONE.out]
   clear hw9 w9
   go_wp2_with fail
   have ngb : ¬ g1 = b := fun e => HM.out.o.hitU (HBTU.out) (by rw [← e]; exact .inl (.inl rfl))
   have nbg : ¬ b = g1 := fun e => ngb e.symm
   go_region_held3 (fun w' => w'.cell? ⟨b, 3, none⟩ = some (.int .i64 nx) ∧ w'.cell? ⟨b, 4, none⟩ = some (.int .i64 st)) (go_keep) (fail)
   all_goals
    go_wp2
    exact ⟨rfl, .tuple #[], by simp [results, Tryz.results52, go_sem], rfl, M, by rw [← HTE.out]; first | exact Q9.out | exact Q9.out.drew⟩
  ·have HTE := hidW (show (⟨tpc, [a0, a1, a2, a3], 2⟩ : TD) = T from by rw [← HTT.out, if_pos (.inr hin)])
   obtain ⟨M, q⟩ := mid_fault HM.out hk hg0
   have Q9 := hidW q
   have ONE := hidW (show Plain.oneB nx nb = false from by unfold Plain.oneB; simp; omega)
   clear q h2c hin
   go_wp2_with fail
   refine (isOneOf_any _ _ _).mono ?_
   rintro e w9 ⟨rfl, hw9⟩
   rw [hw9, ONE.out]
   clear hw9 w9
   go_wp2
   refine bodyPost_ret (v := .tuple #[]) (by simp [results, Tryz.results52, go_sem]) rfl ⟨rfl, M, ?_⟩
   rw [← HTE.out]
   exact Q9.out
 ·have e4 : a0 = r0 ∧ a1 = r1 ∧ a2 = r2 ∧ a3 = r3 := by simpa using hbv
  obtain ⟨rfl, rfl, rfl, rfl⟩ := e4
  clear hbv
  go_enter Tryz.func52, Tryz.ntmps52
  go_upto_region 0 with fail
  refine regionExt w (by kernel_rfl) (by kernel_rfl) ?_
  repeat (go_big_quiet_step ((rename_i X; go_at_call 50; refine Calls.mono (RG.out _ X.b) ?_; rintro e w3 ⟨rfl, hb3⟩; exact ⟨rfl, X.on hb3⟩)))
  refine Go.BigFrame.wpQuiet_want (by rfl) (fun K hK => ⟨.bool false, fun w' _ => ?_, hK _ ?_⟩)
  ·have q := EQ4.out w'
   simp [Oper.quietAt, execOp, gR, binOp, q, Oper.quietUpon, go_sem]
  refine wpQuiet_nil ?_
  clear hne u0 u1 u2 u3 u4 EQ4
  rintro w3 ⟨X3, rfl⟩
  obtain ⟨V2, hX3⟩ : ∃ V2, X3.w = V2 := ⟨_, rfl⟩
  have hb3 := X3.b
  rw [hX3] at hb3 ⊢
  clear hX3 X3
  have HM := hidW (mid_eq HH.out HT.out rfl hb3)
  have HBTU := hidW (HH.out.bt.same (hb3.block b hz))
  clear hb3
  have hkb := HM.out.o
  obtain ⟨g9, c9, y9, e9, -, -, -, zg, l0, -, l2, lf⟩ := HM.out.o.thread (show (⟨d.ths.set k ⟨tpc, [a0, a1, a2, a3], tst⟩, d.chs, d.tr⟩ : SD).ths[k]? = some ⟨tpc, [a0, a1, a2, a3], tst⟩ from List.getElem?_set_self hk)
  injection e9 with h1 h2 h3
  injection h1 with h1
  injection h1 with h1
  subst h1 h3
  clear h2 hkb
  obtain ⟨-, -, -, p3, p4, -, pf, pz, -⟩ := HM.out.t
  by_cases h2c : code = 2
  ·have HTE := hidW (show (⟨tpc, [a0, a1, a2, a3], 2⟩ : TD) = T from by rw [← HTT.out, if_pos (.inl h2c)])
   obtain ⟨M, q⟩ := mid_fault HM.out hk hg0
   have Q9 := hidW q
   have hee : (code == 2) = true := by simp [h2c]
   clear q h2c
   go_wp2
   refine bodyPost_ret (v := .tuple #[]) (by simp [results, Tryz.results52, go_sem]) rfl ⟨rfl, M, ?_⟩
   rw [← HTE.out]
   exact Q9.out
  have hee : (code == 2) = false := by simp [h2c]
  by_cases hin : 0 ≤ nx ∧ nx < (nb : Int)
  ·have HTE := hidW (show (⟨nx, [a0, a1, a2, a3], st⟩ : TD) = T from by rw [← HTT.out, if_neg (fun q => by rcases q with q | q; exact h2c q; exact q hin)])
   obtain ⟨M, q⟩ := mid_done HM.out hk hg0
   have Q9 := hidW q
   have ONE := hidW (show Plain.oneB nx nb = true from by unfold Plain.oneB; simp; omega)
   clear q h2c hin
   go_wp2_with fail
   refine (isOneOf_any _ _ _).mono ?_
   rintro e w9 ⟨rfl, hw9⟩
   rw [hw9, ONE.out]
   clear hw9 w9
   go_wp2_with fail
   have ngb : ¬ g1 = b := fun e => HM.out.o.hitU (HBTU.out) (by rw [← e]; exact .inl (.inl rfl))
   have nbg : ¬ b = g1 := fun e => ngb e.symm
   go_region_held3 (fun w' => w'.cell? ⟨b, 3, none⟩ = some (.int .i64 nx) ∧ w'.cell? ⟨b, 4, none⟩ = some (.int .i64 st)) (go_keep) (fail)
   all_goals
    go_wp2
    exact ⟨rfl, .tuple #[], by simp [results, Tryz.results52, go_sem], rfl, M, by rw [← HTE.out]; first | exact Q9.out | exact Q9.out.drew⟩
  ·have HTE := hidW (show (⟨tpc, [a0, a1, a2, a3], 2⟩ : TD) = T from by rw [← HTT.out, if_pos (.inr hin)])
   obtain ⟨M, q⟩ := mid_fault HM.out hk hg0
   have Q9 := hidW q
   have ONE := hidW (show Plain.oneB nx nb = false from by unfold Plain.oneB; simp; omega)
   clear q h2c hin
   go_wp2_with fail
   refine (isOneOf_any _ _ _).mono ?_
   rintro e w9 ⟨rfl, hw9⟩
   rw [hw9, ONE.out]
   clear hw9 w9
   go_wp2
   refine bodyPost_ret (v := .tuple #[]) (by simp [results, Tryz.results52, go_sem]) rfl ⟨rfl, M, ?_⟩
   rw [← HTE.out]
   exact Q9.out
end Go.Proofs.YtknffngbdakblaaGreat
