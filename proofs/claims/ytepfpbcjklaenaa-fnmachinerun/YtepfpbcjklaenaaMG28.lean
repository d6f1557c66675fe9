/- DrawMachineRun: a machine and picks, as they are read. Conditions: the code's bytes lie in memory. sameInts of the laws, beside Lists. Conditions: rows of at most a thousand million numbers. -/
import Derived.Test.YtepfpbcjklaenaaMDrawMd
import Derived.Test.YtepfpbcjklaenaaMG01
namespace Go.Proofs.Ytepfpbcjklaenaa
section
set_option linter.unusedSimpArgs false
set_option linter.unusedVariables false
set_option maxRecDepth 100000
open Go.RowKit Go.Deep
/- a drawn machine in its box, the box of the answer below -/
structure Dq (w V : World) (p bx : Nat) (s : Option Addr) (n c : Nat) (q : MP) (d : MD) : Prop where
 x : X4 V bx (.slice q.s1 d.codes.length q.c1) (.slice q.s2 d.cores.length q.c2) (.slice q.s3 d.mem.length q.c3) (.slice q.s4 d.tr.length q.c4)
 ma : MaR V (p + 1) bx q.s1 q.s2 q.s3 q.s4 d
 cb : CB V p s n c
 bt : Below w.heap.size w V
 r : X4 V w.heap.size (.slice none 0 0) (.slice none 0 0) (.slice none 0 0) (.slice none 0 0)
 wp : w.heap.size < p
 pb : p < bx
theorem Dq.step {w V V' : World} {p bx n c : Nat} {s : Option Addr} {q : MP} {d : MD} (h : Dq w V p bx s n c q d) (hc : CB V' p s n c) (hb : But p V V') : Dq w V' p bx s n c q d := by
 have h1 := h.wp
 have h2 := h.pb
 have h3 := h.x.x.z
 exact ⟨h.x.but hb (by omega), h.ma.keep (hb.keepG (by omega) (by omega)), hc, h.bt.trans (hb.below (by omega) (by omega)), h.r.but hb (by omega), h1, h2⟩
theorem Dq.low {w V V' : World} {p bx n c : Nat} {s : Option Addr} {q : MP} {d : MD} (h : Dq w V p bx s n c q d) (hb : Below V.heap.size V V') : Dq w V' p bx s n c q d :=
 h.step (h.cb.lowB hb (by have := h.pb; have := h.x.x.z; omega)) (But.of_below hb)
theorem Dq.new {w A w1 V : World} {p n c : Nat} {s : Option Addr} {q : MP} {d : MD} (hr : X4 A w.heap.size (.slice none 0 0) (.slice none 0 0) (.slice none 0 0) (.slice none 0 0)) (hA : Below w.heap.size w A) (hw : w.heap.size < p) (hp : p < A.heap.size) (hb : But p A w1) (hc : CB w1 p s n c) (ma : MaR w1 (A.heap.size + 1) w1.heap.size q.s1 q.s2 q.s3 q.s4 d) (hV : w1.alloc (.cells #[.slice q.s1 d.codes.length q.c1, .slice q.s2 d.cores.length q.c2, .slice q.s3 d.mem.length q.c3, .slice q.s4 d.tr.length q.c4] 34) = V) : Dq w V p w1.heap.size s n c q d ∧ V.heap.size = w1.heap.size + 1 := by
 obtain ⟨V', hV', x, k, z⟩ := X4.new w1 (.slice q.s1 d.codes.length q.c1) (.slice q.s2 d.cores.length q.c2) (.slice q.s3 d.mem.length q.c3) (.slice q.s4 d.tr.length q.c4) 34
 have e : V' = V := hV'.symm.trans hV
 subst e
 have hs := hb.size
 refine ⟨⟨x, (ma.mono (by omega) (Nat.le_refl _)).keep (Keep.of_below k (Nat.le_refl _)), hc.lowB k (by omega), (hA.trans (hb.below (by omega) (by omega))).trans (k.mono (by omega)), (hr.but hb (by omega)).keep k (by omega), hw, by omega⟩, by rw [← hV']; simp⟩
set_option maxRecDepth 100000 in
set_option maxHeartbeats 8000000 in
theorem drawMRun_any (s : Option Addr) (n c : Nat) (w : World) (hb : Bytes w w.heap.size s n) (hn : n ≤ maxLen) :
  Calls Try.prog 19 #[.slice s n c] w fun e w' => ∃ (q : MP) (d : MD) (sp : Option Addr) (cp : Nat) (l : List ND), e = .returned (.tuple #[.agg #[.slice q.s1 d.codes.length q.c1, .slice q.s2 d.cores.length q.c2, .slice q.s3 d.mem.length q.c3, .slice q.s4 d.tr.length q.c4], .slice sp l.length cp]) ∧ MaR w' w.heap.size w'.heap.size q.s1 q.s2 q.s3 q.s4 d ∧ MaSz d ≤ 21000 ∧ d.cores.length ≤ 4 ∧ OwnPk w' w.heap.size (.slice sp l.length cp) l ∧ l.length ≤ 120 ∧ (∀ x ∈ l, 0 ≤ x.v ∧ x.v ≤ 3) ∧ Below w.heap.size w w' := by
 have HB := hidM1 hb
 have HN := hidM1 hn
 clear hb hn
 go_enter Try.func19, Try.ntmps19
 obtain ⟨A, hA, xA, kA, zA⟩ := X4.new w (.slice none 0 0) (.slice none 0 0) (.slice none 0 0) (.slice none 0 0) 34
 have sA : A.heap.size = w.heap.size + 1 := by rw [← hA]; simp
 go_upto_region 1 with fail
 try rw [hA]
 have SA := hidM1 sA
 clear hA sA
 have XA := hidM1 xA
 have KA := hidM1 kA
 clear xA kA
 go_wp2_with fail
 refine (new_cb s n c A (HB.out.up KA.out) HN.out).mono ?_
 rintro e w1 ⟨rfl, hc1, hb1, hs1⟩
 have X1 := hidM1 (XA.out.keep hb1 zA)
 have K1 := hidM1 (KA.out.trans (hb1.mono (by omega)))
 have C1 := hidM1 hc1
 have HS1 := hidM1 hs1
 clear hc1 hb1 hs1 XA KA HB HN
 go_wp2_with fail
 refine (drawM_any A.heap.size s n c w1 C1.out).mono ?_
 rintro e w2 ⟨q, d, rfl, hma, hsz, hk, hc2, hb2⟩
 have SZ := hidM1 hsz
 have KK := hidM1 hk
 have MA := hidM1 hma
 have C2 := hidM1 hc2
 have B2 := hidM1 hb2
 clear hma hsz hk hc2 hb2 C1
 go_upto_region 3 with fail
 obtain ⟨V, hV⟩ : ∃ V, w2.alloc (.cells #[.slice q.s1 d.codes.length q.c1, .slice q.s2 d.cores.length q.c2, .slice q.s3 d.mem.length q.c3, .slice q.s4 d.tr.length q.c4] 34) = V := ⟨_, rfl⟩
 have dq := Dq.new X1.out K1.out (p := A.heap.size) (by omega) (by have := HS1.out; omega) B2.out C2.out MA.out hV
 rw [hV]
 clear hV
 obtain ⟨p, hpp⟩ : ∃ p, A.heap.size = p := ⟨_, rfl⟩
 obtain ⟨bx, hbx⟩ : ∃ p, w2.heap.size = p := ⟨_, rfl⟩
 rw [hpp, hbx] at dq ⊢
 obtain ⟨dq, zV⟩ := dq
 have DQ := hidM1 dq
 clear dq MA C2 B2 X1 K1 hpp hbx HS1 SA zA
 have hpb := DQ.out.pb
 have hwp := DQ.out.wp
 obtain ⟨⟨xz, xc0, xc1, xc2, xc3⟩, -⟩ := DQ.out.x
 have wl : IntKind.i64.wrap ((d.cores.length : Int) + 1) = (d.cores.length : Int) + 1 := Go.IntWalk.i64_in _ (by have := KK.out; omega)
 have kd : Below V.heap.size V V.drew := (Below.refl _ _).drew
 have D1 := hidM1 (DQ.out.low kd)
 have PKC := hidM1 (drawPicks_ok p s n c (d.cores.length + 1) 15 V.drew D1.out.cb (by have := KK.out; omega) (by omega) (by omega))
 clear kd DQ
 obtain ⟨⟨rz, rc0, rc1, rc2, rc3⟩, rf⟩ := D1.out.r
 have nb : ¬ bx = w.heap.size := by omega
 have nb' : ¬ w.heap.size = bx := by omega
 go_region_held3 (fun w' => w'.cell? ⟨bx, 0, none⟩ = some (.slice q.s1 d.codes.length q.c1) ∧ w'.cell? ⟨bx, 1, none⟩ = some (.slice q.s2 d.cores.length q.c2) ∧ w'.cell? ⟨bx, 2, none⟩ = some (.slice q.s3 d.mem.length q.c3) ∧ w'.cell? ⟨bx, 3, none⟩ = some (.slice q.s4 d.tr.length q.c4)) (go_keep) (first | (go_at_call 44; refine PKC.out.mono ?_; rintro e w10 ⟨vp, lp, rfl, hpk⟩; have PK := hidM1 hpk; obtain ⟨sp, cp, ep, -⟩ := hpk.o.nts; subst ep; have BT := hidM1 hpk.bt; have D2 := hidM1 (D1.out.step hpk.cb hpk.bt); clear hpk; have x0' := D2.out.x.x.c0; have x1' := D2.out.x.x.c1; have x2' := D2.out.x.x.c2; have x3' := D2.out.x.x.c3; have r0' := D2.out.r.x.c0; have r1' := D2.out.r.x.c1; have r2' := D2.out.r.x.c2; have r3' := D2.out.r.x.c3; have rf' := D2.out.r.fz))
 have hz := BT.out.size
 clear rc0 rc1 rc2 rc3 rf rz xc0 xc1 xc2 xc3 xz wl x0' x1' x2' x3' D1 PKC
 go_wp2
 refine bodyPost_ret (v := .tuple #[.agg #[.slice q.s1 d.codes.length q.c1, .slice q.s2 d.cores.length q.c2, .slice q.s3 d.mem.length q.c3, .slice q.s4 d.tr.length q.c4], .slice sp lp.length cp]) ?_ rfl ⟨q, d, sp, cp, lp, rfl, ?_⟩
 ·simp [results, Try.results19, go_sem, r0', r1', r2', r3']
 ·obtain ⟨Y, hY, -, mY, sY, fY, bY⟩ := X4.put4 (.slice q.s1 d.codes.length q.c1) (.slice q.s2 d.cores.length q.c2) (.slice q.s3 d.mem.length q.c3) (.slice q.s4 d.tr.length q.c4) D2.out.r D2.out.ma (by omega)
  rw [hY]
  have kY := bY _ _ D2.out.bt (Nat.le_refl _)
  have hxz := D2.out.x.x.z
  have e0 : V.drew.heap.size = V.heap.size := rfl
  refine ⟨mY.mono (by omega) (by omega), SZ.out, KK.out, ?_, PK.out.le, PK.out.v3, kY⟩
  have o := PK.out.o
  exact (ownLow' (ownKeep' o (fun k hk => fY k (by have := (World.ownsRow.lt o k hk).1; omega))) (by omega))
end
section
set_option linter.unusedSimpArgs false
set_option linter.unusedVariables false
set_option maxRecDepth 100000
open Go.RowKit
set_option maxHeartbeats 400000 in
theorem sameInts_any (s s' : Option Addr) (l l' : List Int) (c c' : Nat) (w : World) (h : Ints w s l) (h' : Ints w s' l') (hb : l.length ≤ 1000000000) :
  Calls Try.prog 17 #[.slice s l.length c, .slice s' l'.length c'] w fun e w' => e = .returned (.bool (decide (l = l'))) ∧ ∃ n, w' = w.drewN n := by
 by_cases hn : l.length = l'.length
 ·have hne : ((l.length : Int) != (l'.length : Int)) = false := by simp; omega
  have HN : Hid (l.length = l'.length) := hn
  rcases h with rfl | ⟨g, o, rfl, hg, hc⟩
  ·have : l' = [] := by cases l' with | nil => rfl | cons a t => simp at hn
   subst this
   clear hn
   go_enter Try.func17, Try.ntmps17
   go_wp2
   go_loop [5] (fun i => i = .int .i64 0) (fun _ => 0)
   case atStart => rfl
   case round =>
    subst hrel
    go_wp2
    go_ret
    exact ⟨by simp, 0, rfl⟩
  ·rcases h' with rfl | ⟨g', o', rfl, hg', hc'⟩
   ·have : l = [] := by cases l with | nil => rfl | cons a t => simp at hn
    subst this
    clear hn
    go_enter Try.func17, Try.ntmps17
    go_wp2
    go_loop [5] (fun i => i = .int .i64 0) (fun _ => 0)
    case atStart => rfl
    case round =>
     subst hrel
     go_wp2
     go_ret
     exact ⟨by simp, 0, rfl⟩
   ·have HC : Hid (∀ i, i < l.length → w.cell? ⟨g, o + i, none⟩ = some (.int .i64 (l.getD i 0))) := hc
    have HC' : Hid (∀ i, i < l'.length → w.cell? ⟨g', o' + i, none⟩ = some (.int .i64 (l'.getD i 0))) := hc'
    clear hn hc hc'
    go_enter Try.func17, Try.ntmps17
    go_wp2
    go_loopw [5] (fun i wr => ∃ k m : Nat, k ≤ l.length ∧ i = .int .i64 k ∧ (∀ j, j < k → l.getD j 0 = l'.getD j 0) ∧ wr = w.drewN m) (fun i _ => l.length - (intOf i).toNat)
    case atStart => exact ⟨0, 0, Nat.zero_le _, rfl, fun j hj => absurd hj (Nat.not_lt_zero _), rfl⟩
    case round =>
     obtain ⟨k, m, hk, rfl, hj, rfl⟩ := hrel
     have HJ : Hid (∀ j, j < k → l.getD j 0 = l'.getD j 0) := hj
     clear hj
     by_cases hlt : k < l.length
     ·have hlt' : k < l'.length := by have := HN.out; omega
      have e1 := HC.out k hlt
      have e2 := HC'.out k hlt'
      generalize hx : l.getD k 0 = x at e1
      generalize hy : l'.getD k 0 = y at e2
      have HX : Hid (l.getD k 0 = x) := hx
      have HY : Hid (l'.getD k 0 = y) := hy
      clear hx hy
      have b0 : (0 : Int) ≤ (k : Int) := by omega
      have b1 : (k : Int) < (l.length : Int) := by omega
      have b2 : (k : Int) < (l'.length : Int) := by omega
      by_cases hxy : x = y
      ·have hd : (x != y) = false := by simp [hxy]
       have HXY : Hid (x = y) := hxy
       clear hxy
       go_wp2_with fail
       go_quiet (fail)
       go_wp2
       go_roundw
       case rel =>
        refine ⟨k + 1, _, by omega, by go_num, ?_, rfl⟩
        intro j hj
        by_cases e : j < k
        ·exact HJ.out j e
        ·have : j = k := by omega
         subst this
         rw [HX.out, HY.out, HXY.out]
       case measure => simp [intOf]; omega
      ·have hd : (x != y) = true := by simp [hxy]
       have HXY : Hid (¬ x = y) := hxy
       clear hxy
       go_wp2_with fail
       go_quiet (fail)
       go_wp2
       go_ret
       refine ⟨ret_bool' ?_, m + nq, World.drewN_drewN _ _ _⟩
       symm
       rw [decide_eq_false_iff_not]
       rintro rfl
       exact HXY.out (HX.out.symm.trans HY.out)
     ·go_wp2
      go_ret
      refine ⟨ret_bool' ?_, _, rfl⟩
      symm
      rw [decide_eq_true_iff]
      exact getD_eq_all l l' HN.out (fun j hj => HJ.out j (by omega))
 ·have hne : ((l.length : Int) != (l'.length : Int)) = true := by simp; omega
  have HN : Hid (¬ l.length = l'.length) := hn
  clear hn
  go_enter Try.func17, Try.ntmps17
  go_wp2
  go_ret
  refine ⟨ret_bool' ?_, 0, rfl⟩
  symm
  rw [decide_eq_false_iff_not]
  rintro rfl
  exact HN.out rfl
end
end Go.Proofs.Ytepfpbcjklaenaa
