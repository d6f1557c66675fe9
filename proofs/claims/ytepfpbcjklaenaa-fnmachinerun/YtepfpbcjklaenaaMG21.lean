/- MachineNew of the program. Conditions: the codes are counted. CodeOk of the specification, at every list of at most 1048576 steps. -/
import Derived.Test.YtepfpbcjklaenaaMG00
import Derived.Test.YtepfpbcjklaenaaMG01
import Derived.Test.YtepfpbcjklaenaaMG18
import Derived.Test.YtepfpbcjklaenaaMG02
import Derived.Test.YtepfpbcjklaenaaMKOkB
import Derived.Test.YtepfpbcjklaenaaMG07
import Derived.Test.YtepfpbcjklaenaaMG03
import Derived.Test.YtepfpbcjklaenaaMG17
import Derived.Test.YtepfpbcjklaenaaMG04
import Derived.Test.YtepfpbcjklaenaaMC7SpA
import Derived.Test.YtepfpbcjklaenaaMC7Leaf
namespace Go.Proofs.Ytepfpbcjklaenaa
section
set_option linter.unusedSimpArgs false
set_option linter.unusedVariables false
set_option maxRecDepth 100000
open Go.RowKit
set_option maxHeartbeats 2000000 in
theorem implMachNew_yes (s : Option Addr) (c lo hi : Nat) (l : List (List I5)) (w : World) (h : CsR w lo hi s l) (hB : hi ≤ w.heap.size) (hl : l.length + szC l ≤ 1048576) (hc : codesB l = true) :
  Calls Try.prog 7 #[.slice s l.length c] w fun e w' => ∃ p : MP, e = .returned (.tuple #[.agg #[.slice p.s1 (newMd l).codes.length p.c1, .slice p.s2 (newMd l).cores.length p.c2, .slice p.s3 (newMd l).mem.length p.c3, .slice p.s4 (newMd l).tr.length p.c4], .bool true]) ∧ MaO w' w.heap.size w'.heap.size p (newMd l) ∧ Below w.heap.size w w' := by
 have H : Hid (CsR w lo hi s l) := h
 have HC : Hid (codesB l = true) := hc
 have h8 : ∀ w : World, (Instr.makeSlice 41 (.int .i64 8) (.int .i64 8)).run Try.prog w = .ok (.slice (some ⟨w.heap.size, 0, none⟩) 8 8) (w.alloc (.cells (madeCells #[.int .i64 0] 8) 3)) := fun w => mkInt 8 (by omega) w
 have h24 : ∀ w : World, (Instr.makeSlice 41 (.int .i64 24) (.int .i64 24)).run Try.prog w = .ok (.slice (some ⟨w.heap.size, 0, none⟩) 24 24) (w.alloc (.cells (madeCells #[.int .i64 0] 24) 3)) := fun w => mkInt 24 (by omega) w
 clear h hc
 go_enter Try.func7, Try.ntmps7
 go_wp2_with fail
 obtain ⟨W0, hW0, x0, k0, z0⟩ := X4.new w (.slice none 0 0) (.slice none 0 0) (.slice none 0 0) (.slice none 0 0) 34
 rw [hW0]
 clear hW0
 refine (codesOk_any s c lo hi l W0 (H.out.keep (Keep.of_below k0 hB)) (by omega) hl).mono ?_
 rintro e w1 ⟨rfl, hb1⟩
 rw [HC.out]
 have K1 : Hid (Below w.heap.size w w1) := k0.trans (hb1.mono (by omega))
 have R1 : Hid (X4 w1 w.heap.size (.slice none 0 0) (.slice none 0 0) (.slice none 0 0) (.slice none 0 0)) := x0.keep hb1 z0
 have z1 := hb1.size
 clear hb1 x0 k0
 go_wp2_with fail
 refine (sameCodes_any s c lo hi l w1 (H.out.keep (Keep.of_below K1.out hB)) (by omega) hl).mono ?_
 rintro e w2 ⟨vc, LC, rfl, hm2, ho2, hb2⟩
 have K2 : Hid (Below w.heap.size w w2) := K1.out.trans (hb2.mono (by omega))
 have R2 : Hid (X4 w2 w.heap.size (.slice none 0 0) (.slice none 0 0) (.slice none 0 0) (.slice none 0 0)) := R1.out.keep hb2 (by omega)
 obtain ⟨sc, cc, RC, evc, gc⟩ := ho2.go
 have e2 : LC.length = l.length := by have := congrArg List.length hm2; simpa using this
 rw [e2] at evc
 have G2 : Hid (GO w2 w1.heap.size w2.heap.size sc TC RC (l.map codeV)) := by
  have e : LC.map (fun x => codeV x.l) = l.map codeV := by
   rw [← hm2, List.map_map]
   rfl
  show GO _ _ _ _ _ _ _
  rw [← e]
  exact gc
 have z2 := hb2.size
 clear hm2 ho2 hb2 R1 e2 gc
 subst evc
 go_wp2_with fail
 refine (implNew_any w2).mono ?_
 rintro e w3 ⟨sm, cm, S, rfl, hm3, hb3⟩
 have z3 := hb3.size
 have K3 : Hid (Below w.heap.size w w3) := K2.out.trans (hb3.mono (by omega))
 have R3 : Hid (X4 w3 w.heap.size (.slice none 0 0) (.slice none 0 0) (.slice none 0 0) (.slice none 0 0)) := R2.out.keep hb3 (by omega)
 have G3 : Hid (GO w3 w1.heap.size w2.heap.size sc TC RC (l.map codeV)) := G2.out.keep (Keep.of_below hb3 (Nat.le_refl _))
 have M3 : Hid (MO w3 w2.heap.size w3.heap.size sm S (newM 24)) := hm3
 clear hm3 hb3 R2 G2
 go_wp2
 obtain ⟨W4, hW4, xm, km, zm⟩ := X4.new w3 (.slice sc l.length cc) (.slice none 0 0) (.slice sm 24 cm) (.slice none 0 0) 34
 rw [hW4]
 clear hW4
 obtain ⟨bm, hbm, hbm1, hbm2⟩ : ∃ b, w3.heap.size = b ∧ w3.heap.size ≤ b ∧ b ≤ w3.heap.size := ⟨_, rfl, Nat.le_refl _, Nat.le_refl _⟩
 rw [hbm] at xm km zm
 have XM : Hid (X4 W4 bm (.slice sc l.length cc) (.slice none 0 0) (.slice sm 24 cm) (.slice none 0 0)) := xm
 have KM : Hid (Below bm w3 W4) := km
 have ZM : bm + 1 ≤ W4.heap.size := zm
 rw [hbm]
 clear xm km hbm zm
 go_loopw [15] (fun i wr => ∃ (k : Nat) (v : Value) (L : List KV), k ≤ l.length ∧ i = .int .i64 k ∧ L.length = k ∧ L.map KV.d = List.replicate k zKD ∧ OwnK wr (bm + 1) v L ∧ X4 wr bm (.slice sc l.length cc) v (.slice sm 24 cm) (.slice none 0 0) ∧ Below bm w3 wr ∧ bm + 1 ≤ wr.heap.size) (fun i _ => l.length - (intOf i).toNat)
 case atStart => exact ⟨0, _, [], Nat.zero_le _, rfl, rfl, rfl, OwnK.nil _ _, XM.out, KM.out, ZM⟩
 case round =>
  obtain ⟨k, v, L, hk, rfl, hL, hD, ho, hx, hb, hz⟩ := hrel
  obtain ⟨sv, cv, ev⟩ := ownSl ho.row
  rw [hL] at ev
  subst ev
  have HO : Hid (OwnK wr (bm + 1) (.slice sv k cv) L) := ho
  have HX : Hid (X4 wr bm (.slice sc l.length cc) (.slice sv k cv) (.slice sm 24 cm) (.slice none 0 0)) := hx
  have HB : Hid (Below bm w3 wr) := hb
  have HL : Hid (L.length = k) := hL
  have HD : Hid (L.map KV.d = List.replicate k zKD) := hD
  obtain ⟨y0, y1, y2, y3, y4⟩ := hx.x
  have yf := hx.fz
  clear ho hb hL hD hx
  by_cases hlt : k < l.length
  ·have b1 : (k : Int) < (l.length : Int) := by omega
   go_wp2
   have HOA : Hid (OwnK (WA wr.drew) (bm + 1) (.slice sv k cv) L) := (HO.out.below (Below.drew (Below.refl _ _))).below (WA_below _)
   have HOB : Hid (OwnK (WB wr.drew) (bm + 1) (.slice sv k cv) L) := (HO.out.below (Below.drew (Below.refl _ _))).below (WB_below _)
   have HLn : L.length ≤ 1073741824 := by have := HL.out; omega
   have zs : bm + 1 ≤ wr.drew.heap.size := hz
   have zb1 : bm < wr.heap.size + 1 := by omega
   have zb2 : bm < wr.heap.size + 1 + 1 := by omega
   go_region_law (first | (refine step_recK rfl _ _ rfl (WA wr.drew) (bm + 1) (.slice sv k cv) L (yA wr.drew) rfl HOA.out (WA_own zs) (new_two (.inl rfl)) rfl rfl (wr.heap.size + 1 + 1) (by rw [WA_size]; rfl) rfl HLn (by rw [WA_size]; omega) (new_sep (HO.out.below (Below.drew (Below.refl _ _))) (.inl rfl)) ?_; intro g6 c6 w6 hp6; have Y6 := (show Hid (∃ y : KV, y.d = zKD ∧ OwnK w6 (bm + 1) (.slice (some ⟨g6, 0, none⟩) (L.length + 1) c6) (L ++ [y])) from ⟨yA wr.drew, rfl, hp6.own⟩); have K6 := (show Below (bm + 1) wr w6 from ((Below.drew (Below.refl (bm + 1) wr)).trans ((WA_below wr.drew).mono zs)).trans hp6.low); have X6 := HX.out.keep K6 (show bm < bm + 1 by omega); have t1 := X6.x.c1; have t2 := X6.fz 1; clear hp6) | (refine step_recK rfl _ _ rfl (WB wr.drew) (bm + 1) (.slice sv k cv) L (yB wr.drew) rfl HOB.out (WB_own zs) (new_two (.inr rfl)) rfl rfl (wr.heap.size + 1 + 1) (by rw [WB_size]; rfl) rfl HLn (by rw [WB_size]; omega) (new_sep (HO.out.below (Below.drew (Below.refl _ _))) (.inr rfl)) ?_; intro g6 c6 w6 hp6; have Y6 := (show Hid (∃ y : KV, y.d = zKD ∧ OwnK w6 (bm + 1) (.slice (some ⟨g6, 0, none⟩) (L.length + 1) c6) (L ++ [y])) from ⟨yB wr.drew, rfl, hp6.own⟩); have K6 := (show Below (bm + 1) wr w6 from ((Below.drew (Below.refl (bm + 1) wr)).trans ((WB_below wr.drew).mono zs)).trans hp6.low); have X6 := HX.out.keep K6 (show bm < bm + 1 by omega); have t1 := X6.x.c1; have t2 := X6.fz 1; clear hp6))
   all_goals
    have XX : Hid (X4 w6 bm (.slice sc l.length cc) (.slice sv k cv) (.slice sm 24 cm) (.slice none 0 0)) := X6
    have KK : Hid (Below (bm + 1) wr w6) := K6
    have z6 := K6.size
    clear X6 K6 y1 y2 y3 y4 yf
    go_wp2
    go_roundw
    case rel =>
     obtain ⟨y, hy, oy⟩ := Y6.out
     refine ⟨k + 1, _, L ++ [y], by omega, by go_num, by simp [HL.out], ?_, oy.keep (fun b hb _ => Below.heap_setCell _ _ _ b (by show b ≠ bm; omega)), XX.out.set1, (HB.out.trans (KK.out.mono (by omega))).setCell (p := ⟨bm, 1, none⟩) (Nat.le_refl _) _, by simp; omega⟩
     rw [List.map_append, HD.out, List.replicate_succ']
     simp [hy]
    case measure => simp [intOf]; omega
  ·have e : k = l.length := by omega
   subst e
   obtain ⟨sk, ck, RK, evk, gk, -⟩ := HO.out.go
   have kn := HL.out
   rw [kn] at evk
   injection evk with evk1 _ evk2
   subst evk1 evk2
   have rx := R3.out.keep HB.out (by omega)
   obtain ⟨r0, r1, r2, r3, r4⟩ := rx.x
   have rf := rx.fz
   have RX : Hid (X4 wr w.heap.size (.slice none 0 0) (.slice none 0 0) (.slice none 0 0) (.slice none 0 0)) := rx
   have GK : Hid (GO wr (bm + 1) wr.heap.size sv TK RK ((newMd l).cores.map coreV)) := by
    have e : L.map (fun x => coreV x.d) = (newMd l).cores.map coreV := by
     have q := HD.out
     show _ = (List.replicate l.length zKD).map coreV
     rw [← q, List.map_map]
     rfl
    show GO _ _ _ _ _ _ _
    rw [← e]
    exact gk
   clear rx gk
   have zw : w.heap.size < wr.heap.size := by omega
   go_wp2
   obtain ⟨Z, hZ, xz, kz, sz, fz⟩ : ∃ Z, (((wr.setCell ⟨w.heap.size, 0, none⟩ (.slice sc l.length cc)).setCell ⟨w.heap.size, 1, none⟩ (.slice sv l.length cv)).setCell ⟨w.heap.size, 2, none⟩ (.slice sm 24 cm)).setCell ⟨w.heap.size, 3, none⟩ (.slice none 0 0) = Z ∧ X4 Z w.heap.size (.slice sc l.length cc) (.slice sv l.length cv) (.slice sm 24 cm) (.slice none 0 0) ∧ Below w.heap.size w Z ∧ Z.heap.size = wr.heap.size ∧ ∀ k, k ≠ w.heap.size → Z.heap[k]? = wr.heap[k]? := by
    refine ⟨_, rfl, RX.out.set0.set1.set2.set3, ?_, by simp, fun k hk => ?_⟩
    ·refine Below.setCell (Below.setCell (Below.setCell (Below.setCell (K3.out.trans (HB.out.mono (by omega))) ?_ _) ?_ _) ?_ _) ?_ _ <;> simp
    ·rw [Below.heap_setCell _ _ _ k hk, Below.heap_setCell _ _ _ k hk, Below.heap_setCell _ _ _ k hk, Below.heap_setCell _ _ _ k hk]
   have kp : ∀ {a b : Nat}, w.heap.size < a → b ≤ bm → Keep a b w3 Z := fun h1 h2 k h3 h4 => (fz k (by omega)).trans (HB.out.block k (by omega))
   have mo : MaO Z w.heap.size Z.heap.size ⟨sc, cc, RC, sv, cv, RK, sm, cm, S, none, 0⟩ (newMd l) :=
    MaO.of3 (G3.out.keep (kp (by omega) (by omega))) (M3.out.keep (kp (by omega) (by omega))) (GK.out.keep (fun k h3 h4 => fz k (by omega))) rfl (by omega) (by omega) (by omega) (by omega)
   refine bodyPost_ret (v := .tuple #[.agg #[.slice sc l.length cc, .slice sv l.length cv, .slice sm 24 cm, .slice none 0 0], .bool true]) ?_ rfl ?_
   ·rw [hZ]
    simp [results, Try.results7, go_sem, xz.x.c0, xz.x.c1, xz.x.c2, xz.x.c3]
   ·rw [hZ]
    refine ⟨⟨sc, cc, RC, sv, cv, RK, sm, cm, S, none, 0⟩, ?_, mo, kz⟩
    simp [newMd, newM_len]
set_option maxHeartbeats 1000000 in
theorem implMachNew_no (s : Option Addr) (c lo hi : Nat) (l : List (List I5)) (w : World) (h : CsR w lo hi s l) (hB : hi ≤ w.heap.size) (hl : l.length + szC l ≤ 1048576) (hc : codesB l = false) :
  Calls Try.prog 7 #[.slice s l.length c] w fun e w' => e = .returned (.tuple #[.agg #[.slice none 0 0, .slice none 0 0, .slice none 0 0, .slice none 0 0], .bool false]) ∧ Below w.heap.size w w' := by
 have H : Hid (CsR w lo hi s l) := h
 have HC : Hid (codesB l = false) := hc
 clear h hc
 go_enter Try.func7, Try.ntmps7
 go_wp2_with fail
 obtain ⟨W0, hW0, x0, k0, z0⟩ := X4.new w (.slice none 0 0) (.slice none 0 0) (.slice none 0 0) (.slice none 0 0) 34
 rw [hW0]
 clear hW0
 refine (codesOk_any s c lo hi l W0 (H.out.keep (Keep.of_below k0 hB)) (by omega) hl).mono ?_
 rintro e w1 ⟨rfl, hb1⟩
 rw [HC.out]
 have K1 : Hid (Below w.heap.size w w1) := k0.trans (hb1.mono (by omega))
 have rx := x0.keep hb1 z0
 have RX : Hid (X4 w1 w.heap.size (.slice none 0 0) (.slice none 0 0) (.slice none 0 0) (.slice none 0 0)) := rx
 obtain ⟨r0, r1, r2, r3, r4⟩ := rx.x
 have rf := rx.fz
 clear hb1 x0 k0 rx
 go_wp2
 have xz := RX.out.set0 (u := .slice none 0 0) |>.set1 (u := .slice none 0 0) |>.set2 (u := .slice none 0 0) |>.set3 (u := .slice none 0 0)
 refine bodyPost_ret (v := .tuple #[.agg #[.slice none 0 0, .slice none 0 0, .slice none 0 0, .slice none 0 0], .bool false]) (by simp [results, Try.results7, go_sem, xz.x.c0, xz.x.c1, xz.x.c2, xz.x.c3]) rfl ⟨rfl, ?_⟩
 refine Below.setCell (Below.setCell (Below.setCell (Below.setCell K1.out ?_ _) ?_ _) ?_ _) ?_ _ <;> simp
theorem implMachNew_any (s : Option Addr) (c lo hi : Nat) (l : List (List I5)) (w : World) (h : CsR w lo hi s l) (hB : hi ≤ w.heap.size) (hl : l.length + szC l ≤ 1048576) :
  Calls Try.prog 7 #[.slice s l.length c] w fun e w' => ∃ p : MP, e = .returned (.tuple #[.agg #[.slice p.s1 (newMa l).codes.length p.c1, .slice p.s2 (newMa l).cores.length p.c2, .slice p.s3 (newMa l).mem.length p.c3, .slice p.s4 (newMa l).tr.length p.c4], .bool (codesB l)]) ∧ MaO w' w.heap.size w'.heap.size p (newMa l) ∧ Below w.heap.size w w' := by
 unfold newMa
 cases hy : codesB l with
 | true => exact implMachNew_yes s c lo hi l w h hB hl hy
 | false =>
  refine (implMachNew_no s c lo hi l w h hB hl hy).mono ?_
  rintro e w' ⟨rfl, hb⟩
  exact ⟨noMP, rfl, noMa _ _ _, hb⟩
end
section
set_option linter.unusedSimpArgs false
set_option linter.unusedVariables false
set_option maxRecDepth 100000
open Go.RowKit
set_option maxRecDepth 100000 in
set_option maxHeartbeats 1000000 in
theorem specCode_some (g off c B : Nat) (l : List I5) (w : World) (hg : g < B) (hc : ∀ i, i < l.length → At5 w g (off + i * 5) (l.getD i z5)) (hB : B ≤ w.heap.size) (hl : l.length ≤ 1048576) :
  Calls Try.prog 41 #[.slice (some ⟨g, off, none⟩) l.length c] w fun e w' => e = .returned (.bool (codeB l)) ∧ Below w.heap.size w w' := by
 have HC : Hid (∀ i, i < l.length → At5 w g (off + i * 5) (l.getD i z5)) := hc
 clear hc
 go_enter Try.func41, Try.ntmps41
 cases h1 : Plain.inB (l.length : Int) 1 800
 ·have F : Hid (codeB l = false) := code_short h1
  go_wp2_with (go_at_call 33; refine (l1In_is _ _ _ _ _ h1).mono ?_; rintro e w' ⟨rfl, rfl⟩)
  go_ret
  exact ⟨by rw [F.out]; rfl, Below.refl _ _⟩
 have hlen : 1 ≤ l.length ∧ l.length ≤ 800 := by simp [Plain.inB] at h1; omega
 go_wp2_with (go_at_call 33; refine (l1In_is _ _ _ _ _ h1).mono ?_; rintro e w' ⟨rfl, hw⟩; have hw' := hw.symm; clear hw; subst hw')
 clear h1
 go_loopw [4] (fun i wr => ∃ k : Nat, k ≤ l.length ∧ i = .int .i64 k ∧ Below w.heap.size w wr ∧ (∀ i, i < k → stX (l.getD i z5) l.length = true)) (fun i _ => l.length - (intOf i).toNat)
 case atStart => exact ⟨0, Nat.zero_le _, rfl, Below.refl _ _, fun i hi => absurd hi (Nat.not_lt_zero _)⟩
 case round =>
  obtain ⟨k, hk, rfl, hb, hd⟩ := hrel
  have HB : Hid (Below w.heap.size w wr) := hb
  have HD : Hid (∀ i, i < k → stX (l.getD i z5) l.length = true) := hd
  clear hb hd
  by_cases hlt : k < l.length
  ·obtain ⟨f0, f1, f2, f3, f4⟩ := (HC.out k hlt).keep HB.out (by omega)
   cases hv : stX (l.getD k z5) l.length
   ·have F : Hid (codeB l = false) := code_no hlt hv
    generalize l.getD k z5 = x at f0 f1 f2 f3 f4 hv
    obtain ⟨xo, xr, xa, xb, xn⟩ := x
    have V : Hid (Plain.stepB xo xr xa xb xn l.length = false) := hv
    clear hv
    have b0 : (0 : Int) ≤ (k : Int) := by omega
    have b1 : (k : Int) < (l.length : Int) := by omega
    go_wp2_with fail
    refine (specStepOk_any _ _ _ _ _ _ _).mono ?_
    rintro e w1 ⟨rfl, hb1⟩
    rw [V.out]
    have hs1 := HB.out.size
    go_wp2
    go_ret
    exact ⟨by rw [F.out]; rfl, HB.out.trans (hb1.mono hs1)⟩
   ·have HV : Hid (stX (l.getD k z5) l.length = true) := hv
    generalize l.getD k z5 = x at f0 f1 f2 f3 f4 hv
    obtain ⟨xo, xr, xa, xb, xn⟩ := x
    have V : Hid (Plain.stepB xo xr xa xb xn l.length = true) := hv
    clear hv
    have b0 : (0 : Int) ≤ (k : Int) := by omega
    have b1 : (k : Int) < (l.length : Int) := by omega
    go_wp2_with fail
    refine (specStepOk_any _ _ _ _ _ _ _).mono ?_
    rintro e w1 ⟨rfl, hb1⟩
    rw [V.out]
    have hs1 := HB.out.size
    have HB1 : Hid (Below wr.heap.size wr w1) := hb1
    clear hb1
    go_wp2
    go_roundw
    case rel =>
     refine ⟨k + 1, by omega, by go_num, HB.out.trans (HB1.out.mono hs1), ?_⟩
     intro i hi
     by_cases e : i = k
     ·subst e; exact HV.out
     ·exact HD.out i (by omega)
    case measure => simp [intOf]; omega
  ·have : k = l.length := by omega
   subst this
   have F : Hid (codeB l = lastB l) := by
    show _ = _
    rw [code_all HD.out, decide_eq_true hlen]
    simp
   obtain ⟨f0, -⟩ := (HC.out (l.length - 1) (by omega)).keep HB.out (by omega)
   generalize hx : (l.getD (l.length - 1) z5).o = x at f0
   have FX : Hid (lastB l = Plain.endB x) := by show _ = _; unfold lastB; rw [hx]
   clear hx
   have b0 : (1 : Int) ≤ (l.length : Int) := by omega
   have b1 : (l.length : Int) - 1 < (l.length : Int) := by omega
   by_cases x10 : x = 10
   ·subst x10
    go_wp2
    go_ret
    exact ⟨ret_bool (by rw [F.out, FX.out]; rfl), HB.out⟩
   by_cases x12 : x = 12
   ·subst x12
    go_wp2
    go_ret
    exact ⟨ret_bool (by rw [F.out, FX.out]; rfl), HB.out⟩
   have y10 : (x == 10) = false := by simpa using x10
   have y12 : (x == 12) = false := by simpa using x12
   go_wp2
   go_ret
   exact ⟨ret_bool (by rw [F.out, FX.out, Bool.eq_iff_iff]; simp [Plain.endB, x10, x12]), HB.out⟩
theorem specCode_any (s : Option Addr) (c B : Nat) (l : List I5) (w : World) (h : InsB w B s l) (hB : B ≤ w.heap.size) (hl : l.length ≤ 1048576) :
  Calls Try.prog 41 #[.slice s l.length c] w fun e w' => e = .returned (.bool (codeB l)) ∧ Below w.heap.size w w' := by
 rcases h with rfl | ⟨g, off, rfl, hg, hc⟩
 ·have h1 : Plain.inB ((0 : Nat) : Int) 1 800 = false := by decide
  have h2 : Plain.inB 0 1 800 = false := by decide
  have F : Hid (codeB [] = false) := code_short (l := []) h1
  clear h1
  go_enter Try.func41, Try.ntmps41
  go_wp2_with (go_at_call 33; refine (l1In_is _ _ _ _ _ h2).mono ?_; rintro e w' ⟨rfl, rfl⟩)
  go_ret
  exact ⟨by rw [F.out]; rfl, Below.refl _ _⟩
 ·exact specCode_some g off c B l w hg hc hB hl
end
end Go.Proofs.Ytepfpbcjklaenaa
