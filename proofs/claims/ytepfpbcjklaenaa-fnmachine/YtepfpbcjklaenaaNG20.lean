/- MachineNew of the specification. Conditions: the codes are counted. The frame of a law over drawn bytes: they are a slice of bytes in memory; laws.big counts them. No condition. What the law of the lock reads and makes: its letters, its steps, its picks. No condition. -/
import Derived.Test.YtepfpbcjklaenaaNG00
import Derived.Test.YtepfpbcjklaenaaNG01
import Derived.Test.YtepfpbcjklaenaaNG16
import Derived.Test.YtepfpbcjklaenaaNG02
import Derived.Test.YtepfpbcjklaenaaNKOkB
import Derived.Test.YtepfpbcjklaenaaNG06
import Derived.Test.YtepfpbcjklaenaaNC7SpA
import Derived.Test.YtepfpbcjklaenaaNKOkS
import Derived.Test.YtepfpbcjklaenaaRows
import Derived.Test.YtepfpbcjklaenaaNG07
import Derived.ProofKit
import Derived.OpenShut
import Derived.ShutString
import Derived.ChangeOld
import Derived.ChangeSlices
import Derived.Test.YtepfpbcjklaenaaNG17
import Derived.Test.YtepfpbcjklaenaaNG18
import Derived.Test.YtepfpbcjklaenaaNG19
namespace Go.Proofs.Ytepfpbcjklaenaa
section
set_option linter.unusedSimpArgs false
set_option linter.unusedVariables false
set_option maxRecDepth 100000
open Go.RowKit
set_option maxHeartbeats 400000 in
theorem specMachineOk_long (s1 s2 s3 s4 : Option Addr) (c1 c2 c3 c4 n1 n2 n3 n4 : Nat) (w : World) (hn : Plain.inB (n1 : Int) 1 4 = false) :
  Calls Try.prog 16 #[.agg #[.slice s1 n1 c1, .slice s2 n2 c2, .slice s3 n3 c3, .slice s4 n4 c4]] w fun e w' => e = .returned (.bool false) ∧ Below w.heap.size w w' := by
 go_enter Try.func16, Try.ntmps16
 go_wp2_with (go_at_call 33; refine (l1In_is _ _ _ _ _ hn).mono ?_; rintro e w' ⟨rfl, rfl⟩)
 go_ret
 exact ⟨rfl, (Below.refl _ _).alloc (Nat.le_refl _) _⟩
theorem specMachNew_ok (s1 s2 s3 : Option Addr) (c1 c2 c3 lo hi : Nat) (l : List (List I5)) (w : World) (h : MaR w lo hi s1 s2 s3 none (newMd l)) (hB : hi ≤ w.heap.size) (hl : l.length + szC l ≤ 1048576) :
  Calls Try.prog 16 #[.agg #[.slice s1 l.length c1, .slice s2 l.length c2, .slice s3 24 c3, .slice none 0 0]] w fun e w' => e = .returned (.bool (codesB l)) ∧ Below w.heap.size w w' := by
 cases hn : Plain.inB (l.length : Int) 1 4 with
 | true =>
  have C := specMachineOk_any s1 s2 s3 none c1 c2 c3 0 lo hi (newMd l) w h hB (fits_new hl (by simp [Plain.inB] at hn; omega))
  rw [mach_new] at C
  simp only [newMd, List.length_replicate, newM_len, List.length_nil] at C
  exact C
 | false =>
  have e : codesB l = false := by
   unfold codesB
   rw [decide_eq_false (by simp [Plain.inB] at hn; omega)]
   rfl
  rw [e]
  exact specMachineOk_long s1 s2 s3 none c1 c2 c3 0 l.length l.length 24 0 w hn
set_option maxHeartbeats 2000000 in
theorem specMachNew_any (s : Option Addr) (c lo hi : Nat) (l : List (List I5)) (w : World) (h : CsR w lo hi s l) (hB : hi ≤ w.heap.size) (hl : l.length + szC l ≤ 1048576) :
  Calls Try.prog 8 #[.slice s l.length c] w fun e w' => ∃ p : MP, e = .returned (.tuple #[.agg #[.slice p.s1 (newMa l).codes.length p.c1, .slice p.s2 (newMa l).cores.length p.c2, .slice p.s3 (newMa l).mem.length p.c3, .slice p.s4 (newMa l).tr.length p.c4], .bool (codesB l)]) ∧ MaO w' w.heap.size w'.heap.size p (newMa l) ∧ Below w.heap.size w w' := by
 have H : Hid (CsR w lo hi s l) := h
 have h8 : ∀ w : World, (Instr.makeSlice 41 (.int .i64 8) (.int .i64 8)).run Try.prog w = .ok (.slice (some ⟨w.heap.size, 0, none⟩) 8 8) (w.alloc (.cells (madeCells #[.int .i64 0] 8) 3)) := fun w => mkInt 8 (by omega) w
 have h24 : ∀ w : World, (Instr.makeSlice 41 (.int .i64 24) (.int .i64 24)).run Try.prog w = .ok (.slice (some ⟨w.heap.size, 0, none⟩) 24 24) (w.alloc (.cells (madeCells #[.int .i64 0] 24) 3)) := fun w => mkInt 24 (by omega) w
 clear h
 go_enter Try.func8, Try.ntmps8
 go_wp2_with fail
 obtain ⟨W0, hW0, x0, k0, z0⟩ := X4.new w (.slice none 0 0) (.slice none 0 0) (.slice none 0 0) (.slice none 0 0) 34
 rw [hW0]
 clear hW0
 obtain ⟨w1, hw1⟩ : ∃ w1, w1 = W0 := ⟨_, rfl⟩
 have K1 : Hid (Below w.heap.size w w1) := by rw [hw1]; exact k0
 have R1 : Hid (X4 w1 w.heap.size (.slice none 0 0) (.slice none 0 0) (.slice none 0 0) (.slice none 0 0)) := by rw [hw1]; exact x0
 have z1 : w.heap.size < w1.heap.size := by rw [hw1]; exact z0
 rw [← hw1]
 clear hw1 x0 k0 z0
 refine (l8Codes_any s c lo hi l w1 (H.out.keep (Keep.of_below K1.out hB)) (by omega) hl).mono ?_
 rintro e w2 ⟨vc, LC, rfl, hm2, ho2, hb2⟩
 have K2 : Hid (Below w.heap.size w w2) := K1.out.trans (hb2.mono (by omega))
 have R2 : Hid (X4 w2 w.heap.size (.slice none 0 0) (.slice none 0 0) (.slice none 0 0) (.slice none 0 0)) := R1.out.keep hb2 (by omega)
 obtain ⟨sc, cc, RC, evc, gc⟩ := ho2.go
 have e2 : LC.length = l.length := by have := congrArg List.length hm2; simpa using this
 rw [e2] at evc
 have G2 : Hid (GO w2 w1.heap.size w2.heap.size sc TC RC (l.map codeV)) := by
  have e : LC.map (fun x => codeV x.l) = l.map codeV := by
   rw [← hm2, List.map_map]
   rfl
  show GO _ _ _ _ _ _ _
  rw [← e]
  exact gc
 have z2 := hb2.size
 clear hm2 ho2 hb2 R1 e2 gc
 subst evc
 go_wp2_with fail
 refine (specNew_any w2).mono ?_
 rintro e w3 ⟨sm, cm, S, rfl, hm3, hb3⟩
 have z3 := hb3.size
 have K3 : Hid (Below w.heap.size w w3) := K2.out.trans (hb3.mono (by omega))
 have R3 : Hid (X4 w3 w.heap.size (.slice none 0 0) (.slice none 0 0) (.slice none 0 0) (.slice none 0 0)) := R2.out.keep hb3 (by omega)
 have G3 : Hid (GO w3 w1.heap.size w2.heap.size sc TC RC (l.map codeV)) := G2.out.keep (Keep.of_below hb3 (Nat.le_refl _))
 have M3 : Hid (MO w3 w2.heap.size w3.heap.size sm S (newM 24)) := hm3
 clear hm3 hb3 R2 G2
 go_wp2
 obtain ⟨W4, hW4, xm, km, zm⟩ := X4.new w3 (.slice sc l.length cc) (.slice none 0 0) (.slice sm 24 cm) (.slice none 0 0) 34
 rw [hW4]
 clear hW4
 obtain ⟨bm, hbm, hbm1, hbm2⟩ : ∃ b, w3.heap.size = b ∧ w3.heap.size ≤ b ∧ b ≤ w3.heap.size := ⟨_, rfl, Nat.le_refl _, Nat.le_refl _⟩
 rw [hbm] at xm km zm
 have XM : Hid (X4 W4 bm (.slice sc l.length cc) (.slice none 0 0) (.slice sm 24 cm) (.slice none 0 0)) := xm
 have KM : Hid (Below bm w3 W4) := km
 have ZM : bm + 1 ≤ W4.heap.size := zm
 rw [hbm]
 clear xm km hbm zm
 go_loopw [5] (fun i wr => ∃ (k : Nat) (v : Value) (L : List KV), k ≤ l.length ∧ i = .int .i64 k ∧ L.length = k ∧ L.map KV.d = List.replicate k zKD ∧ OwnK wr (bm + 1) v L ∧ X4 wr bm (.slice sc l.length cc) v (.slice sm 24 cm) (.slice none 0 0) ∧ Below bm w3 wr ∧ bm + 1 ≤ wr.heap.size) (fun i _ => l.length - (intOf i).toNat)
 case atStart => exact ⟨0, _, [], Nat.zero_le _, rfl, rfl, rfl, OwnK.nil _ _, XM.out, KM.out, ZM⟩
 case round =>
  obtain ⟨k, v, L, hk, rfl, hL, hD, ho, hx, hb, hz⟩ := hrel
  obtain ⟨sv, cv, ev⟩ := ownSl ho.row
  rw [hL] at ev
  subst ev
  have HO : Hid (OwnK wr (bm + 1) (.slice sv k cv) L) := ho
  have HX : Hid (X4 wr bm (.slice sc l.length cc) (.slice sv k cv) (.slice sm 24 cm) (.slice none 0 0)) := hx
  have HB : Hid (Below bm w3 wr) := hb
  have HL : Hid (L.length = k) := hL
  have HD : Hid (L.map KV.d = List.replicate k zKD) := hD
  obtain ⟨y0, y1, y2, y3, y4⟩ := hx.x
  have yf := hx.fz
  clear ho hb hL hD hx
  by_cases hlt : k < l.length
  ·have b1 : (k : Int) < (l.length : Int) := by omega
   go_wp2
   have HOA : Hid (OwnK (WA wr.drew) (bm + 1) (.slice sv k cv) L) := (HO.out.below (Below.drew (Below.refl _ _))).below (WA_below _)
   have HOB : Hid (OwnK (WB wr.drew) (bm + 1) (.slice sv k cv) L) := (HO.out.below (Below.drew (Below.refl _ _))).below (WB_below _)
   have HLn : L.length ≤ 1073741824 := by have := HL.out; omega
   have zs : bm + 1 ≤ wr.drew.heap.size := hz
   have zb1 : bm < wr.heap.size + 1 := by omega
   have zb2 : bm < wr.heap.size + 1 + 1 := by omega
   go_region_law (first | (refine step_recK rfl _ _ rfl (WA wr.drew) (bm + 1) (.slice sv k cv) L (yA wr.drew) rfl HOA.out (WA_own zs) (new_two (.inl rfl)) rfl rfl (wr.heap.size + 1 + 1) (by rw [WA_size]; rfl) rfl HLn (by rw [WA_size]; omega) (new_sep (HO.out.below (Below.drew (Below.refl _ _))) (.inl rfl)) ?_; intro g6 c6 w6 hp6; have Y6 := (show Hid (∃ y : KV, y.d = zKD ∧ OwnK w6 (bm + 1) (.slice (some ⟨g6, 0, none⟩) (L.length + 1) c6) (L ++ [y])) from ⟨yA wr.drew, rfl, hp6.own⟩); have K6 := (show Below (bm + 1) wr w6 from ((Below.drew (Below.refl (bm + 1) wr)).trans ((WA_below wr.drew).mono zs)).trans hp6.low); have X6 := HX.out.keep K6 (show bm < bm + 1 by omega); have t1 := X6.x.c1; have t2 := X6.fz 1; clear hp6) | (refine step_recK rfl _ _ rfl (WB wr.drew) (bm + 1) (.slice sv k cv) L (yB wr.drew) rfl HOB.out (WB_own zs) (new_two (.inr rfl)) rfl rfl (wr.heap.size + 1 + 1) (by rw [WB_size]; rfl) rfl HLn (by rw [WB_size]; omega) (new_sep (HO.out.below (Below.drew (Below.refl _ _))) (.inr rfl)) ?_; intro g6 c6 w6 hp6; have Y6 := (show Hid (∃ y : KV, y.d = zKD ∧ OwnK w6 (bm + 1) (.slice (some ⟨g6, 0, none⟩) (L.length + 1) c6) (L ++ [y])) from ⟨yB wr.drew, rfl, hp6.own⟩); have K6 := (show Below (bm + 1) wr w6 from ((Below.drew (Below.refl (bm + 1) wr)).trans ((WB_below wr.drew).mono zs)).trans hp6.low); have X6 := HX.out.keep K6 (show bm < bm + 1 by omega); have t1 := X6.x.c1; have t2 := X6.fz 1; clear hp6))
   all_goals
    have XX : Hid (X4 w6 bm (.slice sc l.length cc) (.slice sv k cv) (.slice sm 24 cm) (.slice none 0 0)) := X6
    have KK : Hid (Below (bm + 1) wr w6) := K6
    have z6 := K6.size
    clear X6 K6 y1 y2 y3 y4 yf
    go_wp2
    go_roundw
    case rel =>
     obtain ⟨y, hy, oy⟩ := Y6.out
     refine ⟨k + 1, _, L ++ [y], by omega, by go_num, by simp [HL.out], ?_, oy.keep (fun b hb _ => Below.heap_setCell _ _ _ b (by show b ≠ bm; omega)), XX.out.set1, (HB.out.trans (KK.out.mono (by omega))).setCell (p := ⟨bm, 1, none⟩) (Nat.le_refl _) _, by simp; omega⟩
     rw [List.map_append, HD.out, List.replicate_succ']
     simp [hy]
    case measure => simp [intOf]; omega
  ·have e : k = l.length := by omega
   subst e
   obtain ⟨sk, ck, RK, evk, gk, -⟩ := HO.out.go
   have kn := HL.out
   rw [kn] at evk
   injection evk with evk1 _ evk2
   subst evk1 evk2
   have GK : Hid (GO wr (bm + 1) wr.heap.size sv TK RK ((newMd l).cores.map coreV)) := by
    have e : L.map (fun x => coreV x.d) = (newMd l).cores.map coreV := by
     have q := HD.out
     show _ = (List.replicate l.length zKD).map coreV
     rw [← q, List.map_map]
     rfl
    show GO _ _ _ _ _ _ _
    rw [← e]
    exact gk
   have km : ∀ {a b : Nat}, b ≤ bm → Keep a b w3 wr := fun h2 k h3 h4 => HB.out.block k (by omega)
   have MR : Hid (MaR wr w.heap.size wr.heap.size sc sv sm none (newMd l)) := ⟨((G3.out.keep (km (by omega))).csR (l := l)).mono (by omega) (by omega), GK.out.ksR.mono (by omega) (Nat.le_refl _), ((M3.out.keep (km (by omega))).mem).mono (by omega) (by omega), .inl rfl⟩
   clear gk km
   have zw : w.heap.size < wr.heap.size := by omega
   go_wp2_with fail
   refine (specMachNew_ok sc sv sm cc cv cm w.heap.size wr.heap.size l wr MR.out (Nat.le_refl _) hl).mono ?_
   rintro e wq ⟨rfl, hbq⟩
   have rx := (R3.out.keep HB.out (by omega)).keep hbq zw
   obtain ⟨r0, r1, r2, r3, r4⟩ := rx.x
   have rf := rx.fz
   have RX : Hid (X4 wq w.heap.size (.slice none 0 0) (.slice none 0 0) (.slice none 0 0) (.slice none 0 0)) := rx
   have xm := HX.out.keep hbq y0
   have mf := xm.fz
   clear y1 y2 y3 y4 yf
   obtain ⟨y0', y1, y2, y3, y4⟩ := xm.x
   have zq := hbq.size
   have HQ : Hid (Below wr.heap.size wr wq) := hbq
   have zw' : w.heap.size < wq.heap.size := by omega
   clear hbq rx xm
   cases hc : codesB l
   ·go_wp2
    have xz := RX.out.set0 (u := .slice none 0 0) |>.set1 (u := .slice none 0 0) |>.set2 (u := .slice none 0 0) |>.set3 (u := .slice none 0 0)
    refine bodyPost_ret (v := .tuple #[.agg #[.slice none 0 0, .slice none 0 0, .slice none 0 0, .slice none 0 0], .bool false]) (by simp [results, Try.results8, go_sem, xz.x.c0, xz.x.c1, xz.x.c2, xz.x.c3]) rfl ⟨noMP, ?_, ?_, ?_⟩
    ·unfold newMa
     rw [hc]
     rfl
    ·unfold newMa
     rw [hc]
     exact noMa _ _ _
    ·refine Below.setCell (Below.setCell (Below.setCell (Below.setCell (((K3.out.trans (HB.out.mono (by omega)))).trans (HQ.out.mono (by omega))) ?_ _) ?_ _) ?_ _) ?_ _ <;> simp
   go_wp2
   obtain ⟨Z, hZ, xz, kz, sz, fz⟩ : ∃ Z, (((wq.setCell ⟨w.heap.size, 0, none⟩ (.slice sc l.length cc)).setCell ⟨w.heap.size, 1, none⟩ (.slice sv l.length cv)).setCell ⟨w.heap.size, 2, none⟩ (.slice sm 24 cm)).setCell ⟨w.heap.size, 3, none⟩ (.slice none 0 0) = Z ∧ X4 Z w.heap.size (.slice sc l.length cc) (.slice sv l.length cv) (.slice sm 24 cm) (.slice none 0 0) ∧ Below w.heap.size w Z ∧ Z.heap.size = wq.heap.size ∧ ∀ k, k ≠ w.heap.size → Z.heap[k]? = wq.heap[k]? := by
    refine ⟨_, rfl, RX.out.set0.set1.set2.set3, ?_, by simp, fun k hk => ?_⟩
    ·refine Below.setCell (Below.setCell (Below.setCell (Below.setCell ((K3.out.trans (HB.out.mono (by omega))).trans (HQ.out.mono (by omega))) ?_ _) ?_ _) ?_ _) ?_ _ <;> simp
    ·rw [Below.heap_setCell _ _ _ k hk, Below.heap_setCell _ _ _ k hk, Below.heap_setCell _ _ _ k hk, Below.heap_setCell _ _ _ k hk]
   have kp : ∀ {a b : Nat}, w.heap.size < a → b ≤ bm → Keep a b w3 Z := fun h1 h2 k h3 h4 => ((fz k (by omega)).trans (HQ.out.block k (by omega))).trans (HB.out.block k (by omega))
   have mo : MaO Z w.heap.size Z.heap.size ⟨sc, cc, RC, sv, cv, RK, sm, cm, S, none, 0⟩ (newMd l) :=
    MaO.of3 (G3.out.keep (kp (by omega) (by omega))) (M3.out.keep (kp (by omega) (by omega))) (GK.out.keep (fun k h3 h4 => (fz k (by omega)).trans (HQ.out.block k h4))) rfl (by omega) (by omega) (by omega) (by omega)
   refine bodyPost_ret (v := .tuple #[.agg #[.slice sc l.length cc, .slice sv l.length cv, .slice sm 24 cm, .slice none 0 0], .bool true]) ?_ rfl ?_
   ·rw [hZ]
    simp [results, Try.results8, go_sem, xz.x.c0, xz.x.c1, xz.x.c2, xz.x.c3]
   ·rw [hZ]
    unfold newMa
    rw [hc]
    refine ⟨⟨sc, cc, RC, sv, cv, RK, sm, cm, S, none, 0⟩, ?_, mo, kz⟩
    simp [newMd, newM_len]
end
section
set_option linter.unusedSimpArgs false
set_option linter.unusedVariables false
set_option maxRecDepth 100000
open Go.ChangeShapes Go.WideShapes Go.ChangeAt Go.RowKit
theorem retB {x y : Bool} (h : x = y) : Ending.returned (.bool x) = Ending.returned (.bool y) := by rw [h]
theorem big_any (s : Option Addr) (n c : Nat) (w : World) : Calls Try.prog 6 #[.slice s n c] w fun e w' => e = .returned (.bool (decide (1048576 < n))) ∧ w' = w := by
 go_enter Try.func6, Try.ntmps6
 go_wp2
 go_ret
 refine ⟨retB ?_, rfl⟩
 rw [Bool.eq_iff_iff]
 simp
 omega
theorem ownS : ownKnob Try.prog.godebug = none := by kernel_rfl
theorem laidOutS : laidOutB Try.prog = true := by kernel_rfl
theorem bytes_read {H : Type} {enc : TypeId × Value → H} {w : World} {base b0 : Nat} {held : Bool} {k : Reach} {v : Value} {d : DataW H} {p : List MemPlace}
  (hv : Value.okWide Try.prog w k b0 22 v) (h : DataW.Trod enc Try.prog w base (fun _ => true) held 22 v d p) :
  ∃ (s : Option Addr) (n c : Nat), v = .slice s n c ∧ n ≤ maxLen ∧ Bytes w w.heap.size s n := by
 obtain ⟨s, len, cap, rfl⟩ := okWide_slice Try.underlying22 hv
 obtain ⟨fuel, hf⟩ := h
 rcases open_ints Try.underlying22 Try.underlying5 (by kernel_rfl) hf with ⟨hcs, _⟩ | ⟨a, l, c, zs, hcs, _, hl, hm, hz, _, hcell, hwz⟩
 ·simp [Value.cells] at hcs
  obtain ⟨rfl, rfl, rfl⟩ := hcs
  exact ⟨none, 0, 0, rfl, Nat.zero_le _, .inl rfl⟩
 ·simp [Value.cells] at hcs
  obtain ⟨rfl, rfl, rfl⟩ := hcs
  simp at hz
  refine ⟨some a, len, cap, rfl, by omega, ?_⟩
  by_cases h0 : len = 0
  ·exact .inl h0
  ·have c0 := hcell 0 (by omega)
   have c0' : w.cell? a = some (.int .u8 (zs.getD 0 0)) := by simpa [Addr.add] using c0
   have hs := World.cell?_spot c0'
   have hg : a.block < w.heap.size := by
    apply Classical.byContradiction
    intro hn
    have : w.heap[a.block]? = none := by simp; omega
    simp [World.cell?, this] at c0'
   obtain ⟨g, off, spot⟩ := a
   simp at hs
   subst hs
   refine .inr ⟨g, off, rfl, hg, fun i hi => ?_⟩
   have ci := hcell i (by omega)
   have e : (Addr.add ⟨g, off, none⟩ i) = ⟨g, off + i, none⟩ := by
    by_cases h : i = 0
    ·subst h; rfl
    ·simp [Addr.add, h]
   rw [e] at ci
   have hmem : zs.getD i 0 ∈ zs := by
    rw [List.getD_eq_getElem?_getD, List.getElem?_eq_getElem (by omega)]
    exact List.getElem_mem (by omega)
   have hw := bounds_u8 (hwz _ hmem)
   exact ⟨_, ci, by omega, by omega⟩
theorem Bytes.up {w w' : World} {s : Option Addr} {n : Nat} (h : Bytes w w.heap.size s n) (hb : Below w.heap.size w w') : Bytes w' w'.heap.size s n := by
 have hz := hb.size
 rcases h with h | ⟨g, o, hs, hg, hc⟩
 ·exact .inl h
 ·refine .inr ⟨g, o, hs, by omega, fun k hk => ?_⟩
  obtain ⟨b, h1, h2⟩ := hc k hk
  exact ⟨b, (hb.cell (p := ⟨g, o + k, none⟩) hg).trans h1, h2⟩
end
section
set_option linter.unusedSimpArgs false
set_option linter.unusedVariables false
set_option maxRecDepth 100000
open Go.RowKit
def OwnPk (w : World) (base : Nat) (v : Value) (l : List ND) : Prop := w.ownsRow base 40 2 v l.length (flatN l)
theorem OwnPk.nts {w : World} {base : Nat} {v : Value} {l : List ND} (h : OwnPk w base v l) : ∃ s c, v = .slice s l.length c ∧ NtsR w base w.heap.size s l := by
 rcases Nat.eq_zero_or_pos l.length with h0 | hpos
 ·obtain ⟨s, c, e⟩ := ownSl h
  exact ⟨s, c, e, .inl (List.length_eq_zero_iff.1 h0)⟩
 ·obtain ⟨g, cap, rfl, -⟩ := World.ownsRow.form h hpos
  have hlt := World.ownsRow.lt h g rfl
  refine ⟨_, _, rfl, .inr ⟨g, 0, rfl, hlt.1, hlt.2, fun i r hr => ?_⟩⟩
  have hi : i < l.length := (List.getElem?_eq_some_iff.1 hr).1
  obtain ⟨e0, e1⟩ := flatN_at l i r hr
  refine ⟨?_, ?_⟩
  ·rw [Nat.zero_add, World.ownsRow.cellAt h _ (by omega)]; exact e0
  ·rw [Nat.zero_add, World.ownsRow.cellAt h _ (by omega)]; exact e1
theorem infoPk : ∃ i, Try.prog.info? 40 = some i ∧ i.zero = some (.agg #[.int .i64 0, .int .i64 0]) ∧ i.size = 2 ∧ i.bytes = 16 := ⟨_, rfl, rfl, rfl, rfl⟩
theorem wp_pick {o : Oper} {a : Act} {w : World} {K : Act → World → Prop} {Q : Exit → Act → World → Prop} (s x : Operand) (ho : o.op = .call { callee := .builtin .append, args := #[s, x], argTypes := #[37, 37] })
  (base : Nat) (v : Value) (n : Nat) (xs : List Value) (hs : a.eval s = v) (hown : w.ownsRow base 40 2 v n xs) (g0 : Nat) (u0 u1 : Value) (hu0 : u0.oneCell' = true) (hu1 : u1.oneCell' = true) (hx : a.eval x = .slice (some ⟨g0, 0, none⟩) 1 1) (hc0 : w.cell? ⟨g0, 0, none⟩ = some u0) (hc1 : w.cell? ⟨g0, 1, none⟩ = some u1) (hn : n ≤ 1073741824) (hbase : base ≤ w.heap.size)
  (h : ∀ g cap w', w'.ownsRow base 40 2 (.slice (some ⟨g, 0, none⟩) (n + 1) cap) (n + 1) (xs ++ [u0, u1]) → w.grownBy w' v.ownBlock → (v.ownBlock = some g ∨ w.heap.size ≤ g) → g < w'.heap.size → K (a.put o.dst (.slice (some ⟨g, 0, none⟩) (n + 1) cap)) w') : Oper.wp Try.prog o a w K Q := by
 obtain ⟨i0, hi, hz0, hz1, hz2⟩ := infoPk
 refine wp_append_lies w s x 37 ho base 40 i0 _ 2 16 Try.underlying37 hi hz0 hz1 hz2 rfl (by decide) v n xs hs hown ⟨g0, 0, none⟩ 1 1 [u0, u1] hx rfl (fun j u' hj => ?_) (fun u' hu' => by simp at hu'; rcases hu' with rfl | rfl <;> assumption) (by decide) (by unfold maxLen; omega) (by omega) hbase _ rfl ?_
 ·match j, hj with
  | 0, hj => simp at hj; subst hj; simpa [Addr.add] using hc0
  | 1, hj => simp at hj; subst hj; simpa [Addr.add] using hc1
  | j + 2, hj => simp at hj
 ·intro g cap w' q1 q2 q3 q4
  exact h g cap w' q1 q2 (by rcases q3 with q3 | q3 <;> first | exact .inl q3 | exact .inr (by omega)) q4
theorem app_pick {ops : Array Oper} {rest : List Oper} {o : Oper} {a : Act} {Q : Exit → Act → World → Prop} (hgd : o.guard = none) (s x : Operand) (ho : o.op = .call { callee := .builtin .append, args := #[s, x], argTypes := #[37, 37] })
  (w : World) (base : Nat) (v : Value) (n : Nat) (xs : List Value) (hs : a.eval s = v) (hown : w.ownsRow base 40 2 v n xs) (g0 : Nat) (u0 u1 : Value) (hu0 : u0.oneCell' = true) (hu1 : u1.oneCell' = true) (hx : a.eval x = .slice (some ⟨g0, 0, none⟩) 1 1) (hc0 : w.cell? ⟨g0, 0, none⟩ = some u0) (hc1 : w.cell? ⟨g0, 1, none⟩ = some u1) (hn : n ≤ 1073741824) (hbase : base ≤ w.heap.size)
  (h : ∀ g cap w', w'.ownsRow base 40 2 (.slice (some ⟨g, 0, none⟩) (n + 1) cap) (n + 1) (xs ++ [u0, u1]) → w.grownBy w' v.ownBlock → (v.ownBlock = some g ∨ w.heap.size ≤ g) → g < w'.heap.size → wpList Try.prog ops Q rest (a.put o.dst (.slice (some ⟨g, 0, none⟩) (n + 1) cap)) w') : wpList Try.prog ops Q (o :: rest) a w :=
 wpList_plain hgd fun _ hK => wp_pick s x ho base v n xs hs hown g0 u0 u1 hu0 hu1 hx hc0 hc1 hn hbase fun g cap w' h1 h2 h3 h4 => hK _ _ (h g cap w' h1 h2 h3 h4)
theorem X4.put4 {V : World} {b lo hi : Nat} {v0 v1 v2 v3 : Value} {s1 s2 s3 s4 : Option Addr} {E : MD} (a b' c d : Value) (h : X4 V b v0 v1 v2 v3) (hm : MaR V lo hi s1 s2 s3 s4 E) (hb : b < lo) : ∃ Z, (((V.setCell ⟨b, 0, none⟩ a).setCell ⟨b, 1, none⟩ b').setCell ⟨b, 2, none⟩ c).setCell ⟨b, 3, none⟩ d = Z ∧ X4 Z b a b' c d ∧ MaR Z lo hi s1 s2 s3 s4 E ∧ Z.heap.size = V.heap.size ∧ (∀ q, q ≠ b → Z.heap[q]? = V.heap[q]?) ∧ ∀ (B : Nat) (A : World), Below B A V → B ≤ b → Below B A Z := by
 refine ⟨_, rfl, h.set0.set1.set2.set3, hm.keep ?_, by simp, fun q hq => ?_, fun B A k hB => ?_⟩
 ·exact fun q h1 _ => (Below.heap_setCell _ ⟨b, _, none⟩ _ q (by show q ≠ b; omega)).trans ((Below.heap_setCell _ ⟨b, _, none⟩ _ q (by show q ≠ b; omega)).trans ((Below.heap_setCell _ ⟨b, _, none⟩ _ q (by show q ≠ b; omega)).trans (Below.heap_setCell _ ⟨b, _, none⟩ _ q (by show q ≠ b; omega))))
 ·exact (Below.heap_setCell _ ⟨b, _, none⟩ _ q hq).trans ((Below.heap_setCell _ ⟨b, _, none⟩ _ q hq).trans ((Below.heap_setCell _ ⟨b, _, none⟩ _ q hq).trans (Below.heap_setCell _ ⟨b, _, none⟩ _ q hq)))
 ·exact (((k.setCell (p := ⟨b, _, none⟩) hB _).setCell (p := ⟨b, _, none⟩) hB _).setCell (p := ⟨b, _, none⟩) hB _).setCell (p := ⟨b, _, none⟩) hB _
end
end Go.Proofs.Ytepfpbcjklaenaa
