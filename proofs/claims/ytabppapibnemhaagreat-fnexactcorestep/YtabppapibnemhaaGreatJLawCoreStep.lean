/- The law FnExactCoreStep of the given statements: at every argument CoreStep of the program answers as the specification's, writes into no argument and keeps nothing of one; its answer owns its memory. No condition. -/
import Derived.Test.YtabppapibnemhaaGreatJA3
import Derived.Test.YtabppapibnemhaaGreatJKMach
import Derived.Test.YtabppapibnemhaaGreatJKEq
import Derived.Test.YtabppapibnemhaaGreatJKMark
import Derived.Test.YtabppapibnemhaaGreatJE4
import Derived.Deep.RegionHeld3
import Derived.Deep.DeepCutAuto
namespace Go.Proofs.YtabppapibnemhaaGreat
set_option linter.unusedSimpArgs false
set_option linter.unusedVariables false
set_option maxRecDepth 100000
open Go.ChangeShapes Go.WideShapes Go.ChangeAt Go.RowKit Go.Deep
theorem cellsPick : Tryz.prog.cellsOf 31 = 2 := by kernel_rfl
theorem cellsInt2 : Tryz.prog.cellsOf 3 = 1 := by kernel_rfl
theorem listP2 {α : Type} {cs : List α} (h : cs.length = 2) : ∃ c0 c1, cs = [c0, c1] := by
 match cs, h with
 | [c0, c1], _ => exact ⟨c0, c1, rfl⟩
theorem pick_cells {H : Type} {enc : TypeId × Value → H} {w : World} {base : Nat} {spare : TypeId → Bool} {held : Bool} {fuel : Nat} {cs : List Value} {x : DataW H × List MemPlace}
  (h : DataW.trod enc Tryz.prog w base spare held fuel 31 cs = some x) :
  ∃ a b : Int, cs = [.int .i64 a, .int .i64 b] ∧ (Lit.int .i64 a).wf = true ∧ (Lit.int .i64 b).wf = true := by
 obtain ⟨xs, n, _, rfl, hl, hlen, hf⟩ := DataW.trod_struct Tryz.underlying31 h
 rw [cellsPick] at hl
 obtain ⟨c0, c1, rfl⟩ := listP2 hl
 obtain ⟨y0, y1, rfl⟩ := listP2 (hlen.trans rfl)
 have g0 := hf 0 _ rfl
 have g1 := hf 1 _ rfl
 simp [cellsInt2] at g0 g1
 obtain ⟨o, e0, -, w0⟩ := DataW.trod_int Tryz.underlying3 g0
 obtain ⟨r, e1, -, w1⟩ := DataW.trod_int Tryz.underlying3 g1
 simp at e0 e1
 subst e0 e1
 exact ⟨o, r, rfl, w0, w1⟩
set_option maxRecDepth 100000 in
theorem open_pick {H : Type} {enc : TypeId × Value → H} {w : World} {base b0 : Nat} {spare : TypeId → Bool} {held : Bool} {k : Reach} {v : Value} {d : DataW H} {p : List MemPlace}
  (hv : Value.okWide Tryz.prog w k b0 31 v) (h : DataW.Trod enc Tryz.prog w base spare held 31 v d p) :
  ∃ a b : Int, v = .agg #[.int .i64 a, .int .i64 b] ∧ (Lit.int .i64 a).wf = true ∧ (Lit.int .i64 b).wf = true := by
 obtain ⟨cs, rfl, hsz⟩ := okWide_struct Tryz.underlying31 hv
 obtain ⟨fuel, hf⟩ := h
 obtain ⟨a, b, hcs, hw⟩ := pick_cells hf
 obtain ⟨l⟩ := cs
 simp [Value.cells] at hcs
 subst hcs
 exact ⟨a, b, rfl, hw⟩
theorem toPick_any (a b : Int) (w : World) : Calls Tryz.prog 8 #[.agg #[.int .i64 a, .int .i64 b]] w fun e w' => e = .returned (.agg #[.int .i64 a, .int .i64 b]) ∧ Below w.heap.size w w' := by
 go_enter Tryz.func8, Tryz.ntmps8
 go_wp2
 first
  | (go_ret; exact ⟨rfl, by repeat' (first | exact Below.refl _ _ | refine Below.alloc ?_ (by first | (simp; done) | (simp; omega)) _ | refine Below.setCell ?_ (by first | (simp; done) | (simp; omega)) _)⟩)
  | (refine bodyPost_ret (v := .agg #[.int .i64 a, .int .i64 b]) (by simp [results, Tryz.results8, go_sem]) rfl ?_
     exact ⟨rfl, by repeat' (first | exact Below.refl _ _ | refine Below.alloc ?_ (by first | (simp; done) | (simp; omega)) _ | refine Below.setCell ?_ (by first | (simp; done) | (simp; omega)) _)⟩)
theorem wf_le {n : Int} (h : (Lit.int .i64 n).wf = true) : n ≤ 9223372036854775807 := by
 have hmax : IntKind.i64.max = 9223372036854775807 := rfl
 simp only [Lit.wf, Bool.and_eq_true, decide_eq_true_eq] at h
 omega
def CutL (W : World) (x : MD × Int) (s6 s7 : Value) (wc : World) : Prop := ∃ (bo lo hi : Nat) (p : MP), s6 = .pointer (some ⟨bo, 0, none⟩) ∧ s7 = .int .i64 x.2 ∧ W.heap.size ≤ bo ∧ bo < wc.heap.size ∧ W.heap.size ≤ lo ∧ lo ≤ hi ∧ hi ≤ wc.heap.size ∧ (bo < lo ∨ hi ≤ bo) ∧ Bo4 bo wc (.slice p.s1 x.1.codes.length p.c1) (.slice p.s2 x.1.cores.length p.c2) (.slice p.s3 x.1.mem.length p.c3) (.slice p.s4 x.1.tr.length p.c4) ∧ MaO wc lo hi p x.1 ∧ Below W.heap.size W wc
theorem cutL_new {W wF : World} {x : MD × Int} {p : MP} {lo : Nat} (h : MaO wF lo wF.heap.size p x.1) (hl : W.heap.size ≤ lo) (hl' : lo ≤ wF.heap.size) (k : Below W.heap.size W wF) : CutL W x (.pointer (some ⟨wF.heap.size, 0, none⟩)) (.int .i64 x.2) (wF.alloc (.cells #[.slice p.s1 x.1.codes.length p.c1, .slice p.s2 x.1.cores.length p.c2, .slice p.s3 x.1.mem.length p.c3, .slice p.s4 x.1.tr.length p.c4] 40)) := by
 obtain ⟨Y, hY, b, kY, sY⟩ := Bo4.new wF (.slice p.s1 x.1.codes.length p.c1) (.slice p.s2 x.1.cores.length p.c2) (.slice p.s3 x.1.mem.length p.c3) (.slice p.s4 x.1.tr.length p.c4) 40
 rw [hY]
 exact ⟨wF.heap.size, lo, wF.heap.size, p, rfl, rfl, k.size, by omega, hl, hl', by omega, .inr (Nat.le_refl _), b, h.keep (Keep.of_below kY (Nat.le_refl _)), k.trans (kY.mono k.size)⟩
theorem cutL_set {W wF : World} {x : MD × Int} {p : MP} {lo bo : Nat} (hx : X4 wF bo (.slice none 0 0) (.slice none 0 0) (.slice none 0 0) (.slice none 0 0)) (hb : W.heap.size ≤ bo) (hbl : bo < lo) (h : MaO wF lo wF.heap.size p x.1) (hl : W.heap.size ≤ lo) (hl' : lo ≤ wF.heap.size) (k : Below W.heap.size W wF) : CutL W x (.pointer (some ⟨bo, 0, none⟩)) (.int .i64 x.2) ((((wF.setCell ⟨bo, 0, none⟩ (.slice p.s1 x.1.codes.length p.c1)).setCell ⟨bo, 1, none⟩ (.slice p.s2 x.1.cores.length p.c2)).setCell ⟨bo, 2, none⟩ (.slice p.s3 x.1.mem.length p.c3)).setCell ⟨bo, 3, none⟩ (.slice p.s4 x.1.tr.length p.c4)) := by
 have X := hx.set0 (u := .slice p.s1 x.1.codes.length p.c1) |>.set1 (u := .slice p.s2 x.1.cores.length p.c2) |>.set2 (u := .slice p.s3 x.1.mem.length p.c3) |>.set3 (u := .slice p.s4 x.1.tr.length p.c4)
 refine ⟨bo, lo, wF.heap.size, p, rfl, rfl, hb, by simp; omega, hl, hl', by simp, .inl hbl, ⟨X.x.c0, X.x.c1, X.x.c2, X.x.c3⟩, h.keep (fun q h1 _ => ?_), (((k.setCell (p := ⟨bo, _, none⟩) hb _).setCell (p := ⟨bo, _, none⟩) hb _).setCell (p := ⟨bo, _, none⟩) hb _).setCell (p := ⟨bo, _, none⟩) hb _⟩
 exact (Below.heap_setCell _ ⟨bo, _, none⟩ _ q (by show q ≠ bo; omega)).trans ((Below.heap_setCell _ ⟨bo, _, none⟩ _ q (by show q ≠ bo; omega)).trans ((Below.heap_setCell _ ⟨bo, _, none⟩ _ q (by show q ≠ bo; omega)).trans (Below.heap_setCell _ ⟨bo, _, none⟩ _ q (by show q ≠ bo; omega))))
theorem boxLt2 {X : World} {q : Nat} (h : BoxAt X (some q)) : q < X.heap.size := h.2.lt
set_option maxRecDepth 100000 in
set_option maxHeartbeats 8000000 in
theorem walkExactCoreStep (s1 s2 s3 s4 : Option Addr) (c1 c2 c3 c4 : Nat) (d : MD) (who late : Int) (w : World) (h0 : MaR w 0 w.heap.size s1 s2 s3 s4 d) (m0 : MaLens d) (hwl : (Lit.int .i64 late).wf = true) :
  Calls Tryz.prog 3 #[.agg #[.slice s1 d.codes.length c1, .slice s2 d.cores.length c2, .slice s3 d.mem.length c3, .slice s4 d.tr.length c4], .agg #[.int .i64 who, .int .i64 late]] w fun e w' => e = .returned (.bool true) ∧ Below w.heap.size w w' := by
 have HA0 : Hid (MaR w 0 w.heap.size s1 s2 s3 s4 d) := h0
 have HM0 : Hid (MaLens d) := m0
 have hlate := wf_le hwl
 clear h0 m0 hwl
 go_enter Tryz.func3, Tryz.ntmps3
 go_wp2_with fail
 have HK : Hid (Below w.heap.size w w) := Below.refl _ _
 obtain ⟨V1, hV1, bx1, kb1, zb1⟩ := Bo4.new w (.slice s1 d.codes.length c1) (.slice s2 d.cores.length c2) (.slice s3 d.mem.length c3) (.slice s4 d.tr.length c4) 29
 rw [hV1]
 clear hV1
 have JK := hidM1 (HK.out.trans (kb1.mono (by omega)))
 clear HK
 have HK := JK
 clear JK
 have HA : Hid (Bo4 w.heap.size V1 (.slice s1 d.codes.length c1) (.slice s2 d.cores.length c2) (.slice s3 d.mem.length c3) (.slice s4 d.tr.length c4)) := bx1
 clear bx1 kb1
 obtain ⟨V2, hV2, bx2, kb2, zb2⟩ := Bo2.new V1 (.int .i64 who) (.int .i64 late) 31
 rw [hV2]
 clear hV2
 have JK := hidM1 (HK.out.trans (kb2.mono (by omega)))
 have JA := hidM1 (HA.out.keep (Keep.of_below kb2 (by omega)))
 clear HK HA
 have HK := JK
 have HA := JA
 clear JK JA
 have HP : Hid (Bo2 V1.heap.size V2 (.int .i64 who) (.int .i64 late)) := bx2
 clear bx2 kb2
 have HP2 : Hid (Bo2 (w.heap.size + 1) V2 (.int .i64 who) (.int .i64 late)) := by have q := HP.out; rw [zb1] at q; exact q
 clear HP
 have HP := HP2
 clear HP2
 refine (szMachine_any s1 s2 s3 s4 c1 c2 c3 c4 0 w.heap.size d V2 (HA0.out.keep (Keep.of_below HK.out (Nat.le_refl _))) (by omega) HM0.out).mono ?_
 rintro e w3 ⟨⟨u, rfl, hu⟩, hb3⟩
 have z3 := hb3.size
 have JK := hidM1 (HK.out.trans (hb3.mono (by omega)))
 have JA := hidM1 (HA.out.keep (Keep.of_below hb3 (by omega)))
 have JP := hidM1 (HP.out.keep (Keep.of_below hb3 (by omega)))
 clear HK HA HP
 have HK := JK
 have HA := JA
 have HP := JP
 clear JK JA JP
 clear hb3
 obtain ⟨Ac0, Ac1, Ac2, Ac3⟩ := HA.out
 have Az : w.heap.size < w3.heap.size := by omega
 obtain ⟨Pc0, Pc1⟩ := HP.out
 have Pz : w.heap.size + 1 < w3.heap.size := by omega
 rcases hu with hu | ⟨hu, hf⟩
 ·go_wp2
  go_ret
  exact ⟨rfl, HK.out⟩
 have hun : ¬ u < 0 := by omega
 have FK : Hid (MaSz d ≤ 1048576) := hf
 have FF : Hid (MaFits d) := MaFits.of hf
 clear hf
 have FX := hidM1 (coreM_fits who late FK.out)
 have CI := hidM1 (fun (s1 s2 s3 s4 : Option Addr) (c1 c2 c3 c4 lo hi : Nat) (w : World) (h : MaR w lo hi s1 s2 s3 s4 d) (hB : hi ≤ w.heap.size) => implCore_any s1 s2 s3 s4 c1 c2 c3 c4 lo hi d who late w h hB FK.out hlate)
 have CSp := hidM1 (fun (s1 s2 s3 s4 : Option Addr) (c1 c2 c3 c4 lo hi : Nat) (w : World) (h : MaR w lo hi s1 s2 s3 s4 d) (hB : hi ≤ w.heap.size) => specCore_any s1 s2 s3 s4 c1 c2 c3 c4 lo hi d who late w h hB FK.out hlate)
 obtain ⟨X, hX⟩ : ∃ X, coreM d who late = X := ⟨_, rfl⟩
 rw [hX] at FX CI CSp
 clear hX
 have hXX : (X.2 != X.2) = false := by simp
 go_upto_region 5 with fail
 have kD : Below w3.heap.size w3 w3.drew := Below.drew (Below.refl _ _)
 have hdr : ∀ X : World, X.drew.heap.size = X.heap.size := fun _ => rfl
 have RB : Hid (∀ X, Below w3.heap.size w3 X → X.cell? ⟨w.heap.size, 0, none⟩ = some (.slice s1 d.codes.length c1) ∧ X.cell? ⟨w.heap.size, 1, none⟩ = some (.slice s2 d.cores.length c2) ∧ X.cell? ⟨w.heap.size, 2, none⟩ = some (.slice s3 d.mem.length c3) ∧ X.cell? ⟨w.heap.size, 3, none⟩ = some (.slice s4 d.tr.length c4) ∧ X.cell? ⟨w.heap.size + 1, 0, none⟩ = some (.int .i64 who) ∧ X.cell? ⟨w.heap.size + 1, 1, none⟩ = some (.int .i64 late)) := fun X hX => by have a := HA.out.keep (Keep.of_below hX (by omega)); have b := HP.out.keep (Keep.of_below hX (by omega)); exact ⟨a.c0, a.c1, a.c2, a.c3, b.c0, b.c1⟩
 have CT : Hid (∀ (X0 : World) (pB : Option Nat), Below w3.heap.size w3 X0 → BoxAt X0 pB → Calls Tryz.prog 7 #[.agg #[.slice s1 d.codes.length c1, .slice s2 d.cores.length c2, .slice s3 d.mem.length c3, .slice s4 d.tr.length c4]] X0 fun e w' => ∃ x : MP, e = .returned (.agg #[.slice x.s1 d.codes.length x.c1, .slice x.s2 d.cores.length x.c2, .slice x.s3 d.mem.length x.c3, .slice x.s4 d.tr.length x.c4]) ∧ Below w3.heap.size w3 w' ∧ Hid (MaR w' w3.heap.size w'.heap.size x.s1 x.s2 x.s3 x.s4 d) ∧ Hid (BoxAt w' pB) ∧ w'.cell? ⟨w.heap.size, 0, none⟩ = some (.slice s1 d.codes.length c1) ∧ w'.cell? ⟨w.heap.size, 1, none⟩ = some (.slice s2 d.cores.length c2) ∧ w'.cell? ⟨w.heap.size, 2, none⟩ = some (.slice s3 d.mem.length c3) ∧ w'.cell? ⟨w.heap.size, 3, none⟩ = some (.slice s4 d.tr.length c4) ∧ w'.cell? ⟨w.heap.size + 1, 0, none⟩ = some (.int .i64 who) ∧ w'.cell? ⟨w.heap.size + 1, 1, none⟩ = some (.int .i64 late)) := fun X0 pB hX hb => (toMachine_own s1 s2 s3 s4 c1 c2 c3 c4 0 w.heap.size d X0 (HA0.out.keep (Keep.of_below (HK.out.trans (hX.mono (by omega))) (Nat.le_refl _))) (by have := hX.size; omega) FK.out).mono fun e w' ⟨x, he, ho, hb', hz'⟩ => by
  have kk : Below w3.heap.size w3 w' := hX.trans (hb'.mono hX.size)
  exact ⟨x, he, kk, (ho.mono hX.size (Nat.le_refl _)).ma, hb.keep hb', RB.out _ kk⟩
 have CP : Hid (∀ (X2 X0 : World) (pB : Option Nat), Below w3.heap.size w3 X0 → Below X2.heap.size X2 X0 → BoxAt X0 pB → Calls Tryz.prog 8 #[.agg #[.int .i64 who, .int .i64 late]] X0 fun e w' => e = .returned (.agg #[.int .i64 who, .int .i64 late]) ∧ Below w3.heap.size w3 w' ∧ Below X2.heap.size X2 w' ∧ Hid (BoxAt w' pB) ∧ w'.cell? ⟨w.heap.size, 0, none⟩ = some (.slice s1 d.codes.length c1) ∧ w'.cell? ⟨w.heap.size, 1, none⟩ = some (.slice s2 d.cores.length c2) ∧ w'.cell? ⟨w.heap.size, 2, none⟩ = some (.slice s3 d.mem.length c3) ∧ w'.cell? ⟨w.heap.size, 3, none⟩ = some (.slice s4 d.tr.length c4) ∧ w'.cell? ⟨w.heap.size + 1, 0, none⟩ = some (.int .i64 who) ∧ w'.cell? ⟨w.heap.size + 1, 1, none⟩ = some (.int .i64 late)) := fun X2 X0 pB hX h2 hb => (toPick_any who late X0).mono fun e w' ⟨he, hb'⟩ => by
  have kk : Below w3.heap.size w3 w' := hX.trans (hb'.mono hX.size)
  exact ⟨he, kk, h2.trans (hb'.mono h2.size), hb.keep hb', RB.out _ kk⟩
 have CF : Hid (∀ (X2 Y : World) (pB : Option Nat) (x : MP) (l h : Nat), Below w3.heap.size w3 Y → Below X2.heap.size X2 Y → MaR X2 l h x.s1 x.s2 x.s3 x.s4 d → h ≤ X2.heap.size → BoxAt Y pB → Calls Tryz.prog 6 #[.agg #[.slice x.s1 d.codes.length x.c1, .slice x.s2 d.cores.length x.c2, .slice x.s3 d.mem.length x.c3, .slice x.s4 d.tr.length x.c4], .agg #[.int .i64 who, .int .i64 late]] Y fun e w' => ∃ (lo : Nat) (p : MP), e = .returned (.tuple #[.agg #[.slice p.s1 X.1.codes.length p.c1, .slice p.s2 X.1.cores.length p.c2, .slice p.s3 X.1.mem.length p.c3, .slice p.s4 X.1.tr.length p.c4], .int .i64 X.2]) ∧ w3.heap.size ≤ lo ∧ lo ≤ w'.heap.size ∧ Below w3.heap.size w3 w' ∧ Hid (MaO w' lo w'.heap.size p X.1) ∧ Hid (BoxAt w' pB) ∧ Hid (∀ q, pB = some q → q < lo) ∧ w'.cell? ⟨w.heap.size, 0, none⟩ = some (.slice s1 d.codes.length c1) ∧ w'.cell? ⟨w.heap.size, 1, none⟩ = some (.slice s2 d.cores.length c2) ∧ w'.cell? ⟨w.heap.size, 2, none⟩ = some (.slice s3 d.mem.length c3) ∧ w'.cell? ⟨w.heap.size, 3, none⟩ = some (.slice s4 d.tr.length c4) ∧ w'.cell? ⟨w.heap.size + 1, 0, none⟩ = some (.int .i64 who) ∧ w'.cell? ⟨w.heap.size + 1, 1, none⟩ = some (.int .i64 late)) := fun X2 Y pB x l h hY h2 hm hh hb => (CSp.out x.s1 x.s2 x.s3 x.s4 x.c1 x.c2 x.c3 x.c4 l h Y (hm.keep (Keep.of_below h2 hh)) (by have := h2.size; omega)).mono fun e w' ⟨p, he, ho, hb'⟩ => by
  have kk : Below w3.heap.size w3 w' := hY.trans (hb'.mono hY.size)
  exact ⟨Y.heap.size, p, he, hY.size, hb'.size, kk, ho, hb.keep hb', fun q hq => by subst hq; exact boxLt2 hb, RB.out _ kk⟩
 go_cut [6, 7] (fun q6 q7 wx => CutL w3 X q6 q7 wx)
 case first =>
  go_region_held3 (fun w' => w'.cell? ⟨w.heap.size, 0, none⟩ = some (.slice s1 d.codes.length c1) ∧ w'.cell? ⟨w.heap.size, 1, none⟩ = some (.slice s2 d.cores.length c2) ∧ w'.cell? ⟨w.heap.size, 2, none⟩ = some (.slice s3 d.mem.length c3) ∧ w'.cell? ⟨w.heap.size, 3, none⟩ = some (.slice s4 d.tr.length c4) ∧ w'.cell? ⟨w.heap.size + 1, 0, none⟩ = some (.int .i64 who) ∧ w'.cell? ⟨w.heap.size + 1, 1, none⟩ = some (.int .i64 late)) (first | exact RB.out _ (by repeat' (first | with_reducible exact kD | with_reducible exact kT | with_reducible exact kP | with_reducible exact kF | with_reducible exact Below.refl _ _ | with_reducible refine Below.drew ?_ | with_reducible refine Below.alloc ?_ (by first | omega | exact Nat.le_refl _ | (simp [hdr]; done) | (simp [hdr]; omega)) _ | with_reducible refine Below.setCell ?_ (by first | omega | exact Nat.le_refl _ | (simp [hdr]; done) | (simp [hdr]; omega)) _)) | go_keep) (first | (go_at_call 7; with_reducible refine (CT.out _ _ (by repeat' (first | with_reducible exact kD | with_reducible exact kT | with_reducible exact kP | with_reducible exact kF | with_reducible exact Below.refl _ _ | with_reducible refine Below.drew ?_ | with_reducible refine Below.alloc ?_ (by first | omega | exact Nat.le_refl _ | (simp [hdr]; done) | (simp [hdr]; omega)) _ | with_reducible refine Below.setCell ?_ (by first | omega | exact Nat.le_refl _ | (simp [hdr]; done) | (simp [hdr]; omega)) _)) (by first | with_reducible exact boxD (boxN0 _) | with_reducible exact boxN0 _ | with_reducible exact boxNo _)).mono ?_; rintro e wT ⟨xT, rfl, kT, QT, HBT, yT0, yT1, yT2, yT3, yT4, yT5⟩; have zT := kT.size) | (go_at_call 8; with_reducible refine (CP.out wT _ _ (by repeat' (first | with_reducible exact kD | with_reducible exact kT | with_reducible exact kP | with_reducible exact kF | with_reducible exact Below.refl _ _ | with_reducible refine Below.drew ?_ | with_reducible refine Below.alloc ?_ (by first | omega | exact Nat.le_refl _ | (simp [hdr]; done) | (simp [hdr]; omega)) _ | with_reducible refine Below.setCell ?_ (by first | omega | exact Nat.le_refl _ | (simp [hdr]; done) | (simp [hdr]; omega)) _)) (show Below wT.heap.size wT _ from (by repeat' (first | with_reducible exact Below.refl _ _ | with_reducible refine Below.drew ?_ | with_reducible refine Below.alloc ?_ (by first | omega | exact Nat.le_refl _ | (simp [hdr]; done) | (simp [hdr]; omega)) _))) (by first | with_reducible exact boxN0 _ | exact HBT.out.keep (show Below wT.heap.size wT _ from (by repeat' (first | with_reducible exact Below.refl _ _ | with_reducible refine Below.drew ?_ | with_reducible refine Below.alloc ?_ (by first | omega | exact Nat.le_refl _ | (simp [hdr]; done) | (simp [hdr]; omega)) _))))).mono ?_; rintro e wP ⟨rfl, kP, kTP, HBP, yP0, yP1, yP2, yP3, yP4, yP5⟩; have zP := kP.size; have zTP := kTP.size) | (go_at_call 6; with_reducible refine (CF.out wT _ _ xT _ _ (by repeat' (first | with_reducible exact kD | with_reducible exact kT | with_reducible exact kP | with_reducible exact kF | with_reducible exact Below.refl _ _ | with_reducible refine Below.drew ?_ | with_reducible refine Below.alloc ?_ (by first | omega | exact Nat.le_refl _ | (simp [hdr]; done) | (simp [hdr]; omega)) _ | with_reducible refine Below.setCell ?_ (by first | omega | exact Nat.le_refl _ | (simp [hdr]; done) | (simp [hdr]; omega)) _)) (kTP.trans ((show Below wP.heap.size wP _ from (by repeat' (first | with_reducible exact Below.refl _ _ | with_reducible refine Below.drew ?_ | with_reducible refine Below.alloc ?_ (by first | omega | exact Nat.le_refl _ | (simp [hdr]; done) | (simp [hdr]; omega)) _))).mono zTP)) QT.out (Nat.le_refl _) (by first | with_reducible exact boxN0 _ | exact HBP.out.keep (show Below wP.heap.size wP _ from (by repeat' (first | with_reducible exact Below.refl _ _ | with_reducible refine Below.drew ?_ | with_reducible refine Below.alloc ?_ (by first | omega | exact Nat.le_refl _ | (simp [hdr]; done) | (simp [hdr]; omega)) _))))).mono ?_; rintro e wF ⟨lF, pF, rfl, hF1, hF2, kF, QF, HBF, HPF, yF0, yF1, yF2, yF3, yF4, yF5⟩; have zF := kF.size; (try obtain ⟨⟨b9, b0', b1', b2', b3'⟩, bf'⟩ := (boxSome HBF.out).1)) | fail)
  all_goals
   go_wp2_with fail
   go_meet
   first
    | with_reducible exact cutL_new QF.out hF1 hF2 kF
    | with_reducible exact cutL_set (boxSome HBF.out).1 (by omega) (HPF.out _ rfl) QF.out hF1 hF2 kF
 case rest =>
  obtain ⟨wqw, hwq⟩ : ∃ wo : World, wo = wc := ⟨_, rfl⟩
  subst hwq
  obtain ⟨bow, low, hiw, xw, rfl, rfl, hbww, hbow, hlow, hlhw, hhiw, hdjw, bxw, mow, hkw⟩ := hcut
  have zqw := hkw.size
  clear kD hdr RB CP CF CT
  clear Ac0 Ac1 Ac2 Ac3 Az
  clear Pc0 Pc1 Pz
  have JK := hidM1 (HK.out.trans (hkw.mono (by omega)))
  have JA := hidM1 (HA.out.keep (Keep.of_below hkw (by omega)))
  have JP := hidM1 (HP.out.keep (Keep.of_below hkw (by omega)))
  clear HK HA HP
  have HK := JK
  have HA := JA
  have HP := JP
  clear JK JA JP
  have HRw : Hid (MaR wqw low hiw xw.s1 xw.s2 xw.s3 xw.s4 X.1) := mow.ma
  have HXw : Hid (Bo4 bow wqw (.slice xw.s1 X.1.codes.length xw.c1) (.slice xw.s2 X.1.cores.length xw.c2) (.slice xw.s3 X.1.mem.length xw.c3) (.slice xw.s4 X.1.tr.length xw.c4)) := bxw
  clear bxw mow hkw
  obtain ⟨Ac0, Ac1, Ac2, Ac3⟩ := HA.out
  have Az : w.heap.size < wqw.heap.size := by omega
  obtain ⟨Pc0, Pc1⟩ := HP.out
  have Pz : w.heap.size + 1 < wqw.heap.size := by omega
  obtain ⟨Xwc0, Xwc1, Xwc2, Xwc3⟩ := HXw.out
  have Xwz : bow < wqw.heap.size := by omega
  go_wp2_with fail
  refine (toMachine_own s1 s2 s3 s4 c1 c2 c3 c4 0 w.heap.size d wqw (HA0.out.keep (Keep.of_below HK.out (Nat.le_refl _))) (by omega) FK.out).mono ?_
  rintro e w4 ⟨xx, rfl, ho4, hb4, z4⟩
  clear Ac0 Ac1 Ac2 Ac3 Az
  clear Pc0 Pc1 Pz
  clear Xwc0 Xwc1 Xwc2 Xwc3 Xwz
  have JK := hidM1 (HK.out.trans (hb4.mono (by omega)))
  have JA := hidM1 (HA.out.keep (Keep.of_below hb4 (by omega)))
  have JP := hidM1 (HP.out.keep (Keep.of_below hb4 (by omega)))
  have JRw := hidM1 (HRw.out.keep (Keep.of_below hb4 (by omega)))
  have JXw := hidM1 (HXw.out.keep (Keep.of_below hb4 (by omega)))
  clear HK HA HP HRw HXw
  have HK := JK
  have HA := JA
  have HP := JP
  have HRw := JRw
  have HXw := JXw
  clear JK JA JP JRw JXw
  have HRx : Hid (MaR w4 wqw.heap.size w4.heap.size xx.s1 xx.s2 xx.s3 xx.s4 d) := ho4.ma
  have HOx : Hid (MaO w4 wqw.heap.size w4.heap.size xx d) := ho4
  clear hb4 ho4
  obtain ⟨Ac0, Ac1, Ac2, Ac3⟩ := HA.out
  have Az : w.heap.size < w4.heap.size := by omega
  obtain ⟨Pc0, Pc1⟩ := HP.out
  have Pz : w.heap.size + 1 < w4.heap.size := by omega
  obtain ⟨Xwc0, Xwc1, Xwc2, Xwc3⟩ := HXw.out
  have Xwz : bow < w4.heap.size := by omega
  go_upto_region 7 with fail
  obtain ⟨V5, hV5, bx5, kb5, zb5⟩ := Bo4.new w4 (.slice xx.s1 d.codes.length xx.c1) (.slice xx.s2 d.cores.length xx.c2) (.slice xx.s3 d.mem.length xx.c3) (.slice xx.s4 d.tr.length xx.c4) 40
  rw [hV5]
  clear hV5
  clear Ac0 Ac1 Ac2 Ac3 Az
  clear Pc0 Pc1 Pz
  clear Xwc0 Xwc1 Xwc2 Xwc3 Xwz
  have JK := hidM1 (HK.out.trans (kb5.mono (by omega)))
  have JA := hidM1 (HA.out.keep (Keep.of_below kb5 (by omega)))
  have JP := hidM1 (HP.out.keep (Keep.of_below kb5 (by omega)))
  have JRw := hidM1 (HRw.out.keep (Keep.of_below kb5 (by omega)))
  have JXw := hidM1 (HXw.out.keep (Keep.of_below kb5 (by omega)))
  have JRx := hidM1 (HRx.out.keep (Keep.of_below kb5 (by omega)))
  have JOx := hidM1 (HOx.out.keep (Keep.of_below kb5 (by omega)))
  clear HK HA HP HRw HXw HRx HOx
  have HK := JK
  have HA := JA
  have HP := JP
  have HRw := JRw
  have HXw := JXw
  have HRx := JRx
  have HOx := JOx
  clear JK JA JP JRw JXw JRx JOx
  have HXx : Hid (Bo4 w4.heap.size V5 (.slice xx.s1 d.codes.length xx.c1) (.slice xx.s2 d.cores.length xx.c2) (.slice xx.s3 d.mem.length xx.c3) (.slice xx.s4 d.tr.length xx.c4)) := bx5
  clear bx5 kb5
  obtain ⟨Ac0, Ac1, Ac2, Ac3⟩ := HA.out
  have Az : w.heap.size < V5.heap.size := by omega
  obtain ⟨Pc0, Pc1⟩ := HP.out
  have Pz : w.heap.size + 1 < V5.heap.size := by omega
  obtain ⟨Xwc0, Xwc1, Xwc2, Xwc3⟩ := HXw.out
  have Xwz : bow < V5.heap.size := by omega
  obtain ⟨Xxc0, Xxc1, Xxc2, Xxc3⟩ := HXx.out
  have Xxz : w4.heap.size < V5.heap.size := by omega
  have zbx : w4.heap.size + 1 ≤ V5.heap.size := by omega
  clear zb5
  have kD : Below V5.heap.size V5 V5.drew := Below.drew (Below.refl _ _)
  have hdr : ∀ X : World, X.drew.heap.size = X.heap.size := fun _ => rfl
  have RB : Hid (∀ X, Below V5.heap.size V5 X → X.cell? ⟨w4.heap.size, 0, none⟩ = some (.slice xx.s1 d.codes.length xx.c1) ∧ X.cell? ⟨w4.heap.size, 1, none⟩ = some (.slice xx.s2 d.cores.length xx.c2) ∧ X.cell? ⟨w4.heap.size, 2, none⟩ = some (.slice xx.s3 d.mem.length xx.c3) ∧ X.cell? ⟨w4.heap.size, 3, none⟩ = some (.slice xx.s4 d.tr.length xx.c4) ∧ X.cell? ⟨w.heap.size + 1, 0, none⟩ = some (.int .i64 who) ∧ X.cell? ⟨w.heap.size + 1, 1, none⟩ = some (.int .i64 late)) := fun X hX => by have a := HXx.out.keep (Keep.of_below hX (by omega)); have b := HP.out.keep (Keep.of_below hX (by omega)); exact ⟨a.c0, a.c1, a.c2, a.c3, b.c0, b.c1⟩
  have CP : Hid (∀ (X2 X0 : World) (pB : Option Nat), Below V5.heap.size V5 X0 → Below X2.heap.size X2 X0 → BoxAt X0 pB → Calls Tryz.prog 8 #[.agg #[.int .i64 who, .int .i64 late]] X0 fun e w' => e = .returned (.agg #[.int .i64 who, .int .i64 late]) ∧ Below V5.heap.size V5 w' ∧ Below X2.heap.size X2 w' ∧ Hid (BoxAt w' pB) ∧ w'.cell? ⟨w4.heap.size, 0, none⟩ = some (.slice xx.s1 d.codes.length xx.c1) ∧ w'.cell? ⟨w4.heap.size, 1, none⟩ = some (.slice xx.s2 d.cores.length xx.c2) ∧ w'.cell? ⟨w4.heap.size, 2, none⟩ = some (.slice xx.s3 d.mem.length xx.c3) ∧ w'.cell? ⟨w4.heap.size, 3, none⟩ = some (.slice xx.s4 d.tr.length xx.c4) ∧ w'.cell? ⟨w.heap.size + 1, 0, none⟩ = some (.int .i64 who) ∧ w'.cell? ⟨w.heap.size + 1, 1, none⟩ = some (.int .i64 late)) := fun X2 X0 pB hX h2 hb => (toPick_any who late X0).mono fun e w' ⟨he, hb'⟩ => by
   have kk : Below V5.heap.size V5 w' := hX.trans (hb'.mono hX.size)
   exact ⟨he, kk, h2.trans (hb'.mono h2.size), hb.keep hb', RB.out _ kk⟩
  have CF : Hid (∀ (X2 Y : World) (pB : Option Nat) (x : MP) (l h : Nat), Below V5.heap.size V5 Y → Below X2.heap.size X2 Y → MaR X2 l h x.s1 x.s2 x.s3 x.s4 d → h ≤ X2.heap.size → BoxAt Y pB → Calls Tryz.prog 9 #[.agg #[.slice x.s1 d.codes.length x.c1, .slice x.s2 d.cores.length x.c2, .slice x.s3 d.mem.length x.c3, .slice x.s4 d.tr.length x.c4], .agg #[.int .i64 who, .int .i64 late]] Y fun e w' => ∃ (lo : Nat) (p : MP), e = .returned (.tuple #[.agg #[.slice p.s1 X.1.codes.length p.c1, .slice p.s2 X.1.cores.length p.c2, .slice p.s3 X.1.mem.length p.c3, .slice p.s4 X.1.tr.length p.c4], .int .i64 X.2]) ∧ V5.heap.size ≤ lo ∧ lo ≤ w'.heap.size ∧ Below V5.heap.size V5 w' ∧ Hid (MaO w' lo w'.heap.size p X.1) ∧ Hid (BoxAt w' pB) ∧ Hid (∀ q, pB = some q → q < lo) ∧ w'.cell? ⟨w4.heap.size, 0, none⟩ = some (.slice xx.s1 d.codes.length xx.c1) ∧ w'.cell? ⟨w4.heap.size, 1, none⟩ = some (.slice xx.s2 d.cores.length xx.c2) ∧ w'.cell? ⟨w4.heap.size, 2, none⟩ = some (.slice xx.s3 d.mem.length xx.c3) ∧ w'.cell? ⟨w4.heap.size, 3, none⟩ = some (.slice xx.s4 d.tr.length xx.c4) ∧ w'.cell? ⟨w.heap.size + 1, 0, none⟩ = some (.int .i64 who) ∧ w'.cell? ⟨w.heap.size + 1, 1, none⟩ = some (.int .i64 late)) := fun X2 Y pB x l h hY h2 hm hh hb => (CI.out x.s1 x.s2 x.s3 x.s4 x.c1 x.c2 x.c3 x.c4 l h Y (hm.keep (Keep.of_below h2 hh)) (by have := h2.size; omega)).mono fun e w' ⟨p, he, ho, hb'⟩ => by
   have kk : Below V5.heap.size V5 w' := hY.trans (hb'.mono hY.size)
   exact ⟨Y.heap.size, p, he, hY.size, hb'.size, kk, ho, hb.keep hb', fun q hq => by subst hq; exact boxLt2 hb, RB.out _ kk⟩
  go_cut [9, 10] (fun q6 q7 wx => CutL V5 X q6 q7 wx)
  case first =>
   go_region_held3 (fun w' => w'.cell? ⟨w4.heap.size, 0, none⟩ = some (.slice xx.s1 d.codes.length xx.c1) ∧ w'.cell? ⟨w4.heap.size, 1, none⟩ = some (.slice xx.s2 d.cores.length xx.c2) ∧ w'.cell? ⟨w4.heap.size, 2, none⟩ = some (.slice xx.s3 d.mem.length xx.c3) ∧ w'.cell? ⟨w4.heap.size, 3, none⟩ = some (.slice xx.s4 d.tr.length xx.c4) ∧ w'.cell? ⟨w.heap.size + 1, 0, none⟩ = some (.int .i64 who) ∧ w'.cell? ⟨w.heap.size + 1, 1, none⟩ = some (.int .i64 late)) (first | exact RB.out _ (by repeat' (first | with_reducible exact kD | with_reducible exact kT | with_reducible exact kP | with_reducible exact kF | with_reducible exact Below.refl _ _ | with_reducible refine Below.drew ?_ | with_reducible refine Below.alloc ?_ (by first | omega | exact Nat.le_refl _ | (simp [hdr]; done) | (simp [hdr]; omega)) _ | with_reducible refine Below.setCell ?_ (by first | omega | exact Nat.le_refl _ | (simp [hdr]; done) | (simp [hdr]; omega)) _)) | go_keep) (first | (go_at_call 8; with_reducible refine (CP.out V5 _ _ (by repeat' (first | with_reducible exact kD | with_reducible exact kT | with_reducible exact kP | with_reducible exact kF | with_reducible exact Below.refl _ _ | with_reducible refine Below.drew ?_ | with_reducible refine Below.alloc ?_ (by first | omega | exact Nat.le_refl _ | (simp [hdr]; done) | (simp [hdr]; omega)) _ | with_reducible refine Below.setCell ?_ (by first | omega | exact Nat.le_refl _ | (simp [hdr]; done) | (simp [hdr]; omega)) _)) (by repeat' (first | with_reducible exact kD | with_reducible exact kT | with_reducible exact kP | with_reducible exact kF | with_reducible exact Below.refl _ _ | with_reducible refine Below.drew ?_ | with_reducible refine Below.alloc ?_ (by first | omega | exact Nat.le_refl _ | (simp [hdr]; done) | (simp [hdr]; omega)) _ | with_reducible refine Below.setCell ?_ (by first | omega | exact Nat.le_refl _ | (simp [hdr]; done) | (simp [hdr]; omega)) _)) (by first | with_reducible exact boxD (boxN0 _) | with_reducible exact boxN0 _ | with_reducible exact boxNo _)).mono ?_; rintro e wP ⟨rfl, kP, kTP, HBP, yP0, yP1, yP2, yP3, yP4, yP5⟩; have zP := kP.size) | (go_at_call 9; with_reducible refine (CF.out V5 _ _ xx _ _ (by repeat' (first | with_reducible exact kD | with_reducible exact kT | with_reducible exact kP | with_reducible exact kF | with_reducible exact Below.refl _ _ | with_reducible refine Below.drew ?_ | with_reducible refine Below.alloc ?_ (by first | omega | exact Nat.le_refl _ | (simp [hdr]; done) | (simp [hdr]; omega)) _ | with_reducible refine Below.setCell ?_ (by first | omega | exact Nat.le_refl _ | (simp [hdr]; done) | (simp [hdr]; omega)) _)) (by repeat' (first | with_reducible exact kD | with_reducible exact kT | with_reducible exact kP | with_reducible exact kF | with_reducible exact Below.refl _ _ | with_reducible refine Below.drew ?_ | with_reducible refine Below.alloc ?_ (by first | omega | exact Nat.le_refl _ | (simp [hdr]; done) | (simp [hdr]; omega)) _ | with_reducible refine Below.setCell ?_ (by first | omega | exact Nat.le_refl _ | (simp [hdr]; done) | (simp [hdr]; omega)) _)) HRx.out (by omega) (by first | with_reducible exact boxN0 _ | exact HBP.out.keep (show Below wP.heap.size wP _ from (by repeat' (first | with_reducible exact Below.refl _ _ | with_reducible refine Below.drew ?_ | with_reducible refine Below.alloc ?_ (by first | omega | exact Nat.le_refl _ | (simp [hdr]; done) | (simp [hdr]; omega)) _))))).mono ?_; rintro e wF ⟨lF, pF, rfl, hF1, hF2, kF, QF, HBF, HPF, yF0, yF1, yF2, yF3, yF4, yF5⟩; have zF := kF.size; (try obtain ⟨⟨b9, b0', b1', b2', b3'⟩, bf'⟩ := (boxSome HBF.out).1)) | fail)
   all_goals
    go_wp2_with fail
    go_meet
    first
     | with_reducible exact cutL_new QF.out hF1 hF2 kF
     | with_reducible exact cutL_set (boxSome HBF.out).1 (by omega) (HPF.out _ rfl) QF.out hF1 hF2 kF
  case rest =>
   obtain ⟨wqg, hwq⟩ : ∃ wo : World, wo = wc := ⟨_, rfl⟩
   subst hwq
   obtain ⟨bog, log, hig, xg, rfl, rfl, hbwg, hbog, hlog, hlhg, hhig, hdjg, bxg, mog, hkg⟩ := hcut
   have zqg := hkg.size
   clear kD hdr RB CP CF
   clear Ac0 Ac1 Ac2 Ac3 Az
   clear Pc0 Pc1 Pz
   clear Xwc0 Xwc1 Xwc2 Xwc3 Xwz
   clear Xxc0 Xxc1 Xxc2 Xxc3 Xxz
   have JK := hidM1 (HK.out.trans (hkg.mono (by omega)))
   have JA := hidM1 (HA.out.keep (Keep.of_below hkg (by omega)))
   have JP := hidM1 (HP.out.keep (Keep.of_below hkg (by omega)))
   have JRw := hidM1 (HRw.out.keep (Keep.of_below hkg (by omega)))
   have JXw := hidM1 (HXw.out.keep (Keep.of_below hkg (by omega)))
   have JRx := hidM1 (HRx.out.keep (Keep.of_below hkg (by omega)))
   have JOx := hidM1 (HOx.out.keep (Keep.of_below hkg (by omega)))
   have JXx := hidM1 (HXx.out.keep (Keep.of_below hkg (by omega)))
   clear HK HA HP HRw HXw HRx HOx HXx
   have HK := JK
   have HA := JA
   have HP := JP
   have HRw := JRw
   have HXw := JXw
   have HRx := JRx
   have HOx := JOx
   have HXx := JXx
   clear JK JA JP JRw JXw JRx JOx JXx
   have HRg : Hid (MaR wqg log hig xg.s1 xg.s2 xg.s3 xg.s4 X.1) := mog.ma
   have HOg : Hid (MaSh wqg log hig xg X.1) := mog.sh
   have HXg : Hid (Bo4 bog wqg (.slice xg.s1 X.1.codes.length xg.c1) (.slice xg.s2 X.1.cores.length xg.c2) (.slice xg.s3 X.1.mem.length xg.c3) (.slice xg.s4 X.1.tr.length xg.c4)) := bxg
   clear bxg mog hkg
   obtain ⟨Ac0, Ac1, Ac2, Ac3⟩ := HA.out
   have Az : w.heap.size < wqg.heap.size := by omega
   obtain ⟨Pc0, Pc1⟩ := HP.out
   have Pz : w.heap.size + 1 < wqg.heap.size := by omega
   obtain ⟨Xwc0, Xwc1, Xwc2, Xwc3⟩ := HXw.out
   have Xwz : bow < wqg.heap.size := by omega
   obtain ⟨Xxc0, Xxc1, Xxc2, Xxc3⟩ := HXx.out
   have Xxz : w4.heap.size < wqg.heap.size := by omega
   obtain ⟨Xgc0, Xgc1, Xgc2, Xgc3⟩ := HXg.out
   have Xgz : bog < wqg.heap.size := by omega
   go_wp2_with fail
   refine (eqMachine_alike _ _ _ _ _ _ _ _ _ _ _ _ _ _ _ _ _ _ _ _ X.1 wqg HRg.out HRw.out (by omega) (by omega) FX.out).mono ?_
   rintro e w6 ⟨rfl, hb6⟩
   have z6 := hb6.size
   clear Ac0 Ac1 Ac2 Ac3 Az
   clear Pc0 Pc1 Pz
   clear Xwc0 Xwc1 Xwc2 Xwc3 Xwz
   clear Xxc0 Xxc1 Xxc2 Xxc3 Xxz
   clear Xgc0 Xgc1 Xgc2 Xgc3 Xgz
   have JK := hidM1 (HK.out.trans (hb6.mono (by omega)))
   have JA := hidM1 (HA.out.keep (Keep.of_below hb6 (by omega)))
   have JP := hidM1 (HP.out.keep (Keep.of_below hb6 (by omega)))
   have JRw := hidM1 (HRw.out.keep (Keep.of_below hb6 (by omega)))
   have JXw := hidM1 (HXw.out.keep (Keep.of_below hb6 (by omega)))
   have JRx := hidM1 (HRx.out.keep (Keep.of_below hb6 (by omega)))
   have JOx := hidM1 (HOx.out.keep (Keep.of_below hb6 (by omega)))
   have JXx := hidM1 (HXx.out.keep (Keep.of_below hb6 (by omega)))
   have JRg := hidM1 (HRg.out.keep (Keep.of_below hb6 (by omega)))
   have JOg := hidM1 (HOg.out.keep (Keep.of_below hb6 (by omega)))
   have JXg := hidM1 (HXg.out.keep (Keep.of_below hb6 (by omega)))
   clear HK HA HP HRw HXw HRx HOx HXx HRg HOg HXg
   have HK := JK
   have HA := JA
   have HP := JP
   have HRw := JRw
   have HXw := JXw
   have HRx := JRx
   have HOx := JOx
   have HXx := JXx
   have HRg := JRg
   have HOg := JOg
   have HXg := JXg
   clear JK JA JP JRw JXw JRx JOx JXx JRg JOg JXg
   clear hb6
   obtain ⟨Ac0, Ac1, Ac2, Ac3⟩ := HA.out
   have Az : w.heap.size < w6.heap.size := by omega
   obtain ⟨Pc0, Pc1⟩ := HP.out
   have Pz : w.heap.size + 1 < w6.heap.size := by omega
   obtain ⟨Xwc0, Xwc1, Xwc2, Xwc3⟩ := HXw.out
   have Xwz : bow < w6.heap.size := by omega
   obtain ⟨Xxc0, Xxc1, Xxc2, Xxc3⟩ := HXx.out
   have Xxz : w4.heap.size < w6.heap.size := by omega
   obtain ⟨Xgc0, Xgc1, Xgc2, Xgc3⟩ := HXg.out
   have Xgz : bog < w6.heap.size := by omega
   go_wp2_with fail
   go_region_held3 (fun w' => w'.cell? ⟨w4.heap.size, 0, none⟩ = some (.slice xx.s1 d.codes.length xx.c1) ∧ w'.cell? ⟨w4.heap.size, 1, none⟩ = some (.slice xx.s2 d.cores.length xx.c2) ∧ w'.cell? ⟨w4.heap.size, 2, none⟩ = some (.slice xx.s3 d.mem.length xx.c3) ∧ w'.cell? ⟨w4.heap.size, 3, none⟩ = some (.slice xx.s4 d.tr.length xx.c4) ∧ w'.cell? ⟨w.heap.size, 0, none⟩ = some (.slice s1 d.codes.length c1) ∧ w'.cell? ⟨w.heap.size, 1, none⟩ = some (.slice s2 d.cores.length c2) ∧ w'.cell? ⟨w.heap.size, 2, none⟩ = some (.slice s3 d.mem.length c3) ∧ w'.cell? ⟨w.heap.size, 3, none⟩ = some (.slice s4 d.tr.length c4)) (go_keep) (first | (go_at_call 7; refine (toMachine_own s1 s2 s3 s4 c1 c2 c3 c4 0 w.heap.size d w6.drew (HA0.out.keep (Keep.of_below HK.out.drew (Nat.le_refl _))) (by show w.heap.size ≤ w6.heap.size; omega) FK.out).mono ?_; rintro e w7 ⟨xq, rfl, ho7, hb7, hz7⟩; have kx : Below w6.heap.size w6 w7 := (Below.drew (Below.refl _ _)).trans hb7; have kz := kx.size; have XX := HXx.out.keep (Keep.of_below kx (by omega)); have AA := HA.out.keep (Keep.of_below kx (by omega)); have t0 := XX.c0; have t1 := XX.c1; have t2 := XX.c2; have t3 := XX.c3; have t4 := AA.c0; have t5 := AA.c1; have t6 := AA.c2; have t7 := AA.c3) | (go_at_call 10; refine (eqMachine_alike xx.s1 xx.s2 xx.s3 xx.s4 xq.s1 xq.s2 xq.s3 xq.s4 _ _ _ _ _ _ _ _ wqw.heap.size w4.heap.size w6.heap.size w7.heap.size d w7 (HRx.out.keep (Keep.of_below kx (by omega))) (ho7.ma) (by omega) (Nat.le_refl _) FF.out).mono ?_; rintro e w8 ⟨rfl, hb8⟩; have ky : Below w6.heap.size w6 w8 := kx.trans (hb8.mono (by omega)); have XY := XX.keep (Keep.of_below hb8 (by omega)); have AY := AA.keep (Keep.of_below hb8 (by omega)); have u0 := XY.c0; have u1 := XY.c1; have u2 := XY.c2; have u3 := XY.c3; have u4 := AY.c0; have u5 := AY.c1; have u6 := AY.c2; have u7 := AY.c3))
   have z8 := ky.size
   clear t0 u0 t1 u1 t2 u2 t3 u3 t4 u4 t5 u5 t6 u6 t7 u7 XX AA XY AY hb7 hb8 ho7 hz7 kx kz
   clear Ac0 Ac1 Ac2 Ac3 Az
   clear Pc0 Pc1 Pz
   clear Xwc0 Xwc1 Xwc2 Xwc3 Xwz
   clear Xxc0 Xxc1 Xxc2 Xxc3 Xxz
   clear Xgc0 Xgc1 Xgc2 Xgc3 Xgz
   have JK := hidM1 (HK.out.trans (ky.mono (by omega)))
   have JA := hidM1 (HA.out.keep (Keep.of_below ky (by omega)))
   have JP := hidM1 (HP.out.keep (Keep.of_below ky (by omega)))
   have JRw := hidM1 (HRw.out.keep (Keep.of_below ky (by omega)))
   have JXw := hidM1 (HXw.out.keep (Keep.of_below ky (by omega)))
   have JRx := hidM1 (HRx.out.keep (Keep.of_below ky (by omega)))
   have JOx := hidM1 (HOx.out.keep (Keep.of_below ky (by omega)))
   have JXx := hidM1 (HXx.out.keep (Keep.of_below ky (by omega)))
   have JRg := hidM1 (HRg.out.keep (Keep.of_below ky (by omega)))
   have JOg := hidM1 (HOg.out.keep (Keep.of_below ky (by omega)))
   have JXg := hidM1 (HXg.out.keep (Keep.of_below ky (by omega)))
   clear HK HA HP HRw HXw HRx HOx HXx HRg HOg HXg
   have HK := JK
   have HA := JA
   have HP := JP
   have HRw := JRw
   have HXw := JXw
   have HRx := JRx
   have HOx := JOx
   have HXx := JXx
   have HRg := JRg
   have HOg := JOg
   have HXg := JXg
   clear JK JA JP JRw JXw JRx JOx JXx JRg JOg JXg
   clear ky
   obtain ⟨Ac0, Ac1, Ac2, Ac3⟩ := HA.out
   have Az : w.heap.size < w8.heap.size := by omega
   obtain ⟨Pc0, Pc1⟩ := HP.out
   have Pz : w.heap.size + 1 < w8.heap.size := by omega
   obtain ⟨Xwc0, Xwc1, Xwc2, Xwc3⟩ := HXw.out
   have Xwz : bow < w8.heap.size := by omega
   obtain ⟨Xxc0, Xxc1, Xxc2, Xxc3⟩ := HXx.out
   have Xxz : w4.heap.size < w8.heap.size := by omega
   obtain ⟨Xgc0, Xgc1, Xgc2, Xgc3⟩ := HXg.out
   have Xgz : bog < w8.heap.size := by omega
   go_wp2_with fail
   refine (markMachine_any xx d _ _ 1 w8 HOx.out.sh (by omega) FF.out (by omega) (by omega)).mono ?_
   rintro e w9 ⟨rfl, hm9, ex9⟩
   have z9 := ex9.size
   obtain ⟨N, hN⟩ : ∃ n : Nat, xx.len d = n := ⟨_, rfl⟩
   rw [hN]
   clear hN
   have hN0 : ¬ 1 + (N : Int) < 0 := by omega
   clear Ac0 Ac1 Ac2 Ac3 Az
   clear Pc0 Pc1 Pz
   clear Xwc0 Xwc1 Xwc2 Xwc3 Xwz
   clear Xxc0 Xxc1 Xxc2 Xxc3 Xxz
   clear Xgc0 Xgc1 Xgc2 Xgc3 Xgz
   have JK := hidM1 (HK.out.trans (ex9.below (by omega) (by omega)))
   have JA := hidM1 (HA.out.keep (Keep.of_exc ex9 (by omega) (by omega)))
   have JP := hidM1 (HP.out.keep (Keep.of_exc ex9 (by omega) (by omega)))
   have JRw := hidM1 (HRw.out.keep (Keep.of_exc ex9 (by omega) (by omega)))
   have JXw := hidM1 (HXw.out.keep (Keep.of_exc ex9 (by omega) (by omega)))
   have JXx := hidM1 (HXx.out.keep (Keep.of_exc ex9 (by omega) (by omega)))
   have JRg := hidM1 (HRg.out.keep (Keep.of_exc ex9 (by omega) (by omega)))
   have JOg := hidM1 (HOg.out.keep (Keep.of_exc ex9 (by omega) (by omega)))
   have JXg := hidM1 (HXg.out.keep (Keep.of_exc ex9 (by omega) (by omega)))
   clear HK HA HP HRw HXw HRx HOx HXx HRg HOg HXg
   have HK := JK
   have HA := JA
   have HP := JP
   have HRw := JRw
   have HXw := JXw
   have HXx := JXx
   have HRg := JRg
   have HOg := JOg
   have HXg := JXg
   clear JK JA JP JRw JXw JXx JRg JOg JXg
   clear ex9 hm9
   obtain ⟨Ac0, Ac1, Ac2, Ac3⟩ := HA.out
   have Az : w.heap.size < w9.heap.size := by omega
   obtain ⟨Pc0, Pc1⟩ := HP.out
   have Pz : w.heap.size + 1 < w9.heap.size := by omega
   obtain ⟨Xwc0, Xwc1, Xwc2, Xwc3⟩ := HXw.out
   have Xwz : bow < w9.heap.size := by omega
   obtain ⟨Xxc0, Xxc1, Xxc2, Xxc3⟩ := HXx.out
   have Xxz : w4.heap.size < w9.heap.size := by omega
   obtain ⟨Xgc0, Xgc1, Xgc2, Xgc3⟩ := HXg.out
   have Xgz : bog < w9.heap.size := by omega
   go_wp2_with fail
   refine (eqMachine_alike _ _ _ _ _ _ _ _ _ _ _ _ _ _ _ _ _ _ _ _ X.1 w9 HRg.out HRw.out (by omega) (by omega) FX.out).mono ?_
   rintro e w10 ⟨rfl, hb10⟩
   have z10 := hb10.size
   clear Ac0 Ac1 Ac2 Ac3 Az
   clear Pc0 Pc1 Pz
   clear Xwc0 Xwc1 Xwc2 Xwc3 Xwz
   clear Xxc0 Xxc1 Xxc2 Xxc3 Xxz
   clear Xgc0 Xgc1 Xgc2 Xgc3 Xgz
   have JK := hidM1 (HK.out.trans (hb10.mono (by omega)))
   have JA := hidM1 (HA.out.keep (Keep.of_below hb10 (by omega)))
   have JP := hidM1 (HP.out.keep (Keep.of_below hb10 (by omega)))
   have JRw := hidM1 (HRw.out.keep (Keep.of_below hb10 (by omega)))
   have JXw := hidM1 (HXw.out.keep (Keep.of_below hb10 (by omega)))
   have JXx := hidM1 (HXx.out.keep (Keep.of_below hb10 (by omega)))
   have JRg := hidM1 (HRg.out.keep (Keep.of_below hb10 (by omega)))
   have JOg := hidM1 (HOg.out.keep (Keep.of_below hb10 (by omega)))
   have JXg := hidM1 (HXg.out.keep (Keep.of_below hb10 (by omega)))
   clear HK HA HP HRw HXw HXx HRg HOg HXg
   have HK := JK
   have HA := JA
   have HP := JP
   have HRw := JRw
   have HXw := JXw
   have HXx := JXx
   have HRg := JRg
   have HOg := JOg
   have HXg := JXg
   clear JK JA JP JRw JXw JXx JRg JOg JXg
   clear hb10
   obtain ⟨Ac0, Ac1, Ac2, Ac3⟩ := HA.out
   have Az : w.heap.size < w10.heap.size := by omega
   obtain ⟨Pc0, Pc1⟩ := HP.out
   have Pz : w.heap.size + 1 < w10.heap.size := by omega
   obtain ⟨Xwc0, Xwc1, Xwc2, Xwc3⟩ := HXw.out
   have Xwz : bow < w10.heap.size := by omega
   obtain ⟨Xxc0, Xxc1, Xxc2, Xxc3⟩ := HXx.out
   have Xxz : w4.heap.size < w10.heap.size := by omega
   obtain ⟨Xgc0, Xgc1, Xgc2, Xgc3⟩ := HXg.out
   have Xgz : bog < w10.heap.size := by omega
   go_wp2_with fail
   refine (markMachine_any xg X.1 _ _ 1 w10 HOg.out (by omega) FX.out (by omega) (by omega)).mono ?_
   rintro e w11 ⟨rfl, hm11, ex11⟩
   have z11 := ex11.size
   obtain ⟨M, hM⟩ : ∃ n : Nat, xg.len X.1 = n := ⟨_, rfl⟩
   rw [hM]
   have HLM : Hid (xg.len X.1 = M) := hM
   clear hM
   have hM0 : ¬ 1 + (M : Int) < 0 := by omega
   have hMM : ((1 + (M : Int)) != (1 + (M : Int))) = false := by simp
   clear Ac0 Ac1 Ac2 Ac3 Az
   clear Pc0 Pc1 Pz
   clear Xwc0 Xwc1 Xwc2 Xwc3 Xwz
   clear Xxc0 Xxc1 Xxc2 Xxc3 Xxz
   clear Xgc0 Xgc1 Xgc2 Xgc3 Xgz
   have JK := hidM1 (HK.out.trans (ex11.below (by omega) (by omega)))
   have JA := hidM1 (HA.out.keep (Keep.of_exc ex11 (by omega) (by omega)))
   have JP := hidM1 (HP.out.keep (Keep.of_exc ex11 (by omega) (by omega)))
   have JRw := hidM1 (HRw.out.keep (Keep.of_exc ex11 (by omega) (by omega)))
   have JXw := hidM1 (HXw.out.keep (Keep.of_exc ex11 (by omega) (by omega)))
   have JXx := hidM1 (HXx.out.keep (Keep.of_exc ex11 (by omega) (by omega)))
   have JXg := hidM1 (HXg.out.keep (Keep.of_exc ex11 (by omega) (by omega)))
   clear HK HA HP HRw HXw HXx HRg HOg HXg
   have HK := JK
   have HA := JA
   have HP := JP
   have HRw := JRw
   have HXw := JXw
   have HXx := JXx
   have HXg := JXg
   clear JK JA JP JRw JXw JXx JXg
   have HD : Hid (MaMk w11 log hig xg X.1 1) := hm11
   clear ex11 hm11
   obtain ⟨Ac0, Ac1, Ac2, Ac3⟩ := HA.out
   have Az : w.heap.size < w11.heap.size := by omega
   obtain ⟨Pc0, Pc1⟩ := HP.out
   have Pz : w.heap.size + 1 < w11.heap.size := by omega
   obtain ⟨Xwc0, Xwc1, Xwc2, Xwc3⟩ := HXw.out
   have Xwz : bow < w11.heap.size := by omega
   obtain ⟨Xxc0, Xxc1, Xxc2, Xxc3⟩ := HXx.out
   have Xxz : w4.heap.size < w11.heap.size := by omega
   obtain ⟨Xgc0, Xgc1, Xgc2, Xgc3⟩ := HXg.out
   have Xgz : bog < w11.heap.size := by omega
   go_wp2_with fail
   refine (heldMachine_any xg X.1 _ _ 1 w11 HD.out (by omega) FX.out (by omega) (by omega)).mono ?_
   rintro e w12 ⟨rfl, hb12⟩
   have z12 := hb12.size
   clear Ac0 Ac1 Ac2 Ac3 Az
   clear Pc0 Pc1 Pz
   clear Xwc0 Xwc1 Xwc2 Xwc3 Xwz
   clear Xxc0 Xxc1 Xxc2 Xxc3 Xxz
   clear Xgc0 Xgc1 Xgc2 Xgc3 Xgz
   have JK := hidM1 (HK.out.trans (hb12.mono (by omega)))
   have JA := hidM1 (HA.out.keep (Keep.of_below hb12 (by omega)))
   have JP := hidM1 (HP.out.keep (Keep.of_below hb12 (by omega)))
   have JRw := hidM1 (HRw.out.keep (Keep.of_below hb12 (by omega)))
   have JXw := hidM1 (HXw.out.keep (Keep.of_below hb12 (by omega)))
   have JXx := hidM1 (HXx.out.keep (Keep.of_below hb12 (by omega)))
   have JXg := hidM1 (HXg.out.keep (Keep.of_below hb12 (by omega)))
   have JD := hidM1 (HD.out.keep (Keep.of_below hb12 (by omega)))
   clear HK HA HP HRw HXw HXx HXg HD
   have HK := JK
   have HA := JA
   have HP := JP
   have HRw := JRw
   have HXw := JXw
   have HXx := JXx
   have HXg := JXg
   have HD := JD
   clear JK JA JP JRw JXw JXx JXg JD
   clear hb12
   rw [HLM.out]
   obtain ⟨Ac0, Ac1, Ac2, Ac3⟩ := HA.out
   have Az : w.heap.size < w12.heap.size := by omega
   obtain ⟨Pc0, Pc1⟩ := HP.out
   have Pz : w.heap.size + 1 < w12.heap.size := by omega
   obtain ⟨Xwc0, Xwc1, Xwc2, Xwc3⟩ := HXw.out
   have Xwz : bow < w12.heap.size := by omega
   obtain ⟨Xxc0, Xxc1, Xxc2, Xxc3⟩ := HXx.out
   have Xxz : w4.heap.size < w12.heap.size := by omega
   obtain ⟨Xgc0, Xgc1, Xgc2, Xgc3⟩ := HXg.out
   have Xgz : bog < w12.heap.size := by omega
   go_upto_region 24 with fail
   have kD : Below w12.heap.size w12 w12.drew := Below.drew (Below.refl _ _)
   have hdr : ∀ X : World, X.drew.heap.size = X.heap.size := fun _ => rfl
   have RB : Hid (∀ X, Below w12.heap.size w12 X → X.cell? ⟨w.heap.size, 0, none⟩ = some (.slice s1 d.codes.length c1) ∧ X.cell? ⟨w.heap.size, 1, none⟩ = some (.slice s2 d.cores.length c2) ∧ X.cell? ⟨w.heap.size, 2, none⟩ = some (.slice s3 d.mem.length c3) ∧ X.cell? ⟨w.heap.size, 3, none⟩ = some (.slice s4 d.tr.length c4) ∧ X.cell? ⟨w.heap.size + 1, 0, none⟩ = some (.int .i64 who) ∧ X.cell? ⟨w.heap.size + 1, 1, none⟩ = some (.int .i64 late)) := fun X hX => by have a := HA.out.keep (Keep.of_below hX (by omega)); have b := HP.out.keep (Keep.of_below hX (by omega)); exact ⟨a.c0, a.c1, a.c2, a.c3, b.c0, b.c1⟩
   have CT : Hid (∀ (X0 : World) (pB : Option Nat), Below w12.heap.size w12 X0 → BoxAt X0 pB → Calls Tryz.prog 7 #[.agg #[.slice s1 d.codes.length c1, .slice s2 d.cores.length c2, .slice s3 d.mem.length c3, .slice s4 d.tr.length c4]] X0 fun e w' => ∃ x : MP, e = .returned (.agg #[.slice x.s1 d.codes.length x.c1, .slice x.s2 d.cores.length x.c2, .slice x.s3 d.mem.length x.c3, .slice x.s4 d.tr.length x.c4]) ∧ Below w12.heap.size w12 w' ∧ Hid (MaR w' w12.heap.size w'.heap.size x.s1 x.s2 x.s3 x.s4 d) ∧ Hid (BoxAt w' pB) ∧ w'.cell? ⟨w.heap.size, 0, none⟩ = some (.slice s1 d.codes.length c1) ∧ w'.cell? ⟨w.heap.size, 1, none⟩ = some (.slice s2 d.cores.length c2) ∧ w'.cell? ⟨w.heap.size, 2, none⟩ = some (.slice s3 d.mem.length c3) ∧ w'.cell? ⟨w.heap.size, 3, none⟩ = some (.slice s4 d.tr.length c4) ∧ w'.cell? ⟨w.heap.size + 1, 0, none⟩ = some (.int .i64 who) ∧ w'.cell? ⟨w.heap.size + 1, 1, none⟩ = some (.int .i64 late)) := fun X0 pB hX hb => (toMachine_own s1 s2 s3 s4 c1 c2 c3 c4 0 w.heap.size d X0 (HA0.out.keep (Keep.of_below (HK.out.trans (hX.mono (by omega))) (Nat.le_refl _))) (by have := hX.size; omega) FK.out).mono fun e w' ⟨x, he, ho, hb', hz'⟩ => by
    have kk : Below w12.heap.size w12 w' := hX.trans (hb'.mono hX.size)
    exact ⟨x, he, kk, (ho.mono hX.size (Nat.le_refl _)).ma, hb.keep hb', RB.out _ kk⟩
   have CP : Hid (∀ (X2 X0 : World) (pB : Option Nat), Below w12.heap.size w12 X0 → Below X2.heap.size X2 X0 → BoxAt X0 pB → Calls Tryz.prog 8 #[.agg #[.int .i64 who, .int .i64 late]] X0 fun e w' => e = .returned (.agg #[.int .i64 who, .int .i64 late]) ∧ Below w12.heap.size w12 w' ∧ Below X2.heap.size X2 w' ∧ Hid (BoxAt w' pB) ∧ w'.cell? ⟨w.heap.size, 0, none⟩ = some (.slice s1 d.codes.length c1) ∧ w'.cell? ⟨w.heap.size, 1, none⟩ = some (.slice s2 d.cores.length c2) ∧ w'.cell? ⟨w.heap.size, 2, none⟩ = some (.slice s3 d.mem.length c3) ∧ w'.cell? ⟨w.heap.size, 3, none⟩ = some (.slice s4 d.tr.length c4) ∧ w'.cell? ⟨w.heap.size + 1, 0, none⟩ = some (.int .i64 who) ∧ w'.cell? ⟨w.heap.size + 1, 1, none⟩ = some (.int .i64 late)) := fun X2 X0 pB hX h2 hb => (toPick_any who late X0).mono fun e w' ⟨he, hb'⟩ => by
    have kk : Below w12.heap.size w12 w' := hX.trans (hb'.mono hX.size)
    exact ⟨he, kk, h2.trans (hb'.mono h2.size), hb.keep hb', RB.out _ kk⟩
   have CF : Hid (∀ (X2 Y : World) (pB : Option Nat) (x : MP) (l h : Nat), Below w12.heap.size w12 Y → Below X2.heap.size X2 Y → MaR X2 l h x.s1 x.s2 x.s3 x.s4 d → h ≤ X2.heap.size → BoxAt Y pB → Calls Tryz.prog 9 #[.agg #[.slice x.s1 d.codes.length x.c1, .slice x.s2 d.cores.length x.c2, .slice x.s3 d.mem.length x.c3, .slice x.s4 d.tr.length x.c4], .agg #[.int .i64 who, .int .i64 late]] Y fun e w' => ∃ (lo : Nat) (p : MP), e = .returned (.tuple #[.agg #[.slice p.s1 X.1.codes.length p.c1, .slice p.s2 X.1.cores.length p.c2, .slice p.s3 X.1.mem.length p.c3, .slice p.s4 X.1.tr.length p.c4], .int .i64 X.2]) ∧ w12.heap.size ≤ lo ∧ lo ≤ w'.heap.size ∧ Below w12.heap.size w12 w' ∧ Hid (MaO w' lo w'.heap.size p X.1) ∧ Hid (BoxAt w' pB) ∧ Hid (∀ q, pB = some q → q < lo) ∧ w'.cell? ⟨w.heap.size, 0, none⟩ = some (.slice s1 d.codes.length c1) ∧ w'.cell? ⟨w.heap.size, 1, none⟩ = some (.slice s2 d.cores.length c2) ∧ w'.cell? ⟨w.heap.size, 2, none⟩ = some (.slice s3 d.mem.length c3) ∧ w'.cell? ⟨w.heap.size, 3, none⟩ = some (.slice s4 d.tr.length c4) ∧ w'.cell? ⟨w.heap.size + 1, 0, none⟩ = some (.int .i64 who) ∧ w'.cell? ⟨w.heap.size + 1, 1, none⟩ = some (.int .i64 late)) := fun X2 Y pB x l h hY h2 hm hh hb => (CI.out x.s1 x.s2 x.s3 x.s4 x.c1 x.c2 x.c3 x.c4 l h Y (hm.keep (Keep.of_below h2 hh)) (by have := h2.size; omega)).mono fun e w' ⟨p, he, ho, hb'⟩ => by
    have kk : Below w12.heap.size w12 w' := hY.trans (hb'.mono hY.size)
    exact ⟨Y.heap.size, p, he, hY.size, hb'.size, kk, ho, hb.keep hb', fun q hq => by subst hq; exact boxLt2 hb, RB.out _ kk⟩
   go_cut [14, 15] (fun q6 q7 wx => CutL w12 X q6 q7 wx)
   case first =>
    go_region_held3 (fun w' => w'.cell? ⟨w.heap.size, 0, none⟩ = some (.slice s1 d.codes.length c1) ∧ w'.cell? ⟨w.heap.size, 1, none⟩ = some (.slice s2 d.cores.length c2) ∧ w'.cell? ⟨w.heap.size, 2, none⟩ = some (.slice s3 d.mem.length c3) ∧ w'.cell? ⟨w.heap.size, 3, none⟩ = some (.slice s4 d.tr.length c4) ∧ w'.cell? ⟨w.heap.size + 1, 0, none⟩ = some (.int .i64 who) ∧ w'.cell? ⟨w.heap.size + 1, 1, none⟩ = some (.int .i64 late)) (first | exact RB.out _ (by repeat' (first | with_reducible exact kD | with_reducible exact kT | with_reducible exact kP | with_reducible exact kF | with_reducible exact Below.refl _ _ | with_reducible refine Below.drew ?_ | with_reducible refine Below.alloc ?_ (by first | omega | exact Nat.le_refl _ | (simp [hdr]; done) | (simp [hdr]; omega)) _ | with_reducible refine Below.setCell ?_ (by first | omega | exact Nat.le_refl _ | (simp [hdr]; done) | (simp [hdr]; omega)) _)) | go_keep) (first | (go_at_call 7; with_reducible refine (CT.out _ _ (by repeat' (first | with_reducible exact kD | with_reducible exact kT | with_reducible exact kP | with_reducible exact kF | with_reducible exact Below.refl _ _ | with_reducible refine Below.drew ?_ | with_reducible refine Below.alloc ?_ (by first | omega | exact Nat.le_refl _ | (simp [hdr]; done) | (simp [hdr]; omega)) _ | with_reducible refine Below.setCell ?_ (by first | omega | exact Nat.le_refl _ | (simp [hdr]; done) | (simp [hdr]; omega)) _)) (by first | with_reducible exact boxD (boxN0 _) | with_reducible exact boxN0 _ | with_reducible exact boxNo _)).mono ?_; rintro e wT ⟨xT, rfl, kT, QT, HBT, yT0, yT1, yT2, yT3, yT4, yT5⟩; have zT := kT.size) | (go_at_call 8; with_reducible refine (CP.out wT _ _ (by repeat' (first | with_reducible exact kD | with_reducible exact kT | with_reducible exact kP | with_reducible exact kF | with_reducible exact Below.refl _ _ | with_reducible refine Below.drew ?_ | with_reducible refine Below.alloc ?_ (by first | omega | exact Nat.le_refl _ | (simp [hdr]; done) | (simp [hdr]; omega)) _ | with_reducible refine Below.setCell ?_ (by first | omega | exact Nat.le_refl _ | (simp [hdr]; done) | (simp [hdr]; omega)) _)) (show Below wT.heap.size wT _ from (by repeat' (first | with_reducible exact Below.refl _ _ | with_reducible refine Below.drew ?_ | with_reducible refine Below.alloc ?_ (by first | omega | exact Nat.le_refl _ | (simp [hdr]; done) | (simp [hdr]; omega)) _))) (by first | with_reducible exact boxN0 _ | exact HBT.out.keep (show Below wT.heap.size wT _ from (by repeat' (first | with_reducible exact Below.refl _ _ | with_reducible refine Below.drew ?_ | with_reducible refine Below.alloc ?_ (by first | omega | exact Nat.le_refl _ | (simp [hdr]; done) | (simp [hdr]; omega)) _))))).mono ?_; rintro e wP ⟨rfl, kP, kTP, HBP, yP0, yP1, yP2, yP3, yP4, yP5⟩; have zP := kP.size; have zTP := kTP.size) | (go_at_call 9; with_reducible refine (CF.out wT _ _ xT _ _ (by repeat' (first | with_reducible exact kD | with_reducible exact kT | with_reducible exact kP | with_reducible exact kF | with_reducible exact Below.refl _ _ | with_reducible refine Below.drew ?_ | with_reducible refine Below.alloc ?_ (by first | omega | exact Nat.le_refl _ | (simp [hdr]; done) | (simp [hdr]; omega)) _ | with_reducible refine Below.setCell ?_ (by first | omega | exact Nat.le_refl _ | (simp [hdr]; done) | (simp [hdr]; omega)) _)) (kTP.trans ((show Below wP.heap.size wP _ from (by repeat' (first | with_reducible exact Below.refl _ _ | with_reducible refine Below.drew ?_ | with_reducible refine Below.alloc ?_ (by first | omega | exact Nat.le_refl _ | (simp [hdr]; done) | (simp [hdr]; omega)) _))).mono zTP)) QT.out (Nat.le_refl _) (by first | with_reducible exact boxN0 _ | exact HBP.out.keep (show Below wP.heap.size wP _ from (by repeat' (first | with_reducible exact Below.refl _ _ | with_reducible refine Below.drew ?_ | with_reducible refine Below.alloc ?_ (by first | omega | exact Nat.le_refl _ | (simp [hdr]; done) | (simp [hdr]; omega)) _))))).mono ?_; rintro e wF ⟨lF, pF, rfl, hF1, hF2, kF, QF, HBF, HPF, yF0, yF1, yF2, yF3, yF4, yF5⟩; have zF := kF.size; (try obtain ⟨⟨b9, b0', b1', b2', b3'⟩, bf'⟩ := (boxSome HBF.out).1)) | fail)
    all_goals
     go_wp2_with fail
     go_meet
     first
      | with_reducible exact cutL_new QF.out hF1 hF2 kF
      | with_reducible exact cutL_set (boxSome HBF.out).1 (by omega) (HPF.out _ rfl) QF.out hF1 hF2 kF
   case rest =>
    obtain ⟨wqk, hwq⟩ : ∃ wo : World, wo = wc := ⟨_, rfl⟩
    subst hwq
    obtain ⟨bok, lok, hik, xk, rfl, rfl, hbwk, hbok, hlok, hlhk, hhik, hdjk, bxk, mok, hkk⟩ := hcut
    have zqk := hkk.size
    clear kD hdr RB CP CF CT
    clear Ac0 Ac1 Ac2 Ac3 Az
    clear Pc0 Pc1 Pz
    clear Xwc0 Xwc1 Xwc2 Xwc3 Xwz
    clear Xxc0 Xxc1 Xxc2 Xxc3 Xxz
    clear Xgc0 Xgc1 Xgc2 Xgc3 Xgz
    have JK := hidM1 (HK.out.trans (hkk.mono (by omega)))
    have JA := hidM1 (HA.out.keep (Keep.of_below hkk (by omega)))
    have JP := hidM1 (HP.out.keep (Keep.of_below hkk (by omega)))
    have JRw := hidM1 (HRw.out.keep (Keep.of_below hkk (by omega)))
    have JXw := hidM1 (HXw.out.keep (Keep.of_below hkk (by omega)))
    have JXx := hidM1 (HXx.out.keep (Keep.of_below hkk (by omega)))
    have JXg := hidM1 (HXg.out.keep (Keep.of_below hkk (by omega)))
    have JD := hidM1 (HD.out.keep (Keep.of_below hkk (by omega)))
    clear HK HA HP HRw HXw HXx HXg HD
    have HK := JK
    have HA := JA
    have HP := JP
    have HRw := JRw
    have HXw := JXw
    have HXx := JXx
    have HXg := JXg
    have HD := JD
    clear JK JA JP JRw JXw JXx JXg JD
    have HRk : Hid (MaR wqk lok hik xk.s1 xk.s2 xk.s3 xk.s4 X.1) := mok.ma
    have HXk : Hid (Bo4 bok wqk (.slice xk.s1 X.1.codes.length xk.c1) (.slice xk.s2 X.1.cores.length xk.c2) (.slice xk.s3 X.1.mem.length xk.c3) (.slice xk.s4 X.1.tr.length xk.c4)) := bxk
    clear bxk mok hkk
    obtain ⟨Ac0, Ac1, Ac2, Ac3⟩ := HA.out
    have Az : w.heap.size < wqk.heap.size := by omega
    obtain ⟨Pc0, Pc1⟩ := HP.out
    have Pz : w.heap.size + 1 < wqk.heap.size := by omega
    obtain ⟨Xwc0, Xwc1, Xwc2, Xwc3⟩ := HXw.out
    have Xwz : bow < wqk.heap.size := by omega
    obtain ⟨Xxc0, Xxc1, Xxc2, Xxc3⟩ := HXx.out
    have Xxz : w4.heap.size < wqk.heap.size := by omega
    obtain ⟨Xgc0, Xgc1, Xgc2, Xgc3⟩ := HXg.out
    have Xgz : bog < wqk.heap.size := by omega
    obtain ⟨Xkc0, Xkc1, Xkc2, Xkc3⟩ := HXk.out
    have Xkz : bok < wqk.heap.size := by omega
    go_wp2_with fail
    refine (eqMachine_alike _ _ _ _ _ _ _ _ _ _ _ _ _ _ _ _ _ _ _ _ X.1 wqk HRk.out HRw.out (by omega) (by omega) FX.out).mono ?_
    rintro e w13 ⟨rfl, hb13⟩
    have z13 := hb13.size
    clear Ac0 Ac1 Ac2 Ac3 Az
    clear Pc0 Pc1 Pz
    clear Xwc0 Xwc1 Xwc2 Xwc3 Xwz
    clear Xxc0 Xxc1 Xxc2 Xxc3 Xxz
    clear Xgc0 Xgc1 Xgc2 Xgc3 Xgz
    clear Xkc0 Xkc1 Xkc2 Xkc3 Xkz
    have JK := hidM1 (HK.out.trans (hb13.mono (by omega)))
    have JA := hidM1 (HA.out.keep (Keep.of_below hb13 (by omega)))
    have JP := hidM1 (HP.out.keep (Keep.of_below hb13 (by omega)))
    have JRw := hidM1 (HRw.out.keep (Keep.of_below hb13 (by omega)))
    have JXw := hidM1 (HXw.out.keep (Keep.of_below hb13 (by omega)))
    have JXx := hidM1 (HXx.out.keep (Keep.of_below hb13 (by omega)))
    have JXg := hidM1 (HXg.out.keep (Keep.of_below hb13 (by omega)))
    have JD := hidM1 (HD.out.keep (Keep.of_below hb13 (by omega)))
    have JRk := hidM1 (HRk.out.keep (Keep.of_below hb13 (by omega)))
    have JXk := hidM1 (HXk.out.keep (Keep.of_below hb13 (by omega)))
    clear HK HA HP HRw HXw HXx HXg HD HRk HXk
    have HK := JK
    have HA := JA
    have HP := JP
    have HRw := JRw
    have HXw := JXw
    have HXx := JXx
    have HXg := JXg
    have HD := JD
    have HRk := JRk
    have HXk := JXk
    clear JK JA JP JRw JXw JXx JXg JD JRk JXk
    clear hb13
    obtain ⟨Ac0, Ac1, Ac2, Ac3⟩ := HA.out
    have Az : w.heap.size < w13.heap.size := by omega
    obtain ⟨Pc0, Pc1⟩ := HP.out
    have Pz : w.heap.size + 1 < w13.heap.size := by omega
    obtain ⟨Xwc0, Xwc1, Xwc2, Xwc3⟩ := HXw.out
    have Xwz : bow < w13.heap.size := by omega
    obtain ⟨Xxc0, Xxc1, Xxc2, Xxc3⟩ := HXx.out
    have Xxz : w4.heap.size < w13.heap.size := by omega
    obtain ⟨Xgc0, Xgc1, Xgc2, Xgc3⟩ := HXg.out
    have Xgz : bog < w13.heap.size := by omega
    obtain ⟨Xkc0, Xkc1, Xkc2, Xkc3⟩ := HXk.out
    have Xkz : bok < w13.heap.size := by omega
    go_wp2_with fail
    refine (heldMachine_any xg X.1 _ _ 1 w13 HD.out (by omega) FX.out (by omega) (by omega)).mono ?_
    rintro e w14 ⟨rfl, hb14⟩
    have z14 := hb14.size
    clear Ac0 Ac1 Ac2 Ac3 Az
    clear Pc0 Pc1 Pz
    clear Xwc0 Xwc1 Xwc2 Xwc3 Xwz
    clear Xxc0 Xxc1 Xxc2 Xxc3 Xxz
    clear Xgc0 Xgc1 Xgc2 Xgc3 Xgz
    clear Xkc0 Xkc1 Xkc2 Xkc3 Xkz
    have JK := hidM1 (HK.out.trans (hb14.mono (by omega)))
    have JA := hidM1 (HA.out.keep (Keep.of_below hb14 (by omega)))
    have JP := hidM1 (HP.out.keep (Keep.of_below hb14 (by omega)))
    have JRw := hidM1 (HRw.out.keep (Keep.of_below hb14 (by omega)))
    have JXw := hidM1 (HXw.out.keep (Keep.of_below hb14 (by omega)))
    have JXx := hidM1 (HXx.out.keep (Keep.of_below hb14 (by omega)))
    have JXg := hidM1 (HXg.out.keep (Keep.of_below hb14 (by omega)))
    have JD := hidM1 (HD.out.keep (Keep.of_below hb14 (by omega)))
    have JRk := hidM1 (HRk.out.keep (Keep.of_below hb14 (by omega)))
    have JXk := hidM1 (HXk.out.keep (Keep.of_below hb14 (by omega)))
    clear HK HA HP HRw HXw HXx HXg HD HRk HXk
    have HK := JK
    have HA := JA
    have HP := JP
    have HRw := JRw
    have HXw := JXw
    have HXx := JXx
    have HXg := JXg
    have HD := JD
    have HRk := JRk
    have HXk := JXk
    clear JK JA JP JRw JXw JXx JXg JD JRk JXk
    clear hb14
    rw [HLM.out]
    obtain ⟨Ac0, Ac1, Ac2, Ac3⟩ := HA.out
    have Az : w.heap.size < w14.heap.size := by omega
    obtain ⟨Pc0, Pc1⟩ := HP.out
    have Pz : w.heap.size + 1 < w14.heap.size := by omega
    obtain ⟨Xwc0, Xwc1, Xwc2, Xwc3⟩ := HXw.out
    have Xwz : bow < w14.heap.size := by omega
    obtain ⟨Xxc0, Xxc1, Xxc2, Xxc3⟩ := HXx.out
    have Xxz : w4.heap.size < w14.heap.size := by omega
    obtain ⟨Xgc0, Xgc1, Xgc2, Xgc3⟩ := HXg.out
    have Xgz : bog < w14.heap.size := by omega
    obtain ⟨Xkc0, Xkc1, Xkc2, Xkc3⟩ := HXk.out
    have Xkz : bok < w14.heap.size := by omega
    go_wp2
    go_ret
    exact ⟨rfl, HK.out⟩
set_option maxRecDepth 100000 in
theorem liftedExactCoreStep (os : Os) (started : os.Started) (H : Type) (enc : TypeId × Value → H) :
  ReturnsInHanded {} Tryz.checked os 3 .any (Rows.fnExactCoreStepSpec.pre6 enc Tryz.prog Tryz.f3 Rows.fnExactCoreStepRow.domain false) (Rows.fnExactCoreStepSpec.post enc Tryz.prog Tryz.f3 false true false false) := by
 refine returnsInHanded_of_change (C := Tryz.checked) ownP started (by kernel_rfl) Tryz.func3
  (ChangeSpec.witness6 (enc := enc) (C := Tryz.checked) false ⟨#[], #[.agg #[.slice none 0 0, .slice none 0 0, .slice none 0 0, .slice none 0 0], .agg #[.int .i64 0, .int .i64 0]], []⟩ 8 (by kernel_rfl) (by kernel_rfl) (by kernel_rfl) (by kernel_rfl)) ?_
 intro W base args ds gs before hval0 hW hcnd _
 have hval : ∀ (j : Nat) t v, Tryz.f3.params[j]? = some t → args[j]? = some v → Value.okWide Tryz.prog W .any base t v := hval0
 have hW' := hW
 obtain ⟨p, q, hA0, hV, rfl, hfz, hnd⟩ := hW
 have hA : DataW.TrodAll enc Tryz.prog W 0 (fun _ => true) true Tryz.f3.params.toList args.toList ds p := hA0
 rw [Tryz.params3] at hA hval
 obtain ⟨v0, v1, d0, d1, p0, p1, hargs, rfl, rfl, h0, h1⟩ := trodAll_two hA
 obtain rfl : args = #[v0, v1] := by cases args; simp_all
 obtain ⟨rfl, rfl⟩ := trodVars_none hV
 have k0 := h0
 have lt0 : ∀ x ∈ p0, x.block < W.heap.size := by obtain ⟨m, hm⟩ := k0; exact DataW.trod_lt m _ _ _ hm
 have k1 := h1
 have lt1 : ∀ x ∈ p1, x.block < W.heap.size := by obtain ⟨m, hm⟩ := k1; exact DataW.trod_lt m _ _ _ hm
 obtain ⟨s1, s2, s3, s4, c1, c2, c3, c4, pd, rfl, m0, hR⟩ := open_machine (hval 0 29 v0 rfl rfl) h0
 obtain ⟨pa, pb, rfl, hwa, hwb⟩ := open_pick (hval 1 31 v1 rfl rfl) h1
 clear hA0 hval0
 refine (walkExactCoreStep s1 s2 s3 s4 c1 c2 c3 c4 pd pa pb W hR m0 hwb).mono fun e W' ⟨he, bel⟩ => ?_
 subst he
 exact ⟨_, rfl, _, _, _, [], _, [], hW', trodAll_mk1 (shut_bool Tryz.underlying4 _), trodAll_mk2 (Below.trod laidOutP (by kernel_rfl) (of_decide_eq_true (by kernel_rfl)) k0 bel lt0) (Below.trod laidOutP (by kernel_rfl) (of_decide_eq_true (by kernel_rfl)) k1 bel lt1), rfl, bel.frame _, fun h => by cases h⟩
theorem fnExactCoreStep_holds : Rows.FnExactCoreStepSaid :=
 OpenClaim.holds_of_wide 3 Tryz.f3 rfl rfl rfl rfl rfl rfl rfl ⟨rfl, rfl, rfl, rfl, rfl⟩ rfl rfl rfl rfl rfl (by kernel_rfl) Tryz.func3 (by kernel_rfl)
  (of_decide_eq_true (by kernel_rfl)) (by unfold Func.isWrapper; first | (rw [if_pos (by decide +kernel)]; kernel_rfl) | (rw [if_neg (by decide +kernel)]; exact ⟨rfl, rfl⟩))
  (fun os started H enc _ => liftedExactCoreStep os started H enc)
#print axioms fnExactCoreStep_holds
end Go.Proofs.YtabppapibnemhaaGreat
