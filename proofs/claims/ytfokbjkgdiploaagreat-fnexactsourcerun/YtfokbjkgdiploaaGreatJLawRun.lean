/- The law FnExactSourceRun of the given statements: at every argument SourceRun of the program answers as the specification's, writes into no argument, its answer owns its memory. No condition. -/
import Derived.Test.YtfokbjkgdiploaaGreatJG02
import Derived.Test.YtfokbjkgdiploaaGreatJFrameN
import Derived.Test.YtfokbjkgdiploaaGreatJRunIm
import Derived.Test.YtfokbjkgdiploaaGreatJRunSp
import Derived.Test.YtfokbjkgdiploaaGreatJRunMark
import Derived.Test.YtfokbjkgdiploaaGreatJG16
import Derived.Test.YtfokbjkgdiploaaGreatJSrcSz
import Derived.Test.YtfokbjkgdiploaaGreatJSrcEq
import Derived.Test.YtfokbjkgdiploaaGreatJG17
import Derived.Test.YtfokbjkgdiploaaGreatJG06
import Derived.Test.YtfokbjkgdiploaaGreatJG18
import Derived.Deep.RegionHeld3
namespace Go.Proofs.YtfokbjkgdiploaaGreat
set_option linter.unusedSimpArgs false
set_option linter.unusedVariables false
set_option maxRecDepth 100000
open Go.ChangeShapes Go.WideShapes Go.ChangeAt Go.RowKit Go.Deep
def PR (w : World) (lo hi : Nat) (s s' : Option Addr) (p : PD) : Prop := ProgR w lo hi s s' p
theorem PR.keep {w w' : World} {lo hi : Nat} {s s' : Option Addr} {p : PD} (h : PR w lo hi s s' p) (hb : Keep lo hi w w') : PR w' lo hi s s' p := ProgR.keep' h hb
theorem PR.keep' {w w' : World} {lo hi : Nat} {s s' : Option Addr} {p : PD} (h : PR w lo hi s s' p) (hb : Keep lo hi w w') : ProgR w' lo hi s s' p := ProgR.keep' h hb
theorem OwnS.srcR {w : World} {base : Nat} {x1 x2 x3 : Option Addr} {y1 y2 y3 : Nat} {L1 L2 : List (Rec × Value)} {D : SD} (h : OwnS w base (.slice x1 D.ths.length y1) (.slice x2 D.chs.length y2) (.slice x3 D.tr.length y3) L1 L2 D) : SrcR w base w.heap.size x1 x2 x3 D := by
 obtain ⟨a1, b1, a2, b2, a3, b3, e1, e2, e3, r⟩ := h.src
 injection e1 with e1 _ _
 injection e2 with e2 _ _
 injection e3 with e3 _ _
 rw [e1, e2, e3]
 exact r
def CutR (W : World) (D : SD) (C : List Int) (s8 s9 : Value) (wc : World) : Prop := ∃ (bo : Nat) (x1 : Option Addr) (y1 : Nat) (x2 : Option Addr) (y2 : Nat) (x3 : Option Addr) (y3 : Nat) (x4 : Option Addr) (y4 : Nat), s8 = .pointer (some ⟨bo, 0, none⟩) ∧ s9 = .slice x4 C.length y4 ∧ W.heap.size ≤ bo ∧ bo < wc.heap.size ∧ Bo3 bo wc (.slice x1 D.ths.length y1) (.slice x2 D.chs.length y2) (.slice x3 D.tr.length y3) ∧ SrcR wc W.heap.size wc.heap.size x1 x2 x3 D ∧ IntsR wc W.heap.size wc.heap.size x4 C ∧ Below W.heap.size W wc
theorem cutR_new {W wM : World} {D : SD} {C : List Int} {x1 x2 x3 x4 : Option Addr} {y1 y2 y3 y4 : Nat} (q : ∃ L1 L2, OwnS wM W.heap.size (.slice x1 D.ths.length y1) (.slice x2 D.chs.length y2) (.slice x3 D.tr.length y3) L1 L2 D) (n : OwnN wM W.heap.size (.slice x4 C.length y4) C) (kk : Below W.heap.size W wM) : CutR W D C (.pointer (some ⟨wM.heap.size, 0, none⟩)) (.slice x4 C.length y4) (wM.alloc (.cells #[.slice x1 D.ths.length y1, .slice x2 D.chs.length y2, .slice x3 D.tr.length y3] 37)) := by
 obtain ⟨Y, hY, x, kY, zY⟩ := Bo3.new wM (.slice x1 D.ths.length y1) (.slice x2 D.chs.length y2) (.slice x3 D.tr.length y3) 37
 rw [hY]
 obtain ⟨L1, L2, o1⟩ := q
 exact ⟨wM.heap.size, x1, y1, x2, y2, x3, y3, x4, y4, rfl, rfl, kk.size, by omega, x, (o1.keep (fun b _ h1 => kY.block b h1)).srcR, OwnN.intsS (n.keep (fun b _ h1 => kY.block b h1)), kk.trans (kY.mono kk.size)⟩
theorem cutR_set {W wM : World} {D : SD} {C : List Int} {bo : Nat} {x1 x2 x3 x4 : Option Addr} {y1 y2 y3 y4 : Nat} (b : BoF bo wM (.slice none 0 0) (.slice none 0 0) (.slice none 0 0) ∧ BxS wM bo) (hbo : W.heap.size ≤ bo) (q : ∃ L1 L2, OwnS wM W.heap.size (.slice x1 D.ths.length y1) (.slice x2 D.chs.length y2) (.slice x3 D.tr.length y3) L1 L2 D) (n : OwnN wM W.heap.size (.slice x4 C.length y4) C) (kk : Below W.heap.size W wM) : CutR W D C (.pointer (some ⟨bo, 0, none⟩)) (.slice x4 C.length y4) (((wM.setCell ⟨bo, 0, none⟩ (.slice x1 D.ths.length y1)).setCell ⟨bo, 1, none⟩ (.slice x2 D.chs.length y2)).setCell ⟨bo, 2, none⟩ (.slice x3 D.tr.length y3)) := by
 have B := b.2
 obtain ⟨L1, L2, o1⟩ := q
 have bb := ((b.1.set0 (.slice x1 D.ths.length y1)).set1 (.slice x2 D.chs.length y2)).set2 (.slice x3 D.tr.length y3)
 have nS := own_bxS n intNe B
 have st : ∀ (X : World) (j : Nat) (v : Value), OwnN X W.heap.size (.slice x4 C.length y4) C → OwnN (X.setCell ⟨bo, j, none⟩ v) W.heap.size (.slice x4 C.length y4) C := fun X j v q => ownKeep' q (fun k e => Below.heap_setCell _ _ _ _ (fun e2 => nS (by rw [e, e2])))
 exact ⟨bo, x1, y1, x2, y2, x3, y3, x4, y4, rfl, rfl, hbo, bb.z, ⟨bb.c0, bb.c1, bb.c2⟩, (((o1.offB B).offB B.set).offB B.set.set).srcR, OwnN.intsS (st _ _ _ (st _ _ _ (st _ _ _ n))), ((kk.setCell (p := ⟨bo, _, none⟩) hbo _).setCell (p := ⟨bo, _, none⟩) hbo _).setCell (p := ⟨bo, _, none⟩) hbo _⟩
theorem hidX {p : Prop} (h : p) : Hid p := h
set_option maxRecDepth 100000 in
set_option maxHeartbeats 8000000 in
theorem walkSourceRun (p1 p2 s1 s2 s3 : Option Addr) (a1 a2 c1 c2 c3 : Nat) (p : PD) (d : SD) (s4 : Option Addr) (c4 : Nat) (ks : List Int) (w : World) (h : ProgR w 0 w.heap.size p1 p2 p) (m1 : p.caps.length ≤ maxLen) (m2 : p.bods.length ≤ maxLen) (m3 : ∀ i, i < p.bods.length → (p.bods.getD i []).length ≤ maxLen) (hs : SrcR w 0 w.heap.size s1 s2 s3 d) (n0 : SLens d) (h4 : IntsR w 0 w.heap.size s4 ks) (m4 : ks.length ≤ maxLen) :
  Calls Tryz.prog 3 #[.agg #[.slice p1 p.caps.length a1, .slice p2 p.bods.length a2], .agg #[.slice s1 d.ths.length c1, .slice s2 d.chs.length c2, .slice s3 d.tr.length c3], .slice s4 ks.length c4] w fun e w' => e = .returned (.bool true) ∧ Below w.heap.size w w' := by
 have HP : Hid (ProgR w 0 w.heap.size p1 p2 p) := h
 have M3 : Hid (∀ i, i < p.bods.length → (p.bods.getD i []).length ≤ maxLen) := m3
 have HS := hidX hs
 have HN := hidX n0
 have H4 := hidX h4
 clear h m3 hs n0 h4
 unfold maxLen at m4
 by_cases b4 : (ks.length : Int) > 1048576
 ·go_enter Tryz.func3, Tryz.ntmps3
  go_wp2
  go_ret
  exact ⟨rfl, by first | exact Below.refl _ _ | exact ((Below.refl _ _).alloc (Nat.le_refl _) _).alloc (by simp) _⟩
 have n4 : ks.length ≤ 1048576 := by omega
 go_enter Tryz.func3, Tryz.ntmps3
 go_wp2_with fail
 have HK : Hid (Below w.heap.size w w) := Below.refl _ _
 obtain ⟨V1, hV1, bx1, kb1, zb1⟩ := Bo2.new w (.slice p1 p.caps.length a1) (.slice p2 p.bods.length a2) 25
 rw [hV1]
 clear hV1
 have JK := hidX (HK.out.trans (kb1.mono (by omega)))
 clear HK
 have HK := JK
 clear JK
 have HAP : Hid (Bo2 w.heap.size V1 (.slice p1 p.caps.length a1) (.slice p2 p.bods.length a2)) := bx1
 clear bx1 kb1
 obtain ⟨V2, hV2, bx2, kb2, zb2⟩ := Bo3.new V1 (.slice s1 d.ths.length c1) (.slice s2 d.chs.length c2) (.slice s3 d.tr.length c3) 30
 rw [hV2]
 clear hV2
 have JK := hidX (HK.out.trans (kb2.mono (by omega)))
 have JAP := hidX (HAP.out.keep (Keep.of_below kb2 (by omega)))
 clear HK HAP
 have HK := JK
 have HAP := JAP
 clear JK JAP
 have HA : Hid (Bo3 V1.heap.size V2 (.slice s1 d.ths.length c1) (.slice s2 d.chs.length c2) (.slice s3 d.tr.length c3)) := bx2
 clear bx2 kb2
 have HA2 : Hid (Bo3 (w.heap.size + 1) V2 (.slice s1 d.ths.length c1) (.slice s2 d.chs.length c2) (.slice s3 d.tr.length c3)) := by have q := HA.out; rw [zb1] at q; exact q
 clear HA
 have HA := HA2
 clear HA2
 refine (szProg_le p1 p2 a1 a2 0 w.heap.size p V2 (HP.out.keep' (Keep.of_below HK.out (Nat.le_refl _))) (by omega) m1 m2 M3.out).mono ?_
 rintro e w3 ⟨⟨u, rfl, hu⟩, hb3⟩
 have z3 := hb3.size
 have JK := hidX (HK.out.trans (hb3.mono (by omega)))
 have JAP := hidX (HAP.out.keep (Keep.of_below hb3 (by omega)))
 have JA := hidX (HA.out.keep (Keep.of_below hb3 (by omega)))
 clear HK HAP HA
 have HK := JK
 have HAP := JAP
 have HA := JA
 clear JK JAP JA
 clear hb3
 obtain ⟨APc0, APc1⟩ := HAP.out
 have APz : w.heap.size < w3.heap.size := by omega
 obtain ⟨Ac0, Ac1, Ac2⟩ := HA.out
 have Az : w.heap.size + 1 < w3.heap.size := by omega
 rcases hu with hu | ⟨hu, hu2, hf⟩
 ·go_wp2
  go_ret
  exact ⟨rfl, HK.out⟩
 have hun : ¬ u < 0 := by omega
 have FP := hidX hf
 clear hf
 go_wp2_with fail
 refine (szSource_any s1 s2 s3 c1 c2 c3 0 w.heap.size d u w3 (HS.out.keep (Keep.of_below HK.out (Nat.le_refl _))) (by omega) HN.out hu hu2).mono ?_
 rintro e w4 ⟨⟨y, rfl, hy⟩, hb4⟩
 have z4 := hb4.size
 clear APc0 APc1 APz
 clear Ac0 Ac1 Ac2 Az
 have JK := hidX (HK.out.trans (hb4.mono (by omega)))
 have JAP := hidX (HAP.out.keep (Keep.of_below hb4 (by omega)))
 have JA := hidX (HA.out.keep (Keep.of_below hb4 (by omega)))
 clear HK HAP HA
 have HK := JK
 have HAP := JAP
 have HA := JA
 clear JK JAP JA
 clear hb4
 obtain ⟨APc0, APc1⟩ := HAP.out
 have APz : w.heap.size < w4.heap.size := by omega
 obtain ⟨Ac0, Ac1, Ac2⟩ := HA.out
 have Az : w.heap.size + 1 < w4.heap.size := by omega
 rcases hy with hy | ⟨hy, hf⟩
 ·go_wp2
  go_ret
  exact ⟨rfl, HK.out⟩
 have hyn : ¬ y < 0 := by omega
 have FS := hidX hf
 clear hf
 go_wp2_with fail
 obtain ⟨CC, hKK⟩ : ∃ K, runCb p d ks = K := ⟨_, rfl⟩
 have HKK := hidX hKK
 have HCL := hidX (show CC.length ≤ 4000 from by rw [← hKK]; exact runCb_len p d ks)
 clear hKK
 obtain ⟨DD, hDD⟩ : ∃ D, runSb p d ks = D := ⟨_, rfl⟩
 have HDD := hidX hDD
 clear hDD
 have FD : Hid (SFits DD) := by rw [← HDD.out]; exact runSb_fits FS.out ks
 have RB : Hid (∀ X, Below w4.heap.size w4 X → X.cell? ⟨w.heap.size, 0, none⟩ = some (.slice p1 p.caps.length a1) ∧ X.cell? ⟨w.heap.size, 1, none⟩ = some (.slice p2 p.bods.length a2) ∧ X.cell? ⟨w.heap.size + 1, 0, none⟩ = some (.slice s1 d.ths.length c1) ∧ X.cell? ⟨w.heap.size + 1, 1, none⟩ = some (.slice s2 d.chs.length c2) ∧ X.cell? ⟨w.heap.size + 1, 2, none⟩ = some (.slice s3 d.tr.length c3)) := fun X hX => by
  have qP := HAP.out.keep (Keep.of_below hX (by omega))
  have qS := HA.out.keep (Keep.of_below hX (by omega))
  exact ⟨qP.c0, qP.c1, qS.c0, qS.c1, qS.c2⟩
 have CP : Hid (∀ (X0 : World) (pB : Option Nat), Below w4.heap.size w4 X0 → BoxA X0 pB → Calls Tryz.prog 10 #[.agg #[.slice p1 p.caps.length a1, .slice p2 p.bods.length a2]] X0 fun e w' => ∃ (f1 f2 : Option Addr) (lo hi : Nat), e = .returned (.agg #[.slice f1 p.caps.length p.caps.length, .slice f2 p.bods.length p.bods.length]) ∧ hi ≤ w'.heap.size ∧ Below w4.heap.size w4 w' ∧ Hid (ProgR w' lo hi f1 f2 p) ∧ Hid (BoxA w' pB) ∧ w'.cell? ⟨w.heap.size, 0, none⟩ = some (.slice p1 p.caps.length a1) ∧ w'.cell? ⟨w.heap.size, 1, none⟩ = some (.slice p2 p.bods.length a2) ∧ w'.cell? ⟨w.heap.size + 1, 0, none⟩ = some (.slice s1 d.ths.length c1) ∧ w'.cell? ⟨w.heap.size + 1, 1, none⟩ = some (.slice s2 d.chs.length c2) ∧ w'.cell? ⟨w.heap.size + 1, 2, none⟩ = some (.slice s3 d.tr.length c3)) := fun X0 pB hX hb => (toProg_new p1 p2 a1 a2 0 w.heap.size p X0 (HP.out.keep' (Keep.of_below (HK.out.trans (hX.mono (by omega))) (Nat.le_refl _))) (by have := hX.size; omega) FP.out).mono fun e w' hq => by
  obtain ⟨f1, f2, he, hb2, -, hr⟩ := hq
  have kk : Below w4.heap.size w4 w' := hX.trans (hb2.mono hX.size)
  exact ⟨f1, f2, _, _, he, Nat.le_refl _, kk, hr, hb.keep hb2, RB.out _ kk⟩
 have CS : Hid (∀ (wA : World) (f1 f2 : Option Addr) (lo hi : Nat) (X0 : World) (pB : Option Nat), hi ≤ wA.heap.size → Below w4.heap.size w4 X0 → ProgR wA lo hi f1 f2 p → Below wA.heap.size wA X0 → BoxA X0 pB → Calls Tryz.prog 11 #[.agg #[.slice s1 d.ths.length c1, .slice s2 d.chs.length c2, .slice s3 d.tr.length c3]] X0 fun e w' => ∃ (t1 : Option Addr) (e1 : Nat) (t2 : Option Addr) (e2 : Nat) (t3 : Option Addr) (e3 : Nat) (lo' hi' : Nat), e = .returned (.agg #[.slice t1 d.ths.length e1, .slice t2 d.chs.length e2, .slice t3 d.tr.length e3]) ∧ hi ≤ w'.heap.size ∧ hi' ≤ w'.heap.size ∧ Below w4.heap.size w4 w' ∧ Hid (ProgR w' lo hi f1 f2 p) ∧ Hid (SrcR w' lo' hi' t1 t2 t3 d) ∧ Hid (BoxA w' pB) ∧ w'.cell? ⟨w.heap.size, 0, none⟩ = some (.slice p1 p.caps.length a1) ∧ w'.cell? ⟨w.heap.size, 1, none⟩ = some (.slice p2 p.bods.length a2) ∧ w'.cell? ⟨w.heap.size + 1, 0, none⟩ = some (.slice s1 d.ths.length c1) ∧ w'.cell? ⟨w.heap.size + 1, 1, none⟩ = some (.slice s2 d.chs.length c2) ∧ w'.cell? ⟨w.heap.size + 1, 2, none⟩ = some (.slice s3 d.tr.length c3)) := fun wA f1 f2 lo hi X0 pB hh hX hp hA hb => (toSource_own s1 s2 s3 c1 c2 c3 0 w.heap.size d X0 (HS.out.keep (Keep.of_below (HK.out.trans (hX.mono (by omega))) (Nat.le_refl _))) (by have := hX.size; omega) FS.out).mono fun e w' hq => by
  obtain ⟨v1, v2, v3, L1, L2, he, ho, hb2, -⟩ := hq
  obtain ⟨t1, e1, t2, e2, t3, e3, rfl, rfl, rfl, hr⟩ := ho.src
  have kk : Below w4.heap.size w4 w' := hX.trans (hb2.mono hX.size)
  have k2 : Below wA.heap.size wA w' := hA.trans (hb2.mono hA.size)
  exact ⟨t1, e1, t2, e2, t3, e3, _, _, he, Nat.le_trans hh k2.size, Nat.le_refl _, kk, hp.keep' (Keep.of_below k2 hh), hr, hb.keep hb2, RB.out _ kk⟩
 have CI : Hid (∀ (wB : World) (f1 f2 : Option Addr) (lo hi : Nat) (t1 t2 t3 : Option Addr) (lo' hi' : Nat) (X0 : World) (pB : Option Nat), hi ≤ wB.heap.size → hi' ≤ wB.heap.size → Below w4.heap.size w4 X0 → ProgR wB lo hi f1 f2 p → SrcR wB lo' hi' t1 t2 t3 d → Below wB.heap.size wB X0 → BoxA X0 pB → Calls Tryz.prog 12 #[.slice s4 ks.length c4] X0 fun e w' => ∃ (fi : Option Addr) (lo2 hi2 : Nat), e = .returned (.slice fi ks.length ks.length) ∧ hi ≤ w'.heap.size ∧ hi' ≤ w'.heap.size ∧ hi2 ≤ w'.heap.size ∧ Below w4.heap.size w4 w' ∧ Hid (ProgR w' lo hi f1 f2 p) ∧ Hid (SrcR w' lo' hi' t1 t2 t3 d) ∧ Hid (IntsR w' lo2 hi2 fi ks) ∧ Hid (BoxA w' pB) ∧ w'.cell? ⟨w.heap.size, 0, none⟩ = some (.slice p1 p.caps.length a1) ∧ w'.cell? ⟨w.heap.size, 1, none⟩ = some (.slice p2 p.bods.length a2) ∧ w'.cell? ⟨w.heap.size + 1, 0, none⟩ = some (.slice s1 d.ths.length c1) ∧ w'.cell? ⟨w.heap.size + 1, 1, none⟩ = some (.slice s2 d.chs.length c2) ∧ w'.cell? ⟨w.heap.size + 1, 2, none⟩ = some (.slice s3 d.tr.length c3)) := fun wB f1 f2 lo hi t1 t2 t3 lo' hi' X0 pB h1 h2 hX hp hs hB hb => (toIntS_own' s4 c4 0 w.heap.size ks X0 (H4.out.keep (Keep.of_below (HK.out.trans (hX.mono (by omega))) (Nat.le_refl _))) (by have := hX.size; omega) n4).mono fun e w' hq => by
  obtain ⟨gi, he, ho, hb2, -⟩ := hq
  have kk : Below w4.heap.size w4 w' := hX.trans (hb2.mono hX.size)
  have k2 : Below wB.heap.size wB w' := hB.trans (hb2.mono hB.size)
  exact ⟨some ⟨gi, 0, none⟩, _, _, he, Nat.le_trans h1 k2.size, Nat.le_trans h2 k2.size, Nat.le_refl _, kk, hp.keep' (Keep.of_below k2 h1), hs.keep (Keep.of_below k2 h2), ho.intsG, hb.keep hb2, RB.out _ kk⟩
 have CT : Hid (∀ (wB : World) (f1 f2 : Option Addr) (lo hi : Nat) (t1 : Option Addr) (e1 : Nat) (t2 : Option Addr) (e2 : Nat) (t3 : Option Addr) (e3 : Nat) (lo' hi' : Nat) (fi : Option Addr) (lo2 hi2 : Nat) (X0 : World) (pB : Option Nat), hi ≤ wB.heap.size → hi' ≤ wB.heap.size → hi2 ≤ wB.heap.size → Below w4.heap.size w4 X0 → ProgR wB lo hi f1 f2 p → SrcR wB lo' hi' t1 t2 t3 d → IntsR wB lo2 hi2 fi ks → Below wB.heap.size wB X0 → BoxA X0 pB → Calls Tryz.prog 9 #[.agg #[.slice f1 p.caps.length p.caps.length, .slice f2 p.bods.length p.bods.length], .agg #[.slice t1 d.ths.length e1, .slice t2 d.chs.length e2, .slice t3 d.tr.length e3], .slice fi ks.length ks.length] X0 fun e w' => ∃ (x1 : Option Addr) (y1 : Nat) (x2 : Option Addr) (y2 : Nat) (x3 : Option Addr) (y3 : Nat) (x4 : Option Addr) (y4 : Nat), e = .returned (.tuple #[.agg #[.slice x1 DD.ths.length y1, .slice x2 DD.chs.length y2, .slice x3 DD.tr.length y3], .slice x4 CC.length y4]) ∧ Below w4.heap.size w4 w' ∧ Hid (∃ L1 L2, OwnS w' w4.heap.size (.slice x1 DD.ths.length y1) (.slice x2 DD.chs.length y2) (.slice x3 DD.tr.length y3) L1 L2 DD) ∧ Hid (OwnN w' w4.heap.size (.slice x4 CC.length y4) CC) ∧ Hid (BoxA w' pB) ∧ w'.cell? ⟨w.heap.size, 0, none⟩ = some (.slice p1 p.caps.length a1) ∧ w'.cell? ⟨w.heap.size, 1, none⟩ = some (.slice p2 p.bods.length a2) ∧ w'.cell? ⟨w.heap.size + 1, 0, none⟩ = some (.slice s1 d.ths.length c1) ∧ w'.cell? ⟨w.heap.size + 1, 1, none⟩ = some (.slice s2 d.chs.length c2) ∧ w'.cell? ⟨w.heap.size + 1, 2, none⟩ = some (.slice s3 d.tr.length c3)) := fun wB f1 f2 lo hi t1 e1 t2 e2 t3 e3 lo' hi' fi lo2 hi2 X0 pB h1 h2 h3 hX hp hs hi3 hB hb => (specRun_any f1 f2 t1 t2 t3 fi _ _ e1 e2 e3 _ lo hi lo' hi' lo2 hi2 p d ks X0 (hp.keep' (Keep.of_below hB h1)) (hs.keep (Keep.of_below hB h2)) (hi3.keep (Keep.of_below hB h3)) (Nat.le_trans h1 hB.size) (Nat.le_trans h2 hB.size) (Nat.le_trans h3 hB.size) FP.out FS.out n4).mono fun e w' hq => by
  rw [HDD.out, HKK.out] at hq
  obtain ⟨x1, y1, x2, y2, x3, y3, x4, y4, L1, L2, he, ho, hn, -, hb2⟩ := hq
  have kk : Below w4.heap.size w4 w' := hX.trans (hb2.mono hX.size)
  exact ⟨x1, y1, x2, y2, x3, y3, x4, y4, he, kk, ⟨L1, L2, ho.low hX.size⟩, ownLow' hn hX.size, hb.keep hb2, RB.out _ kk⟩
 have kD : Below w4.heap.size w4 w4.drew := Below.drew (Below.refl _ _)
 have hdr : ∀ X : World, X.drew.heap.size = X.heap.size := fun _ => rfl
 go_cut [8, 9] (fun s8 s9 wx => CutR w4 DD CC s8 s9 wx)
 case first =>
  go_region_held3 (fun w' => w'.cell? ⟨w.heap.size, 0, none⟩ = some (.slice p1 p.caps.length a1) ∧ w'.cell? ⟨w.heap.size, 1, none⟩ = some (.slice p2 p.bods.length a2) ∧ w'.cell? ⟨w.heap.size + 1, 0, none⟩ = some (.slice s1 d.ths.length c1) ∧ w'.cell? ⟨w.heap.size + 1, 1, none⟩ = some (.slice s2 d.chs.length c2) ∧ w'.cell? ⟨w.heap.size + 1, 2, none⟩ = some (.slice s3 d.tr.length c3)) (first | exact RB.out _ (by repeat' (first | with_reducible exact kC | with_reducible exact kI | with_reducible exact kB | with_reducible exact kA | with_reducible exact kD | with_reducible exact Below.refl _ _ | with_reducible refine Below.drew ?_ | with_reducible refine Below.alloc ?_ (by first | omega | exact Nat.le_refl _ | (simp [hdr]; done) | (simp [hdr]; omega)) _ | with_reducible refine Below.setCell ?_ (by first | omega | exact Nat.le_refl _ | (simp [hdr]; done) | (simp [hdr]; omega)) _)) | go_keep) (first | (go_at_call 10; with_reducible refine (CP.out _ _ (by repeat' (first | with_reducible exact kC | with_reducible exact kI | with_reducible exact kB | with_reducible exact kA | with_reducible exact kD | with_reducible exact Below.refl _ _ | with_reducible refine Below.drew ?_ | with_reducible refine Below.alloc ?_ (by first | omega | exact Nat.le_refl _ | (simp [hdr]; done) | (simp [hdr]; omega)) _ | with_reducible refine Below.setCell ?_ (by first | omega | exact Nat.le_refl _ | (simp [hdr]; done) | (simp [hdr]; omega)) _)) (by first | with_reducible exact boxAD (boxA0 _) | with_reducible exact boxA0 _ | with_reducible exact boxAN _)).mono ?_; rintro e wA ⟨f1, f2, lo, hi, rfl, hhA, kA, PA, HBA, yA0, yA1, yA2, yA3, yA4⟩; have zA := kA.size) | (go_at_call 11; with_reducible refine (CS.out wA f1 f2 lo hi _ _ hhA (by repeat' (first | with_reducible exact kC | with_reducible exact kI | with_reducible exact kB | with_reducible exact kA | with_reducible exact kD | with_reducible exact Below.refl _ _ | with_reducible refine Below.drew ?_ | with_reducible refine Below.alloc ?_ (by first | omega | exact Nat.le_refl _ | (simp [hdr]; done) | (simp [hdr]; omega)) _ | with_reducible refine Below.setCell ?_ (by first | omega | exact Nat.le_refl _ | (simp [hdr]; done) | (simp [hdr]; omega)) _)) PA.out (show Below wA.heap.size wA _ from (by repeat' (first | with_reducible exact Below.refl _ _ | with_reducible refine Below.drew ?_ | with_reducible refine Below.alloc ?_ (by first | omega | exact Nat.le_refl _ | (simp [hdr]; done) | (simp [hdr]; omega)) _))) (by first | with_reducible exact boxAD (boxA0 _) | with_reducible exact boxA0 _ | with_reducible exact HBA.out | with_reducible exact boxAN _)).mono ?_; rintro e wB ⟨t1, e1, t2, e2, t3, e3, lo', hi', rfl, hhB, hhB', kB, PB, SB', HBB, yB0, yB1, yB2, yB3, yB4⟩; have zB := kB.size) | (go_at_call 12; with_reducible refine (CI.out wB f1 f2 lo hi t1 t2 t3 lo' hi' _ _ hhB hhB' (by repeat' (first | with_reducible exact kC | with_reducible exact kI | with_reducible exact kB | with_reducible exact kA | with_reducible exact kD | with_reducible exact Below.refl _ _ | with_reducible refine Below.drew ?_ | with_reducible refine Below.alloc ?_ (by first | omega | exact Nat.le_refl _ | (simp [hdr]; done) | (simp [hdr]; omega)) _ | with_reducible refine Below.setCell ?_ (by first | omega | exact Nat.le_refl _ | (simp [hdr]; done) | (simp [hdr]; omega)) _)) PB.out SB'.out (show Below wB.heap.size wB _ from (by repeat' (first | with_reducible exact Below.refl _ _ | with_reducible refine Below.drew ?_ | with_reducible refine Below.alloc ?_ (by first | omega | exact Nat.le_refl _ | (simp [hdr]; done) | (simp [hdr]; omega)) _))) (by first | with_reducible exact boxAD (boxA0 _) | with_reducible exact boxA0 _ | with_reducible exact HBB.out | with_reducible exact boxAN _)).mono ?_; rintro e wI ⟨fi, lo2, hi2, rfl, hhI, hhI', hhI2, kI, PI, SI, II, HBI, yI0, yI1, yI2, yI3, yI4⟩; have zI := kI.size) | (go_at_call 9; with_reducible refine (CT.out wI f1 f2 lo hi t1 e1 t2 e2 t3 e3 lo' hi' fi lo2 hi2 _ _ hhI hhI' hhI2 (by repeat' (first | with_reducible exact kC | with_reducible exact kI | with_reducible exact kB | with_reducible exact kA | with_reducible exact kD | with_reducible exact Below.refl _ _ | with_reducible refine Below.drew ?_ | with_reducible refine Below.alloc ?_ (by first | omega | exact Nat.le_refl _ | (simp [hdr]; done) | (simp [hdr]; omega)) _ | with_reducible refine Below.setCell ?_ (by first | omega | exact Nat.le_refl _ | (simp [hdr]; done) | (simp [hdr]; omega)) _)) PI.out SI.out II.out (show Below wI.heap.size wI _ from (by repeat' (first | with_reducible exact Below.refl _ _ | with_reducible refine Below.drew ?_ | with_reducible refine Below.alloc ?_ (by first | omega | exact Nat.le_refl _ | (simp [hdr]; done) | (simp [hdr]; omega)) _))) (by first | with_reducible exact boxAD (boxA0 _) | with_reducible exact boxA0 _ | with_reducible exact HBI.out | with_reducible exact boxAN _)).mono ?_; rintro e wC ⟨x1, y1, x2, y2, x3, y3, x4, y4, rfl, kC, OC, NC, HBC, yC0, yC1, yC2, yC3, yC4⟩; have zC := kC.size; (try obtain ⟨⟨b0', b1', b2', bf', b9⟩, -⟩ := boxAS HBC.out)) | fail)
  all_goals
   go_wp2_with fail
   go_meet
   first
    | with_reducible exact cutR_new OC.out NC.out kC
    | with_reducible exact cutR_set (boxAS HBC.out) (by omega) OC.out NC.out kC
 case rest =>
  obtain ⟨bow, xw1, yw1, xw2, yw2, xw3, yw3, xw4, yw4, rfl, rfl, hbow, hbzw, hx5, hs5, hi5, hk5⟩ := hcut
  obtain ⟨w5, hw5⟩ : ∃ z, z = wc := ⟨_, rfl⟩
  subst hw5
  have z5 := hk5.size
  clear RB CP CS CI CT kD hdr
  clear APc0 APc1 APz
  clear Ac0 Ac1 Ac2 Az
  have JK := hidX (HK.out.trans (hk5.mono (by omega)))
  have JAP := hidX (HAP.out.keep (Keep.of_below hk5 (by omega)))
  have JA := hidX (HA.out.keep (Keep.of_below hk5 (by omega)))
  clear HK HAP HA
  have HK := JK
  have HAP := JAP
  have HA := JA
  clear JK JAP JA
  have HRw : Hid (SrcR w5 w4.heap.size w5.heap.size xw1 xw2 xw3 DD) := hs5
  have HFw : Hid (Bo3 bow w5 (.slice xw1 DD.ths.length yw1) (.slice xw2 DD.chs.length yw2) (.slice xw3 DD.tr.length yw3)) := hx5
  have HNw : Hid (IntsR w5 w4.heap.size w5.heap.size xw4 CC) := hi5
  clear hk5 hs5 hx5 hi5
  obtain ⟨APc0, APc1⟩ := HAP.out
  have APz : w.heap.size < w5.heap.size := by omega
  obtain ⟨Ac0, Ac1, Ac2⟩ := HA.out
  have Az : w.heap.size + 1 < w5.heap.size := by omega
  obtain ⟨Fwc0, Fwc1, Fwc2⟩ := HFw.out
  have Fwz : bow < w5.heap.size := by omega
  go_wp2_with fail
  refine (toProg_own p1 p2 a1 a2 0 w.heap.size p w5 (HP.out.keep' (Keep.of_below HK.out (Nat.le_refl _))) (by omega) FP.out).mono ?_
  rintro e w6 ⟨xx1, xx2, Lxx, rfl, ho6, hb6, z6⟩
  clear APc0 APc1 APz
  clear Ac0 Ac1 Ac2 Az
  clear Fwc0 Fwc1 Fwc2 Fwz
  have JK := hidX (HK.out.trans (hb6.mono (by omega)))
  have JAP := hidX (HAP.out.keep (Keep.of_below hb6 (by omega)))
  have JA := hidX (HA.out.keep (Keep.of_below hb6 (by omega)))
  have JRw := hidX (HRw.out.keep (Keep.of_below hb6 (by omega)))
  have JFw := hidX (HFw.out.keep (Keep.of_below hb6 (by omega)))
  have JNw := hidX (HNw.out.keep (Keep.of_below hb6 (by omega)))
  clear HK HAP HA HRw HFw HNw
  have HK := JK
  have HAP := JAP
  have HA := JA
  have HRw := JRw
  have HFw := JFw
  have HNw := JNw
  clear JK JAP JA JRw JFw JNw
  have HRx : Hid (PR w6 w5.heap.size w6.heap.size xx1 xx2 p) := ho6.prog
  have HOx : Hid (GB w6 w5.heap.size w6.heap.size (.slice xx1 p.caps.length p.caps.length) (.slice xx2 p.bods.length p.bods.length) Lxx p) := GB.of ho6
  clear hb6 ho6
  obtain ⟨APc0, APc1⟩ := HAP.out
  have APz : w.heap.size < w6.heap.size := by omega
  obtain ⟨Ac0, Ac1, Ac2⟩ := HA.out
  have Az : w.heap.size + 1 < w6.heap.size := by omega
  obtain ⟨Fwc0, Fwc1, Fwc2⟩ := HFw.out
  have Fwz : bow < w6.heap.size := by omega
  go_wp2_with fail
  obtain ⟨V7, hV7, bx7, kb7, zb7⟩ := Bo2.new w6 (.slice xx1 p.caps.length p.caps.length) (.slice xx2 p.bods.length p.bods.length) 42
  rw [hV7]
  clear hV7
  clear APc0 APc1 APz
  clear Ac0 Ac1 Ac2 Az
  clear Fwc0 Fwc1 Fwc2 Fwz
  have JK := hidX (HK.out.trans (kb7.mono (by omega)))
  have JAP := hidX (HAP.out.keep (Keep.of_below kb7 (by omega)))
  have JA := hidX (HA.out.keep (Keep.of_below kb7 (by omega)))
  have JRw := hidX (HRw.out.keep (Keep.of_below kb7 (by omega)))
  have JFw := hidX (HFw.out.keep (Keep.of_below kb7 (by omega)))
  have JNw := hidX (HNw.out.keep (Keep.of_below kb7 (by omega)))
  have JRx := hidX (HRx.out.keep (Keep.of_below kb7 (by omega)))
  have JOx := hidX (HOx.out.keep (Keep.of_below kb7 (by omega)))
  clear HK HAP HA HRw HFw HNw HRx HOx
  have HK := JK
  have HAP := JAP
  have HA := JA
  have HRw := JRw
  have HFw := JFw
  have HNw := JNw
  have HRx := JRx
  have HOx := JOx
  clear JK JAP JA JRw JFw JNw JRx JOx
  have HXx : Hid (Bo2 w6.heap.size V7 (.slice xx1 p.caps.length p.caps.length) (.slice xx2 p.bods.length p.bods.length)) := bx7
  clear bx7 kb7
  obtain ⟨APc0, APc1⟩ := HAP.out
  have APz : w.heap.size < V7.heap.size := by omega
  obtain ⟨Ac0, Ac1, Ac2⟩ := HA.out
  have Az : w.heap.size + 1 < V7.heap.size := by omega
  obtain ⟨Fwc0, Fwc1, Fwc2⟩ := HFw.out
  have Fwz : bow < V7.heap.size := by omega
  obtain ⟨Xxc0, Xxc1⟩ := HXx.out
  have Xxz : w6.heap.size < V7.heap.size := by omega
  go_wp2_with fail
  refine (toSource_own s1 s2 s3 c1 c2 c3 0 w.heap.size d V7 (HS.out.keep (Keep.of_below HK.out (Nat.le_refl _))) (by omega) FS.out).mono ?_
  rintro e w8 ⟨va8, vb8, vc8, Laz, Lbz, rfl, ho8, hb8, z8⟩
  obtain ⟨xz1, yz1, xz2, yz2, xz3, yz3, rfl, rfl, rfl, hs8⟩ := ho8.src
  clear APc0 APc1 APz
  clear Ac0 Ac1 Ac2 Az
  clear Fwc0 Fwc1 Fwc2 Fwz
  clear Xxc0 Xxc1 Xxz
  have JK := hidX (HK.out.trans (hb8.mono (by omega)))
  have JAP := hidX (HAP.out.keep (Keep.of_below hb8 (by omega)))
  have JA := hidX (HA.out.keep (Keep.of_below hb8 (by omega)))
  have JRw := hidX (HRw.out.keep (Keep.of_below hb8 (by omega)))
  have JFw := hidX (HFw.out.keep (Keep.of_below hb8 (by omega)))
  have JNw := hidX (HNw.out.keep (Keep.of_below hb8 (by omega)))
  have JRx := hidX (HRx.out.keep (Keep.of_below hb8 (by omega)))
  have JOx := hidX (HOx.out.keep (Keep.of_below hb8 (by omega)))
  have JXx := hidX (HXx.out.keep (Keep.of_below hb8 (by omega)))
  clear HK HAP HA HRw HFw HNw HRx HOx HXx
  have HK := JK
  have HAP := JAP
  have HA := JA
  have HRw := JRw
  have HFw := JFw
  have HNw := JNw
  have HRx := JRx
  have HOx := JOx
  have HXx := JXx
  clear JK JAP JA JRw JFw JNw JRx JOx JXx
  have HRz : Hid (SrcR w8 V7.heap.size w8.heap.size xz1 xz2 xz3 d) := hs8
  have HOz : Hid (SB w8 V7.heap.size w8.heap.size (.slice xz1 d.ths.length yz1) (.slice xz2 d.chs.length yz2) (.slice xz3 d.tr.length yz3) Laz Lbz d) := SB.of ho8
  clear hb8 hs8 ho8
  obtain ⟨APc0, APc1⟩ := HAP.out
  have APz : w.heap.size < w8.heap.size := by omega
  obtain ⟨Ac0, Ac1, Ac2⟩ := HA.out
  have Az : w.heap.size + 1 < w8.heap.size := by omega
  obtain ⟨Fwc0, Fwc1, Fwc2⟩ := HFw.out
  have Fwz : bow < w8.heap.size := by omega
  obtain ⟨Xxc0, Xxc1⟩ := HXx.out
  have Xxz : w6.heap.size < w8.heap.size := by omega
  go_wp2_with fail
  obtain ⟨V9, hV9, bx9, kb9, zb9⟩ := Bo3.new w8 (.slice xz1 d.ths.length yz1) (.slice xz2 d.chs.length yz2) (.slice xz3 d.tr.length yz3) 37
  rw [hV9]
  clear hV9
  clear APc0 APc1 APz
  clear Ac0 Ac1 Ac2 Az
  clear Fwc0 Fwc1 Fwc2 Fwz
  clear Xxc0 Xxc1 Xxz
  have JK := hidX (HK.out.trans (kb9.mono (by omega)))
  have JAP := hidX (HAP.out.keep (Keep.of_below kb9 (by omega)))
  have JA := hidX (HA.out.keep (Keep.of_below kb9 (by omega)))
  have JRw := hidX (HRw.out.keep (Keep.of_below kb9 (by omega)))
  have JFw := hidX (HFw.out.keep (Keep.of_below kb9 (by omega)))
  have JNw := hidX (HNw.out.keep (Keep.of_below kb9 (by omega)))
  have JRx := hidX (HRx.out.keep (Keep.of_below kb9 (by omega)))
  have JOx := hidX (HOx.out.keep (Keep.of_below kb9 (by omega)))
  have JXx := hidX (HXx.out.keep (Keep.of_below kb9 (by omega)))
  have JRz := hidX (HRz.out.keep (Keep.of_below kb9 (by omega)))
  have JOz := hidX (HOz.out.keep (Keep.of_below kb9 (by omega)))
  clear HK HAP HA HRw HFw HNw HRx HOx HXx HRz HOz
  have HK := JK
  have HAP := JAP
  have HA := JA
  have HRw := JRw
  have HFw := JFw
  have HNw := JNw
  have HRx := JRx
  have HOx := JOx
  have HXx := JXx
  have HRz := JRz
  have HOz := JOz
  clear JK JAP JA JRw JFw JNw JRx JOx JXx JRz JOz
  have HXz : Hid (Bo3 w8.heap.size V9 (.slice xz1 d.ths.length yz1) (.slice xz2 d.chs.length yz2) (.slice xz3 d.tr.length yz3)) := bx9
  clear bx9 kb9
  obtain ⟨APc0, APc1⟩ := HAP.out
  have APz : w.heap.size < V9.heap.size := by omega
  obtain ⟨Ac0, Ac1, Ac2⟩ := HA.out
  have Az : w.heap.size + 1 < V9.heap.size := by omega
  obtain ⟨Fwc0, Fwc1, Fwc2⟩ := HFw.out
  have Fwz : bow < V9.heap.size := by omega
  obtain ⟨Xxc0, Xxc1⟩ := HXx.out
  have Xxz : w6.heap.size < V9.heap.size := by omega
  obtain ⟨Xzc0, Xzc1, Xzc2⟩ := HXz.out
  have Xzz : w8.heap.size < V9.heap.size := by omega
  go_wp2_with fail
  refine (toIntS_own' s4 c4 0 w.heap.size ks V9 (H4.out.keep (Keep.of_below HK.out (Nat.le_refl _))) (by omega) n4).mono ?_
  rintro e w10 ⟨xr, rfl, ho10, hb10, z10⟩
  have zz10 := hb10.size
  clear APc0 APc1 APz
  clear Ac0 Ac1 Ac2 Az
  clear Fwc0 Fwc1 Fwc2 Fwz
  clear Xxc0 Xxc1 Xxz
  clear Xzc0 Xzc1 Xzc2 Xzz
  have JK := hidX (HK.out.trans (hb10.mono (by omega)))
  have JAP := hidX (HAP.out.keep (Keep.of_below hb10 (by omega)))
  have JA := hidX (HA.out.keep (Keep.of_below hb10 (by omega)))
  have JRw := hidX (HRw.out.keep (Keep.of_below hb10 (by omega)))
  have JFw := hidX (HFw.out.keep (Keep.of_below hb10 (by omega)))
  have JNw := hidX (HNw.out.keep (Keep.of_below hb10 (by omega)))
  have JRx := hidX (HRx.out.keep (Keep.of_below hb10 (by omega)))
  have JOx := hidX (HOx.out.keep (Keep.of_below hb10 (by omega)))
  have JXx := hidX (HXx.out.keep (Keep.of_below hb10 (by omega)))
  have JRz := hidX (HRz.out.keep (Keep.of_below hb10 (by omega)))
  have JOz := hidX (HOz.out.keep (Keep.of_below hb10 (by omega)))
  have JXz := hidX (HXz.out.keep (Keep.of_below hb10 (by omega)))
  clear HK HAP HA HRw HFw HNw HRx HOx HXx HRz HOz HXz
  have HK := JK
  have HAP := JAP
  have HA := JA
  have HRw := JRw
  have HFw := JFw
  have HNw := JNw
  have HRx := JRx
  have HOx := JOx
  have HXx := JXx
  have HRz := JRz
  have HOz := JOz
  have HXz := JXz
  clear JK JAP JA JRw JFw JNw JRx JOx JXx JRz JOz JXz
  have HRr : Hid (IntsR w10 V9.heap.size w10.heap.size (some ⟨xr, 0, none⟩) ks) := ho10.intsG
  have HOr : Hid (NB w10 V9.heap.size w10.heap.size (.slice (some ⟨xr, 0, none⟩) ks.length ks.length) ks) := NB.of ho10
  clear hb10 ho10
  obtain ⟨APc0, APc1⟩ := HAP.out
  have APz : w.heap.size < w10.heap.size := by omega
  obtain ⟨Ac0, Ac1, Ac2⟩ := HA.out
  have Az : w.heap.size + 1 < w10.heap.size := by omega
  obtain ⟨Fwc0, Fwc1, Fwc2⟩ := HFw.out
  have Fwz : bow < w10.heap.size := by omega
  obtain ⟨Xxc0, Xxc1⟩ := HXx.out
  have Xxz : w6.heap.size < w10.heap.size := by omega
  obtain ⟨Xzc0, Xzc1, Xzc2⟩ := HXz.out
  have Xzz : w8.heap.size < w10.heap.size := by omega
  go_wp2_with fail
  have IM := implRun_any xx1 xx2 xz1 xz2 xz3 (some ⟨xr, 0, none⟩) p.caps.length p.bods.length yz1 yz2 yz3 ks.length w5.heap.size w6.heap.size V7.heap.size w8.heap.size V9.heap.size w10.heap.size p d ks w10 HRx.out HRz.out HRr.out (by omega) (by omega) (by omega) FP.out FS.out n4
  rw [HDD.out, HKK.out] at IM
  refine IM.mono ?_
  clear IM
  rintro e w11 ⟨xg1, yg1, xg2, yg2, xg3, yg3, xg4, yg4, Lag, Lbg, rfl, ho11, hn11, hsp11, hb11⟩
  have z11 := hb11.size
  clear APc0 APc1 APz
  clear Ac0 Ac1 Ac2 Az
  clear Fwc0 Fwc1 Fwc2 Fwz
  clear Xxc0 Xxc1 Xxz
  clear Xzc0 Xzc1 Xzc2 Xzz
  have JK := hidX (HK.out.trans (hb11.mono (by omega)))
  have JAP := hidX (HAP.out.keep (Keep.of_below hb11 (by omega)))
  have JA := hidX (HA.out.keep (Keep.of_below hb11 (by omega)))
  have JRw := hidX (HRw.out.keep (Keep.of_below hb11 (by omega)))
  have JFw := hidX (HFw.out.keep (Keep.of_below hb11 (by omega)))
  have JNw := hidX (HNw.out.keep (Keep.of_below hb11 (by omega)))
  have JRx := hidX (HRx.out.keep (Keep.of_below hb11 (by omega)))
  have JOx := hidX (HOx.out.keep (Keep.of_below hb11 (by omega)))
  have JXx := hidX (HXx.out.keep (Keep.of_below hb11 (by omega)))
  have JRz := hidX (HRz.out.keep (Keep.of_below hb11 (by omega)))
  have JOz := hidX (HOz.out.keep (Keep.of_below hb11 (by omega)))
  have JXz := hidX (HXz.out.keep (Keep.of_below hb11 (by omega)))
  have JRr := hidX (HRr.out.keep (Keep.of_below hb11 (by omega)))
  have JOr := hidX (HOr.out.keep (Keep.of_below hb11 (by omega)))
  clear HK HAP HA HRw HFw HNw HRx HOx HXx HRz HOz HXz HRr HOr
  have HK := JK
  have HAP := JAP
  have HA := JA
  have HRw := JRw
  have HFw := JFw
  have HNw := JNw
  have HRx := JRx
  have HOx := JOx
  have HXx := JXx
  have HRz := JRz
  have HOz := JOz
  have HXz := JXz
  have HRr := JRr
  have HOr := JOr
  clear JK JAP JA JRw JFw JNw JRx JOx JXx JRz JOz JXz JRr JOr
  have HRg : Hid (SrcR w11 w10.heap.size w11.heap.size xg1 xg2 xg3 DD) := ho11.srcR
  have HNg : Hid (IntsR w11 w10.heap.size w11.heap.size xg4 CC) := hn11.intsS
  have HOg : Hid (SN w11 w10.heap.size w11.heap.size (.slice xg1 DD.ths.length yg1) (.slice xg2 DD.chs.length yg2) (.slice xg3 DD.tr.length yg3) Lag Lbg DD (.slice xg4 CC.length yg4) CC) := ⟨SB.of ho11, NB.of hn11, hsp11⟩
  clear hn11 hsp11
  clear hb11 ho11
  obtain ⟨APc0, APc1⟩ := HAP.out
  have APz : w.heap.size < w11.heap.size := by omega
  obtain ⟨Ac0, Ac1, Ac2⟩ := HA.out
  have Az : w.heap.size + 1 < w11.heap.size := by omega
  obtain ⟨Fwc0, Fwc1, Fwc2⟩ := HFw.out
  have Fwz : bow < w11.heap.size := by omega
  obtain ⟨Xxc0, Xxc1⟩ := HXx.out
  have Xxz : w6.heap.size < w11.heap.size := by omega
  obtain ⟨Xzc0, Xzc1, Xzc2⟩ := HXz.out
  have Xzz : w8.heap.size < w11.heap.size := by omega
  go_wp2_with fail
  obtain ⟨V12, hV12, bx12, kb12, zb12⟩ := Bo3.new w11 (.slice xg1 DD.ths.length yg1) (.slice xg2 DD.chs.length yg2) (.slice xg3 DD.tr.length yg3) 37
  rw [hV12]
  clear hV12
  clear APc0 APc1 APz
  clear Ac0 Ac1 Ac2 Az
  clear Fwc0 Fwc1 Fwc2 Fwz
  clear Xxc0 Xxc1 Xxz
  clear Xzc0 Xzc1 Xzc2 Xzz
  have JK := hidX (HK.out.trans (kb12.mono (by omega)))
  have JAP := hidX (HAP.out.keep (Keep.of_below kb12 (by omega)))
  have JA := hidX (HA.out.keep (Keep.of_below kb12 (by omega)))
  have JRw := hidX (HRw.out.keep (Keep.of_below kb12 (by omega)))
  have JFw := hidX (HFw.out.keep (Keep.of_below kb12 (by omega)))
  have JNw := hidX (HNw.out.keep (Keep.of_below kb12 (by omega)))
  have JRx := hidX (HRx.out.keep (Keep.of_below kb12 (by omega)))
  have JOx := hidX (HOx.out.keep (Keep.of_below kb12 (by omega)))
  have JXx := hidX (HXx.out.keep (Keep.of_below kb12 (by omega)))
  have JRz := hidX (HRz.out.keep (Keep.of_below kb12 (by omega)))
  have JOz := hidX (HOz.out.keep (Keep.of_below kb12 (by omega)))
  have JXz := hidX (HXz.out.keep (Keep.of_below kb12 (by omega)))
  have JRr := hidX (HRr.out.keep (Keep.of_below kb12 (by omega)))
  have JOr := hidX (HOr.out.keep (Keep.of_below kb12 (by omega)))
  have JRg := hidX (HRg.out.keep (Keep.of_below kb12 (by omega)))
  have JNg := hidX (HNg.out.keep (Keep.of_below kb12 (by omega)))
  have JOg := hidX (HOg.out.keep (Keep.of_below kb12 (by omega)))
  clear HK HAP HA HRw HFw HNw HRx HOx HXx HRz HOz HXz HRr HOr HRg HNg HOg
  have HK := JK
  have HAP := JAP
  have HA := JA
  have HRw := JRw
  have HFw := JFw
  have HNw := JNw
  have HRx := JRx
  have HOx := JOx
  have HXx := JXx
  have HRz := JRz
  have HOz := JOz
  have HXz := JXz
  have HRr := JRr
  have HOr := JOr
  have HRg := JRg
  have HNg := JNg
  have HOg := JOg
  clear JK JAP JA JRw JFw JNw JRx JOx JXx JRz JOz JXz JRr JOr JRg JNg JOg
  have HYg : Hid (Bo3 w11.heap.size V12 (.slice xg1 DD.ths.length yg1) (.slice xg2 DD.chs.length yg2) (.slice xg3 DD.tr.length yg3)) := bx12
  clear bx12 kb12
  obtain ⟨APc0, APc1⟩ := HAP.out
  have APz : w.heap.size < V12.heap.size := by omega
  obtain ⟨Ac0, Ac1, Ac2⟩ := HA.out
  have Az : w.heap.size + 1 < V12.heap.size := by omega
  obtain ⟨Fwc0, Fwc1, Fwc2⟩ := HFw.out
  have Fwz : bow < V12.heap.size := by omega
  obtain ⟨Xxc0, Xxc1⟩ := HXx.out
  have Xxz : w6.heap.size < V12.heap.size := by omega
  obtain ⟨Xzc0, Xzc1, Xzc2⟩ := HXz.out
  have Xzz : w8.heap.size < V12.heap.size := by omega
  obtain ⟨Ygc0, Ygc1, Ygc2⟩ := HYg.out
  have Ygz : w11.heap.size < V12.heap.size := by omega
  go_wp2_with fail
  refine (eqSource_alike xg1 xg2 xg3 xw1 xw2 xw3 _ _ _ _ _ _ w10.heap.size w11.heap.size w4.heap.size w5.heap.size DD V12 HRg.out HRw.out (by omega) (by omega) FD.out).mono ?_
  rintro e w13 ⟨rfl, hb13⟩
  have z13 := hb13.size
  clear APc0 APc1 APz
  clear Ac0 Ac1 Ac2 Az
  clear Fwc0 Fwc1 Fwc2 Fwz
  clear Xxc0 Xxc1 Xxz
  clear Xzc0 Xzc1 Xzc2 Xzz
  clear Ygc0 Ygc1 Ygc2 Ygz
  have JK := hidX (HK.out.trans (hb13.mono (by omega)))
  have JAP := hidX (HAP.out.keep (Keep.of_below hb13 (by omega)))
  have JA := hidX (HA.out.keep (Keep.of_below hb13 (by omega)))
  have JRw := hidX (HRw.out.keep (Keep.of_below hb13 (by omega)))
  have JFw := hidX (HFw.out.keep (Keep.of_below hb13 (by omega)))
  have JNw := hidX (HNw.out.keep (Keep.of_below hb13 (by omega)))
  have JRx := hidX (HRx.out.keep (Keep.of_below hb13 (by omega)))
  have JOx := hidX (HOx.out.keep (Keep.of_below hb13 (by omega)))
  have JXx := hidX (HXx.out.keep (Keep.of_below hb13 (by omega)))
  have JRz := hidX (HRz.out.keep (Keep.of_below hb13 (by omega)))
  have JOz := hidX (HOz.out.keep (Keep.of_below hb13 (by omega)))
  have JXz := hidX (HXz.out.keep (Keep.of_below hb13 (by omega)))
  have JRr := hidX (HRr.out.keep (Keep.of_below hb13 (by omega)))
  have JOr := hidX (HOr.out.keep (Keep.of_below hb13 (by omega)))
  have JRg := hidX (HRg.out.keep (Keep.of_below hb13 (by omega)))
  have JNg := hidX (HNg.out.keep (Keep.of_below hb13 (by omega)))
  have JOg := hidX (HOg.out.keep (Keep.of_below hb13 (by omega)))
  have JYg := hidX (HYg.out.keep (Keep.of_below hb13 (by omega)))
  clear HK HAP HA HRw HFw HNw HRx HOx HXx HRz HOz HXz HRr HOr HRg HNg HOg HYg
  have HK := JK
  have HAP := JAP
  have HA := JA
  have HRw := JRw
  have HFw := JFw
  have HNw := JNw
  have HRx := JRx
  have HOx := JOx
  have HXx := JXx
  have HRz := JRz
  have HOz := JOz
  have HXz := JXz
  have HRr := JRr
  have HOr := JOr
  have HRg := JRg
  have HNg := JNg
  have HOg := JOg
  have HYg := JYg
  clear JK JAP JA JRw JFw JNw JRx JOx JXx JRz JOz JXz JRr JOr JRg JNg JOg JYg
  clear hb13
  obtain ⟨APc0, APc1⟩ := HAP.out
  have APz : w.heap.size < w13.heap.size := by omega
  obtain ⟨Ac0, Ac1, Ac2⟩ := HA.out
  have Az : w.heap.size + 1 < w13.heap.size := by omega
  obtain ⟨Fwc0, Fwc1, Fwc2⟩ := HFw.out
  have Fwz : bow < w13.heap.size := by omega
  obtain ⟨Xxc0, Xxc1⟩ := HXx.out
  have Xxz : w6.heap.size < w13.heap.size := by omega
  obtain ⟨Xzc0, Xzc1, Xzc2⟩ := HXz.out
  have Xzz : w8.heap.size < w13.heap.size := by omega
  obtain ⟨Ygc0, Ygc1, Ygc2⟩ := HYg.out
  have Ygz : w11.heap.size < w13.heap.size := by omega
  go_wp2_with fail
  refine (eqN_true yg4 yw4 HNg.out HNw.out (by omega) (by omega) (by have := HCL.out; omega)).mono ?_
  rintro e w14 ⟨rfl, hb14⟩
  have z14 := hb14.size
  clear APc0 APc1 APz
  clear Ac0 Ac1 Ac2 Az
  clear Fwc0 Fwc1 Fwc2 Fwz
  clear Xxc0 Xxc1 Xxz
  clear Xzc0 Xzc1 Xzc2 Xzz
  clear Ygc0 Ygc1 Ygc2 Ygz
  have JK := hidX (HK.out.trans (hb14.mono (by omega)))
  have JAP := hidX (HAP.out.keep (Keep.of_below hb14 (by omega)))
  have JA := hidX (HA.out.keep (Keep.of_below hb14 (by omega)))
  have JRw := hidX (HRw.out.keep (Keep.of_below hb14 (by omega)))
  have JFw := hidX (HFw.out.keep (Keep.of_below hb14 (by omega)))
  have JNw := hidX (HNw.out.keep (Keep.of_below hb14 (by omega)))
  have JRx := hidX (HRx.out.keep (Keep.of_below hb14 (by omega)))
  have JOx := hidX (HOx.out.keep (Keep.of_below hb14 (by omega)))
  have JXx := hidX (HXx.out.keep (Keep.of_below hb14 (by omega)))
  have JRz := hidX (HRz.out.keep (Keep.of_below hb14 (by omega)))
  have JOz := hidX (HOz.out.keep (Keep.of_below hb14 (by omega)))
  have JXz := hidX (HXz.out.keep (Keep.of_below hb14 (by omega)))
  have JRr := hidX (HRr.out.keep (Keep.of_below hb14 (by omega)))
  have JOr := hidX (HOr.out.keep (Keep.of_below hb14 (by omega)))
  have JRg := hidX (HRg.out.keep (Keep.of_below hb14 (by omega)))
  have JNg := hidX (HNg.out.keep (Keep.of_below hb14 (by omega)))
  have JOg := hidX (HOg.out.keep (Keep.of_below hb14 (by omega)))
  have JYg := hidX (HYg.out.keep (Keep.of_below hb14 (by omega)))
  clear HK HAP HA HRw HFw HNw HRx HOx HXx HRz HOz HXz HRr HOr HRg HNg HOg HYg
  have HK := JK
  have HAP := JAP
  have HA := JA
  have HRw := JRw
  have HFw := JFw
  have HNw := JNw
  have HRx := JRx
  have HOx := JOx
  have HXx := JXx
  have HRz := JRz
  have HOz := JOz
  have HXz := JXz
  have HRr := JRr
  have HOr := JOr
  have HRg := JRg
  have HNg := JNg
  have HOg := JOg
  have HYg := JYg
  clear JK JAP JA JRw JFw JNw JRx JOx JXx JRz JOz JXz JRr JOr JRg JNg JOg JYg
  clear hb14
  obtain ⟨APc0, APc1⟩ := HAP.out
  have APz : w.heap.size < w14.heap.size := by omega
  obtain ⟨Ac0, Ac1, Ac2⟩ := HA.out
  have Az : w.heap.size + 1 < w14.heap.size := by omega
  obtain ⟨Fwc0, Fwc1, Fwc2⟩ := HFw.out
  have Fwz : bow < w14.heap.size := by omega
  obtain ⟨Xxc0, Xxc1⟩ := HXx.out
  have Xxz : w6.heap.size < w14.heap.size := by omega
  obtain ⟨Xzc0, Xzc1, Xzc2⟩ := HXz.out
  have Xzz : w8.heap.size < w14.heap.size := by omega
  obtain ⟨Ygc0, Ygc1, Ygc2⟩ := HYg.out
  have Ygz : w11.heap.size < w14.heap.size := by omega
  go_wp2_with fail
  go_region_held3 (fun w' => w'.cell? ⟨w6.heap.size, 0, none⟩ = some (.slice xx1 p.caps.length p.caps.length) ∧ w'.cell? ⟨w6.heap.size, 1, none⟩ = some (.slice xx2 p.bods.length p.bods.length) ∧ w'.cell? ⟨w.heap.size, 0, none⟩ = some (.slice p1 p.caps.length a1) ∧ w'.cell? ⟨w.heap.size, 1, none⟩ = some (.slice p2 p.bods.length a2)) (go_keep) (first | (go_at_call 10; refine (toProg_own p1 p2 a1 a2 0 w.heap.size p w14.drew (HP.out.keep' (Keep.of_below HK.out.drew (Nat.le_refl _))) (by show w.heap.size ≤ w14.heap.size; omega) FP.out).mono ?_; rintro e w15 ⟨f1, f2, Lf, rfl, ho15, hb15, hz15⟩; have kx : Below w14.heap.size w14 w15 := (Below.drew (Below.refl _ _)).trans hb15; have kz := kx.size; have XX := HXx.out.keep (Keep.of_below kx (by omega)); have AA := HAP.out.keep (Keep.of_below kx (by omega)); have t0 := XX.c0; have t1 := XX.c1; have t3 := AA.c0; have t4 := AA.c1) | (go_at_call 16; refine (eqProg_same xx1 xx2 f1 f2 _ _ _ _ w5.heap.size w6.heap.size w14.heap.size w15.heap.size p w15 (HRx.out.keep' (Keep.of_below kx (by omega))) ho15.prog (by omega) (Nat.le_refl _) FP.out).mono ?_; rintro e w16 ⟨rfl, hb16⟩; have ky : Below w14.heap.size w14 w16 := kx.trans (hb16.mono (by omega)); have XY := XX.keep (Keep.of_below hb16 (by omega)); have AY := AA.keep (Keep.of_below hb16 (by omega)); have u0 := XY.c0; have u1 := XY.c1; have u3 := AY.c0; have u4 := AY.c1))
  have z16 := ky.size
  clear t0 t1 t3 t4 u0 u1 u3 u4 XX AA XY AY hb15 hb16 ho15 hz15 kx kz
  clear APc0 APc1 APz
  clear Ac0 Ac1 Ac2 Az
  clear Fwc0 Fwc1 Fwc2 Fwz
  clear Xxc0 Xxc1 Xxz
  clear Xzc0 Xzc1 Xzc2 Xzz
  clear Ygc0 Ygc1 Ygc2 Ygz
  have JK := hidX (HK.out.trans (ky.mono (by omega)))
  have JAP := hidX (HAP.out.keep (Keep.of_below ky (by omega)))
  have JA := hidX (HA.out.keep (Keep.of_below ky (by omega)))
  have JRw := hidX (HRw.out.keep (Keep.of_below ky (by omega)))
  have JFw := hidX (HFw.out.keep (Keep.of_below ky (by omega)))
  have JNw := hidX (HNw.out.keep (Keep.of_below ky (by omega)))
  have JRx := hidX (HRx.out.keep (Keep.of_below ky (by omega)))
  have JOx := hidX (HOx.out.keep (Keep.of_below ky (by omega)))
  have JXx := hidX (HXx.out.keep (Keep.of_below ky (by omega)))
  have JRz := hidX (HRz.out.keep (Keep.of_below ky (by omega)))
  have JOz := hidX (HOz.out.keep (Keep.of_below ky (by omega)))
  have JXz := hidX (HXz.out.keep (Keep.of_below ky (by omega)))
  have JRr := hidX (HRr.out.keep (Keep.of_below ky (by omega)))
  have JOr := hidX (HOr.out.keep (Keep.of_below ky (by omega)))
  have JRg := hidX (HRg.out.keep (Keep.of_below ky (by omega)))
  have JNg := hidX (HNg.out.keep (Keep.of_below ky (by omega)))
  have JOg := hidX (HOg.out.keep (Keep.of_below ky (by omega)))
  have JYg := hidX (HYg.out.keep (Keep.of_below ky (by omega)))
  clear HK HAP HA HRw HFw HNw HRx HOx HXx HRz HOz HXz HRr HOr HRg HNg HOg HYg
  have HK := JK
  have HAP := JAP
  have HA := JA
  have HRw := JRw
  have HFw := JFw
  have HNw := JNw
  have HRx := JRx
  have HOx := JOx
  have HXx := JXx
  have HRz := JRz
  have HOz := JOz
  have HXz := JXz
  have HRr := JRr
  have HOr := JOr
  have HRg := JRg
  have HNg := JNg
  have HOg := JOg
  have HYg := JYg
  clear JK JAP JA JRw JFw JNw JRx JOx JXx JRz JOz JXz JRr JOr JRg JNg JOg JYg
  clear ky
  obtain ⟨APc0, APc1⟩ := HAP.out
  have APz : w.heap.size < w16.heap.size := by omega
  obtain ⟨Ac0, Ac1, Ac2⟩ := HA.out
  have Az : w.heap.size + 1 < w16.heap.size := by omega
  obtain ⟨Fwc0, Fwc1, Fwc2⟩ := HFw.out
  have Fwz : bow < w16.heap.size := by omega
  obtain ⟨Xxc0, Xxc1⟩ := HXx.out
  have Xxz : w6.heap.size < w16.heap.size := by omega
  obtain ⟨Xzc0, Xzc1, Xzc2⟩ := HXz.out
  have Xzz : w8.heap.size < w16.heap.size := by omega
  obtain ⟨Ygc0, Ygc1, Ygc2⟩ := HYg.out
  have Ygz : w11.heap.size < w16.heap.size := by omega
  go_wp2_with fail
  go_region_held3 (fun w' => w'.cell? ⟨w8.heap.size, 0, none⟩ = some (.slice xz1 d.ths.length yz1) ∧ w'.cell? ⟨w8.heap.size, 1, none⟩ = some (.slice xz2 d.chs.length yz2) ∧ w'.cell? ⟨w8.heap.size, 2, none⟩ = some (.slice xz3 d.tr.length yz3) ∧ w'.cell? ⟨w.heap.size + 1, 0, none⟩ = some (.slice s1 d.ths.length c1) ∧ w'.cell? ⟨w.heap.size + 1, 1, none⟩ = some (.slice s2 d.chs.length c2) ∧ w'.cell? ⟨w.heap.size + 1, 2, none⟩ = some (.slice s3 d.tr.length c3)) (go_keep) (first | (go_at_call 11; refine (toSource_own s1 s2 s3 c1 c2 c3 0 w.heap.size d w16.drew (HS.out.keep (Keep.of_below HK.out.drew (Nat.le_refl _))) (by show w.heap.size ≤ w16.heap.size; omega) FS.out).mono ?_; rintro e w17 ⟨va17, vb17, vc17, Ma17, Mb17, rfl, ho17, hb17, hz17⟩; obtain ⟨f1, h1, f2, h2, f3, h3, rfl, rfl, rfl, hs17⟩ := ho17.src; have kx : Below w16.heap.size w16 w17 := (Below.drew (Below.refl _ _)).trans hb17; have kz := kx.size; have XX := HXz.out.keep (Keep.of_below kx (by omega)); have AA := HA.out.keep (Keep.of_below kx (by omega)); have t0 := XX.c0; have t1 := XX.c1; have t2 := XX.c2; have t3 := AA.c0; have t4 := AA.c1; have t5 := AA.c2) | (go_at_call 14; refine (eqSource_alike xz1 xz2 xz3 f1 f2 f3 _ _ _ _ _ _ V7.heap.size w8.heap.size w16.heap.size w17.heap.size d w17 (HRz.out.keep (Keep.of_below kx (by omega))) hs17 (by omega) (Nat.le_refl _) FS.out).mono ?_; rintro e w18 ⟨rfl, hb18⟩; have ky : Below w16.heap.size w16 w18 := kx.trans (hb18.mono (by omega)); have XY := XX.keep (Keep.of_below hb18 (by omega)); have AY := AA.keep (Keep.of_below hb18 (by omega)); have u0 := XY.c0; have u1 := XY.c1; have u2 := XY.c2; have u3 := AY.c0; have u4 := AY.c1; have u5 := AY.c2))
  have z18 := ky.size
  clear t0 t1 t2 t3 t4 t5 u0 u1 u2 u3 u4 u5 XX AA XY AY hb17 hb18 hs17 ho17 hz17 kx kz
  clear APc0 APc1 APz
  clear Ac0 Ac1 Ac2 Az
  clear Fwc0 Fwc1 Fwc2 Fwz
  clear Xxc0 Xxc1 Xxz
  clear Xzc0 Xzc1 Xzc2 Xzz
  clear Ygc0 Ygc1 Ygc2 Ygz
  have JK := hidX (HK.out.trans (ky.mono (by omega)))
  have JAP := hidX (HAP.out.keep (Keep.of_below ky (by omega)))
  have JA := hidX (HA.out.keep (Keep.of_below ky (by omega)))
  have JRw := hidX (HRw.out.keep (Keep.of_below ky (by omega)))
  have JFw := hidX (HFw.out.keep (Keep.of_below ky (by omega)))
  have JNw := hidX (HNw.out.keep (Keep.of_below ky (by omega)))
  have JRx := hidX (HRx.out.keep (Keep.of_below ky (by omega)))
  have JOx := hidX (HOx.out.keep (Keep.of_below ky (by omega)))
  have JXx := hidX (HXx.out.keep (Keep.of_below ky (by omega)))
  have JRz := hidX (HRz.out.keep (Keep.of_below ky (by omega)))
  have JOz := hidX (HOz.out.keep (Keep.of_below ky (by omega)))
  have JXz := hidX (HXz.out.keep (Keep.of_below ky (by omega)))
  have JRr := hidX (HRr.out.keep (Keep.of_below ky (by omega)))
  have JOr := hidX (HOr.out.keep (Keep.of_below ky (by omega)))
  have JRg := hidX (HRg.out.keep (Keep.of_below ky (by omega)))
  have JNg := hidX (HNg.out.keep (Keep.of_below ky (by omega)))
  have JOg := hidX (HOg.out.keep (Keep.of_below ky (by omega)))
  have JYg := hidX (HYg.out.keep (Keep.of_below ky (by omega)))
  clear HK HAP HA HRw HFw HNw HRx HOx HXx HRz HOz HXz HRr HOr HRg HNg HOg HYg
  have HK := JK
  have HAP := JAP
  have HA := JA
  have HRw := JRw
  have HFw := JFw
  have HNw := JNw
  have HRx := JRx
  have HOx := JOx
  have HXx := JXx
  have HRz := JRz
  have HOz := JOz
  have HXz := JXz
  have HRr := JRr
  have HOr := JOr
  have HRg := JRg
  have HNg := JNg
  have HOg := JOg
  have HYg := JYg
  clear JK JAP JA JRw JFw JNw JRx JOx JXx JRz JOz JXz JRr JOr JRg JNg JOg JYg
  clear ky
  obtain ⟨APc0, APc1⟩ := HAP.out
  have APz : w.heap.size < w18.heap.size := by omega
  obtain ⟨Ac0, Ac1, Ac2⟩ := HA.out
  have Az : w.heap.size + 1 < w18.heap.size := by omega
  obtain ⟨Fwc0, Fwc1, Fwc2⟩ := HFw.out
  have Fwz : bow < w18.heap.size := by omega
  obtain ⟨Xxc0, Xxc1⟩ := HXx.out
  have Xxz : w6.heap.size < w18.heap.size := by omega
  obtain ⟨Xzc0, Xzc1, Xzc2⟩ := HXz.out
  have Xzz : w8.heap.size < w18.heap.size := by omega
  obtain ⟨Ygc0, Ygc1, Ygc2⟩ := HYg.out
  have Ygz : w11.heap.size < w18.heap.size := by omega
  go_wp2_with fail
  refine (toIntS_own' s4 c4 0 w.heap.size ks w18 (H4.out.keep (Keep.of_below HK.out (Nat.le_refl _))) (by omega) n4).mono ?_
  rintro e w19 ⟨xq, rfl, ho19, hb19, z19⟩
  have zz19 := hb19.size
  clear APc0 APc1 APz
  clear Ac0 Ac1 Ac2 Az
  clear Fwc0 Fwc1 Fwc2 Fwz
  clear Xxc0 Xxc1 Xxz
  clear Xzc0 Xzc1 Xzc2 Xzz
  clear Ygc0 Ygc1 Ygc2 Ygz
  have JK := hidX (HK.out.trans (hb19.mono (by omega)))
  have JAP := hidX (HAP.out.keep (Keep.of_below hb19 (by omega)))
  have JA := hidX (HA.out.keep (Keep.of_below hb19 (by omega)))
  have JRw := hidX (HRw.out.keep (Keep.of_below hb19 (by omega)))
  have JFw := hidX (HFw.out.keep (Keep.of_below hb19 (by omega)))
  have JNw := hidX (HNw.out.keep (Keep.of_below hb19 (by omega)))
  have JRx := hidX (HRx.out.keep (Keep.of_below hb19 (by omega)))
  have JOx := hidX (HOx.out.keep (Keep.of_below hb19 (by omega)))
  have JXx := hidX (HXx.out.keep (Keep.of_below hb19 (by omega)))
  have JRz := hidX (HRz.out.keep (Keep.of_below hb19 (by omega)))
  have JOz := hidX (HOz.out.keep (Keep.of_below hb19 (by omega)))
  have JXz := hidX (HXz.out.keep (Keep.of_below hb19 (by omega)))
  have JRr := hidX (HRr.out.keep (Keep.of_below hb19 (by omega)))
  have JOr := hidX (HOr.out.keep (Keep.of_below hb19 (by omega)))
  have JRg := hidX (HRg.out.keep (Keep.of_below hb19 (by omega)))
  have JNg := hidX (HNg.out.keep (Keep.of_below hb19 (by omega)))
  have JOg := hidX (HOg.out.keep (Keep.of_below hb19 (by omega)))
  have JYg := hidX (HYg.out.keep (Keep.of_below hb19 (by omega)))
  clear HK HAP HA HRw HFw HNw HRx HOx HXx HRz HOz HXz HRr HOr HRg HNg HOg HYg
  have HK := JK
  have HAP := JAP
  have HA := JA
  have HRw := JRw
  have HFw := JFw
  have HNw := JNw
  have HRx := JRx
  have HOx := JOx
  have HXx := JXx
  have HRz := JRz
  have HOz := JOz
  have HXz := JXz
  have HRr := JRr
  have HOr := JOr
  have HRg := JRg
  have HNg := JNg
  have HOg := JOg
  have HYg := JYg
  clear JK JAP JA JRw JFw JNw JRx JOx JXx JRz JOz JXz JRr JOr JRg JNg JOg JYg
  have HRq : Hid (IntsR w19 w18.heap.size w19.heap.size (some ⟨xq, 0, none⟩) ks) := ho19.intsG
  clear hb19 ho19
  obtain ⟨APc0, APc1⟩ := HAP.out
  have APz : w.heap.size < w19.heap.size := by omega
  obtain ⟨Ac0, Ac1, Ac2⟩ := HA.out
  have Az : w.heap.size + 1 < w19.heap.size := by omega
  obtain ⟨Fwc0, Fwc1, Fwc2⟩ := HFw.out
  have Fwz : bow < w19.heap.size := by omega
  obtain ⟨Xxc0, Xxc1⟩ := HXx.out
  have Xxz : w6.heap.size < w19.heap.size := by omega
  obtain ⟨Xzc0, Xzc1, Xzc2⟩ := HXz.out
  have Xzz : w8.heap.size < w19.heap.size := by omega
  obtain ⟨Ygc0, Ygc1, Ygc2⟩ := HYg.out
  have Ygz : w11.heap.size < w19.heap.size := by omega
  go_wp2_with fail
  refine (eqN_true ks.length ks.length HRr.out HRq.out (by omega) (by omega) (by omega)).mono ?_
  rintro e w20 ⟨rfl, hb20⟩
  have z20 := hb20.size
  clear APc0 APc1 APz
  clear Ac0 Ac1 Ac2 Az
  clear Fwc0 Fwc1 Fwc2 Fwz
  clear Xxc0 Xxc1 Xxz
  clear Xzc0 Xzc1 Xzc2 Xzz
  clear Ygc0 Ygc1 Ygc2 Ygz
  have JK := hidX (HK.out.trans (hb20.mono (by omega)))
  have JAP := hidX (HAP.out.keep (Keep.of_below hb20 (by omega)))
  have JA := hidX (HA.out.keep (Keep.of_below hb20 (by omega)))
  have JRw := hidX (HRw.out.keep (Keep.of_below hb20 (by omega)))
  have JFw := hidX (HFw.out.keep (Keep.of_below hb20 (by omega)))
  have JNw := hidX (HNw.out.keep (Keep.of_below hb20 (by omega)))
  have JRx := hidX (HRx.out.keep (Keep.of_below hb20 (by omega)))
  have JOx := hidX (HOx.out.keep (Keep.of_below hb20 (by omega)))
  have JXx := hidX (HXx.out.keep (Keep.of_below hb20 (by omega)))
  have JRz := hidX (HRz.out.keep (Keep.of_below hb20 (by omega)))
  have JOz := hidX (HOz.out.keep (Keep.of_below hb20 (by omega)))
  have JXz := hidX (HXz.out.keep (Keep.of_below hb20 (by omega)))
  have JRr := hidX (HRr.out.keep (Keep.of_below hb20 (by omega)))
  have JOr := hidX (HOr.out.keep (Keep.of_below hb20 (by omega)))
  have JRg := hidX (HRg.out.keep (Keep.of_below hb20 (by omega)))
  have JNg := hidX (HNg.out.keep (Keep.of_below hb20 (by omega)))
  have JOg := hidX (HOg.out.keep (Keep.of_below hb20 (by omega)))
  have JYg := hidX (HYg.out.keep (Keep.of_below hb20 (by omega)))
  have JRq := hidX (HRq.out.keep (Keep.of_below hb20 (by omega)))
  clear HK HAP HA HRw HFw HNw HRx HOx HXx HRz HOz HXz HRr HOr HRg HNg HOg HYg HRq
  have HK := JK
  have HAP := JAP
  have HA := JA
  have HRw := JRw
  have HFw := JFw
  have HNw := JNw
  have HRx := JRx
  have HOx := JOx
  have HXx := JXx
  have HRz := JRz
  have HOz := JOz
  have HXz := JXz
  have HRr := JRr
  have HOr := JOr
  have HRg := JRg
  have HNg := JNg
  have HOg := JOg
  have HYg := JYg
  have HRq := JRq
  clear JK JAP JA JRw JFw JNw JRx JOx JXx JRz JOz JXz JRr JOr JRg JNg JOg JYg JRq
  clear hb20
  obtain ⟨APc0, APc1⟩ := HAP.out
  have APz : w.heap.size < w20.heap.size := by omega
  obtain ⟨Ac0, Ac1, Ac2⟩ := HA.out
  have Az : w.heap.size + 1 < w20.heap.size := by omega
  obtain ⟨Fwc0, Fwc1, Fwc2⟩ := HFw.out
  have Fwz : bow < w20.heap.size := by omega
  obtain ⟨Xxc0, Xxc1⟩ := HXx.out
  have Xxz : w6.heap.size < w20.heap.size := by omega
  obtain ⟨Xzc0, Xzc1, Xzc2⟩ := HXz.out
  have Xzz : w8.heap.size < w20.heap.size := by omega
  obtain ⟨Ygc0, Ygc1, Ygc2⟩ := HYg.out
  have Ygz : w11.heap.size < w20.heap.size := by omega
  go_wp2_with fail
  refine (markProg_exc 1 HOx.out FP.out (by omega) (by omega)).mono ?_
  rintro e w21 ⟨rk, rfl, rk0, rk1, ex21⟩
  have z21 := ex21.size
  clear APc0 APc1 APz
  clear Ac0 Ac1 Ac2 Az
  clear Fwc0 Fwc1 Fwc2 Fwz
  clear Xxc0 Xxc1 Xxz
  clear Xzc0 Xzc1 Xzc2 Xzz
  clear Ygc0 Ygc1 Ygc2 Ygz
  have JK := hidX (HK.out.trans (ex21.below (by omega) (by omega)))
  have JAP := hidX (HAP.out.keep (Keep.of_exc ex21 (by omega) (by omega)))
  have JA := hidX (HA.out.keep (Keep.of_exc ex21 (by omega) (by omega)))
  have JRw := hidX (HRw.out.keep (Keep.of_exc ex21 (by omega) (by omega)))
  have JFw := hidX (HFw.out.keep (Keep.of_exc ex21 (by omega) (by omega)))
  have JNw := hidX (HNw.out.keep (Keep.of_exc ex21 (by omega) (by omega)))
  have JXx := hidX (HXx.out.keep (Keep.of_exc ex21 (by omega) (by omega)))
  have JRz := hidX (HRz.out.keep (Keep.of_exc ex21 (by omega) (by omega)))
  have JOz := hidX (HOz.out.keep (Keep.of_exc ex21 (by omega) (by omega)))
  have JXz := hidX (HXz.out.keep (Keep.of_exc ex21 (by omega) (by omega)))
  have JRr := hidX (HRr.out.keep (Keep.of_exc ex21 (by omega) (by omega)))
  have JOr := hidX (HOr.out.keep (Keep.of_exc ex21 (by omega) (by omega)))
  have JRg := hidX (HRg.out.keep (Keep.of_exc ex21 (by omega) (by omega)))
  have JNg := hidX (HNg.out.keep (Keep.of_exc ex21 (by omega) (by omega)))
  have JOg := hidX (HOg.out.keep (Keep.of_exc ex21 (by omega) (by omega)))
  have JYg := hidX (HYg.out.keep (Keep.of_exc ex21 (by omega) (by omega)))
  have JRq := hidX (HRq.out.keep (Keep.of_exc ex21 (by omega) (by omega)))
  clear HK HAP HA HRw HFw HNw HRx HOx HXx HRz HOz HXz HRr HOr HRg HNg HOg HYg HRq
  have HK := JK
  have HAP := JAP
  have HA := JA
  have HRw := JRw
  have HFw := JFw
  have HNw := JNw
  have HXx := JXx
  have HRz := JRz
  have HOz := JOz
  have HXz := JXz
  have HRr := JRr
  have HOr := JOr
  have HRg := JRg
  have HNg := JNg
  have HOg := JOg
  have HYg := JYg
  have HRq := JRq
  clear JK JAP JA JRw JFw JNw JXx JRz JOz JXz JRr JOr JRg JNg JOg JYg JRq
  clear ex21
  obtain ⟨APc0, APc1⟩ := HAP.out
  have APz : w.heap.size < w21.heap.size := by omega
  obtain ⟨Ac0, Ac1, Ac2⟩ := HA.out
  have Az : w.heap.size + 1 < w21.heap.size := by omega
  obtain ⟨Fwc0, Fwc1, Fwc2⟩ := HFw.out
  have Fwz : bow < w21.heap.size := by omega
  obtain ⟨Xxc0, Xxc1⟩ := HXx.out
  have Xxz : w6.heap.size < w21.heap.size := by omega
  obtain ⟨Xzc0, Xzc1, Xzc2⟩ := HXz.out
  have Xzz : w8.heap.size < w21.heap.size := by omega
  obtain ⟨Ygc0, Ygc1, Ygc2⟩ := HYg.out
  have Ygz : w11.heap.size < w21.heap.size := by omega
  go_wp2_with fail
  have rz := HOz.out.room FS.out
  have f3 := FS.out.2.2
  refine (markSource_exc rk HOz.out FS.out (by omega) (by omega)).mono ?_
  rintro e w22 ⟨rfl, -, ex22⟩
  have z22 := ex22.size
  obtain ⟨mk, hmk⟩ : ∃ m : Int, rk + (sumQ Laz : Int) + sumQ Lbz + 2 * d.tr.length = m := ⟨_, rfl⟩
  have mk0 : ¬ mk < 0 := by omega
  have mk1 : mk ≤ 900000000000000 := by omega
  rw [hmk]
  clear hmk rz f3
  clear APc0 APc1 APz
  clear Ac0 Ac1 Ac2 Az
  clear Fwc0 Fwc1 Fwc2 Fwz
  clear Xxc0 Xxc1 Xxz
  clear Xzc0 Xzc1 Xzc2 Xzz
  clear Ygc0 Ygc1 Ygc2 Ygz
  have JK := hidX (HK.out.trans (ex22.below (by omega) (by omega)))
  have JAP := hidX (HAP.out.keep (Keep.of_exc ex22 (by omega) (by omega)))
  have JA := hidX (HA.out.keep (Keep.of_exc ex22 (by omega) (by omega)))
  have JRw := hidX (HRw.out.keep (Keep.of_exc ex22 (by omega) (by omega)))
  have JFw := hidX (HFw.out.keep (Keep.of_exc ex22 (by omega) (by omega)))
  have JNw := hidX (HNw.out.keep (Keep.of_exc ex22 (by omega) (by omega)))
  have JXx := hidX (HXx.out.keep (Keep.of_exc ex22 (by omega) (by omega)))
  have JXz := hidX (HXz.out.keep (Keep.of_exc ex22 (by omega) (by omega)))
  have JRr := hidX (HRr.out.keep (Keep.of_exc ex22 (by omega) (by omega)))
  have JOr := hidX (HOr.out.keep (Keep.of_exc ex22 (by omega) (by omega)))
  have JRg := hidX (HRg.out.keep (Keep.of_exc ex22 (by omega) (by omega)))
  have JNg := hidX (HNg.out.keep (Keep.of_exc ex22 (by omega) (by omega)))
  have JOg := hidX (HOg.out.keep (Keep.of_exc ex22 (by omega) (by omega)))
  have JYg := hidX (HYg.out.keep (Keep.of_exc ex22 (by omega) (by omega)))
  have JRq := hidX (HRq.out.keep (Keep.of_exc ex22 (by omega) (by omega)))
  clear HK HAP HA HRw HFw HNw HXx HRz HOz HXz HRr HOr HRg HNg HOg HYg HRq
  have HK := JK
  have HAP := JAP
  have HA := JA
  have HRw := JRw
  have HFw := JFw
  have HNw := JNw
  have HXx := JXx
  have HXz := JXz
  have HRr := JRr
  have HOr := JOr
  have HRg := JRg
  have HNg := JNg
  have HOg := JOg
  have HYg := JYg
  have HRq := JRq
  clear JK JAP JA JRw JFw JNw JXx JXz JRr JOr JRg JNg JOg JYg JRq
  clear ex22
  obtain ⟨APc0, APc1⟩ := HAP.out
  have APz : w.heap.size < w22.heap.size := by omega
  obtain ⟨Ac0, Ac1, Ac2⟩ := HA.out
  have Az : w.heap.size + 1 < w22.heap.size := by omega
  obtain ⟨Fwc0, Fwc1, Fwc2⟩ := HFw.out
  have Fwz : bow < w22.heap.size := by omega
  obtain ⟨Xxc0, Xxc1⟩ := HXx.out
  have Xxz : w6.heap.size < w22.heap.size := by omega
  obtain ⟨Xzc0, Xzc1, Xzc2⟩ := HXz.out
  have Xzz : w8.heap.size < w22.heap.size := by omega
  obtain ⟨Ygc0, Ygc1, Ygc2⟩ := HYg.out
  have Ygz : w11.heap.size < w22.heap.size := by omega
  go_wp2_with fail
  refine (markN_exc mk HOr.out (by omega) (by omega) (by omega)).mono ?_
  rintro e w23 ⟨rfl, -, ex23⟩
  have z23 := ex23.size
  obtain ⟨mj, hmj⟩ : ∃ m : Int, mk + (ks.length : Int) = m := ⟨_, rfl⟩
  have mj0 : ¬ mj < 0 := by omega
  rw [hmj]
  clear hmj mk1
  clear APc0 APc1 APz
  clear Ac0 Ac1 Ac2 Az
  clear Fwc0 Fwc1 Fwc2 Fwz
  clear Xxc0 Xxc1 Xxz
  clear Xzc0 Xzc1 Xzc2 Xzz
  clear Ygc0 Ygc1 Ygc2 Ygz
  have JK := hidX (HK.out.trans (ex23.below (by omega) (by omega)))
  have JAP := hidX (HAP.out.keep (Keep.of_exc ex23 (by omega) (by omega)))
  have JA := hidX (HA.out.keep (Keep.of_exc ex23 (by omega) (by omega)))
  have JRw := hidX (HRw.out.keep (Keep.of_exc ex23 (by omega) (by omega)))
  have JFw := hidX (HFw.out.keep (Keep.of_exc ex23 (by omega) (by omega)))
  have JNw := hidX (HNw.out.keep (Keep.of_exc ex23 (by omega) (by omega)))
  have JXx := hidX (HXx.out.keep (Keep.of_exc ex23 (by omega) (by omega)))
  have JXz := hidX (HXz.out.keep (Keep.of_exc ex23 (by omega) (by omega)))
  have JRg := hidX (HRg.out.keep (Keep.of_exc ex23 (by omega) (by omega)))
  have JNg := hidX (HNg.out.keep (Keep.of_exc ex23 (by omega) (by omega)))
  have JOg := hidX (HOg.out.keep (Keep.of_exc ex23 (by omega) (by omega)))
  have JYg := hidX (HYg.out.keep (Keep.of_exc ex23 (by omega) (by omega)))
  have JRq := hidX (HRq.out.keep (Keep.of_exc ex23 (by omega) (by omega)))
  clear HK HAP HA HRw HFw HNw HXx HXz HRr HOr HRg HNg HOg HYg HRq
  have HK := JK
  have HAP := JAP
  have HA := JA
  have HRw := JRw
  have HFw := JFw
  have HNw := JNw
  have HXx := JXx
  have HXz := JXz
  have HRg := JRg
  have HNg := JNg
  have HOg := JOg
  have HYg := JYg
  have HRq := JRq
  clear JK JAP JA JRw JFw JNw JXx JXz JRg JNg JOg JYg JRq
  clear ex23
  obtain ⟨APc0, APc1⟩ := HAP.out
  have APz : w.heap.size < w23.heap.size := by omega
  obtain ⟨Ac0, Ac1, Ac2⟩ := HA.out
  have Az : w.heap.size + 1 < w23.heap.size := by omega
  obtain ⟨Fwc0, Fwc1, Fwc2⟩ := HFw.out
  have Fwz : bow < w23.heap.size := by omega
  obtain ⟨Xxc0, Xxc1⟩ := HXx.out
  have Xxz : w6.heap.size < w23.heap.size := by omega
  obtain ⟨Xzc0, Xzc1, Xzc2⟩ := HXz.out
  have Xzz : w8.heap.size < w23.heap.size := by omega
  obtain ⟨Ygc0, Ygc1, Ygc2⟩ := HYg.out
  have Ygz : w11.heap.size < w23.heap.size := by omega
  go_wp2_with fail
  refine (eqSource_alike xg1 xg2 xg3 xw1 xw2 xw3 _ _ _ _ _ _ w10.heap.size w11.heap.size w4.heap.size w5.heap.size DD w23 HRg.out HRw.out (by omega) (by omega) FD.out).mono ?_
  rintro e w24 ⟨rfl, hb24⟩
  have z24 := hb24.size
  clear APc0 APc1 APz
  clear Ac0 Ac1 Ac2 Az
  clear Fwc0 Fwc1 Fwc2 Fwz
  clear Xxc0 Xxc1 Xxz
  clear Xzc0 Xzc1 Xzc2 Xzz
  clear Ygc0 Ygc1 Ygc2 Ygz
  have JK := hidX (HK.out.trans (hb24.mono (by omega)))
  have JAP := hidX (HAP.out.keep (Keep.of_below hb24 (by omega)))
  have JA := hidX (HA.out.keep (Keep.of_below hb24 (by omega)))
  have JRw := hidX (HRw.out.keep (Keep.of_below hb24 (by omega)))
  have JFw := hidX (HFw.out.keep (Keep.of_below hb24 (by omega)))
  have JNw := hidX (HNw.out.keep (Keep.of_below hb24 (by omega)))
  have JXx := hidX (HXx.out.keep (Keep.of_below hb24 (by omega)))
  have JXz := hidX (HXz.out.keep (Keep.of_below hb24 (by omega)))
  have JRg := hidX (HRg.out.keep (Keep.of_below hb24 (by omega)))
  have JNg := hidX (HNg.out.keep (Keep.of_below hb24 (by omega)))
  have JOg := hidX (HOg.out.keep (Keep.of_below hb24 (by omega)))
  have JYg := hidX (HYg.out.keep (Keep.of_below hb24 (by omega)))
  have JRq := hidX (HRq.out.keep (Keep.of_below hb24 (by omega)))
  clear HK HAP HA HRw HFw HNw HXx HXz HRg HNg HOg HYg HRq
  have HK := JK
  have HAP := JAP
  have HA := JA
  have HRw := JRw
  have HFw := JFw
  have HNw := JNw
  have HXx := JXx
  have HXz := JXz
  have HRg := JRg
  have HNg := JNg
  have HOg := JOg
  have HYg := JYg
  have HRq := JRq
  clear JK JAP JA JRw JFw JNw JXx JXz JRg JNg JOg JYg JRq
  clear hb24
  obtain ⟨APc0, APc1⟩ := HAP.out
  have APz : w.heap.size < w24.heap.size := by omega
  obtain ⟨Ac0, Ac1, Ac2⟩ := HA.out
  have Az : w.heap.size + 1 < w24.heap.size := by omega
  obtain ⟨Fwc0, Fwc1, Fwc2⟩ := HFw.out
  have Fwz : bow < w24.heap.size := by omega
  obtain ⟨Xxc0, Xxc1⟩ := HXx.out
  have Xxz : w6.heap.size < w24.heap.size := by omega
  obtain ⟨Xzc0, Xzc1, Xzc2⟩ := HXz.out
  have Xzz : w8.heap.size < w24.heap.size := by omega
  obtain ⟨Ygc0, Ygc1, Ygc2⟩ := HYg.out
  have Ygz : w11.heap.size < w24.heap.size := by omega
  go_wp2_with fail
  refine (eqN_true yg4 yw4 HNg.out HNw.out (by omega) (by omega) (by have := HCL.out; omega)).mono ?_
  rintro e w25 ⟨rfl, hb25⟩
  have z25 := hb25.size
  clear APc0 APc1 APz
  clear Ac0 Ac1 Ac2 Az
  clear Fwc0 Fwc1 Fwc2 Fwz
  clear Xxc0 Xxc1 Xxz
  clear Xzc0 Xzc1 Xzc2 Xzz
  clear Ygc0 Ygc1 Ygc2 Ygz
  have JK := hidX (HK.out.trans (hb25.mono (by omega)))
  have JAP := hidX (HAP.out.keep (Keep.of_below hb25 (by omega)))
  have JA := hidX (HA.out.keep (Keep.of_below hb25 (by omega)))
  have JRw := hidX (HRw.out.keep (Keep.of_below hb25 (by omega)))
  have JFw := hidX (HFw.out.keep (Keep.of_below hb25 (by omega)))
  have JNw := hidX (HNw.out.keep (Keep.of_below hb25 (by omega)))
  have JXx := hidX (HXx.out.keep (Keep.of_below hb25 (by omega)))
  have JXz := hidX (HXz.out.keep (Keep.of_below hb25 (by omega)))
  have JRg := hidX (HRg.out.keep (Keep.of_below hb25 (by omega)))
  have JNg := hidX (HNg.out.keep (Keep.of_below hb25 (by omega)))
  have JOg := hidX (HOg.out.keep (Keep.of_below hb25 (by omega)))
  have JYg := hidX (HYg.out.keep (Keep.of_below hb25 (by omega)))
  have JRq := hidX (HRq.out.keep (Keep.of_below hb25 (by omega)))
  clear HK HAP HA HRw HFw HNw HXx HXz HRg HNg HOg HYg HRq
  have HK := JK
  have HAP := JAP
  have HA := JA
  have HRw := JRw
  have HFw := JFw
  have HNw := JNw
  have HXx := JXx
  have HXz := JXz
  have HRg := JRg
  have HNg := JNg
  have HOg := JOg
  have HYg := JYg
  have HRq := JRq
  clear JK JAP JA JRw JFw JNw JXx JXz JRg JNg JOg JYg JRq
  clear hb25
  obtain ⟨APc0, APc1⟩ := HAP.out
  have APz : w.heap.size < w25.heap.size := by omega
  obtain ⟨Ac0, Ac1, Ac2⟩ := HA.out
  have Az : w.heap.size + 1 < w25.heap.size := by omega
  obtain ⟨Fwc0, Fwc1, Fwc2⟩ := HFw.out
  have Fwz : bow < w25.heap.size := by omega
  obtain ⟨Xxc0, Xxc1⟩ := HXx.out
  have Xxz : w6.heap.size < w25.heap.size := by omega
  obtain ⟨Xzc0, Xzc1, Xzc2⟩ := HXz.out
  have Xzz : w8.heap.size < w25.heap.size := by omega
  obtain ⟨Ygc0, Ygc1, Ygc2⟩ := HYg.out
  have Ygz : w11.heap.size < w25.heap.size := by omega
  go_wp2_with fail
  have rm := HOg.out.o.room FD.out
  have f3 := FD.out.2.2
  have RM : Hid (sumQ Lag ≤ 2000000000000 ∧ sumQ Lbg ≤ 2000000000000 ∧ DD.tr.length ≤ 1048576) := ⟨rm.1, rm.2, f3⟩
  have LL : Hid (Lag.length ≤ 1048577 ∧ (∀ (i : Nat) (x : Rec × Value), Lag[i]? = some x → x.1.l.length ≤ 1048577) ∧ Lbg.length ≤ 1048577 ∧ (∀ (i : Nat) (x : Rec × Value), Lbg[i]? = some x → x.1.l.length ≤ 1048577) ∧ DD.tr.length ≤ 1048577) := HOg.out.o.lens FD.out
  clear rm f3
  refine (markSN HOg.out FD.out).mono ?_
  rintro e w26 ⟨rfl, hm26, ex26⟩
  have z26 := ex26.size
  clear APc0 APc1 APz
  clear Ac0 Ac1 Ac2 Az
  clear Fwc0 Fwc1 Fwc2 Fwz
  clear Xxc0 Xxc1 Xxz
  clear Xzc0 Xzc1 Xzc2 Xzz
  clear Ygc0 Ygc1 Ygc2 Ygz
  have JK := hidX (HK.out.trans (ex26.below (by omega) (by omega)))
  have JAP := hidX (HAP.out.keep (Keep.of_exc ex26 (by omega) (by omega)))
  have JA := hidX (HA.out.keep (Keep.of_exc ex26 (by omega) (by omega)))
  have JRw := hidX (HRw.out.keep (Keep.of_exc ex26 (by omega) (by omega)))
  have JFw := hidX (HFw.out.keep (Keep.of_exc ex26 (by omega) (by omega)))
  have JNw := hidX (HNw.out.keep (Keep.of_exc ex26 (by omega) (by omega)))
  have JXx := hidX (HXx.out.keep (Keep.of_exc ex26 (by omega) (by omega)))
  have JXz := hidX (HXz.out.keep (Keep.of_exc ex26 (by omega) (by omega)))
  have JYg := hidX (HYg.out.keep (Keep.of_exc ex26 (by omega) (by omega)))
  have JRq := hidX (HRq.out.keep (Keep.of_exc ex26 (by omega) (by omega)))
  clear HK HAP HA HRw HFw HNw HXx HXz HRg HNg HOg HYg HRq
  have HK := JK
  have HAP := JAP
  have HA := JA
  have HRw := JRw
  have HFw := JFw
  have HNw := JNw
  have HXx := JXx
  have HXz := JXz
  have HYg := JYg
  have HRq := JRq
  clear JK JAP JA JRw JFw JNw JXx JXz JYg JRq
  have HE : Hid (MN w26 w10.heap.size w11.heap.size (.slice xg1 DD.ths.length yg1) (.slice xg2 DD.chs.length yg2) (.slice xg3 DD.tr.length yg3) Lag Lbg DD.tr.length (.slice xg4 CC.length yg4) (CC)) := hm26
  clear ex26 hm26
  obtain ⟨mm, hmm⟩ : ∃ m : Int, 1 + (sumQ Lag : Int) + sumQ Lbg + 2 * DD.tr.length = m := ⟨_, rfl⟩
  have HMM := hidX hmm
  have mm0 : ¬ mm < 0 := by omega
  have mm1 : mm ≤ 900000000000000 := by have := RM.out; omega
  rw [hmm]
  clear hmm
  obtain ⟨APc0, APc1⟩ := HAP.out
  have APz : w.heap.size < w26.heap.size := by omega
  obtain ⟨Ac0, Ac1, Ac2⟩ := HA.out
  have Az : w.heap.size + 1 < w26.heap.size := by omega
  obtain ⟨Fwc0, Fwc1, Fwc2⟩ := HFw.out
  have Fwz : bow < w26.heap.size := by omega
  obtain ⟨Xxc0, Xxc1⟩ := HXx.out
  have Xxz : w6.heap.size < w26.heap.size := by omega
  obtain ⟨Xzc0, Xzc1, Xzc2⟩ := HXz.out
  have Xzz : w8.heap.size < w26.heap.size := by omega
  obtain ⟨Ygc0, Ygc1, Ygc2⟩ := HYg.out
  have Ygz : w11.heap.size < w26.heap.size := by omega
  go_wp2_with fail
  refine (markMN mm HE.out (by have := HCL.out; omega) (by omega) (by omega)).mono ?_
  rintro e w27 ⟨rfl, hm27, ex27⟩
  have z27 := ex27.size
  clear APc0 APc1 APz
  clear Ac0 Ac1 Ac2 Az
  clear Fwc0 Fwc1 Fwc2 Fwz
  clear Xxc0 Xxc1 Xxz
  clear Xzc0 Xzc1 Xzc2 Xzz
  clear Ygc0 Ygc1 Ygc2 Ygz
  have JK := hidX (HK.out.trans (ex27.below (by omega) (by omega)))
  have JAP := hidX (HAP.out.keep (Keep.of_exc ex27 (by omega) (by omega)))
  have JA := hidX (HA.out.keep (Keep.of_exc ex27 (by omega) (by omega)))
  have JRw := hidX (HRw.out.keep (Keep.of_exc ex27 (by omega) (by omega)))
  have JFw := hidX (HFw.out.keep (Keep.of_exc ex27 (by omega) (by omega)))
  have JNw := hidX (HNw.out.keep (Keep.of_exc ex27 (by omega) (by omega)))
  have JXx := hidX (HXx.out.keep (Keep.of_exc ex27 (by omega) (by omega)))
  have JXz := hidX (HXz.out.keep (Keep.of_exc ex27 (by omega) (by omega)))
  have JYg := hidX (HYg.out.keep (Keep.of_exc ex27 (by omega) (by omega)))
  have JRq := hidX (HRq.out.keep (Keep.of_exc ex27 (by omega) (by omega)))
  clear HK HAP HA HRw HFw HNw HXx HXz HYg HRq HE
  have HK := JK
  have HAP := JAP
  have HA := JA
  have HRw := JRw
  have HFw := JFw
  have HNw := JNw
  have HXx := JXx
  have HXz := JXz
  have HYg := JYg
  have HRq := JRq
  clear JK JAP JA JRw JFw JNw JXx JXz JYg JRq
  have HD : Hid (MN w27 w10.heap.size w11.heap.size (.slice xg1 DD.ths.length yg1) (.slice xg2 DD.chs.length yg2) (.slice xg3 DD.tr.length yg3) Lag Lbg DD.tr.length (.slice xg4 CC.length yg4) (relN mm CC.length)) := hm27
  clear ex27 hm27
  obtain ⟨mn, hmn⟩ : ∃ m : Int, mm + (CC.length : Int) = m := ⟨_, rfl⟩
  have HMN := hidX hmn
  have mn0 : ¬ mn < 0 := by omega
  have mnn : (mn != mn) = false := by simp
  rw [hmn]
  clear hmn
  obtain ⟨APc0, APc1⟩ := HAP.out
  have APz : w.heap.size < w27.heap.size := by omega
  obtain ⟨Ac0, Ac1, Ac2⟩ := HA.out
  have Az : w.heap.size + 1 < w27.heap.size := by omega
  obtain ⟨Fwc0, Fwc1, Fwc2⟩ := HFw.out
  have Fwz : bow < w27.heap.size := by omega
  obtain ⟨Xxc0, Xxc1⟩ := HXx.out
  have Xxz : w6.heap.size < w27.heap.size := by omega
  obtain ⟨Xzc0, Xzc1, Xzc2⟩ := HXz.out
  have Xzz : w8.heap.size < w27.heap.size := by omega
  obtain ⟨Ygc0, Ygc1, Ygc2⟩ := HYg.out
  have Ygz : w11.heap.size < w27.heap.size := by omega
  go_wp2_with fail
  refine (heldSource_any w10.heap.size _ _ _ Lag Lbg _ 1 w27 HD.out.o.o LL.out.1 LL.out.2.1 LL.out.2.2.1 LL.out.2.2.2.1 LL.out.2.2.2.2 (by omega) (by have := RM.out; omega)).mono ?_
  rintro e w28 ⟨rfl, hb28⟩
  have z28 := hb28.size
  clear APc0 APc1 APz
  clear Ac0 Ac1 Ac2 Az
  clear Fwc0 Fwc1 Fwc2 Fwz
  clear Xxc0 Xxc1 Xxz
  clear Xzc0 Xzc1 Xzc2 Xzz
  clear Ygc0 Ygc1 Ygc2 Ygz
  have JK := hidX (HK.out.trans (hb28.mono (by omega)))
  have JAP := hidX (HAP.out.keep (Keep.of_below hb28 (by omega)))
  have JA := hidX (HA.out.keep (Keep.of_below hb28 (by omega)))
  have JRw := hidX (HRw.out.keep (Keep.of_below hb28 (by omega)))
  have JFw := hidX (HFw.out.keep (Keep.of_below hb28 (by omega)))
  have JNw := hidX (HNw.out.keep (Keep.of_below hb28 (by omega)))
  have JXx := hidX (HXx.out.keep (Keep.of_below hb28 (by omega)))
  have JXz := hidX (HXz.out.keep (Keep.of_below hb28 (by omega)))
  have JYg := hidX (HYg.out.keep (Keep.of_below hb28 (by omega)))
  have JRq := hidX (HRq.out.keep (Keep.of_below hb28 (by omega)))
  have JD := hidX (HD.out.keep (Keep.of_below hb28 (by omega)))
  clear HK HAP HA HRw HFw HNw HXx HXz HYg HRq HD
  have HK := JK
  have HAP := JAP
  have HA := JA
  have HRw := JRw
  have HFw := JFw
  have HNw := JNw
  have HXx := JXx
  have HXz := JXz
  have HYg := JYg
  have HRq := JRq
  have HD := JD
  clear JK JAP JA JRw JFw JNw JXx JXz JYg JRq JD
  clear hb28
  rw [HMM.out]
  obtain ⟨APc0, APc1⟩ := HAP.out
  have APz : w.heap.size < w28.heap.size := by omega
  obtain ⟨Ac0, Ac1, Ac2⟩ := HA.out
  have Az : w.heap.size + 1 < w28.heap.size := by omega
  obtain ⟨Fwc0, Fwc1, Fwc2⟩ := HFw.out
  have Fwz : bow < w28.heap.size := by omega
  obtain ⟨Xxc0, Xxc1⟩ := HXx.out
  have Xxz : w6.heap.size < w28.heap.size := by omega
  obtain ⟨Xzc0, Xzc1, Xzc2⟩ := HXz.out
  have Xzz : w8.heap.size < w28.heap.size := by omega
  obtain ⟨Ygc0, Ygc1, Ygc2⟩ := HYg.out
  have Ygz : w11.heap.size < w28.heap.size := by omega
  go_wp2_with fail
  refine (heldN_any w10.heap.size _ CC.length mm w28 HD.out.n.o (by have := HCL.out; omega) (by omega) (by omega)).mono ?_
  rintro e w29 ⟨rfl, hw29⟩
  rw [hw29, HMN.out]
  clear hw29 w29
  go_wp2_with fail
  have RB : Hid (∀ X, Below w28.heap.size w28 X → X.cell? ⟨w.heap.size, 0, none⟩ = some (.slice p1 p.caps.length a1) ∧ X.cell? ⟨w.heap.size, 1, none⟩ = some (.slice p2 p.bods.length a2) ∧ X.cell? ⟨w.heap.size + 1, 0, none⟩ = some (.slice s1 d.ths.length c1) ∧ X.cell? ⟨w.heap.size + 1, 1, none⟩ = some (.slice s2 d.chs.length c2) ∧ X.cell? ⟨w.heap.size + 1, 2, none⟩ = some (.slice s3 d.tr.length c3)) := fun X hX => by
   have qP := HAP.out.keep (Keep.of_below hX (by omega))
   have qS := HA.out.keep (Keep.of_below hX (by omega))
   exact ⟨qP.c0, qP.c1, qS.c0, qS.c1, qS.c2⟩
  have CP : Hid (∀ (X0 : World) (pB : Option Nat), Below w28.heap.size w28 X0 → BoxA X0 pB → Calls Tryz.prog 10 #[.agg #[.slice p1 p.caps.length a1, .slice p2 p.bods.length a2]] X0 fun e w' => ∃ (f1 f2 : Option Addr) (lo hi : Nat), e = .returned (.agg #[.slice f1 p.caps.length p.caps.length, .slice f2 p.bods.length p.bods.length]) ∧ hi ≤ w'.heap.size ∧ Below w28.heap.size w28 w' ∧ Hid (ProgR w' lo hi f1 f2 p) ∧ Hid (BoxA w' pB) ∧ w'.cell? ⟨w.heap.size, 0, none⟩ = some (.slice p1 p.caps.length a1) ∧ w'.cell? ⟨w.heap.size, 1, none⟩ = some (.slice p2 p.bods.length a2) ∧ w'.cell? ⟨w.heap.size + 1, 0, none⟩ = some (.slice s1 d.ths.length c1) ∧ w'.cell? ⟨w.heap.size + 1, 1, none⟩ = some (.slice s2 d.chs.length c2) ∧ w'.cell? ⟨w.heap.size + 1, 2, none⟩ = some (.slice s3 d.tr.length c3)) := fun X0 pB hX hb => (toProg_new p1 p2 a1 a2 0 w.heap.size p X0 (HP.out.keep' (Keep.of_below (HK.out.trans (hX.mono (by omega))) (Nat.le_refl _))) (by have := hX.size; omega) FP.out).mono fun e w' hq => by
   obtain ⟨f1, f2, he, hb2, -, hr⟩ := hq
   have kk : Below w28.heap.size w28 w' := hX.trans (hb2.mono hX.size)
   exact ⟨f1, f2, _, _, he, Nat.le_refl _, kk, hr, hb.keep hb2, RB.out _ kk⟩
  have CS : Hid (∀ (wA : World) (f1 f2 : Option Addr) (lo hi : Nat) (X0 : World) (pB : Option Nat), hi ≤ wA.heap.size → Below w28.heap.size w28 X0 → ProgR wA lo hi f1 f2 p → Below wA.heap.size wA X0 → BoxA X0 pB → Calls Tryz.prog 11 #[.agg #[.slice s1 d.ths.length c1, .slice s2 d.chs.length c2, .slice s3 d.tr.length c3]] X0 fun e w' => ∃ (t1 : Option Addr) (e1 : Nat) (t2 : Option Addr) (e2 : Nat) (t3 : Option Addr) (e3 : Nat) (lo' hi' : Nat), e = .returned (.agg #[.slice t1 d.ths.length e1, .slice t2 d.chs.length e2, .slice t3 d.tr.length e3]) ∧ hi ≤ w'.heap.size ∧ hi' ≤ w'.heap.size ∧ Below w28.heap.size w28 w' ∧ Hid (ProgR w' lo hi f1 f2 p) ∧ Hid (SrcR w' lo' hi' t1 t2 t3 d) ∧ Hid (BoxA w' pB) ∧ w'.cell? ⟨w.heap.size, 0, none⟩ = some (.slice p1 p.caps.length a1) ∧ w'.cell? ⟨w.heap.size, 1, none⟩ = some (.slice p2 p.bods.length a2) ∧ w'.cell? ⟨w.heap.size + 1, 0, none⟩ = some (.slice s1 d.ths.length c1) ∧ w'.cell? ⟨w.heap.size + 1, 1, none⟩ = some (.slice s2 d.chs.length c2) ∧ w'.cell? ⟨w.heap.size + 1, 2, none⟩ = some (.slice s3 d.tr.length c3)) := fun wA f1 f2 lo hi X0 pB hh hX hp hA hb => (toSource_own s1 s2 s3 c1 c2 c3 0 w.heap.size d X0 (HS.out.keep (Keep.of_below (HK.out.trans (hX.mono (by omega))) (Nat.le_refl _))) (by have := hX.size; omega) FS.out).mono fun e w' hq => by
   obtain ⟨v1, v2, v3, L1, L2, he, ho, hb2, -⟩ := hq
   obtain ⟨t1, e1, t2, e2, t3, e3, rfl, rfl, rfl, hr⟩ := ho.src
   have kk : Below w28.heap.size w28 w' := hX.trans (hb2.mono hX.size)
   have k2 : Below wA.heap.size wA w' := hA.trans (hb2.mono hA.size)
   exact ⟨t1, e1, t2, e2, t3, e3, _, _, he, Nat.le_trans hh k2.size, Nat.le_refl _, kk, hp.keep' (Keep.of_below k2 hh), hr, hb.keep hb2, RB.out _ kk⟩
  have CI : Hid (∀ (wB : World) (f1 f2 : Option Addr) (lo hi : Nat) (t1 t2 t3 : Option Addr) (lo' hi' : Nat) (X0 : World) (pB : Option Nat), hi ≤ wB.heap.size → hi' ≤ wB.heap.size → Below w28.heap.size w28 X0 → ProgR wB lo hi f1 f2 p → SrcR wB lo' hi' t1 t2 t3 d → Below wB.heap.size wB X0 → BoxA X0 pB → Calls Tryz.prog 12 #[.slice s4 ks.length c4] X0 fun e w' => ∃ (fi : Option Addr) (lo2 hi2 : Nat), e = .returned (.slice fi ks.length ks.length) ∧ hi ≤ w'.heap.size ∧ hi' ≤ w'.heap.size ∧ hi2 ≤ w'.heap.size ∧ Below w28.heap.size w28 w' ∧ Hid (ProgR w' lo hi f1 f2 p) ∧ Hid (SrcR w' lo' hi' t1 t2 t3 d) ∧ Hid (IntsR w' lo2 hi2 fi ks) ∧ Hid (BoxA w' pB) ∧ w'.cell? ⟨w.heap.size, 0, none⟩ = some (.slice p1 p.caps.length a1) ∧ w'.cell? ⟨w.heap.size, 1, none⟩ = some (.slice p2 p.bods.length a2) ∧ w'.cell? ⟨w.heap.size + 1, 0, none⟩ = some (.slice s1 d.ths.length c1) ∧ w'.cell? ⟨w.heap.size + 1, 1, none⟩ = some (.slice s2 d.chs.length c2) ∧ w'.cell? ⟨w.heap.size + 1, 2, none⟩ = some (.slice s3 d.tr.length c3)) := fun wB f1 f2 lo hi t1 t2 t3 lo' hi' X0 pB h1 h2 hX hp hs hB hb => (toIntS_own' s4 c4 0 w.heap.size ks X0 (H4.out.keep (Keep.of_below (HK.out.trans (hX.mono (by omega))) (Nat.le_refl _))) (by have := hX.size; omega) n4).mono fun e w' hq => by
   obtain ⟨gi, he, ho, hb2, -⟩ := hq
   have kk : Below w28.heap.size w28 w' := hX.trans (hb2.mono hX.size)
   have k2 : Below wB.heap.size wB w' := hB.trans (hb2.mono hB.size)
   exact ⟨some ⟨gi, 0, none⟩, _, _, he, Nat.le_trans h1 k2.size, Nat.le_trans h2 k2.size, Nat.le_refl _, kk, hp.keep' (Keep.of_below k2 h1), hs.keep (Keep.of_below k2 h2), ho.intsG, hb.keep hb2, RB.out _ kk⟩
  have CT : Hid (∀ (wB : World) (f1 f2 : Option Addr) (lo hi : Nat) (t1 : Option Addr) (e1 : Nat) (t2 : Option Addr) (e2 : Nat) (t3 : Option Addr) (e3 : Nat) (lo' hi' : Nat) (fi : Option Addr) (lo2 hi2 : Nat) (X0 : World) (pB : Option Nat), hi ≤ wB.heap.size → hi' ≤ wB.heap.size → hi2 ≤ wB.heap.size → Below w28.heap.size w28 X0 → ProgR wB lo hi f1 f2 p → SrcR wB lo' hi' t1 t2 t3 d → IntsR wB lo2 hi2 fi ks → Below wB.heap.size wB X0 → BoxA X0 pB → Calls Tryz.prog 13 #[.agg #[.slice f1 p.caps.length p.caps.length, .slice f2 p.bods.length p.bods.length], .agg #[.slice t1 d.ths.length e1, .slice t2 d.chs.length e2, .slice t3 d.tr.length e3], .slice fi ks.length ks.length] X0 fun e w' => ∃ (x1 : Option Addr) (y1 : Nat) (x2 : Option Addr) (y2 : Nat) (x3 : Option Addr) (y3 : Nat) (x4 : Option Addr) (y4 : Nat), e = .returned (.tuple #[.agg #[.slice x1 DD.ths.length y1, .slice x2 DD.chs.length y2, .slice x3 DD.tr.length y3], .slice x4 CC.length y4]) ∧ Below w28.heap.size w28 w' ∧ Hid (∃ L1 L2, OwnS w' w28.heap.size (.slice x1 DD.ths.length y1) (.slice x2 DD.chs.length y2) (.slice x3 DD.tr.length y3) L1 L2 DD) ∧ Hid (OwnN w' w28.heap.size (.slice x4 CC.length y4) CC) ∧ Hid (BoxA w' pB) ∧ w'.cell? ⟨w.heap.size, 0, none⟩ = some (.slice p1 p.caps.length a1) ∧ w'.cell? ⟨w.heap.size, 1, none⟩ = some (.slice p2 p.bods.length a2) ∧ w'.cell? ⟨w.heap.size + 1, 0, none⟩ = some (.slice s1 d.ths.length c1) ∧ w'.cell? ⟨w.heap.size + 1, 1, none⟩ = some (.slice s2 d.chs.length c2) ∧ w'.cell? ⟨w.heap.size + 1, 2, none⟩ = some (.slice s3 d.tr.length c3)) := fun wB f1 f2 lo hi t1 e1 t2 e2 t3 e3 lo' hi' fi lo2 hi2 X0 pB h1 h2 h3 hX hp hs hi3 hB hb => (implRun_any f1 f2 t1 t2 t3 fi _ _ e1 e2 e3 _ lo hi lo' hi' lo2 hi2 p d ks X0 (hp.keep' (Keep.of_below hB h1)) (hs.keep (Keep.of_below hB h2)) (hi3.keep (Keep.of_below hB h3)) (Nat.le_trans h1 hB.size) (Nat.le_trans h2 hB.size) (Nat.le_trans h3 hB.size) FP.out FS.out n4).mono fun e w' hq => by
   rw [HDD.out, HKK.out] at hq
   obtain ⟨x1, y1, x2, y2, x3, y3, x4, y4, L1, L2, he, ho, hn, -, hb2⟩ := hq
   have kk : Below w28.heap.size w28 w' := hX.trans (hb2.mono hX.size)
   exact ⟨x1, y1, x2, y2, x3, y3, x4, y4, he, kk, ⟨L1, L2, ho.low hX.size⟩, ownLow' hn hX.size, hb.keep hb2, RB.out _ kk⟩
  have kD : Below w28.heap.size w28 w28.drew := Below.drew (Below.refl _ _)
  have hdr : ∀ X : World, X.drew.heap.size = X.heap.size := fun _ => rfl
  go_cut [18, 19] (fun s8 s9 wx => CutR w28 DD CC s8 s9 wx)
  case first =>
   go_region_held3 (fun w' => w'.cell? ⟨w.heap.size, 0, none⟩ = some (.slice p1 p.caps.length a1) ∧ w'.cell? ⟨w.heap.size, 1, none⟩ = some (.slice p2 p.bods.length a2) ∧ w'.cell? ⟨w.heap.size + 1, 0, none⟩ = some (.slice s1 d.ths.length c1) ∧ w'.cell? ⟨w.heap.size + 1, 1, none⟩ = some (.slice s2 d.chs.length c2) ∧ w'.cell? ⟨w.heap.size + 1, 2, none⟩ = some (.slice s3 d.tr.length c3)) (first | exact RB.out _ (by repeat' (first | with_reducible exact kC | with_reducible exact kI | with_reducible exact kB | with_reducible exact kA | with_reducible exact kD | with_reducible exact Below.refl _ _ | with_reducible refine Below.drew ?_ | with_reducible refine Below.alloc ?_ (by first | omega | exact Nat.le_refl _ | (simp [hdr]; done) | (simp [hdr]; omega)) _ | with_reducible refine Below.setCell ?_ (by first | omega | exact Nat.le_refl _ | (simp [hdr]; done) | (simp [hdr]; omega)) _)) | go_keep) (first | (go_at_call 10; with_reducible refine (CP.out _ _ (by repeat' (first | with_reducible exact kC | with_reducible exact kI | with_reducible exact kB | with_reducible exact kA | with_reducible exact kD | with_reducible exact Below.refl _ _ | with_reducible refine Below.drew ?_ | with_reducible refine Below.alloc ?_ (by first | omega | exact Nat.le_refl _ | (simp [hdr]; done) | (simp [hdr]; omega)) _ | with_reducible refine Below.setCell ?_ (by first | omega | exact Nat.le_refl _ | (simp [hdr]; done) | (simp [hdr]; omega)) _)) (by first | with_reducible exact boxAD (boxA0 _) | with_reducible exact boxA0 _ | with_reducible exact boxAN _)).mono ?_; rintro e wA ⟨f1, f2, lo, hi, rfl, hhA, kA, PA, HBA, yA0, yA1, yA2, yA3, yA4⟩; have zA := kA.size) | (go_at_call 11; with_reducible refine (CS.out wA f1 f2 lo hi _ _ hhA (by repeat' (first | with_reducible exact kC | with_reducible exact kI | with_reducible exact kB | with_reducible exact kA | with_reducible exact kD | with_reducible exact Below.refl _ _ | with_reducible refine Below.drew ?_ | with_reducible refine Below.alloc ?_ (by first | omega | exact Nat.le_refl _ | (simp [hdr]; done) | (simp [hdr]; omega)) _ | with_reducible refine Below.setCell ?_ (by first | omega | exact Nat.le_refl _ | (simp [hdr]; done) | (simp [hdr]; omega)) _)) PA.out (show Below wA.heap.size wA _ from (by repeat' (first | with_reducible exact Below.refl _ _ | with_reducible refine Below.drew ?_ | with_reducible refine Below.alloc ?_ (by first | omega | exact Nat.le_refl _ | (simp [hdr]; done) | (simp [hdr]; omega)) _))) (by first | with_reducible exact boxAD (boxA0 _) | with_reducible exact boxA0 _ | with_reducible exact HBA.out | with_reducible exact boxAN _)).mono ?_; rintro e wB ⟨t1, e1, t2, e2, t3, e3, lo', hi', rfl, hhB, hhB', kB, PB, SB', HBB, yB0, yB1, yB2, yB3, yB4⟩; have zB := kB.size) | (go_at_call 12; with_reducible refine (CI.out wB f1 f2 lo hi t1 t2 t3 lo' hi' _ _ hhB hhB' (by repeat' (first | with_reducible exact kC | with_reducible exact kI | with_reducible exact kB | with_reducible exact kA | with_reducible exact kD | with_reducible exact Below.refl _ _ | with_reducible refine Below.drew ?_ | with_reducible refine Below.alloc ?_ (by first | omega | exact Nat.le_refl _ | (simp [hdr]; done) | (simp [hdr]; omega)) _ | with_reducible refine Below.setCell ?_ (by first | omega | exact Nat.le_refl _ | (simp [hdr]; done) | (simp [hdr]; omega)) _)) PB.out SB'.out (show Below wB.heap.size wB _ from (by repeat' (first | with_reducible exact Below.refl _ _ | with_reducible refine Below.drew ?_ | with_reducible refine Below.alloc ?_ (by first | omega | exact Nat.le_refl _ | (simp [hdr]; done) | (simp [hdr]; omega)) _))) (by first | with_reducible exact boxAD (boxA0 _) | with_reducible exact boxA0 _ | with_reducible exact HBB.out | with_reducible exact boxAN _)).mono ?_; rintro e wI ⟨fi, lo2, hi2, rfl, hhI, hhI', hhI2, kI, PI, SI, II, HBI, yI0, yI1, yI2, yI3, yI4⟩; have zI := kI.size) | (go_at_call 13; with_reducible refine (CT.out wI f1 f2 lo hi t1 e1 t2 e2 t3 e3 lo' hi' fi lo2 hi2 _ _ hhI hhI' hhI2 (by repeat' (first | with_reducible exact kC | with_reducible exact kI | with_reducible exact kB | with_reducible exact kA | with_reducible exact kD | with_reducible exact Below.refl _ _ | with_reducible refine Below.drew ?_ | with_reducible refine Below.alloc ?_ (by first | omega | exact Nat.le_refl _ | (simp [hdr]; done) | (simp [hdr]; omega)) _ | with_reducible refine Below.setCell ?_ (by first | omega | exact Nat.le_refl _ | (simp [hdr]; done) | (simp [hdr]; omega)) _)) PI.out SI.out II.out (show Below wI.heap.size wI _ from (by repeat' (first | with_reducible exact Below.refl _ _ | with_reducible refine Below.drew ?_ | with_reducible refine Below.alloc ?_ (by first | omega | exact Nat.le_refl _ | (simp [hdr]; done) | (simp [hdr]; omega)) _))) (by first | with_reducible exact boxAD (boxA0 _) | with_reducible exact boxA0 _ | with_reducible exact HBI.out | with_reducible exact boxAN _)).mono ?_; rintro e wC ⟨x1, y1, x2, y2, x3, y3, x4, y4, rfl, kC, OC, NC, HBC, yC0, yC1, yC2, yC3, yC4⟩; have zC := kC.size; (try obtain ⟨⟨b0', b1', b2', bf', b9⟩, -⟩ := boxAS HBC.out)) | fail)
   all_goals
    go_wp2_with fail
    go_meet
    first
     | with_reducible exact cutR_new OC.out NC.out kC
     | with_reducible exact cutR_set (boxAS HBC.out) (by omega) OC.out NC.out kC
  case rest =>
   obtain ⟨bok, xk1, yk1, xk2, yk2, xk3, yk3, xk4, yk4, rfl, rfl, hbok, hbzk, hx30, hs30, hi30, hk30⟩ := hcut
   obtain ⟨w30, hw30⟩ : ∃ z, z = wc := ⟨_, rfl⟩
   subst hw30
   have z30 := hk30.size
   clear RB CP CS CI CT kD hdr
   clear APc0 APc1 APz
   clear Ac0 Ac1 Ac2 Az
   clear Fwc0 Fwc1 Fwc2 Fwz
   clear Xxc0 Xxc1 Xxz
   clear Xzc0 Xzc1 Xzc2 Xzz
   clear Ygc0 Ygc1 Ygc2 Ygz
   have JK := hidX (HK.out.trans (hk30.mono (by omega)))
   have JAP := hidX (HAP.out.keep (Keep.of_below hk30 (by omega)))
   have JA := hidX (HA.out.keep (Keep.of_below hk30 (by omega)))
   have JRw := hidX (HRw.out.keep (Keep.of_below hk30 (by omega)))
   have JFw := hidX (HFw.out.keep (Keep.of_below hk30 (by omega)))
   have JNw := hidX (HNw.out.keep (Keep.of_below hk30 (by omega)))
   have JXx := hidX (HXx.out.keep (Keep.of_below hk30 (by omega)))
   have JXz := hidX (HXz.out.keep (Keep.of_below hk30 (by omega)))
   have JYg := hidX (HYg.out.keep (Keep.of_below hk30 (by omega)))
   have JRq := hidX (HRq.out.keep (Keep.of_below hk30 (by omega)))
   have JD := hidX (HD.out.keep (Keep.of_below hk30 (by omega)))
   clear HK HAP HA HRw HFw HNw HXx HXz HYg HRq HD
   have HK := JK
   have HAP := JAP
   have HA := JA
   have HRw := JRw
   have HFw := JFw
   have HNw := JNw
   have HXx := JXx
   have HXz := JXz
   have HYg := JYg
   have HRq := JRq
   have HD := JD
   clear JK JAP JA JRw JFw JNw JXx JXz JYg JRq JD
   have HRk : Hid (SrcR w30 w28.heap.size w30.heap.size xk1 xk2 xk3 DD) := hs30
   have HFk : Hid (Bo3 bok w30 (.slice xk1 DD.ths.length yk1) (.slice xk2 DD.chs.length yk2) (.slice xk3 DD.tr.length yk3)) := hx30
   have HNk : Hid (IntsR w30 w28.heap.size w30.heap.size xk4 CC) := hi30
   clear hk30 hs30 hx30 hi30
   obtain ⟨APc0, APc1⟩ := HAP.out
   have APz : w.heap.size < w30.heap.size := by omega
   obtain ⟨Ac0, Ac1, Ac2⟩ := HA.out
   have Az : w.heap.size + 1 < w30.heap.size := by omega
   obtain ⟨Fwc0, Fwc1, Fwc2⟩ := HFw.out
   have Fwz : bow < w30.heap.size := by omega
   obtain ⟨Xxc0, Xxc1⟩ := HXx.out
   have Xxz : w6.heap.size < w30.heap.size := by omega
   obtain ⟨Xzc0, Xzc1, Xzc2⟩ := HXz.out
   have Xzz : w8.heap.size < w30.heap.size := by omega
   obtain ⟨Ygc0, Ygc1, Ygc2⟩ := HYg.out
   have Ygz : w11.heap.size < w30.heap.size := by omega
   obtain ⟨Fkc0, Fkc1, Fkc2⟩ := HFk.out
   have Fkz : bok < w30.heap.size := by omega
   go_wp2_with fail
   refine (eqSource_alike xk1 xk2 xk3 xw1 xw2 xw3 _ _ _ _ _ _ w28.heap.size w30.heap.size w4.heap.size w5.heap.size DD w30 HRk.out HRw.out (by omega) (by omega) FD.out).mono ?_
   rintro e w31 ⟨rfl, hb31⟩
   have z31 := hb31.size
   clear APc0 APc1 APz
   clear Ac0 Ac1 Ac2 Az
   clear Fwc0 Fwc1 Fwc2 Fwz
   clear Xxc0 Xxc1 Xxz
   clear Xzc0 Xzc1 Xzc2 Xzz
   clear Ygc0 Ygc1 Ygc2 Ygz
   clear Fkc0 Fkc1 Fkc2 Fkz
   have JK := hidX (HK.out.trans (hb31.mono (by omega)))
   have JAP := hidX (HAP.out.keep (Keep.of_below hb31 (by omega)))
   have JA := hidX (HA.out.keep (Keep.of_below hb31 (by omega)))
   have JRw := hidX (HRw.out.keep (Keep.of_below hb31 (by omega)))
   have JFw := hidX (HFw.out.keep (Keep.of_below hb31 (by omega)))
   have JNw := hidX (HNw.out.keep (Keep.of_below hb31 (by omega)))
   have JXx := hidX (HXx.out.keep (Keep.of_below hb31 (by omega)))
   have JXz := hidX (HXz.out.keep (Keep.of_below hb31 (by omega)))
   have JYg := hidX (HYg.out.keep (Keep.of_below hb31 (by omega)))
   have JRq := hidX (HRq.out.keep (Keep.of_below hb31 (by omega)))
   have JD := hidX (HD.out.keep (Keep.of_below hb31 (by omega)))
   have JRk := hidX (HRk.out.keep (Keep.of_below hb31 (by omega)))
   have JFk := hidX (HFk.out.keep (Keep.of_below hb31 (by omega)))
   have JNk := hidX (HNk.out.keep (Keep.of_below hb31 (by omega)))
   clear HK HAP HA HRw HFw HNw HXx HXz HYg HRq HD HRk HFk HNk
   have HK := JK
   have HAP := JAP
   have HA := JA
   have HRw := JRw
   have HFw := JFw
   have HNw := JNw
   have HXx := JXx
   have HXz := JXz
   have HYg := JYg
   have HRq := JRq
   have HD := JD
   have HRk := JRk
   have HFk := JFk
   have HNk := JNk
   clear JK JAP JA JRw JFw JNw JXx JXz JYg JRq JD JRk JFk JNk
   clear hb31
   obtain ⟨APc0, APc1⟩ := HAP.out
   have APz : w.heap.size < w31.heap.size := by omega
   obtain ⟨Ac0, Ac1, Ac2⟩ := HA.out
   have Az : w.heap.size + 1 < w31.heap.size := by omega
   obtain ⟨Fwc0, Fwc1, Fwc2⟩ := HFw.out
   have Fwz : bow < w31.heap.size := by omega
   obtain ⟨Xxc0, Xxc1⟩ := HXx.out
   have Xxz : w6.heap.size < w31.heap.size := by omega
   obtain ⟨Xzc0, Xzc1, Xzc2⟩ := HXz.out
   have Xzz : w8.heap.size < w31.heap.size := by omega
   obtain ⟨Ygc0, Ygc1, Ygc2⟩ := HYg.out
   have Ygz : w11.heap.size < w31.heap.size := by omega
   obtain ⟨Fkc0, Fkc1, Fkc2⟩ := HFk.out
   have Fkz : bok < w31.heap.size := by omega
   go_wp2_with fail
   refine (eqN_true yk4 yw4 HNk.out HNw.out (by omega) (by omega) (by have := HCL.out; omega)).mono ?_
   rintro e w32 ⟨rfl, hb32⟩
   have z32 := hb32.size
   clear APc0 APc1 APz
   clear Ac0 Ac1 Ac2 Az
   clear Fwc0 Fwc1 Fwc2 Fwz
   clear Xxc0 Xxc1 Xxz
   clear Xzc0 Xzc1 Xzc2 Xzz
   clear Ygc0 Ygc1 Ygc2 Ygz
   clear Fkc0 Fkc1 Fkc2 Fkz
   have JK := hidX (HK.out.trans (hb32.mono (by omega)))
   have JAP := hidX (HAP.out.keep (Keep.of_below hb32 (by omega)))
   have JA := hidX (HA.out.keep (Keep.of_below hb32 (by omega)))
   have JRw := hidX (HRw.out.keep (Keep.of_below hb32 (by omega)))
   have JFw := hidX (HFw.out.keep (Keep.of_below hb32 (by omega)))
   have JNw := hidX (HNw.out.keep (Keep.of_below hb32 (by omega)))
   have JXx := hidX (HXx.out.keep (Keep.of_below hb32 (by omega)))
   have JXz := hidX (HXz.out.keep (Keep.of_below hb32 (by omega)))
   have JYg := hidX (HYg.out.keep (Keep.of_below hb32 (by omega)))
   have JRq := hidX (HRq.out.keep (Keep.of_below hb32 (by omega)))
   have JD := hidX (HD.out.keep (Keep.of_below hb32 (by omega)))
   have JRk := hidX (HRk.out.keep (Keep.of_below hb32 (by omega)))
   have JFk := hidX (HFk.out.keep (Keep.of_below hb32 (by omega)))
   have JNk := hidX (HNk.out.keep (Keep.of_below hb32 (by omega)))
   clear HK HAP HA HRw HFw HNw HXx HXz HYg HRq HD HRk HFk HNk
   have HK := JK
   have HAP := JAP
   have HA := JA
   have HRw := JRw
   have HFw := JFw
   have HNw := JNw
   have HXx := JXx
   have HXz := JXz
   have HYg := JYg
   have HRq := JRq
   have HD := JD
   have HRk := JRk
   have HFk := JFk
   have HNk := JNk
   clear JK JAP JA JRw JFw JNw JXx JXz JYg JRq JD JRk JFk JNk
   clear hb32
   obtain ⟨APc0, APc1⟩ := HAP.out
   have APz : w.heap.size < w32.heap.size := by omega
   obtain ⟨Ac0, Ac1, Ac2⟩ := HA.out
   have Az : w.heap.size + 1 < w32.heap.size := by omega
   obtain ⟨Fwc0, Fwc1, Fwc2⟩ := HFw.out
   have Fwz : bow < w32.heap.size := by omega
   obtain ⟨Xxc0, Xxc1⟩ := HXx.out
   have Xxz : w6.heap.size < w32.heap.size := by omega
   obtain ⟨Xzc0, Xzc1, Xzc2⟩ := HXz.out
   have Xzz : w8.heap.size < w32.heap.size := by omega
   obtain ⟨Ygc0, Ygc1, Ygc2⟩ := HYg.out
   have Ygz : w11.heap.size < w32.heap.size := by omega
   obtain ⟨Fkc0, Fkc1, Fkc2⟩ := HFk.out
   have Fkz : bok < w32.heap.size := by omega
   go_wp2_with fail
   refine (heldSource_any w10.heap.size _ _ _ Lag Lbg _ 1 w32 HD.out.o.o LL.out.1 LL.out.2.1 LL.out.2.2.1 LL.out.2.2.2.1 LL.out.2.2.2.2 (by omega) (by have := RM.out; omega)).mono ?_
   rintro e w33 ⟨rfl, hb33⟩
   have z33 := hb33.size
   clear APc0 APc1 APz
   clear Ac0 Ac1 Ac2 Az
   clear Fwc0 Fwc1 Fwc2 Fwz
   clear Xxc0 Xxc1 Xxz
   clear Xzc0 Xzc1 Xzc2 Xzz
   clear Ygc0 Ygc1 Ygc2 Ygz
   clear Fkc0 Fkc1 Fkc2 Fkz
   have JK := hidX (HK.out.trans (hb33.mono (by omega)))
   have JAP := hidX (HAP.out.keep (Keep.of_below hb33 (by omega)))
   have JA := hidX (HA.out.keep (Keep.of_below hb33 (by omega)))
   have JRw := hidX (HRw.out.keep (Keep.of_below hb33 (by omega)))
   have JFw := hidX (HFw.out.keep (Keep.of_below hb33 (by omega)))
   have JNw := hidX (HNw.out.keep (Keep.of_below hb33 (by omega)))
   have JXx := hidX (HXx.out.keep (Keep.of_below hb33 (by omega)))
   have JXz := hidX (HXz.out.keep (Keep.of_below hb33 (by omega)))
   have JYg := hidX (HYg.out.keep (Keep.of_below hb33 (by omega)))
   have JRq := hidX (HRq.out.keep (Keep.of_below hb33 (by omega)))
   have JD := hidX (HD.out.keep (Keep.of_below hb33 (by omega)))
   have JRk := hidX (HRk.out.keep (Keep.of_below hb33 (by omega)))
   have JFk := hidX (HFk.out.keep (Keep.of_below hb33 (by omega)))
   have JNk := hidX (HNk.out.keep (Keep.of_below hb33 (by omega)))
   clear HK HAP HA HRw HFw HNw HXx HXz HYg HRq HD HRk HFk HNk
   have HK := JK
   have HAP := JAP
   have HA := JA
   have HRw := JRw
   have HFw := JFw
   have HNw := JNw
   have HXx := JXx
   have HXz := JXz
   have HYg := JYg
   have HRq := JRq
   have HD := JD
   have HRk := JRk
   have HFk := JFk
   have HNk := JNk
   clear JK JAP JA JRw JFw JNw JXx JXz JYg JRq JD JRk JFk JNk
   clear hb33
   rw [HMM.out]
   obtain ⟨APc0, APc1⟩ := HAP.out
   have APz : w.heap.size < w33.heap.size := by omega
   obtain ⟨Ac0, Ac1, Ac2⟩ := HA.out
   have Az : w.heap.size + 1 < w33.heap.size := by omega
   obtain ⟨Fwc0, Fwc1, Fwc2⟩ := HFw.out
   have Fwz : bow < w33.heap.size := by omega
   obtain ⟨Xxc0, Xxc1⟩ := HXx.out
   have Xxz : w6.heap.size < w33.heap.size := by omega
   obtain ⟨Xzc0, Xzc1, Xzc2⟩ := HXz.out
   have Xzz : w8.heap.size < w33.heap.size := by omega
   obtain ⟨Ygc0, Ygc1, Ygc2⟩ := HYg.out
   have Ygz : w11.heap.size < w33.heap.size := by omega
   obtain ⟨Fkc0, Fkc1, Fkc2⟩ := HFk.out
   have Fkz : bok < w33.heap.size := by omega
   go_wp2_with fail
   refine (heldN_any w10.heap.size _ CC.length mm w33 HD.out.n.o (by have := HCL.out; omega) (by omega) (by omega)).mono ?_
   rintro e w34 ⟨rfl, hw34⟩
   rw [hw34, HMN.out]
   clear hw34 w34
   go_wp2
   go_ret
   exact ⟨rfl, HK.out⟩
set_option maxRecDepth 100000 in
theorem liftedExactSourceRun (os : Os) (started : os.Started) (H : Type) (enc : TypeId × Value → H) :
  ReturnsInHanded {} Tryz.checked os 3 .any (Rows.fnExactSourceRunSpec.pre6 enc Tryz.prog Tryz.f3 Rows.fnExactSourceRunRow.domain false) (Rows.fnExactSourceRunSpec.post enc Tryz.prog Tryz.f3 false true false false) := by
 refine returnsInHanded_of_change (C := Tryz.checked) ownP started (by kernel_rfl) Tryz.func3
  (ChangeSpec.witness6 (enc := enc) (C := Tryz.checked) false ⟨#[], #[.agg #[.slice none 0 0, .slice none 0 0], .agg #[.slice none 0 0, .slice none 0 0, .slice none 0 0], .slice none 0 0], []⟩ 8 (by kernel_rfl) (by kernel_rfl) (by kernel_rfl) (by kernel_rfl)) ?_
 intro W base args ds gs before hval0 hW hcnd _
 have hval : ∀ (j : Nat) t v, Tryz.f3.params[j]? = some t → args[j]? = some v → Value.okWide Tryz.prog W .any base t v := hval0
 have hW' := hW
 obtain ⟨p, q, hA0, hV, rfl, hfz, hnd⟩ := hW
 have hA : DataW.TrodAll enc Tryz.prog W 0 (fun _ => true) true Tryz.f3.params.toList args.toList ds p := hA0
 rw [Tryz.params3] at hA hval
 obtain ⟨v0, v1, v2, d0, d1, d2, p0, p1, p2, hargs, rfl, rfl, h0, h1, h2⟩ := trodAll_three hA
 obtain rfl : args = #[v0, v1, v2] := by cases args; simp_all
 obtain ⟨rfl, rfl⟩ := trodVars_none hV
 have k0 := h0
 have lt0 : ∀ x ∈ p0, x.block < W.heap.size := by obtain ⟨m, hm⟩ := k0; exact DataW.trod_lt m _ _ _ hm
 have k1 := h1
 have lt1 : ∀ x ∈ p1, x.block < W.heap.size := by obtain ⟨m, hm⟩ := k1; exact DataW.trod_lt m _ _ _ hm
 have k2 := h2
 have lt2 : ∀ x ∈ p2, x.block < W.heap.size := by obtain ⟨m, hm⟩ := k2; exact DataW.trod_lt m _ _ _ hm
 obtain ⟨p1, p2, a1, a2, pd, rfl, m1, m2, m3, hP⟩ := open_prog (hval 0 25 v0 rfl rfl) h0
 obtain ⟨s1, s2, s3, c1, c2, c3, sd, rfl, hn, hS⟩ := open_source (hval 1 30 v1 rfl rfl) h1
 obtain ⟨s4, c4, l4, rfl, m4, hR4⟩ := open_intS (hval 2 22 v2 rfl rfl) h2
 clear hA0 hval0
 refine (walkSourceRun p1 p2 s1 s2 s3 a1 a2 c1 c2 c3 pd sd s4 c4 l4 W hP m1 m2 m3 hS hn hR4 m4).mono fun e W' ⟨he, bel⟩ => ?_
 subst he
 exact ⟨_, rfl, _, _, _, [], _, [], hW', trodAll_mk1 (shut_bool Tryz.underlying4 _), trodAll_mk3 (Below.trod laidOutP (by kernel_rfl) (of_decide_eq_true (by kernel_rfl)) k0 bel lt0) (Below.trod laidOutP (by kernel_rfl) (of_decide_eq_true (by kernel_rfl)) k1 bel lt1) (Below.trod laidOutP (by kernel_rfl) (of_decide_eq_true (by kernel_rfl)) k2 bel lt2), rfl, bel.frame _, fun h => by cases h⟩
theorem fnExactSourceRun_holds : Rows.FnExactSourceRunSaid :=
 OpenClaim.holds_of_wide 3 Tryz.f3 rfl rfl rfl rfl rfl rfl rfl ⟨rfl, rfl, rfl, rfl, rfl⟩ rfl rfl rfl rfl rfl (by kernel_rfl) Tryz.func3 (by kernel_rfl)
  (of_decide_eq_true (by kernel_rfl)) (by unfold Func.isWrapper; first | (rw [if_pos (by decide +kernel)]; kernel_rfl) | (rw [if_neg (by decide +kernel)]; exact ⟨rfl, rfl⟩))
  (fun os started H enc _ => liftedExactSourceRun os started H enc)
#print axioms fnExactSourceRun_holds
end Go.Proofs.YtfokbjkgdiploaaGreat
