/- The law FnExactFair of the given statements: at every argument Fair of the program answers as the specification's, writes into no argument, its answer owns its memory. No condition. -/
import Derived.Test.YtfokbjkgdiploaaGreatJG02
import Derived.Test.YtfokbjkgdiploaaGreatJFairIm
import Derived.Test.YtfokbjkgdiploaaGreatJFairSp
import Derived.Test.YtfokbjkgdiploaaGreatJG16
import Derived.Test.YtfokbjkgdiploaaGreatJSrcSz
import Derived.Test.YtfokbjkgdiploaaGreatJSrcEq
import Derived.Test.YtfokbjkgdiploaaGreatJG17
import Derived.Test.YtfokbjkgdiploaaGreatJG06
import Derived.Test.YtfokbjkgdiploaaGreatJG18
import Derived.Deep.RegionHeld3
namespace Go.Proofs.YtfokbjkgdiploaaGreat
set_option linter.unusedSimpArgs false
set_option linter.unusedVariables false
set_option maxRecDepth 100000
open Go.ChangeShapes Go.WideShapes Go.ChangeAt Go.RowKit Go.Deep
def PR (w : World) (lo hi : Nat) (s s' : Option Addr) (p : PD) : Prop := ProgR w lo hi s s' p
theorem PR.keep {w w' : World} {lo hi : Nat} {s s' : Option Addr} {p : PD} (h : PR w lo hi s s' p) (hb : Keep lo hi w w') : PR w' lo hi s s' p := ProgR.keep' h hb
theorem PR.keep' {w w' : World} {lo hi : Nat} {s s' : Option Addr} {p : PD} (h : PR w lo hi s s' p) (hb : Keep lo hi w w') : ProgR w' lo hi s s' p := ProgR.keep' h hb
theorem OwnS.srcR {w : World} {base : Nat} {x1 x2 x3 : Option Addr} {y1 y2 y3 : Nat} {L1 L2 : List (Rec × Value)} {D : SD} (h : OwnS w base (.slice x1 D.ths.length y1) (.slice x2 D.chs.length y2) (.slice x3 D.tr.length y3) L1 L2 D) : SrcR w base w.heap.size x1 x2 x3 D := by
 obtain ⟨a1, b1, a2, b2, a3, b3, e1, e2, e3, r⟩ := h.src
 injection e1 with e1 _ _
 injection e2 with e2 _ _
 injection e3 with e3 _ _
 rw [e1, e2, e3]
 exact r
def CutS (W : World) (D : SD) (K : Int) (s8 s9 : Value) (wc : World) : Prop := ∃ (bo : Nat) (x1 : Option Addr) (y1 : Nat) (x2 : Option Addr) (y2 : Nat) (x3 : Option Addr) (y3 : Nat), s8 = .pointer (some ⟨bo, 0, none⟩) ∧ s9 = .int .i64 K ∧ W.heap.size ≤ bo ∧ bo < wc.heap.size ∧ Bo3 bo wc (.slice x1 D.ths.length y1) (.slice x2 D.chs.length y2) (.slice x3 D.tr.length y3) ∧ SrcR wc W.heap.size wc.heap.size x1 x2 x3 D ∧ Below W.heap.size W wc
theorem cutS_new {W wM : World} {D : SD} {K : Int} {x1 x2 x3 : Option Addr} {y1 y2 y3 : Nat} (q : ∃ L1 L2, OwnS wM W.heap.size (.slice x1 D.ths.length y1) (.slice x2 D.chs.length y2) (.slice x3 D.tr.length y3) L1 L2 D) (kk : Below W.heap.size W wM) : CutS W D K (.pointer (some ⟨wM.heap.size, 0, none⟩)) (.int .i64 K) (wM.alloc (.cells #[.slice x1 D.ths.length y1, .slice x2 D.chs.length y2, .slice x3 D.tr.length y3] 37)) := by
 obtain ⟨Y, hY, x, kY, zY⟩ := Bo3.new wM (.slice x1 D.ths.length y1) (.slice x2 D.chs.length y2) (.slice x3 D.tr.length y3) 37
 rw [hY]
 obtain ⟨L1, L2, o1⟩ := q
 exact ⟨wM.heap.size, x1, y1, x2, y2, x3, y3, rfl, rfl, kk.size, by omega, x, (o1.keep (fun b _ h1 => kY.block b h1)).srcR, kk.trans (kY.mono kk.size)⟩
theorem cutS_set {W wM : World} {D : SD} {K : Int} {bo : Nat} {x1 x2 x3 : Option Addr} {y1 y2 y3 : Nat} (b : BoF bo wM (.slice none 0 0) (.slice none 0 0) (.slice none 0 0) ∧ BxS wM bo) (hbo : W.heap.size ≤ bo) (q : ∃ L1 L2, OwnS wM W.heap.size (.slice x1 D.ths.length y1) (.slice x2 D.chs.length y2) (.slice x3 D.tr.length y3) L1 L2 D) (kk : Below W.heap.size W wM) : CutS W D K (.pointer (some ⟨bo, 0, none⟩)) (.int .i64 K) (((wM.setCell ⟨bo, 0, none⟩ (.slice x1 D.ths.length y1)).setCell ⟨bo, 1, none⟩ (.slice x2 D.chs.length y2)).setCell ⟨bo, 2, none⟩ (.slice x3 D.tr.length y3)) := by
 have B := b.2
 obtain ⟨L1, L2, o1⟩ := q
 have bb := ((b.1.set0 (.slice x1 D.ths.length y1)).set1 (.slice x2 D.chs.length y2)).set2 (.slice x3 D.tr.length y3)
 exact ⟨bo, x1, y1, x2, y2, x3, y3, rfl, rfl, hbo, bb.z, ⟨bb.c0, bb.c1, bb.c2⟩, (((o1.offB B).offB B.set).offB B.set.set).srcR, ((kk.setCell (p := ⟨bo, _, none⟩) hbo _).setCell (p := ⟨bo, _, none⟩) hbo _).setCell (p := ⟨bo, _, none⟩) hbo _⟩
theorem hidX {p : Prop} (h : p) : Hid p := h
set_option maxRecDepth 100000 in
set_option maxHeartbeats 8000000 in
theorem walkFair (p1 p2 s1 s2 s3 : Option Addr) (a1 a2 c1 c2 c3 : Nat) (p : PD) (d : SD) (who : Int) (w : World) (h : ProgR w 0 w.heap.size p1 p2 p) (m1 : p.caps.length ≤ maxLen) (m2 : p.bods.length ≤ maxLen) (m3 : ∀ i, i < p.bods.length → (p.bods.getD i []).length ≤ maxLen) (hs : SrcR w 0 w.heap.size s1 s2 s3 d) (n0 : SLens d) :
  Calls Tryz.prog 6 #[.agg #[.slice p1 p.caps.length a1, .slice p2 p.bods.length a2], .agg #[.slice s1 d.ths.length c1, .slice s2 d.chs.length c2, .slice s3 d.tr.length c3], .int .i64 who] w fun e w' => e = .returned (.bool true) ∧ Below w.heap.size w w' := by
 have HP : Hid (ProgR w 0 w.heap.size p1 p2 p) := h
 have M3 : Hid (∀ i, i < p.bods.length → (p.bods.getD i []).length ≤ maxLen) := m3
 have HS := hidX hs
 have HN := hidX n0
 clear h m3 hs n0
 go_enter Tryz.func6, Tryz.ntmps6
 go_wp2_with fail
 have HK : Hid (Below w.heap.size w w) := Below.refl _ _
 obtain ⟨V1, hV1, bx1, kb1, zb1⟩ := Bo2.new w (.slice p1 p.caps.length a1) (.slice p2 p.bods.length a2) 25
 rw [hV1]
 clear hV1
 have JK := hidX (HK.out.trans (kb1.mono (by omega)))
 clear HK
 have HK := JK
 clear JK
 have HAP : Hid (Bo2 w.heap.size V1 (.slice p1 p.caps.length a1) (.slice p2 p.bods.length a2)) := bx1
 clear bx1 kb1
 obtain ⟨V2, hV2, bx2, kb2, zb2⟩ := Bo3.new V1 (.slice s1 d.ths.length c1) (.slice s2 d.chs.length c2) (.slice s3 d.tr.length c3) 30
 rw [hV2]
 clear hV2
 have JK := hidX (HK.out.trans (kb2.mono (by omega)))
 have JAP := hidX (HAP.out.keep (Keep.of_below kb2 (by omega)))
 clear HK HAP
 have HK := JK
 have HAP := JAP
 clear JK JAP
 have HA : Hid (Bo3 V1.heap.size V2 (.slice s1 d.ths.length c1) (.slice s2 d.chs.length c2) (.slice s3 d.tr.length c3)) := bx2
 clear bx2 kb2
 have HA2 : Hid (Bo3 (w.heap.size + 1) V2 (.slice s1 d.ths.length c1) (.slice s2 d.chs.length c2) (.slice s3 d.tr.length c3)) := by have q := HA.out; rw [zb1] at q; exact q
 clear HA
 have HA := HA2
 clear HA2
 refine (szProg_le p1 p2 a1 a2 0 w.heap.size p V2 (HP.out.keep' (Keep.of_below HK.out (Nat.le_refl _))) (by omega) m1 m2 M3.out).mono ?_
 rintro e w3 ⟨⟨u, rfl, hu⟩, hb3⟩
 have z3 := hb3.size
 have JK := hidX (HK.out.trans (hb3.mono (by omega)))
 have JAP := hidX (HAP.out.keep (Keep.of_below hb3 (by omega)))
 have JA := hidX (HA.out.keep (Keep.of_below hb3 (by omega)))
 clear HK HAP HA
 have HK := JK
 have HAP := JAP
 have HA := JA
 clear JK JAP JA
 clear hb3
 obtain ⟨APc0, APc1⟩ := HAP.out
 have APz : w.heap.size < w3.heap.size := by omega
 obtain ⟨Ac0, Ac1, Ac2⟩ := HA.out
 have Az : w.heap.size + 1 < w3.heap.size := by omega
 rcases hu with hu | ⟨hu, hu2, hf⟩
 ·go_wp2
  go_ret
  exact ⟨rfl, HK.out⟩
 have hun : ¬ u < 0 := by omega
 have FP := hidX hf
 clear hf
 go_wp2_with fail
 refine (szSource_any s1 s2 s3 c1 c2 c3 0 w.heap.size d u w3 (HS.out.keep (Keep.of_below HK.out (Nat.le_refl _))) (by omega) HN.out hu hu2).mono ?_
 rintro e w4 ⟨⟨y, rfl, hy⟩, hb4⟩
 have z4 := hb4.size
 clear APc0 APc1 APz
 clear Ac0 Ac1 Ac2 Az
 have JK := hidX (HK.out.trans (hb4.mono (by omega)))
 have JAP := hidX (HAP.out.keep (Keep.of_below hb4 (by omega)))
 have JA := hidX (HA.out.keep (Keep.of_below hb4 (by omega)))
 clear HK HAP HA
 have HK := JK
 have HAP := JAP
 have HA := JA
 clear JK JAP JA
 clear hb4
 obtain ⟨APc0, APc1⟩ := HAP.out
 have APz : w.heap.size < w4.heap.size := by omega
 obtain ⟨Ac0, Ac1, Ac2⟩ := HA.out
 have Az : w.heap.size + 1 < w4.heap.size := by omega
 rcases hy with hy | ⟨hy, hf⟩
 ·go_wp2
  go_ret
  exact ⟨rfl, HK.out⟩
 have hyn : ¬ y < 0 := by omega
 have FS := hidX hf
 clear hf
 go_wp2_with fail
 obtain ⟨KK, hKK⟩ : ∃ K, fairKb p d who = K := ⟨_, rfl⟩
 have HKK := hidX hKK
 clear hKK
 obtain ⟨DD, hDD⟩ : ∃ D, fairSb p d who = D := ⟨_, rfl⟩
 have HDD := hidX hDD
 clear hDD
 have hkk : (KK != KK) = false := by simp
 have FD : Hid (SFits DD) := by rw [← HDD.out]; exact fairSb_fits FS.out who
 have RB : Hid (∀ X, Below w4.heap.size w4 X → X.cell? ⟨w.heap.size, 0, none⟩ = some (.slice p1 p.caps.length a1) ∧ X.cell? ⟨w.heap.size, 1, none⟩ = some (.slice p2 p.bods.length a2) ∧ X.cell? ⟨w.heap.size + 1, 0, none⟩ = some (.slice s1 d.ths.length c1) ∧ X.cell? ⟨w.heap.size + 1, 1, none⟩ = some (.slice s2 d.chs.length c2) ∧ X.cell? ⟨w.heap.size + 1, 2, none⟩ = some (.slice s3 d.tr.length c3)) := fun X hX => by
  have qP := HAP.out.keep (Keep.of_below hX (by omega))
  have qS := HA.out.keep (Keep.of_below hX (by omega))
  exact ⟨qP.c0, qP.c1, qS.c0, qS.c1, qS.c2⟩
 have CP : Hid (∀ (X0 : World) (pB : Option Nat), Below w4.heap.size w4 X0 → BoxA X0 pB → Calls Tryz.prog 10 #[.agg #[.slice p1 p.caps.length a1, .slice p2 p.bods.length a2]] X0 fun e w' => ∃ (f1 f2 : Option Addr) (lo hi : Nat), e = .returned (.agg #[.slice f1 p.caps.length p.caps.length, .slice f2 p.bods.length p.bods.length]) ∧ hi ≤ w'.heap.size ∧ Below w4.heap.size w4 w' ∧ Hid (ProgR w' lo hi f1 f2 p) ∧ Hid (BoxA w' pB) ∧ w'.cell? ⟨w.heap.size, 0, none⟩ = some (.slice p1 p.caps.length a1) ∧ w'.cell? ⟨w.heap.size, 1, none⟩ = some (.slice p2 p.bods.length a2) ∧ w'.cell? ⟨w.heap.size + 1, 0, none⟩ = some (.slice s1 d.ths.length c1) ∧ w'.cell? ⟨w.heap.size + 1, 1, none⟩ = some (.slice s2 d.chs.length c2) ∧ w'.cell? ⟨w.heap.size + 1, 2, none⟩ = some (.slice s3 d.tr.length c3)) := fun X0 pB hX hb => (toProg_new p1 p2 a1 a2 0 w.heap.size p X0 (HP.out.keep' (Keep.of_below (HK.out.trans (hX.mono (by omega))) (Nat.le_refl _))) (by have := hX.size; omega) FP.out).mono fun e w' hq => by
  obtain ⟨f1, f2, he, hb2, -, hr⟩ := hq
  have kk : Below w4.heap.size w4 w' := hX.trans (hb2.mono hX.size)
  exact ⟨f1, f2, _, _, he, Nat.le_refl _, kk, hr, hb.keep hb2, RB.out _ kk⟩
 have CS : Hid (∀ (wA : World) (f1 f2 : Option Addr) (lo hi : Nat) (X0 : World) (pB : Option Nat), hi ≤ wA.heap.size → Below w4.heap.size w4 X0 → ProgR wA lo hi f1 f2 p → Below wA.heap.size wA X0 → BoxA X0 pB → Calls Tryz.prog 11 #[.agg #[.slice s1 d.ths.length c1, .slice s2 d.chs.length c2, .slice s3 d.tr.length c3]] X0 fun e w' => ∃ (t1 : Option Addr) (e1 : Nat) (t2 : Option Addr) (e2 : Nat) (t3 : Option Addr) (e3 : Nat) (lo' hi' : Nat), e = .returned (.agg #[.slice t1 d.ths.length e1, .slice t2 d.chs.length e2, .slice t3 d.tr.length e3]) ∧ hi ≤ w'.heap.size ∧ hi' ≤ w'.heap.size ∧ Below w4.heap.size w4 w' ∧ Hid (ProgR w' lo hi f1 f2 p) ∧ Hid (SrcR w' lo' hi' t1 t2 t3 d) ∧ Hid (BoxA w' pB) ∧ w'.cell? ⟨w.heap.size, 0, none⟩ = some (.slice p1 p.caps.length a1) ∧ w'.cell? ⟨w.heap.size, 1, none⟩ = some (.slice p2 p.bods.length a2) ∧ w'.cell? ⟨w.heap.size + 1, 0, none⟩ = some (.slice s1 d.ths.length c1) ∧ w'.cell? ⟨w.heap.size + 1, 1, none⟩ = some (.slice s2 d.chs.length c2) ∧ w'.cell? ⟨w.heap.size + 1, 2, none⟩ = some (.slice s3 d.tr.length c3)) := fun wA f1 f2 lo hi X0 pB hh hX hp hA hb => (toSource_own s1 s2 s3 c1 c2 c3 0 w.heap.size d X0 (HS.out.keep (Keep.of_below (HK.out.trans (hX.mono (by omega))) (Nat.le_refl _))) (by have := hX.size; omega) FS.out).mono fun e w' hq => by
  obtain ⟨v1, v2, v3, L1, L2, he, ho, hb2, -⟩ := hq
  obtain ⟨t1, e1, t2, e2, t3, e3, rfl, rfl, rfl, hr⟩ := ho.src
  have kk : Below w4.heap.size w4 w' := hX.trans (hb2.mono hX.size)
  have k2 : Below wA.heap.size wA w' := hA.trans (hb2.mono hA.size)
  exact ⟨t1, e1, t2, e2, t3, e3, _, _, he, Nat.le_trans hh k2.size, Nat.le_refl _, kk, hp.keep' (Keep.of_below k2 hh), hr, hb.keep hb2, RB.out _ kk⟩
 have CT : Hid (∀ (wB : World) (f1 f2 : Option Addr) (lo hi : Nat) (t1 : Option Addr) (e1 : Nat) (t2 : Option Addr) (e2 : Nat) (t3 : Option Addr) (e3 : Nat) (lo' hi' : Nat) (X0 : World) (pB : Option Nat), hi ≤ wB.heap.size → hi' ≤ wB.heap.size → Below w4.heap.size w4 X0 → ProgR wB lo hi f1 f2 p → SrcR wB lo' hi' t1 t2 t3 d → Below wB.heap.size wB X0 → BoxA X0 pB → Calls Tryz.prog 26 #[.agg #[.slice f1 p.caps.length p.caps.length, .slice f2 p.bods.length p.bods.length], .agg #[.slice t1 d.ths.length e1, .slice t2 d.chs.length e2, .slice t3 d.tr.length e3], .int .i64 who] X0 fun e w' => ∃ (x1 : Option Addr) (y1 : Nat) (x2 : Option Addr) (y2 : Nat) (x3 : Option Addr) (y3 : Nat), e = .returned (.tuple #[.agg #[.slice x1 DD.ths.length y1, .slice x2 DD.chs.length y2, .slice x3 DD.tr.length y3], .int .i64 KK]) ∧ Below w4.heap.size w4 w' ∧ Hid (∃ L1 L2, OwnS w' w4.heap.size (.slice x1 DD.ths.length y1) (.slice x2 DD.chs.length y2) (.slice x3 DD.tr.length y3) L1 L2 DD) ∧ Hid (BoxA w' pB) ∧ w'.cell? ⟨w.heap.size, 0, none⟩ = some (.slice p1 p.caps.length a1) ∧ w'.cell? ⟨w.heap.size, 1, none⟩ = some (.slice p2 p.bods.length a2) ∧ w'.cell? ⟨w.heap.size + 1, 0, none⟩ = some (.slice s1 d.ths.length c1) ∧ w'.cell? ⟨w.heap.size + 1, 1, none⟩ = some (.slice s2 d.chs.length c2) ∧ w'.cell? ⟨w.heap.size + 1, 2, none⟩ = some (.slice s3 d.tr.length c3)) := fun wB f1 f2 lo hi t1 e1 t2 e2 t3 e3 lo' hi' X0 pB h1 h2 hX hp hs hB hb => (specFair_any f1 f2 t1 t2 t3 _ _ e1 e2 e3 lo hi lo' hi' p d who X0 (hp.keep' (Keep.of_below hB h1)) (hs.keep (Keep.of_below hB h2)) (Nat.le_trans h1 hB.size) (Nat.le_trans h2 hB.size) FP.out FS.out).mono fun e w' hq => by
  rw [HKK.out, HDD.out] at hq
  obtain ⟨x1, y1, x2, y2, x3, y3, L1, L2, he, ho, hb2⟩ := hq
  have kk : Below w4.heap.size w4 w' := hX.trans (hb2.mono hX.size)
  exact ⟨x1, y1, x2, y2, x3, y3, he, kk, ⟨L1, L2, ho.low hX.size⟩, hb.keep hb2, RB.out _ kk⟩
 have kD : Below w4.heap.size w4 w4.drew := Below.drew (Below.refl _ _)
 have hdr : ∀ X : World, X.drew.heap.size = X.heap.size := fun _ => rfl
 go_cut [8, 9] (fun s8 s9 wx => CutS w4 DD KK s8 s9 wx)
 case first =>
  go_region_held3 (fun w' => w'.cell? ⟨w.heap.size, 0, none⟩ = some (.slice p1 p.caps.length a1) ∧ w'.cell? ⟨w.heap.size, 1, none⟩ = some (.slice p2 p.bods.length a2) ∧ w'.cell? ⟨w.heap.size + 1, 0, none⟩ = some (.slice s1 d.ths.length c1) ∧ w'.cell? ⟨w.heap.size + 1, 1, none⟩ = some (.slice s2 d.chs.length c2) ∧ w'.cell? ⟨w.heap.size + 1, 2, none⟩ = some (.slice s3 d.tr.length c3)) (first | exact RB.out _ (by repeat' (first | with_reducible exact kC | with_reducible exact kB | with_reducible exact kA | with_reducible exact kD | with_reducible exact Below.refl _ _ | with_reducible refine Below.drew ?_ | with_reducible refine Below.alloc ?_ (by first | omega | exact Nat.le_refl _ | (simp [hdr]; done) | (simp [hdr]; omega)) _ | with_reducible refine Below.setCell ?_ (by first | omega | exact Nat.le_refl _ | (simp [hdr]; done) | (simp [hdr]; omega)) _)) | go_keep) (first | (go_at_call 10; with_reducible refine (CP.out _ _ (by repeat' (first | with_reducible exact kC | with_reducible exact kB | with_reducible exact kA | with_reducible exact kD | with_reducible exact Below.refl _ _ | with_reducible refine Below.drew ?_ | with_reducible refine Below.alloc ?_ (by first | omega | exact Nat.le_refl _ | (simp [hdr]; done) | (simp [hdr]; omega)) _ | with_reducible refine Below.setCell ?_ (by first | omega | exact Nat.le_refl _ | (simp [hdr]; done) | (simp [hdr]; omega)) _)) (by first | with_reducible exact boxAD (boxA0 _) | with_reducible exact boxA0 _ | with_reducible exact boxAN _)).mono ?_; rintro e wA ⟨f1, f2, lo, hi, rfl, hhA, kA, PA, HBA, yA0, yA1, yA2, yA3, yA4⟩; have zA := kA.size) | (go_at_call 11; with_reducible refine (CS.out wA f1 f2 lo hi _ _ hhA (by repeat' (first | with_reducible exact kC | with_reducible exact kB | with_reducible exact kA | with_reducible exact kD | with_reducible exact Below.refl _ _ | with_reducible refine Below.drew ?_ | with_reducible refine Below.alloc ?_ (by first | omega | exact Nat.le_refl _ | (simp [hdr]; done) | (simp [hdr]; omega)) _ | with_reducible refine Below.setCell ?_ (by first | omega | exact Nat.le_refl _ | (simp [hdr]; done) | (simp [hdr]; omega)) _)) PA.out (show Below wA.heap.size wA _ from (by repeat' (first | with_reducible exact Below.refl _ _ | with_reducible refine Below.drew ?_ | with_reducible refine Below.alloc ?_ (by first | omega | exact Nat.le_refl _ | (simp [hdr]; done) | (simp [hdr]; omega)) _))) (by first | with_reducible exact boxAD (boxA0 _) | with_reducible exact boxA0 _ | with_reducible exact HBA.out | with_reducible exact boxAN _)).mono ?_; rintro e wB ⟨t1, e1, t2, e2, t3, e3, lo', hi', rfl, hhB, hhB', kB, PB, SB', HBB, yB0, yB1, yB2, yB3, yB4⟩; have zB := kB.size) | (go_at_call 26; with_reducible refine (CT.out wB f1 f2 lo hi t1 e1 t2 e2 t3 e3 lo' hi' _ _ hhB hhB' (by repeat' (first | with_reducible exact kC | with_reducible exact kB | with_reducible exact kA | with_reducible exact kD | with_reducible exact Below.refl _ _ | with_reducible refine Below.drew ?_ | with_reducible refine Below.alloc ?_ (by first | omega | exact Nat.le_refl _ | (simp [hdr]; done) | (simp [hdr]; omega)) _ | with_reducible refine Below.setCell ?_ (by first | omega | exact Nat.le_refl _ | (simp [hdr]; done) | (simp [hdr]; omega)) _)) PB.out SB'.out (show Below wB.heap.size wB _ from (by repeat' (first | with_reducible exact Below.refl _ _ | with_reducible refine Below.drew ?_ | with_reducible refine Below.alloc ?_ (by first | omega | exact Nat.le_refl _ | (simp [hdr]; done) | (simp [hdr]; omega)) _))) (by first | with_reducible exact boxAD (boxA0 _) | with_reducible exact boxA0 _ | with_reducible exact HBB.out | with_reducible exact boxAN _)).mono ?_; rintro e wC ⟨x1, y1, x2, y2, x3, y3, rfl, kC, OC, HBC, yC0, yC1, yC2, yC3, yC4⟩; have zC := kC.size; (try obtain ⟨⟨b0', b1', b2', bf', b9⟩, -⟩ := boxAS HBC.out)) | fail)
  all_goals
   go_wp2_with fail
   go_meet
   first
    | with_reducible exact cutS_new OC.out kC
    | with_reducible exact cutS_set (boxAS HBC.out) (by omega) OC.out kC
 case rest =>
  obtain ⟨bow, xw1, yw1, xw2, yw2, xw3, yw3, rfl, rfl, hbow, hbzw, hx5, hs5, hk5⟩ := hcut
  obtain ⟨w5, hw5⟩ : ∃ z, z = wc := ⟨_, rfl⟩
  subst hw5
  have z5 := hk5.size
  clear RB CP CS CT kD hdr
  clear APc0 APc1 APz
  clear Ac0 Ac1 Ac2 Az
  have JK := hidX (HK.out.trans (hk5.mono (by omega)))
  have JAP := hidX (HAP.out.keep (Keep.of_below hk5 (by omega)))
  have JA := hidX (HA.out.keep (Keep.of_below hk5 (by omega)))
  clear HK HAP HA
  have HK := JK
  have HAP := JAP
  have HA := JA
  clear JK JAP JA
  have HRw : Hid (SrcR w5 w4.heap.size w5.heap.size xw1 xw2 xw3 DD) := hs5
  have HFw : Hid (Bo3 bow w5 (.slice xw1 DD.ths.length yw1) (.slice xw2 DD.chs.length yw2) (.slice xw3 DD.tr.length yw3)) := hx5
  clear hk5 hs5 hx5
  obtain ⟨APc0, APc1⟩ := HAP.out
  have APz : w.heap.size < w5.heap.size := by omega
  obtain ⟨Ac0, Ac1, Ac2⟩ := HA.out
  have Az : w.heap.size + 1 < w5.heap.size := by omega
  obtain ⟨Fwc0, Fwc1, Fwc2⟩ := HFw.out
  have Fwz : bow < w5.heap.size := by omega
  go_wp2_with fail
  refine (toProg_own p1 p2 a1 a2 0 w.heap.size p w5 (HP.out.keep' (Keep.of_below HK.out (Nat.le_refl _))) (by omega) FP.out).mono ?_
  rintro e w6 ⟨xx1, xx2, Lxx, rfl, ho6, hb6, z6⟩
  clear APc0 APc1 APz
  clear Ac0 Ac1 Ac2 Az
  clear Fwc0 Fwc1 Fwc2 Fwz
  have JK := hidX (HK.out.trans (hb6.mono (by omega)))
  have JAP := hidX (HAP.out.keep (Keep.of_below hb6 (by omega)))
  have JA := hidX (HA.out.keep (Keep.of_below hb6 (by omega)))
  have JRw := hidX (HRw.out.keep (Keep.of_below hb6 (by omega)))
  have JFw := hidX (HFw.out.keep (Keep.of_below hb6 (by omega)))
  clear HK HAP HA HRw HFw
  have HK := JK
  have HAP := JAP
  have HA := JA
  have HRw := JRw
  have HFw := JFw
  clear JK JAP JA JRw JFw
  have HRx : Hid (PR w6 w5.heap.size w6.heap.size xx1 xx2 p) := ho6.prog
  have HOx : Hid (GB w6 w5.heap.size w6.heap.size (.slice xx1 p.caps.length p.caps.length) (.slice xx2 p.bods.length p.bods.length) Lxx p) := GB.of ho6
  clear hb6 ho6
  obtain ⟨APc0, APc1⟩ := HAP.out
  have APz : w.heap.size < w6.heap.size := by omega
  obtain ⟨Ac0, Ac1, Ac2⟩ := HA.out
  have Az : w.heap.size + 1 < w6.heap.size := by omega
  obtain ⟨Fwc0, Fwc1, Fwc2⟩ := HFw.out
  have Fwz : bow < w6.heap.size := by omega
  go_wp2_with fail
  obtain ⟨V7, hV7, bx7, kb7, zb7⟩ := Bo2.new w6 (.slice xx1 p.caps.length p.caps.length) (.slice xx2 p.bods.length p.bods.length) 42
  rw [hV7]
  clear hV7
  clear APc0 APc1 APz
  clear Ac0 Ac1 Ac2 Az
  clear Fwc0 Fwc1 Fwc2 Fwz
  have JK := hidX (HK.out.trans (kb7.mono (by omega)))
  have JAP := hidX (HAP.out.keep (Keep.of_below kb7 (by omega)))
  have JA := hidX (HA.out.keep (Keep.of_below kb7 (by omega)))
  have JRw := hidX (HRw.out.keep (Keep.of_below kb7 (by omega)))
  have JFw := hidX (HFw.out.keep (Keep.of_below kb7 (by omega)))
  have JRx := hidX (HRx.out.keep (Keep.of_below kb7 (by omega)))
  have JOx := hidX (HOx.out.keep (Keep.of_below kb7 (by omega)))
  clear HK HAP HA HRw HFw HRx HOx
  have HK := JK
  have HAP := JAP
  have HA := JA
  have HRw := JRw
  have HFw := JFw
  have HRx := JRx
  have HOx := JOx
  clear JK JAP JA JRw JFw JRx JOx
  have HXx : Hid (Bo2 w6.heap.size V7 (.slice xx1 p.caps.length p.caps.length) (.slice xx2 p.bods.length p.bods.length)) := bx7
  clear bx7 kb7
  obtain ⟨APc0, APc1⟩ := HAP.out
  have APz : w.heap.size < V7.heap.size := by omega
  obtain ⟨Ac0, Ac1, Ac2⟩ := HA.out
  have Az : w.heap.size + 1 < V7.heap.size := by omega
  obtain ⟨Fwc0, Fwc1, Fwc2⟩ := HFw.out
  have Fwz : bow < V7.heap.size := by omega
  obtain ⟨Xxc0, Xxc1⟩ := HXx.out
  have Xxz : w6.heap.size < V7.heap.size := by omega
  go_wp2_with fail
  refine (toSource_own s1 s2 s3 c1 c2 c3 0 w.heap.size d V7 (HS.out.keep (Keep.of_below HK.out (Nat.le_refl _))) (by omega) FS.out).mono ?_
  rintro e w8 ⟨va8, vb8, vc8, Laz, Lbz, rfl, ho8, hb8, z8⟩
  obtain ⟨xz1, yz1, xz2, yz2, xz3, yz3, rfl, rfl, rfl, hs8⟩ := ho8.src
  clear APc0 APc1 APz
  clear Ac0 Ac1 Ac2 Az
  clear Fwc0 Fwc1 Fwc2 Fwz
  clear Xxc0 Xxc1 Xxz
  have JK := hidX (HK.out.trans (hb8.mono (by omega)))
  have JAP := hidX (HAP.out.keep (Keep.of_below hb8 (by omega)))
  have JA := hidX (HA.out.keep (Keep.of_below hb8 (by omega)))
  have JRw := hidX (HRw.out.keep (Keep.of_below hb8 (by omega)))
  have JFw := hidX (HFw.out.keep (Keep.of_below hb8 (by omega)))
  have JRx := hidX (HRx.out.keep (Keep.of_below hb8 (by omega)))
  have JOx := hidX (HOx.out.keep (Keep.of_below hb8 (by omega)))
  have JXx := hidX (HXx.out.keep (Keep.of_below hb8 (by omega)))
  clear HK HAP HA HRw HFw HRx HOx HXx
  have HK := JK
  have HAP := JAP
  have HA := JA
  have HRw := JRw
  have HFw := JFw
  have HRx := JRx
  have HOx := JOx
  have HXx := JXx
  clear JK JAP JA JRw JFw JRx JOx JXx
  have HRz : Hid (SrcR w8 V7.heap.size w8.heap.size xz1 xz2 xz3 d) := hs8
  have HOz : Hid (SB w8 V7.heap.size w8.heap.size (.slice xz1 d.ths.length yz1) (.slice xz2 d.chs.length yz2) (.slice xz3 d.tr.length yz3) Laz Lbz d) := SB.of ho8
  clear hb8 hs8 ho8
  obtain ⟨APc0, APc1⟩ := HAP.out
  have APz : w.heap.size < w8.heap.size := by omega
  obtain ⟨Ac0, Ac1, Ac2⟩ := HA.out
  have Az : w.heap.size + 1 < w8.heap.size := by omega
  obtain ⟨Fwc0, Fwc1, Fwc2⟩ := HFw.out
  have Fwz : bow < w8.heap.size := by omega
  obtain ⟨Xxc0, Xxc1⟩ := HXx.out
  have Xxz : w6.heap.size < w8.heap.size := by omega
  go_wp2_with fail
  obtain ⟨V9, hV9, bx9, kb9, zb9⟩ := Bo3.new w8 (.slice xz1 d.ths.length yz1) (.slice xz2 d.chs.length yz2) (.slice xz3 d.tr.length yz3) 37
  rw [hV9]
  clear hV9
  clear APc0 APc1 APz
  clear Ac0 Ac1 Ac2 Az
  clear Fwc0 Fwc1 Fwc2 Fwz
  clear Xxc0 Xxc1 Xxz
  have JK := hidX (HK.out.trans (kb9.mono (by omega)))
  have JAP := hidX (HAP.out.keep (Keep.of_below kb9 (by omega)))
  have JA := hidX (HA.out.keep (Keep.of_below kb9 (by omega)))
  have JRw := hidX (HRw.out.keep (Keep.of_below kb9 (by omega)))
  have JFw := hidX (HFw.out.keep (Keep.of_below kb9 (by omega)))
  have JRx := hidX (HRx.out.keep (Keep.of_below kb9 (by omega)))
  have JOx := hidX (HOx.out.keep (Keep.of_below kb9 (by omega)))
  have JXx := hidX (HXx.out.keep (Keep.of_below kb9 (by omega)))
  have JRz := hidX (HRz.out.keep (Keep.of_below kb9 (by omega)))
  have JOz := hidX (HOz.out.keep (Keep.of_below kb9 (by omega)))
  clear HK HAP HA HRw HFw HRx HOx HXx HRz HOz
  have HK := JK
  have HAP := JAP
  have HA := JA
  have HRw := JRw
  have HFw := JFw
  have HRx := JRx
  have HOx := JOx
  have HXx := JXx
  have HRz := JRz
  have HOz := JOz
  clear JK JAP JA JRw JFw JRx JOx JXx JRz JOz
  have HXz : Hid (Bo3 w8.heap.size V9 (.slice xz1 d.ths.length yz1) (.slice xz2 d.chs.length yz2) (.slice xz3 d.tr.length yz3)) := bx9
  clear bx9 kb9
  obtain ⟨APc0, APc1⟩ := HAP.out
  have APz : w.heap.size < V9.heap.size := by omega
  obtain ⟨Ac0, Ac1, Ac2⟩ := HA.out
  have Az : w.heap.size + 1 < V9.heap.size := by omega
  obtain ⟨Fwc0, Fwc1, Fwc2⟩ := HFw.out
  have Fwz : bow < V9.heap.size := by omega
  obtain ⟨Xxc0, Xxc1⟩ := HXx.out
  have Xxz : w6.heap.size < V9.heap.size := by omega
  obtain ⟨Xzc0, Xzc1, Xzc2⟩ := HXz.out
  have Xzz : w8.heap.size < V9.heap.size := by omega
  go_wp2_with fail
  have IM := implFair_any xx1 xx2 xz1 xz2 xz3 p.caps.length p.bods.length yz1 yz2 yz3 w5.heap.size w6.heap.size V7.heap.size w8.heap.size p d who V9 HRx.out HRz.out (by omega) (by omega) FP.out FS.out
  rw [HKK.out, HDD.out] at IM
  refine IM.mono ?_
  clear IM
  rintro e w10 ⟨xg1, yg1, xg2, yg2, xg3, yg3, Lag, Lbg, rfl, ho10, hb10⟩
  have z10 := hb10.size
  clear APc0 APc1 APz
  clear Ac0 Ac1 Ac2 Az
  clear Fwc0 Fwc1 Fwc2 Fwz
  clear Xxc0 Xxc1 Xxz
  clear Xzc0 Xzc1 Xzc2 Xzz
  have JK := hidX (HK.out.trans (hb10.mono (by omega)))
  have JAP := hidX (HAP.out.keep (Keep.of_below hb10 (by omega)))
  have JA := hidX (HA.out.keep (Keep.of_below hb10 (by omega)))
  have JRw := hidX (HRw.out.keep (Keep.of_below hb10 (by omega)))
  have JFw := hidX (HFw.out.keep (Keep.of_below hb10 (by omega)))
  have JRx := hidX (HRx.out.keep (Keep.of_below hb10 (by omega)))
  have JOx := hidX (HOx.out.keep (Keep.of_below hb10 (by omega)))
  have JXx := hidX (HXx.out.keep (Keep.of_below hb10 (by omega)))
  have JRz := hidX (HRz.out.keep (Keep.of_below hb10 (by omega)))
  have JOz := hidX (HOz.out.keep (Keep.of_below hb10 (by omega)))
  have JXz := hidX (HXz.out.keep (Keep.of_below hb10 (by omega)))
  clear HK HAP HA HRw HFw HRx HOx HXx HRz HOz HXz
  have HK := JK
  have HAP := JAP
  have HA := JA
  have HRw := JRw
  have HFw := JFw
  have HRx := JRx
  have HOx := JOx
  have HXx := JXx
  have HRz := JRz
  have HOz := JOz
  have HXz := JXz
  clear JK JAP JA JRw JFw JRx JOx JXx JRz JOz JXz
  have HRg : Hid (SrcR w10 V9.heap.size w10.heap.size xg1 xg2 xg3 DD) := ho10.srcR
  have HOg : Hid (SB w10 V9.heap.size w10.heap.size (.slice xg1 DD.ths.length yg1) (.slice xg2 DD.chs.length yg2) (.slice xg3 DD.tr.length yg3) Lag Lbg DD) := SB.of ho10
  clear hb10 ho10
  obtain ⟨APc0, APc1⟩ := HAP.out
  have APz : w.heap.size < w10.heap.size := by omega
  obtain ⟨Ac0, Ac1, Ac2⟩ := HA.out
  have Az : w.heap.size + 1 < w10.heap.size := by omega
  obtain ⟨Fwc0, Fwc1, Fwc2⟩ := HFw.out
  have Fwz : bow < w10.heap.size := by omega
  obtain ⟨Xxc0, Xxc1⟩ := HXx.out
  have Xxz : w6.heap.size < w10.heap.size := by omega
  obtain ⟨Xzc0, Xzc1, Xzc2⟩ := HXz.out
  have Xzz : w8.heap.size < w10.heap.size := by omega
  go_wp2_with fail
  obtain ⟨V11, hV11, bx11, kb11, zb11⟩ := Bo3.new w10 (.slice xg1 DD.ths.length yg1) (.slice xg2 DD.chs.length yg2) (.slice xg3 DD.tr.length yg3) 37
  rw [hV11]
  clear hV11
  clear APc0 APc1 APz
  clear Ac0 Ac1 Ac2 Az
  clear Fwc0 Fwc1 Fwc2 Fwz
  clear Xxc0 Xxc1 Xxz
  clear Xzc0 Xzc1 Xzc2 Xzz
  have JK := hidX (HK.out.trans (kb11.mono (by omega)))
  have JAP := hidX (HAP.out.keep (Keep.of_below kb11 (by omega)))
  have JA := hidX (HA.out.keep (Keep.of_below kb11 (by omega)))
  have JRw := hidX (HRw.out.keep (Keep.of_below kb11 (by omega)))
  have JFw := hidX (HFw.out.keep (Keep.of_below kb11 (by omega)))
  have JRx := hidX (HRx.out.keep (Keep.of_below kb11 (by omega)))
  have JOx := hidX (HOx.out.keep (Keep.of_below kb11 (by omega)))
  have JXx := hidX (HXx.out.keep (Keep.of_below kb11 (by omega)))
  have JRz := hidX (HRz.out.keep (Keep.of_below kb11 (by omega)))
  have JOz := hidX (HOz.out.keep (Keep.of_below kb11 (by omega)))
  have JXz := hidX (HXz.out.keep (Keep.of_below kb11 (by omega)))
  have JRg := hidX (HRg.out.keep (Keep.of_below kb11 (by omega)))
  have JOg := hidX (HOg.out.keep (Keep.of_below kb11 (by omega)))
  clear HK HAP HA HRw HFw HRx HOx HXx HRz HOz HXz HRg HOg
  have HK := JK
  have HAP := JAP
  have HA := JA
  have HRw := JRw
  have HFw := JFw
  have HRx := JRx
  have HOx := JOx
  have HXx := JXx
  have HRz := JRz
  have HOz := JOz
  have HXz := JXz
  have HRg := JRg
  have HOg := JOg
  clear JK JAP JA JRw JFw JRx JOx JXx JRz JOz JXz JRg JOg
  have HYg : Hid (Bo3 w10.heap.size V11 (.slice xg1 DD.ths.length yg1) (.slice xg2 DD.chs.length yg2) (.slice xg3 DD.tr.length yg3)) := bx11
  clear bx11 kb11
  obtain ⟨APc0, APc1⟩ := HAP.out
  have APz : w.heap.size < V11.heap.size := by omega
  obtain ⟨Ac0, Ac1, Ac2⟩ := HA.out
  have Az : w.heap.size + 1 < V11.heap.size := by omega
  obtain ⟨Fwc0, Fwc1, Fwc2⟩ := HFw.out
  have Fwz : bow < V11.heap.size := by omega
  obtain ⟨Xxc0, Xxc1⟩ := HXx.out
  have Xxz : w6.heap.size < V11.heap.size := by omega
  obtain ⟨Xzc0, Xzc1, Xzc2⟩ := HXz.out
  have Xzz : w8.heap.size < V11.heap.size := by omega
  obtain ⟨Ygc0, Ygc1, Ygc2⟩ := HYg.out
  have Ygz : w10.heap.size < V11.heap.size := by omega
  go_wp2_with fail
  refine (eqSource_alike xg1 xg2 xg3 xw1 xw2 xw3 _ _ _ _ _ _ V9.heap.size w10.heap.size w4.heap.size w5.heap.size DD V11 HRg.out HRw.out (by omega) (by omega) FD.out).mono ?_
  rintro e w12 ⟨rfl, hb12⟩
  have z12 := hb12.size
  clear APc0 APc1 APz
  clear Ac0 Ac1 Ac2 Az
  clear Fwc0 Fwc1 Fwc2 Fwz
  clear Xxc0 Xxc1 Xxz
  clear Xzc0 Xzc1 Xzc2 Xzz
  clear Ygc0 Ygc1 Ygc2 Ygz
  have JK := hidX (HK.out.trans (hb12.mono (by omega)))
  have JAP := hidX (HAP.out.keep (Keep.of_below hb12 (by omega)))
  have JA := hidX (HA.out.keep (Keep.of_below hb12 (by omega)))
  have JRw := hidX (HRw.out.keep (Keep.of_below hb12 (by omega)))
  have JFw := hidX (HFw.out.keep (Keep.of_below hb12 (by omega)))
  have JRx := hidX (HRx.out.keep (Keep.of_below hb12 (by omega)))
  have JOx := hidX (HOx.out.keep (Keep.of_below hb12 (by omega)))
  have JXx := hidX (HXx.out.keep (Keep.of_below hb12 (by omega)))
  have JRz := hidX (HRz.out.keep (Keep.of_below hb12 (by omega)))
  have JOz := hidX (HOz.out.keep (Keep.of_below hb12 (by omega)))
  have JXz := hidX (HXz.out.keep (Keep.of_below hb12 (by omega)))
  have JRg := hidX (HRg.out.keep (Keep.of_below hb12 (by omega)))
  have JOg := hidX (HOg.out.keep (Keep.of_below hb12 (by omega)))
  have JYg := hidX (HYg.out.keep (Keep.of_below hb12 (by omega)))
  clear HK HAP HA HRw HFw HRx HOx HXx HRz HOz HXz HRg HOg HYg
  have HK := JK
  have HAP := JAP
  have HA := JA
  have HRw := JRw
  have HFw := JFw
  have HRx := JRx
  have HOx := JOx
  have HXx := JXx
  have HRz := JRz
  have HOz := JOz
  have HXz := JXz
  have HRg := JRg
  have HOg := JOg
  have HYg := JYg
  clear JK JAP JA JRw JFw JRx JOx JXx JRz JOz JXz JRg JOg JYg
  clear hb12
  obtain ⟨APc0, APc1⟩ := HAP.out
  have APz : w.heap.size < w12.heap.size := by omega
  obtain ⟨Ac0, Ac1, Ac2⟩ := HA.out
  have Az : w.heap.size + 1 < w12.heap.size := by omega
  obtain ⟨Fwc0, Fwc1, Fwc2⟩ := HFw.out
  have Fwz : bow < w12.heap.size := by omega
  obtain ⟨Xxc0, Xxc1⟩ := HXx.out
  have Xxz : w6.heap.size < w12.heap.size := by omega
  obtain ⟨Xzc0, Xzc1, Xzc2⟩ := HXz.out
  have Xzz : w8.heap.size < w12.heap.size := by omega
  obtain ⟨Ygc0, Ygc1, Ygc2⟩ := HYg.out
  have Ygz : w10.heap.size < w12.heap.size := by omega
  go_wp2_with fail
  go_region_held3 (fun w' => w'.cell? ⟨w6.heap.size, 0, none⟩ = some (.slice xx1 p.caps.length p.caps.length) ∧ w'.cell? ⟨w6.heap.size, 1, none⟩ = some (.slice xx2 p.bods.length p.bods.length) ∧ w'.cell? ⟨w.heap.size, 0, none⟩ = some (.slice p1 p.caps.length a1) ∧ w'.cell? ⟨w.heap.size, 1, none⟩ = some (.slice p2 p.bods.length a2)) (go_keep) (first | (go_at_call 10; refine (toProg_own p1 p2 a1 a2 0 w.heap.size p w12.drew (HP.out.keep' (Keep.of_below HK.out.drew (Nat.le_refl _))) (by show w.heap.size ≤ w12.heap.size; omega) FP.out).mono ?_; rintro e w13 ⟨f1, f2, Lf, rfl, ho13, hb13, hz13⟩; have kx : Below w12.heap.size w12 w13 := (Below.drew (Below.refl _ _)).trans hb13; have kz := kx.size; have XX := HXx.out.keep (Keep.of_below kx (by omega)); have AA := HAP.out.keep (Keep.of_below kx (by omega)); have t0 := XX.c0; have t1 := XX.c1; have t3 := AA.c0; have t4 := AA.c1) | (go_at_call 16; refine (eqProg_same xx1 xx2 f1 f2 _ _ _ _ w5.heap.size w6.heap.size w12.heap.size w13.heap.size p w13 (HRx.out.keep' (Keep.of_below kx (by omega))) ho13.prog (by omega) (Nat.le_refl _) FP.out).mono ?_; rintro e w14 ⟨rfl, hb14⟩; have ky : Below w12.heap.size w12 w14 := kx.trans (hb14.mono (by omega)); have XY := XX.keep (Keep.of_below hb14 (by omega)); have AY := AA.keep (Keep.of_below hb14 (by omega)); have u0 := XY.c0; have u1 := XY.c1; have u3 := AY.c0; have u4 := AY.c1))
  have z14 := ky.size
  clear t0 t1 t3 t4 u0 u1 u3 u4 XX AA XY AY hb13 hb14 ho13 hz13 kx kz
  clear APc0 APc1 APz
  clear Ac0 Ac1 Ac2 Az
  clear Fwc0 Fwc1 Fwc2 Fwz
  clear Xxc0 Xxc1 Xxz
  clear Xzc0 Xzc1 Xzc2 Xzz
  clear Ygc0 Ygc1 Ygc2 Ygz
  have JK := hidX (HK.out.trans (ky.mono (by omega)))
  have JAP := hidX (HAP.out.keep (Keep.of_below ky (by omega)))
  have JA := hidX (HA.out.keep (Keep.of_below ky (by omega)))
  have JRw := hidX (HRw.out.keep (Keep.of_below ky (by omega)))
  have JFw := hidX (HFw.out.keep (Keep.of_below ky (by omega)))
  have JRx := hidX (HRx.out.keep (Keep.of_below ky (by omega)))
  have JOx := hidX (HOx.out.keep (Keep.of_below ky (by omega)))
  have JXx := hidX (HXx.out.keep (Keep.of_below ky (by omega)))
  have JRz := hidX (HRz.out.keep (Keep.of_below ky (by omega)))
  have JOz := hidX (HOz.out.keep (Keep.of_below ky (by omega)))
  have JXz := hidX (HXz.out.keep (Keep.of_below ky (by omega)))
  have JRg := hidX (HRg.out.keep (Keep.of_below ky (by omega)))
  have JOg := hidX (HOg.out.keep (Keep.of_below ky (by omega)))
  have JYg := hidX (HYg.out.keep (Keep.of_below ky (by omega)))
  clear HK HAP HA HRw HFw HRx HOx HXx HRz HOz HXz HRg HOg HYg
  have HK := JK
  have HAP := JAP
  have HA := JA
  have HRw := JRw
  have HFw := JFw
  have HRx := JRx
  have HOx := JOx
  have HXx := JXx
  have HRz := JRz
  have HOz := JOz
  have HXz := JXz
  have HRg := JRg
  have HOg := JOg
  have HYg := JYg
  clear JK JAP JA JRw JFw JRx JOx JXx JRz JOz JXz JRg JOg JYg
  clear ky
  obtain ⟨APc0, APc1⟩ := HAP.out
  have APz : w.heap.size < w14.heap.size := by omega
  obtain ⟨Ac0, Ac1, Ac2⟩ := HA.out
  have Az : w.heap.size + 1 < w14.heap.size := by omega
  obtain ⟨Fwc0, Fwc1, Fwc2⟩ := HFw.out
  have Fwz : bow < w14.heap.size := by omega
  obtain ⟨Xxc0, Xxc1⟩ := HXx.out
  have Xxz : w6.heap.size < w14.heap.size := by omega
  obtain ⟨Xzc0, Xzc1, Xzc2⟩ := HXz.out
  have Xzz : w8.heap.size < w14.heap.size := by omega
  obtain ⟨Ygc0, Ygc1, Ygc2⟩ := HYg.out
  have Ygz : w10.heap.size < w14.heap.size := by omega
  go_wp2_with fail
  go_region_held3 (fun w' => w'.cell? ⟨w8.heap.size, 0, none⟩ = some (.slice xz1 d.ths.length yz1) ∧ w'.cell? ⟨w8.heap.size, 1, none⟩ = some (.slice xz2 d.chs.length yz2) ∧ w'.cell? ⟨w8.heap.size, 2, none⟩ = some (.slice xz3 d.tr.length yz3) ∧ w'.cell? ⟨w.heap.size + 1, 0, none⟩ = some (.slice s1 d.ths.length c1) ∧ w'.cell? ⟨w.heap.size + 1, 1, none⟩ = some (.slice s2 d.chs.length c2) ∧ w'.cell? ⟨w.heap.size + 1, 2, none⟩ = some (.slice s3 d.tr.length c3)) (go_keep) (first | (go_at_call 11; refine (toSource_own s1 s2 s3 c1 c2 c3 0 w.heap.size d w14.drew (HS.out.keep (Keep.of_below HK.out.drew (Nat.le_refl _))) (by show w.heap.size ≤ w14.heap.size; omega) FS.out).mono ?_; rintro e w15 ⟨va15, vb15, vc15, Ma15, Mb15, rfl, ho15, hb15, hz15⟩; obtain ⟨f1, h1, f2, h2, f3, h3, rfl, rfl, rfl, hs15⟩ := ho15.src; have kx : Below w14.heap.size w14 w15 := (Below.drew (Below.refl _ _)).trans hb15; have kz := kx.size; have XX := HXz.out.keep (Keep.of_below kx (by omega)); have AA := HA.out.keep (Keep.of_below kx (by omega)); have t0 := XX.c0; have t1 := XX.c1; have t2 := XX.c2; have t3 := AA.c0; have t4 := AA.c1; have t5 := AA.c2) | (go_at_call 14; refine (eqSource_alike xz1 xz2 xz3 f1 f2 f3 _ _ _ _ _ _ V7.heap.size w8.heap.size w14.heap.size w15.heap.size d w15 (HRz.out.keep (Keep.of_below kx (by omega))) hs15 (by omega) (Nat.le_refl _) FS.out).mono ?_; rintro e w16 ⟨rfl, hb16⟩; have ky : Below w14.heap.size w14 w16 := kx.trans (hb16.mono (by omega)); have XY := XX.keep (Keep.of_below hb16 (by omega)); have AY := AA.keep (Keep.of_below hb16 (by omega)); have u0 := XY.c0; have u1 := XY.c1; have u2 := XY.c2; have u3 := AY.c0; have u4 := AY.c1; have u5 := AY.c2))
  have z16 := ky.size
  clear t0 t1 t2 t3 t4 t5 u0 u1 u2 u3 u4 u5 XX AA XY AY hb15 hb16 hs15 ho15 hz15 kx kz
  clear APc0 APc1 APz
  clear Ac0 Ac1 Ac2 Az
  clear Fwc0 Fwc1 Fwc2 Fwz
  clear Xxc0 Xxc1 Xxz
  clear Xzc0 Xzc1 Xzc2 Xzz
  clear Ygc0 Ygc1 Ygc2 Ygz
  have JK := hidX (HK.out.trans (ky.mono (by omega)))
  have JAP := hidX (HAP.out.keep (Keep.of_below ky (by omega)))
  have JA := hidX (HA.out.keep (Keep.of_below ky (by omega)))
  have JRw := hidX (HRw.out.keep (Keep.of_below ky (by omega)))
  have JFw := hidX (HFw.out.keep (Keep.of_below ky (by omega)))
  have JRx := hidX (HRx.out.keep (Keep.of_below ky (by omega)))
  have JOx := hidX (HOx.out.keep (Keep.of_below ky (by omega)))
  have JXx := hidX (HXx.out.keep (Keep.of_below ky (by omega)))
  have JRz := hidX (HRz.out.keep (Keep.of_below ky (by omega)))
  have JOz := hidX (HOz.out.keep (Keep.of_below ky (by omega)))
  have JXz := hidX (HXz.out.keep (Keep.of_below ky (by omega)))
  have JRg := hidX (HRg.out.keep (Keep.of_below ky (by omega)))
  have JOg := hidX (HOg.out.keep (Keep.of_below ky (by omega)))
  have JYg := hidX (HYg.out.keep (Keep.of_below ky (by omega)))
  clear HK HAP HA HRw HFw HRx HOx HXx HRz HOz HXz HRg HOg HYg
  have HK := JK
  have HAP := JAP
  have HA := JA
  have HRw := JRw
  have HFw := JFw
  have HRx := JRx
  have HOx := JOx
  have HXx := JXx
  have HRz := JRz
  have HOz := JOz
  have HXz := JXz
  have HRg := JRg
  have HOg := JOg
  have HYg := JYg
  clear JK JAP JA JRw JFw JRx JOx JXx JRz JOz JXz JRg JOg JYg
  clear ky
  obtain ⟨APc0, APc1⟩ := HAP.out
  have APz : w.heap.size < w16.heap.size := by omega
  obtain ⟨Ac0, Ac1, Ac2⟩ := HA.out
  have Az : w.heap.size + 1 < w16.heap.size := by omega
  obtain ⟨Fwc0, Fwc1, Fwc2⟩ := HFw.out
  have Fwz : bow < w16.heap.size := by omega
  obtain ⟨Xxc0, Xxc1⟩ := HXx.out
  have Xxz : w6.heap.size < w16.heap.size := by omega
  obtain ⟨Xzc0, Xzc1, Xzc2⟩ := HXz.out
  have Xzz : w8.heap.size < w16.heap.size := by omega
  obtain ⟨Ygc0, Ygc1, Ygc2⟩ := HYg.out
  have Ygz : w10.heap.size < w16.heap.size := by omega
  go_wp2_with fail
  refine (markProg_exc 1 HOx.out FP.out (by omega) (by omega)).mono ?_
  rintro e w17 ⟨rk, rfl, rk0, rk1, ex17⟩
  have z17 := ex17.size
  clear APc0 APc1 APz
  clear Ac0 Ac1 Ac2 Az
  clear Fwc0 Fwc1 Fwc2 Fwz
  clear Xxc0 Xxc1 Xxz
  clear Xzc0 Xzc1 Xzc2 Xzz
  clear Ygc0 Ygc1 Ygc2 Ygz
  have JK := hidX (HK.out.trans (ex17.below (by omega) (by omega)))
  have JAP := hidX (HAP.out.keep (Keep.of_exc ex17 (by omega) (by omega)))
  have JA := hidX (HA.out.keep (Keep.of_exc ex17 (by omega) (by omega)))
  have JRw := hidX (HRw.out.keep (Keep.of_exc ex17 (by omega) (by omega)))
  have JFw := hidX (HFw.out.keep (Keep.of_exc ex17 (by omega) (by omega)))
  have JXx := hidX (HXx.out.keep (Keep.of_exc ex17 (by omega) (by omega)))
  have JRz := hidX (HRz.out.keep (Keep.of_exc ex17 (by omega) (by omega)))
  have JOz := hidX (HOz.out.keep (Keep.of_exc ex17 (by omega) (by omega)))
  have JXz := hidX (HXz.out.keep (Keep.of_exc ex17 (by omega) (by omega)))
  have JRg := hidX (HRg.out.keep (Keep.of_exc ex17 (by omega) (by omega)))
  have JOg := hidX (HOg.out.keep (Keep.of_exc ex17 (by omega) (by omega)))
  have JYg := hidX (HYg.out.keep (Keep.of_exc ex17 (by omega) (by omega)))
  clear HK HAP HA HRw HFw HRx HOx HXx HRz HOz HXz HRg HOg HYg
  have HK := JK
  have HAP := JAP
  have HA := JA
  have HRw := JRw
  have HFw := JFw
  have HXx := JXx
  have HRz := JRz
  have HOz := JOz
  have HXz := JXz
  have HRg := JRg
  have HOg := JOg
  have HYg := JYg
  clear JK JAP JA JRw JFw JXx JRz JOz JXz JRg JOg JYg
  clear ex17
  obtain ⟨APc0, APc1⟩ := HAP.out
  have APz : w.heap.size < w17.heap.size := by omega
  obtain ⟨Ac0, Ac1, Ac2⟩ := HA.out
  have Az : w.heap.size + 1 < w17.heap.size := by omega
  obtain ⟨Fwc0, Fwc1, Fwc2⟩ := HFw.out
  have Fwz : bow < w17.heap.size := by omega
  obtain ⟨Xxc0, Xxc1⟩ := HXx.out
  have Xxz : w6.heap.size < w17.heap.size := by omega
  obtain ⟨Xzc0, Xzc1, Xzc2⟩ := HXz.out
  have Xzz : w8.heap.size < w17.heap.size := by omega
  obtain ⟨Ygc0, Ygc1, Ygc2⟩ := HYg.out
  have Ygz : w10.heap.size < w17.heap.size := by omega
  go_wp2_with fail
  have rz := HOz.out.room FS.out
  have f3 := FS.out.2.2
  refine (markSource_exc rk HOz.out FS.out (by omega) (by omega)).mono ?_
  rintro e w18 ⟨rfl, -, ex18⟩
  have z18 := ex18.size
  obtain ⟨mk, hmk⟩ : ∃ m : Int, rk + (sumQ Laz : Int) + sumQ Lbz + 2 * d.tr.length = m := ⟨_, rfl⟩
  have mk0 : ¬ mk < 0 := by omega
  rw [hmk]
  clear hmk rz f3
  clear APc0 APc1 APz
  clear Ac0 Ac1 Ac2 Az
  clear Fwc0 Fwc1 Fwc2 Fwz
  clear Xxc0 Xxc1 Xxz
  clear Xzc0 Xzc1 Xzc2 Xzz
  clear Ygc0 Ygc1 Ygc2 Ygz
  have JK := hidX (HK.out.trans (ex18.below (by omega) (by omega)))
  have JAP := hidX (HAP.out.keep (Keep.of_exc ex18 (by omega) (by omega)))
  have JA := hidX (HA.out.keep (Keep.of_exc ex18 (by omega) (by omega)))
  have JRw := hidX (HRw.out.keep (Keep.of_exc ex18 (by omega) (by omega)))
  have JFw := hidX (HFw.out.keep (Keep.of_exc ex18 (by omega) (by omega)))
  have JXx := hidX (HXx.out.keep (Keep.of_exc ex18 (by omega) (by omega)))
  have JXz := hidX (HXz.out.keep (Keep.of_exc ex18 (by omega) (by omega)))
  have JRg := hidX (HRg.out.keep (Keep.of_exc ex18 (by omega) (by omega)))
  have JOg := hidX (HOg.out.keep (Keep.of_exc ex18 (by omega) (by omega)))
  have JYg := hidX (HYg.out.keep (Keep.of_exc ex18 (by omega) (by omega)))
  clear HK HAP HA HRw HFw HXx HRz HOz HXz HRg HOg HYg
  have HK := JK
  have HAP := JAP
  have HA := JA
  have HRw := JRw
  have HFw := JFw
  have HXx := JXx
  have HXz := JXz
  have HRg := JRg
  have HOg := JOg
  have HYg := JYg
  clear JK JAP JA JRw JFw JXx JXz JRg JOg JYg
  clear ex18
  obtain ⟨APc0, APc1⟩ := HAP.out
  have APz : w.heap.size < w18.heap.size := by omega
  obtain ⟨Ac0, Ac1, Ac2⟩ := HA.out
  have Az : w.heap.size + 1 < w18.heap.size := by omega
  obtain ⟨Fwc0, Fwc1, Fwc2⟩ := HFw.out
  have Fwz : bow < w18.heap.size := by omega
  obtain ⟨Xxc0, Xxc1⟩ := HXx.out
  have Xxz : w6.heap.size < w18.heap.size := by omega
  obtain ⟨Xzc0, Xzc1, Xzc2⟩ := HXz.out
  have Xzz : w8.heap.size < w18.heap.size := by omega
  obtain ⟨Ygc0, Ygc1, Ygc2⟩ := HYg.out
  have Ygz : w10.heap.size < w18.heap.size := by omega
  go_wp2_with fail
  refine (eqSource_alike xg1 xg2 xg3 xw1 xw2 xw3 _ _ _ _ _ _ V9.heap.size w10.heap.size w4.heap.size w5.heap.size DD w18 HRg.out HRw.out (by omega) (by omega) FD.out).mono ?_
  rintro e w19 ⟨rfl, hb19⟩
  have z19 := hb19.size
  clear APc0 APc1 APz
  clear Ac0 Ac1 Ac2 Az
  clear Fwc0 Fwc1 Fwc2 Fwz
  clear Xxc0 Xxc1 Xxz
  clear Xzc0 Xzc1 Xzc2 Xzz
  clear Ygc0 Ygc1 Ygc2 Ygz
  have JK := hidX (HK.out.trans (hb19.mono (by omega)))
  have JAP := hidX (HAP.out.keep (Keep.of_below hb19 (by omega)))
  have JA := hidX (HA.out.keep (Keep.of_below hb19 (by omega)))
  have JRw := hidX (HRw.out.keep (Keep.of_below hb19 (by omega)))
  have JFw := hidX (HFw.out.keep (Keep.of_below hb19 (by omega)))
  have JXx := hidX (HXx.out.keep (Keep.of_below hb19 (by omega)))
  have JXz := hidX (HXz.out.keep (Keep.of_below hb19 (by omega)))
  have JRg := hidX (HRg.out.keep (Keep.of_below hb19 (by omega)))
  have JOg := hidX (HOg.out.keep (Keep.of_below hb19 (by omega)))
  have JYg := hidX (HYg.out.keep (Keep.of_below hb19 (by omega)))
  clear HK HAP HA HRw HFw HXx HXz HRg HOg HYg
  have HK := JK
  have HAP := JAP
  have HA := JA
  have HRw := JRw
  have HFw := JFw
  have HXx := JXx
  have HXz := JXz
  have HRg := JRg
  have HOg := JOg
  have HYg := JYg
  clear JK JAP JA JRw JFw JXx JXz JRg JOg JYg
  clear hb19
  obtain ⟨APc0, APc1⟩ := HAP.out
  have APz : w.heap.size < w19.heap.size := by omega
  obtain ⟨Ac0, Ac1, Ac2⟩ := HA.out
  have Az : w.heap.size + 1 < w19.heap.size := by omega
  obtain ⟨Fwc0, Fwc1, Fwc2⟩ := HFw.out
  have Fwz : bow < w19.heap.size := by omega
  obtain ⟨Xxc0, Xxc1⟩ := HXx.out
  have Xxz : w6.heap.size < w19.heap.size := by omega
  obtain ⟨Xzc0, Xzc1, Xzc2⟩ := HXz.out
  have Xzz : w8.heap.size < w19.heap.size := by omega
  obtain ⟨Ygc0, Ygc1, Ygc2⟩ := HYg.out
  have Ygz : w10.heap.size < w19.heap.size := by omega
  go_wp2_with fail
  have rm := HOg.out.room FD.out
  have f3 := FD.out.2.2
  have RM : Hid (sumQ Lag ≤ 2000000000000 ∧ sumQ Lbg ≤ 2000000000000 ∧ DD.tr.length ≤ 1048576) := ⟨rm.1, rm.2, f3⟩
  have LL : Hid (Lag.length ≤ 1048577 ∧ (∀ (i : Nat) (x : Rec × Value), Lag[i]? = some x → x.1.l.length ≤ 1048577) ∧ Lbg.length ≤ 1048577 ∧ (∀ (i : Nat) (x : Rec × Value), Lbg[i]? = some x → x.1.l.length ≤ 1048577) ∧ DD.tr.length ≤ 1048577) := HOg.out.lens FD.out
  clear rm f3
  refine (markSource_exc 1 HOg.out FD.out (by omega) (by omega)).mono ?_
  rintro e w20 ⟨rfl, hm20, ex20⟩
  have z20 := ex20.size
  clear APc0 APc1 APz
  clear Ac0 Ac1 Ac2 Az
  clear Fwc0 Fwc1 Fwc2 Fwz
  clear Xxc0 Xxc1 Xxz
  clear Xzc0 Xzc1 Xzc2 Xzz
  clear Ygc0 Ygc1 Ygc2 Ygz
  have JK := hidX (HK.out.trans (ex20.below (by omega) (by omega)))
  have JAP := hidX (HAP.out.keep (Keep.of_exc ex20 (by omega) (by omega)))
  have JA := hidX (HA.out.keep (Keep.of_exc ex20 (by omega) (by omega)))
  have JRw := hidX (HRw.out.keep (Keep.of_exc ex20 (by omega) (by omega)))
  have JFw := hidX (HFw.out.keep (Keep.of_exc ex20 (by omega) (by omega)))
  have JXx := hidX (HXx.out.keep (Keep.of_exc ex20 (by omega) (by omega)))
  have JXz := hidX (HXz.out.keep (Keep.of_exc ex20 (by omega) (by omega)))
  have JYg := hidX (HYg.out.keep (Keep.of_exc ex20 (by omega) (by omega)))
  clear HK HAP HA HRw HFw HXx HXz HRg HOg HYg
  have HK := JK
  have HAP := JAP
  have HA := JA
  have HRw := JRw
  have HFw := JFw
  have HXx := JXx
  have HXz := JXz
  have HYg := JYg
  clear JK JAP JA JRw JFw JXx JXz JYg
  have HD : Hid (MB w20 V9.heap.size w10.heap.size (.slice xg1 DD.ths.length yg1) (.slice xg2 DD.chs.length yg2) (.slice xg3 DD.tr.length yg3) Lag Lbg DD.tr.length 1) := hm20
  clear ex20 hm20
  obtain ⟨mm, hmm⟩ : ∃ m : Int, 1 + (sumQ Lag : Int) + sumQ Lbg + 2 * DD.tr.length = m := ⟨_, rfl⟩
  have HMM := hidX hmm
  have mm0 : ¬ mm < 0 := by omega
  have mmm : (mm != mm) = false := by simp
  rw [hmm]
  clear hmm
  obtain ⟨APc0, APc1⟩ := HAP.out
  have APz : w.heap.size < w20.heap.size := by omega
  obtain ⟨Ac0, Ac1, Ac2⟩ := HA.out
  have Az : w.heap.size + 1 < w20.heap.size := by omega
  obtain ⟨Fwc0, Fwc1, Fwc2⟩ := HFw.out
  have Fwz : bow < w20.heap.size := by omega
  obtain ⟨Xxc0, Xxc1⟩ := HXx.out
  have Xxz : w6.heap.size < w20.heap.size := by omega
  obtain ⟨Xzc0, Xzc1, Xzc2⟩ := HXz.out
  have Xzz : w8.heap.size < w20.heap.size := by omega
  obtain ⟨Ygc0, Ygc1, Ygc2⟩ := HYg.out
  have Ygz : w10.heap.size < w20.heap.size := by omega
  go_wp2_with fail
  refine (heldSource_any V9.heap.size _ _ _ Lag Lbg _ 1 w20 HD.out.o LL.out.1 LL.out.2.1 LL.out.2.2.1 LL.out.2.2.2.1 LL.out.2.2.2.2 (by omega) (by have := RM.out; omega)).mono ?_
  rintro e w21 ⟨rfl, hb21⟩
  have z21 := hb21.size
  clear APc0 APc1 APz
  clear Ac0 Ac1 Ac2 Az
  clear Fwc0 Fwc1 Fwc2 Fwz
  clear Xxc0 Xxc1 Xxz
  clear Xzc0 Xzc1 Xzc2 Xzz
  clear Ygc0 Ygc1 Ygc2 Ygz
  have JK := hidX (HK.out.trans (hb21.mono (by omega)))
  have JAP := hidX (HAP.out.keep (Keep.of_below hb21 (by omega)))
  have JA := hidX (HA.out.keep (Keep.of_below hb21 (by omega)))
  have JRw := hidX (HRw.out.keep (Keep.of_below hb21 (by omega)))
  have JFw := hidX (HFw.out.keep (Keep.of_below hb21 (by omega)))
  have JXx := hidX (HXx.out.keep (Keep.of_below hb21 (by omega)))
  have JXz := hidX (HXz.out.keep (Keep.of_below hb21 (by omega)))
  have JYg := hidX (HYg.out.keep (Keep.of_below hb21 (by omega)))
  have JD := hidX (HD.out.keep (Keep.of_below hb21 (by omega)))
  clear HK HAP HA HRw HFw HXx HXz HYg HD
  have HK := JK
  have HAP := JAP
  have HA := JA
  have HRw := JRw
  have HFw := JFw
  have HXx := JXx
  have HXz := JXz
  have HYg := JYg
  have HD := JD
  clear JK JAP JA JRw JFw JXx JXz JYg JD
  clear hb21
  rw [HMM.out]
  obtain ⟨APc0, APc1⟩ := HAP.out
  have APz : w.heap.size < w21.heap.size := by omega
  obtain ⟨Ac0, Ac1, Ac2⟩ := HA.out
  have Az : w.heap.size + 1 < w21.heap.size := by omega
  obtain ⟨Fwc0, Fwc1, Fwc2⟩ := HFw.out
  have Fwz : bow < w21.heap.size := by omega
  obtain ⟨Xxc0, Xxc1⟩ := HXx.out
  have Xxz : w6.heap.size < w21.heap.size := by omega
  obtain ⟨Xzc0, Xzc1, Xzc2⟩ := HXz.out
  have Xzz : w8.heap.size < w21.heap.size := by omega
  obtain ⟨Ygc0, Ygc1, Ygc2⟩ := HYg.out
  have Ygz : w10.heap.size < w21.heap.size := by omega
  go_wp2_with fail
  have RB : Hid (∀ X, Below w21.heap.size w21 X → X.cell? ⟨w.heap.size, 0, none⟩ = some (.slice p1 p.caps.length a1) ∧ X.cell? ⟨w.heap.size, 1, none⟩ = some (.slice p2 p.bods.length a2) ∧ X.cell? ⟨w.heap.size + 1, 0, none⟩ = some (.slice s1 d.ths.length c1) ∧ X.cell? ⟨w.heap.size + 1, 1, none⟩ = some (.slice s2 d.chs.length c2) ∧ X.cell? ⟨w.heap.size + 1, 2, none⟩ = some (.slice s3 d.tr.length c3)) := fun X hX => by
   have qP := HAP.out.keep (Keep.of_below hX (by omega))
   have qS := HA.out.keep (Keep.of_below hX (by omega))
   exact ⟨qP.c0, qP.c1, qS.c0, qS.c1, qS.c2⟩
  have CP : Hid (∀ (X0 : World) (pB : Option Nat), Below w21.heap.size w21 X0 → BoxA X0 pB → Calls Tryz.prog 10 #[.agg #[.slice p1 p.caps.length a1, .slice p2 p.bods.length a2]] X0 fun e w' => ∃ (f1 f2 : Option Addr) (lo hi : Nat), e = .returned (.agg #[.slice f1 p.caps.length p.caps.length, .slice f2 p.bods.length p.bods.length]) ∧ hi ≤ w'.heap.size ∧ Below w21.heap.size w21 w' ∧ Hid (ProgR w' lo hi f1 f2 p) ∧ Hid (BoxA w' pB) ∧ w'.cell? ⟨w.heap.size, 0, none⟩ = some (.slice p1 p.caps.length a1) ∧ w'.cell? ⟨w.heap.size, 1, none⟩ = some (.slice p2 p.bods.length a2) ∧ w'.cell? ⟨w.heap.size + 1, 0, none⟩ = some (.slice s1 d.ths.length c1) ∧ w'.cell? ⟨w.heap.size + 1, 1, none⟩ = some (.slice s2 d.chs.length c2) ∧ w'.cell? ⟨w.heap.size + 1, 2, none⟩ = some (.slice s3 d.tr.length c3)) := fun X0 pB hX hb => (toProg_new p1 p2 a1 a2 0 w.heap.size p X0 (HP.out.keep' (Keep.of_below (HK.out.trans (hX.mono (by omega))) (Nat.le_refl _))) (by have := hX.size; omega) FP.out).mono fun e w' hq => by
   obtain ⟨f1, f2, he, hb2, -, hr⟩ := hq
   have kk : Below w21.heap.size w21 w' := hX.trans (hb2.mono hX.size)
   exact ⟨f1, f2, _, _, he, Nat.le_refl _, kk, hr, hb.keep hb2, RB.out _ kk⟩
  have CS : Hid (∀ (wA : World) (f1 f2 : Option Addr) (lo hi : Nat) (X0 : World) (pB : Option Nat), hi ≤ wA.heap.size → Below w21.heap.size w21 X0 → ProgR wA lo hi f1 f2 p → Below wA.heap.size wA X0 → BoxA X0 pB → Calls Tryz.prog 11 #[.agg #[.slice s1 d.ths.length c1, .slice s2 d.chs.length c2, .slice s3 d.tr.length c3]] X0 fun e w' => ∃ (t1 : Option Addr) (e1 : Nat) (t2 : Option Addr) (e2 : Nat) (t3 : Option Addr) (e3 : Nat) (lo' hi' : Nat), e = .returned (.agg #[.slice t1 d.ths.length e1, .slice t2 d.chs.length e2, .slice t3 d.tr.length e3]) ∧ hi ≤ w'.heap.size ∧ hi' ≤ w'.heap.size ∧ Below w21.heap.size w21 w' ∧ Hid (ProgR w' lo hi f1 f2 p) ∧ Hid (SrcR w' lo' hi' t1 t2 t3 d) ∧ Hid (BoxA w' pB) ∧ w'.cell? ⟨w.heap.size, 0, none⟩ = some (.slice p1 p.caps.length a1) ∧ w'.cell? ⟨w.heap.size, 1, none⟩ = some (.slice p2 p.bods.length a2) ∧ w'.cell? ⟨w.heap.size + 1, 0, none⟩ = some (.slice s1 d.ths.length c1) ∧ w'.cell? ⟨w.heap.size + 1, 1, none⟩ = some (.slice s2 d.chs.length c2) ∧ w'.cell? ⟨w.heap.size + 1, 2, none⟩ = some (.slice s3 d.tr.length c3)) := fun wA f1 f2 lo hi X0 pB hh hX hp hA hb => (toSource_own s1 s2 s3 c1 c2 c3 0 w.heap.size d X0 (HS.out.keep (Keep.of_below (HK.out.trans (hX.mono (by omega))) (Nat.le_refl _))) (by have := hX.size; omega) FS.out).mono fun e w' hq => by
   obtain ⟨v1, v2, v3, L1, L2, he, ho, hb2, -⟩ := hq
   obtain ⟨t1, e1, t2, e2, t3, e3, rfl, rfl, rfl, hr⟩ := ho.src
   have kk : Below w21.heap.size w21 w' := hX.trans (hb2.mono hX.size)
   have k2 : Below wA.heap.size wA w' := hA.trans (hb2.mono hA.size)
   exact ⟨t1, e1, t2, e2, t3, e3, _, _, he, Nat.le_trans hh k2.size, Nat.le_refl _, kk, hp.keep' (Keep.of_below k2 hh), hr, hb.keep hb2, RB.out _ kk⟩
  have CT : Hid (∀ (wB : World) (f1 f2 : Option Addr) (lo hi : Nat) (t1 : Option Addr) (e1 : Nat) (t2 : Option Addr) (e2 : Nat) (t3 : Option Addr) (e3 : Nat) (lo' hi' : Nat) (X0 : World) (pB : Option Nat), hi ≤ wB.heap.size → hi' ≤ wB.heap.size → Below w21.heap.size w21 X0 → ProgR wB lo hi f1 f2 p → SrcR wB lo' hi' t1 t2 t3 d → Below wB.heap.size wB X0 → BoxA X0 pB → Calls Tryz.prog 27 #[.agg #[.slice f1 p.caps.length p.caps.length, .slice f2 p.bods.length p.bods.length], .agg #[.slice t1 d.ths.length e1, .slice t2 d.chs.length e2, .slice t3 d.tr.length e3], .int .i64 who] X0 fun e w' => ∃ (x1 : Option Addr) (y1 : Nat) (x2 : Option Addr) (y2 : Nat) (x3 : Option Addr) (y3 : Nat), e = .returned (.tuple #[.agg #[.slice x1 DD.ths.length y1, .slice x2 DD.chs.length y2, .slice x3 DD.tr.length y3], .int .i64 KK]) ∧ Below w21.heap.size w21 w' ∧ Hid (∃ L1 L2, OwnS w' w21.heap.size (.slice x1 DD.ths.length y1) (.slice x2 DD.chs.length y2) (.slice x3 DD.tr.length y3) L1 L2 DD) ∧ Hid (BoxA w' pB) ∧ w'.cell? ⟨w.heap.size, 0, none⟩ = some (.slice p1 p.caps.length a1) ∧ w'.cell? ⟨w.heap.size, 1, none⟩ = some (.slice p2 p.bods.length a2) ∧ w'.cell? ⟨w.heap.size + 1, 0, none⟩ = some (.slice s1 d.ths.length c1) ∧ w'.cell? ⟨w.heap.size + 1, 1, none⟩ = some (.slice s2 d.chs.length c2) ∧ w'.cell? ⟨w.heap.size + 1, 2, none⟩ = some (.slice s3 d.tr.length c3)) := fun wB f1 f2 lo hi t1 e1 t2 e2 t3 e3 lo' hi' X0 pB h1 h2 hX hp hs hB hb => (implFair_any f1 f2 t1 t2 t3 _ _ e1 e2 e3 lo hi lo' hi' p d who X0 (hp.keep' (Keep.of_below hB h1)) (hs.keep (Keep.of_below hB h2)) (Nat.le_trans h1 hB.size) (Nat.le_trans h2 hB.size) FP.out FS.out).mono fun e w' hq => by
   rw [HKK.out, HDD.out] at hq
   obtain ⟨x1, y1, x2, y2, x3, y3, L1, L2, he, ho, hb2⟩ := hq
   have kk : Below w21.heap.size w21 w' := hX.trans (hb2.mono hX.size)
   exact ⟨x1, y1, x2, y2, x3, y3, he, kk, ⟨L1, L2, ho.low hX.size⟩, hb.keep hb2, RB.out _ kk⟩
  have kD : Below w21.heap.size w21 w21.drew := Below.drew (Below.refl _ _)
  have hdr : ∀ X : World, X.drew.heap.size = X.heap.size := fun _ => rfl
  go_cut [17, 18] (fun s8 s9 wx => CutS w21 DD KK s8 s9 wx)
  case first =>
   go_region_held3 (fun w' => w'.cell? ⟨w.heap.size, 0, none⟩ = some (.slice p1 p.caps.length a1) ∧ w'.cell? ⟨w.heap.size, 1, none⟩ = some (.slice p2 p.bods.length a2) ∧ w'.cell? ⟨w.heap.size + 1, 0, none⟩ = some (.slice s1 d.ths.length c1) ∧ w'.cell? ⟨w.heap.size + 1, 1, none⟩ = some (.slice s2 d.chs.length c2) ∧ w'.cell? ⟨w.heap.size + 1, 2, none⟩ = some (.slice s3 d.tr.length c3)) (first | exact RB.out _ (by repeat' (first | with_reducible exact kC | with_reducible exact kB | with_reducible exact kA | with_reducible exact kD | with_reducible exact Below.refl _ _ | with_reducible refine Below.drew ?_ | with_reducible refine Below.alloc ?_ (by first | omega | exact Nat.le_refl _ | (simp [hdr]; done) | (simp [hdr]; omega)) _ | with_reducible refine Below.setCell ?_ (by first | omega | exact Nat.le_refl _ | (simp [hdr]; done) | (simp [hdr]; omega)) _)) | go_keep) (first | (go_at_call 10; with_reducible refine (CP.out _ _ (by repeat' (first | with_reducible exact kC | with_reducible exact kB | with_reducible exact kA | with_reducible exact kD | with_reducible exact Below.refl _ _ | with_reducible refine Below.drew ?_ | with_reducible refine Below.alloc ?_ (by first | omega | exact Nat.le_refl _ | (simp [hdr]; done) | (simp [hdr]; omega)) _ | with_reducible refine Below.setCell ?_ (by first | omega | exact Nat.le_refl _ | (simp [hdr]; done) | (simp [hdr]; omega)) _)) (by first | with_reducible exact boxAD (boxA0 _) | with_reducible exact boxA0 _ | with_reducible exact boxAN _)).mono ?_; rintro e wA ⟨f1, f2, lo, hi, rfl, hhA, kA, PA, HBA, yA0, yA1, yA2, yA3, yA4⟩; have zA := kA.size) | (go_at_call 11; with_reducible refine (CS.out wA f1 f2 lo hi _ _ hhA (by repeat' (first | with_reducible exact kC | with_reducible exact kB | with_reducible exact kA | with_reducible exact kD | with_reducible exact Below.refl _ _ | with_reducible refine Below.drew ?_ | with_reducible refine Below.alloc ?_ (by first | omega | exact Nat.le_refl _ | (simp [hdr]; done) | (simp [hdr]; omega)) _ | with_reducible refine Below.setCell ?_ (by first | omega | exact Nat.le_refl _ | (simp [hdr]; done) | (simp [hdr]; omega)) _)) PA.out (show Below wA.heap.size wA _ from (by repeat' (first | with_reducible exact Below.refl _ _ | with_reducible refine Below.drew ?_ | with_reducible refine Below.alloc ?_ (by first | omega | exact Nat.le_refl _ | (simp [hdr]; done) | (simp [hdr]; omega)) _))) (by first | with_reducible exact boxAD (boxA0 _) | with_reducible exact boxA0 _ | with_reducible exact HBA.out | with_reducible exact boxAN _)).mono ?_; rintro e wB ⟨t1, e1, t2, e2, t3, e3, lo', hi', rfl, hhB, hhB', kB, PB, SB', HBB, yB0, yB1, yB2, yB3, yB4⟩; have zB := kB.size) | (go_at_call 27; with_reducible refine (CT.out wB f1 f2 lo hi t1 e1 t2 e2 t3 e3 lo' hi' _ _ hhB hhB' (by repeat' (first | with_reducible exact kC | with_reducible exact kB | with_reducible exact kA | with_reducible exact kD | with_reducible exact Below.refl _ _ | with_reducible refine Below.drew ?_ | with_reducible refine Below.alloc ?_ (by first | omega | exact Nat.le_refl _ | (simp [hdr]; done) | (simp [hdr]; omega)) _ | with_reducible refine Below.setCell ?_ (by first | omega | exact Nat.le_refl _ | (simp [hdr]; done) | (simp [hdr]; omega)) _)) PB.out SB'.out (show Below wB.heap.size wB _ from (by repeat' (first | with_reducible exact Below.refl _ _ | with_reducible refine Below.drew ?_ | with_reducible refine Below.alloc ?_ (by first | omega | exact Nat.le_refl _ | (simp [hdr]; done) | (simp [hdr]; omega)) _))) (by first | with_reducible exact boxAD (boxA0 _) | with_reducible exact boxA0 _ | with_reducible exact HBB.out | with_reducible exact boxAN _)).mono ?_; rintro e wC ⟨x1, y1, x2, y2, x3, y3, rfl, kC, OC, HBC, yC0, yC1, yC2, yC3, yC4⟩; have zC := kC.size; (try obtain ⟨⟨b0', b1', b2', bf', b9⟩, -⟩ := boxAS HBC.out)) | fail)
   all_goals
    go_wp2_with fail
    go_meet
    first
     | with_reducible exact cutS_new OC.out kC
     | with_reducible exact cutS_set (boxAS HBC.out) (by omega) OC.out kC
  case rest =>
   obtain ⟨bok, xk1, yk1, xk2, yk2, xk3, yk3, rfl, rfl, hbok, hbzk, hx22, hs22, hk22⟩ := hcut
   obtain ⟨w22, hw22⟩ : ∃ z, z = wc := ⟨_, rfl⟩
   subst hw22
   have z22 := hk22.size
   clear RB CP CS CT kD hdr
   clear APc0 APc1 APz
   clear Ac0 Ac1 Ac2 Az
   clear Fwc0 Fwc1 Fwc2 Fwz
   clear Xxc0 Xxc1 Xxz
   clear Xzc0 Xzc1 Xzc2 Xzz
   clear Ygc0 Ygc1 Ygc2 Ygz
   have JK := hidX (HK.out.trans (hk22.mono (by omega)))
   have JAP := hidX (HAP.out.keep (Keep.of_below hk22 (by omega)))
   have JA := hidX (HA.out.keep (Keep.of_below hk22 (by omega)))
   have JRw := hidX (HRw.out.keep (Keep.of_below hk22 (by omega)))
   have JFw := hidX (HFw.out.keep (Keep.of_below hk22 (by omega)))
   have JXx := hidX (HXx.out.keep (Keep.of_below hk22 (by omega)))
   have JXz := hidX (HXz.out.keep (Keep.of_below hk22 (by omega)))
   have JYg := hidX (HYg.out.keep (Keep.of_below hk22 (by omega)))
   have JD := hidX (HD.out.keep (Keep.of_below hk22 (by omega)))
   clear HK HAP HA HRw HFw HXx HXz HYg HD
   have HK := JK
   have HAP := JAP
   have HA := JA
   have HRw := JRw
   have HFw := JFw
   have HXx := JXx
   have HXz := JXz
   have HYg := JYg
   have HD := JD
   clear JK JAP JA JRw JFw JXx JXz JYg JD
   have HRk : Hid (SrcR w22 w21.heap.size w22.heap.size xk1 xk2 xk3 DD) := hs22
   have HFk : Hid (Bo3 bok w22 (.slice xk1 DD.ths.length yk1) (.slice xk2 DD.chs.length yk2) (.slice xk3 DD.tr.length yk3)) := hx22
   clear hk22 hs22 hx22
   obtain ⟨APc0, APc1⟩ := HAP.out
   have APz : w.heap.size < w22.heap.size := by omega
   obtain ⟨Ac0, Ac1, Ac2⟩ := HA.out
   have Az : w.heap.size + 1 < w22.heap.size := by omega
   obtain ⟨Fwc0, Fwc1, Fwc2⟩ := HFw.out
   have Fwz : bow < w22.heap.size := by omega
   obtain ⟨Xxc0, Xxc1⟩ := HXx.out
   have Xxz : w6.heap.size < w22.heap.size := by omega
   obtain ⟨Xzc0, Xzc1, Xzc2⟩ := HXz.out
   have Xzz : w8.heap.size < w22.heap.size := by omega
   obtain ⟨Ygc0, Ygc1, Ygc2⟩ := HYg.out
   have Ygz : w10.heap.size < w22.heap.size := by omega
   obtain ⟨Fkc0, Fkc1, Fkc2⟩ := HFk.out
   have Fkz : bok < w22.heap.size := by omega
   go_wp2_with fail
   refine (eqSource_alike xk1 xk2 xk3 xw1 xw2 xw3 _ _ _ _ _ _ w21.heap.size w22.heap.size w4.heap.size w5.heap.size DD w22 HRk.out HRw.out (by omega) (by omega) FD.out).mono ?_
   rintro e w23 ⟨rfl, hb23⟩
   have z23 := hb23.size
   clear APc0 APc1 APz
   clear Ac0 Ac1 Ac2 Az
   clear Fwc0 Fwc1 Fwc2 Fwz
   clear Xxc0 Xxc1 Xxz
   clear Xzc0 Xzc1 Xzc2 Xzz
   clear Ygc0 Ygc1 Ygc2 Ygz
   clear Fkc0 Fkc1 Fkc2 Fkz
   have JK := hidX (HK.out.trans (hb23.mono (by omega)))
   have JAP := hidX (HAP.out.keep (Keep.of_below hb23 (by omega)))
   have JA := hidX (HA.out.keep (Keep.of_below hb23 (by omega)))
   have JRw := hidX (HRw.out.keep (Keep.of_below hb23 (by omega)))
   have JFw := hidX (HFw.out.keep (Keep.of_below hb23 (by omega)))
   have JXx := hidX (HXx.out.keep (Keep.of_below hb23 (by omega)))
   have JXz := hidX (HXz.out.keep (Keep.of_below hb23 (by omega)))
   have JYg := hidX (HYg.out.keep (Keep.of_below hb23 (by omega)))
   have JD := hidX (HD.out.keep (Keep.of_below hb23 (by omega)))
   have JRk := hidX (HRk.out.keep (Keep.of_below hb23 (by omega)))
   have JFk := hidX (HFk.out.keep (Keep.of_below hb23 (by omega)))
   clear HK HAP HA HRw HFw HXx HXz HYg HD HRk HFk
   have HK := JK
   have HAP := JAP
   have HA := JA
   have HRw := JRw
   have HFw := JFw
   have HXx := JXx
   have HXz := JXz
   have HYg := JYg
   have HD := JD
   have HRk := JRk
   have HFk := JFk
   clear JK JAP JA JRw JFw JXx JXz JYg JD JRk JFk
   clear hb23
   obtain ⟨APc0, APc1⟩ := HAP.out
   have APz : w.heap.size < w23.heap.size := by omega
   obtain ⟨Ac0, Ac1, Ac2⟩ := HA.out
   have Az : w.heap.size + 1 < w23.heap.size := by omega
   obtain ⟨Fwc0, Fwc1, Fwc2⟩ := HFw.out
   have Fwz : bow < w23.heap.size := by omega
   obtain ⟨Xxc0, Xxc1⟩ := HXx.out
   have Xxz : w6.heap.size < w23.heap.size := by omega
   obtain ⟨Xzc0, Xzc1, Xzc2⟩ := HXz.out
   have Xzz : w8.heap.size < w23.heap.size := by omega
   obtain ⟨Ygc0, Ygc1, Ygc2⟩ := HYg.out
   have Ygz : w10.heap.size < w23.heap.size := by omega
   obtain ⟨Fkc0, Fkc1, Fkc2⟩ := HFk.out
   have Fkz : bok < w23.heap.size := by omega
   go_wp2_with fail
   refine (heldSource_any V9.heap.size _ _ _ Lag Lbg _ 1 w23 HD.out.o LL.out.1 LL.out.2.1 LL.out.2.2.1 LL.out.2.2.2.1 LL.out.2.2.2.2 (by omega) (by have := RM.out; omega)).mono ?_
   rintro e w24 ⟨rfl, hb24⟩
   have z24 := hb24.size
   clear APc0 APc1 APz
   clear Ac0 Ac1 Ac2 Az
   clear Fwc0 Fwc1 Fwc2 Fwz
   clear Xxc0 Xxc1 Xxz
   clear Xzc0 Xzc1 Xzc2 Xzz
   clear Ygc0 Ygc1 Ygc2 Ygz
   clear Fkc0 Fkc1 Fkc2 Fkz
   have JK := hidX (HK.out.trans (hb24.mono (by omega)))
   have JAP := hidX (HAP.out.keep (Keep.of_below hb24 (by omega)))
   have JA := hidX (HA.out.keep (Keep.of_below hb24 (by omega)))
   have JRw := hidX (HRw.out.keep (Keep.of_below hb24 (by omega)))
   have JFw := hidX (HFw.out.keep (Keep.of_below hb24 (by omega)))
   have JXx := hidX (HXx.out.keep (Keep.of_below hb24 (by omega)))
   have JXz := hidX (HXz.out.keep (Keep.of_below hb24 (by omega)))
   have JYg := hidX (HYg.out.keep (Keep.of_below hb24 (by omega)))
   have JD := hidX (HD.out.keep (Keep.of_below hb24 (by omega)))
   have JRk := hidX (HRk.out.keep (Keep.of_below hb24 (by omega)))
   have JFk := hidX (HFk.out.keep (Keep.of_below hb24 (by omega)))
   clear HK HAP HA HRw HFw HXx HXz HYg HD HRk HFk
   have HK := JK
   have HAP := JAP
   have HA := JA
   have HRw := JRw
   have HFw := JFw
   have HXx := JXx
   have HXz := JXz
   have HYg := JYg
   have HD := JD
   have HRk := JRk
   have HFk := JFk
   clear JK JAP JA JRw JFw JXx JXz JYg JD JRk JFk
   clear hb24
   rw [HMM.out]
   obtain ⟨APc0, APc1⟩ := HAP.out
   have APz : w.heap.size < w24.heap.size := by omega
   obtain ⟨Ac0, Ac1, Ac2⟩ := HA.out
   have Az : w.heap.size + 1 < w24.heap.size := by omega
   obtain ⟨Fwc0, Fwc1, Fwc2⟩ := HFw.out
   have Fwz : bow < w24.heap.size := by omega
   obtain ⟨Xxc0, Xxc1⟩ := HXx.out
   have Xxz : w6.heap.size < w24.heap.size := by omega
   obtain ⟨Xzc0, Xzc1, Xzc2⟩ := HXz.out
   have Xzz : w8.heap.size < w24.heap.size := by omega
   obtain ⟨Ygc0, Ygc1, Ygc2⟩ := HYg.out
   have Ygz : w10.heap.size < w24.heap.size := by omega
   obtain ⟨Fkc0, Fkc1, Fkc2⟩ := HFk.out
   have Fkz : bok < w24.heap.size := by omega
   go_wp2
   go_ret
   exact ⟨rfl, HK.out⟩
set_option maxRecDepth 100000 in
theorem liftedExactFair (os : Os) (started : os.Started) (H : Type) (enc : TypeId × Value → H) :
  ReturnsInHanded {} Tryz.checked os 6 .any (Rows.fnExactFairSpec.pre6 enc Tryz.prog Tryz.f6 Rows.fnExactFairRow.domain false) (Rows.fnExactFairSpec.post enc Tryz.prog Tryz.f6 false true false false) := by
 refine returnsInHanded_of_change (C := Tryz.checked) ownP started (by kernel_rfl) Tryz.func6
  (ChangeSpec.witness6 (enc := enc) (C := Tryz.checked) false ⟨#[], #[.agg #[.slice none 0 0, .slice none 0 0], .agg #[.slice none 0 0, .slice none 0 0, .slice none 0 0], .int .i64 0], []⟩ 8 (by kernel_rfl) (by kernel_rfl) (by kernel_rfl) (by kernel_rfl)) ?_
 intro W base args ds gs before hval0 hW hcnd _
 have hval : ∀ (j : Nat) t v, Tryz.f6.params[j]? = some t → args[j]? = some v → Value.okWide Tryz.prog W .any base t v := hval0
 have hW' := hW
 obtain ⟨p, q, hA0, hV, rfl, hfz, hnd⟩ := hW
 have hA : DataW.TrodAll enc Tryz.prog W 0 (fun _ => true) true Tryz.f6.params.toList args.toList ds p := hA0
 rw [Tryz.params6] at hA hval
 obtain ⟨v0, v1, v2, d0, d1, d2, p0, p1, p2, hargs, rfl, rfl, h0, h1, h2⟩ := trodAll_three hA
 obtain rfl : args = #[v0, v1, v2] := by cases args; simp_all
 obtain ⟨rfl, rfl⟩ := trodVars_none hV
 have k0 := h0
 have lt0 : ∀ x ∈ p0, x.block < W.heap.size := by obtain ⟨m, hm⟩ := k0; exact DataW.trod_lt m _ _ _ hm
 have k1 := h1
 have lt1 : ∀ x ∈ p1, x.block < W.heap.size := by obtain ⟨m, hm⟩ := k1; exact DataW.trod_lt m _ _ _ hm
 have k2 := h2
 have lt2 : ∀ x ∈ p2, x.block < W.heap.size := by obtain ⟨m, hm⟩ := k2; exact DataW.trod_lt m _ _ _ hm
 obtain ⟨p1, p2, a1, a2, pd, rfl, m1, m2, m3, hP⟩ := open_prog (hval 0 25 v0 rfl rfl) h0
 obtain ⟨s1, s2, s3, c1, c2, c3, sd, rfl, hn, hS⟩ := open_source (hval 1 30 v1 rfl rfl) h1
 obtain ⟨who, rfl, hwf⟩ := open_int Tryz.underlying3 (hval 2 3 v2 rfl rfl) h2
 clear hA0 hval0
 refine (walkFair p1 p2 s1 s2 s3 a1 a2 c1 c2 c3 pd sd who W hP m1 m2 m3 hS hn).mono fun e W' ⟨he, bel⟩ => ?_
 subst he
 exact ⟨_, rfl, _, _, _, [], _, [], hW', trodAll_mk1 (shut_bool Tryz.underlying4 _), trodAll_mk3 (Below.trod laidOutP (by kernel_rfl) (of_decide_eq_true (by kernel_rfl)) k0 bel lt0) (Below.trod laidOutP (by kernel_rfl) (of_decide_eq_true (by kernel_rfl)) k1 bel lt1) (Below.trod laidOutP (by kernel_rfl) (of_decide_eq_true (by kernel_rfl)) k2 bel lt2), rfl, bel.frame _, fun h => by cases h⟩
theorem fnExactFair_holds : Rows.FnExactFairSaid :=
 OpenClaim.holds_of_wide 6 Tryz.f6 rfl rfl rfl rfl rfl rfl rfl ⟨rfl, rfl, rfl, rfl, rfl⟩ rfl rfl rfl rfl rfl (by kernel_rfl) Tryz.func6 (by kernel_rfl)
  (of_decide_eq_true (by kernel_rfl)) (by unfold Func.isWrapper; first | (rw [if_pos (by decide +kernel)]; kernel_rfl) | (rw [if_neg (by decide +kernel)]; exact ⟨rfl, rfl⟩))
  (fun os started H enc _ => liftedExactFair os started H enc)
#print axioms fnExactFair_holds
end Go.Proofs.YtfokbjkgdiploaaGreat
