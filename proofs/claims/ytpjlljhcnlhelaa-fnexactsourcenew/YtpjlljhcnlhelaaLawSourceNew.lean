/- The law FnExactSourceNew of the given statements: at every argument SourceNew of the program answers as the specification's, writes into no argument, its answer owns its memory. No condition. -/
import Derived.Test.YtpjlljhcnlhelaaFrameP
import Derived.Test.YtpjlljhcnlhelaaSzProg
import Derived.Test.YtpjlljhcnlhelaaSrcEq
import Derived.Test.YtpjlljhcnlhelaaSrcNew
import Derived.Test.YtpjlljhcnlhelaaHeldSrc
import Derived.Test.YtpjlljhcnlhelaaLawKitP
import Derived.Deep.RegionHeld3
namespace Go.Proofs.Ytpjlljhcnlhelaa
set_option linter.unusedSimpArgs false
set_option linter.unusedVariables false
set_option maxRecDepth 100000
open Go.ChangeShapes Go.WideShapes Go.ChangeAt Go.RowKit Go.Deep

def PR (w : World) (lo hi : Nat) (s s' : Option Addr) (p : PD) : Prop := ProgR w lo hi s s' p
theorem PR.keep {w w' : World} {lo hi : Nat} {s s' : Option Addr} {p : PD} (h : PR w lo hi s s' p) (hb : Keep lo hi w w') : PR w' lo hi s s' p := ProgR.keep' h hb
theorem PR.keep' {w w' : World} {lo hi : Nat} {s s' : Option Addr} {p : PD} (h : PR w lo hi s s' p) (hb : Keep lo hi w w') : ProgR w' lo hi s s' p := ProgR.keep' h hb

set_option maxRecDepth 100000 in
set_option maxHeartbeats 8000000 in
theorem walkSourceNew (p1 p2 : Option Addr) (a1 a2 : Nat) (p : PD) (w : World) (h : ProgR w 0 w.heap.size p1 p2 p) (m1 : p.caps.length ≤ maxLen) (m2 : p.bods.length ≤ maxLen) (m3 : ∀ i, i < p.bods.length → (p.bods.getD i []).length ≤ maxLen) :
    Calls Try.prog 4 #[.agg #[.slice p1 p.caps.length a1, .slice p2 p.bods.length a2]] w fun e w' => e = .returned (.bool true) ∧ Below w.heap.size w w' := by
  have HP : Hid (ProgR w 0 w.heap.size p1 p2 p) := h
  have M3 : Hid (∀ i, i < p.bods.length → (p.bods.getD i []).length ≤ maxLen) := m3
  clear h m3
  go_enter Try.func4, Try.ntmps4
  go_wp2_with fail
  have HK : Hid (Below w.heap.size w w) := Below.refl _ _
  obtain ⟨V1, hV1, bx1, kb1, zb1⟩ := Bo2.new w (.slice p1 p.caps.length a1) (.slice p2 p.bods.length a2) 38
  rw [hV1]
  clear hV1
  have JK : Hid (Below w.heap.size w V1) := HK.out.trans (kb1.mono (by omega))
  clear HK
  have HK := JK
  clear JK
  have HAP : Hid (Bo2 w.heap.size V1 (.slice p1 p.caps.length a1) (.slice p2 p.bods.length a2)) := bx1
  clear bx1 kb1
  refine (szProg_le p1 p2 a1 a2 0 w.heap.size p V1 (HP.out.keep' (Keep.of_below HK.out (Nat.le_refl _))) (by omega) m1 m2 M3.out).mono ?_
  rintro e w2 ⟨⟨u, rfl, hu⟩, hb2⟩
  have z2 := hb2.size
  have JK : Hid (Below w.heap.size w w2) := HK.out.trans (hb2.mono (by omega))
  have JAP : Hid (Bo2 w.heap.size w2 (.slice p1 p.caps.length a1) (.slice p2 p.bods.length a2)) := HAP.out.keep (Keep.of_below hb2 (by omega))
  clear HK
  have HK := JK
  clear JK
  clear HAP
  have HAP := JAP
  clear JAP
  clear hb2
  obtain ⟨APc0, APc1⟩ := HAP.out
  have APz : w.heap.size < w2.heap.size := by omega
  rcases hu with hu | ⟨hu, hu2, hf⟩
  · go_wp2
    go_ret
    exact ⟨rfl, HK.out⟩
  have hun : ¬ u < 0 := by omega
  have FP : Hid (Fits p) := hf
  have FS : Hid (SFits (newA p)) := newA_fits p hf
  clear hf
  go_wp2_with fail
  refine (toProg_own p1 p2 a1 a2 0 w.heap.size p w2 (HP.out.keep' (Keep.of_below HK.out (Nat.le_refl _))) (by omega) FP.out).mono ?_
  rintro e w3 ⟨xa1, xa2, Lxa, rfl, ho3, hb3, z3⟩
  clear APc0 APc1 APz
  have JK : Hid (Below w.heap.size w w3) := HK.out.trans (hb3.mono (by omega))
  have JAP : Hid (Bo2 w.heap.size w3 (.slice p1 p.caps.length a1) (.slice p2 p.bods.length a2)) := HAP.out.keep (Keep.of_below hb3 (by omega))
  clear HK
  have HK := JK
  clear JK
  clear HAP
  have HAP := JAP
  clear JAP
  have HRa : Hid (PR w3 w2.heap.size w3.heap.size xa1 xa2 p) := ho3.prog
  clear hb3 ho3
  obtain ⟨APc0, APc1⟩ := HAP.out
  have APz : w.heap.size < w3.heap.size := by omega
  go_wp2_with fail
  refine (specNew_any xa1 xa2 _ _ _ _ p w3 HRa.out (by omega) FP.out).mono ?_
  rintro e w4 ⟨va4, vb4, vc4, Law, Lbw, rfl, ho4, hb4⟩
  have z4 := hb4.size
  obtain ⟨xw1, yw1, xw2, yw2, xw3, yw3, rfl, rfl, rfl, hs4⟩ := ho4.src
  clear APc0 APc1 APz
  have JK : Hid (Below w.heap.size w w4) := HK.out.trans (hb4.mono (by omega))
  have JAP : Hid (Bo2 w.heap.size w4 (.slice p1 p.caps.length a1) (.slice p2 p.bods.length a2)) := HAP.out.keep (Keep.of_below hb4 (by omega))
  have JRa : Hid (PR w4 w2.heap.size w3.heap.size xa1 xa2 p) := HRa.out.keep (Keep.of_below hb4 (by omega))
  clear HK
  have HK := JK
  clear JK
  clear HAP
  have HAP := JAP
  clear JAP
  clear HRa
  have HRa := JRa
  clear JRa
  have HRw : Hid (SrcR w4 w3.heap.size w4.heap.size xw1 xw2 xw3 (newA p)) := hs4
  clear hb4 hs4 ho4
  obtain ⟨APc0, APc1⟩ := HAP.out
  have APz : w.heap.size < w4.heap.size := by omega
  obtain ⟨bb, hbb⟩ : ∃ b, progB p = b := ⟨_, rfl⟩
  have HBB : Hid (progB p = bb) := hbb
  rw [hbb]
  clear hbb
  have hbn : (bb != bb) = false := by simp
  go_wp2_with fail
  clear HRa
  obtain ⟨V5, hV5, bx5, kb5, zb5⟩ := Bo3.new w4 (.slice xw1 (newA p).ths.length yw1) (.slice xw2 (newA p).chs.length yw2) (.slice xw3 (newA p).tr.length yw3) 28
  rw [hV5]
  clear hV5
  clear APc0 APc1 APz
  have JK : Hid (Below w.heap.size w V5) := HK.out.trans (kb5.mono (by omega))
  have JAP : Hid (Bo2 w.heap.size V5 (.slice p1 p.caps.length a1) (.slice p2 p.bods.length a2)) := HAP.out.keep (Keep.of_below kb5 (by omega))
  have JRw : Hid (SrcR V5 w3.heap.size w4.heap.size xw1 xw2 xw3 (newA p)) := HRw.out.keep (Keep.of_below kb5 (by omega))
  clear HK
  have HK := JK
  clear JK
  clear HAP
  have HAP := JAP
  clear JAP
  clear HRw
  have HRw := JRw
  clear JRw
  have HFw : Hid (Bo3 w4.heap.size V5 (.slice xw1 (newA p).ths.length yw1) (.slice xw2 (newA p).chs.length yw2) (.slice xw3 (newA p).tr.length yw3)) := bx5
  clear bx5 kb5
  obtain ⟨APc0, APc1⟩ := HAP.out
  have APz : w.heap.size < V5.heap.size := by omega
  obtain ⟨Fwc0, Fwc1, Fwc2⟩ := HFw.out
  have Fwz : w4.heap.size < V5.heap.size := by omega
  refine (toProg_own p1 p2 a1 a2 0 w.heap.size p V5 (HP.out.keep' (Keep.of_below HK.out (Nat.le_refl _))) (by omega) FP.out).mono ?_
  rintro e w6 ⟨xx1, xx2, Lxx, rfl, ho6, hb6, z6⟩
  clear APc0 APc1 APz
  clear Fwc0 Fwc1 Fwc2 Fwz
  have JK : Hid (Below w.heap.size w w6) := HK.out.trans (hb6.mono (by omega))
  have JAP : Hid (Bo2 w.heap.size w6 (.slice p1 p.caps.length a1) (.slice p2 p.bods.length a2)) := HAP.out.keep (Keep.of_below hb6 (by omega))
  have JRw : Hid (SrcR w6 w3.heap.size w4.heap.size xw1 xw2 xw3 (newA p)) := HRw.out.keep (Keep.of_below hb6 (by omega))
  have JFw : Hid (Bo3 w4.heap.size w6 (.slice xw1 (newA p).ths.length yw1) (.slice xw2 (newA p).chs.length yw2) (.slice xw3 (newA p).tr.length yw3)) := HFw.out.keep (Keep.of_below hb6 (by omega))
  clear HK
  have HK := JK
  clear JK
  clear HAP
  have HAP := JAP
  clear JAP
  clear HRw
  have HRw := JRw
  clear JRw
  clear HFw
  have HFw := JFw
  clear JFw
  have HRx : Hid (PR w6 V5.heap.size w6.heap.size xx1 xx2 p) := ho6.prog
  have HOx : Hid (GB w6 V5.heap.size w6.heap.size (.slice xx1 p.caps.length p.caps.length) (.slice xx2 p.bods.length p.bods.length) Lxx p) := GB.of ho6
  clear hb6 ho6
  obtain ⟨APc0, APc1⟩ := HAP.out
  have APz : w.heap.size < w6.heap.size := by omega
  obtain ⟨Fwc0, Fwc1, Fwc2⟩ := HFw.out
  have Fwz : w4.heap.size < w6.heap.size := by omega
  go_wp2_with fail
  obtain ⟨V7, hV7, bx7, kb7, zb7⟩ := Bo2.new w6 (.slice xx1 p.caps.length p.caps.length) (.slice xx2 p.bods.length p.bods.length) 44
  rw [hV7]
  clear hV7
  clear APc0 APc1 APz
  clear Fwc0 Fwc1 Fwc2 Fwz
  have JK : Hid (Below w.heap.size w V7) := HK.out.trans (kb7.mono (by omega))
  have JAP : Hid (Bo2 w.heap.size V7 (.slice p1 p.caps.length a1) (.slice p2 p.bods.length a2)) := HAP.out.keep (Keep.of_below kb7 (by omega))
  have JRw : Hid (SrcR V7 w3.heap.size w4.heap.size xw1 xw2 xw3 (newA p)) := HRw.out.keep (Keep.of_below kb7 (by omega))
  have JFw : Hid (Bo3 w4.heap.size V7 (.slice xw1 (newA p).ths.length yw1) (.slice xw2 (newA p).chs.length yw2) (.slice xw3 (newA p).tr.length yw3)) := HFw.out.keep (Keep.of_below kb7 (by omega))
  have JRx : Hid (PR V7 V5.heap.size w6.heap.size xx1 xx2 p) := HRx.out.keep (Keep.of_below kb7 (by omega))
  have JOx : Hid (GB V7 V5.heap.size w6.heap.size (.slice xx1 p.caps.length p.caps.length) (.slice xx2 p.bods.length p.bods.length) Lxx p) := HOx.out.keep (Keep.of_below kb7 (by omega))
  clear HK
  have HK := JK
  clear JK
  clear HAP
  have HAP := JAP
  clear JAP
  clear HRw
  have HRw := JRw
  clear JRw
  clear HFw
  have HFw := JFw
  clear JFw
  clear HRx
  have HRx := JRx
  clear JRx
  clear HOx
  have HOx := JOx
  clear JOx
  have HXx : Hid (Bo2 w6.heap.size V7 (.slice xx1 p.caps.length p.caps.length) (.slice xx2 p.bods.length p.bods.length)) := bx7
  clear bx7 kb7
  obtain ⟨APc0, APc1⟩ := HAP.out
  have APz : w.heap.size < V7.heap.size := by omega
  obtain ⟨Fwc0, Fwc1, Fwc2⟩ := HFw.out
  have Fwz : w4.heap.size < V7.heap.size := by omega
  obtain ⟨Xxc0, Xxc1⟩ := HXx.out
  have Xxz : w6.heap.size < V7.heap.size := by omega
  refine (implNew_any xx1 xx2 _ _ _ _ p V7 HRx.out (by omega) FP.out).mono ?_
  rintro e w8 ⟨va8, vb8, vc8, Lag, Lbg, rfl, ho8, hb8⟩
  have z8 := hb8.size
  obtain ⟨xg1, yg1, xg2, yg2, xg3, yg3, rfl, rfl, rfl, hs8⟩ := ho8.src
  clear APc0 APc1 APz
  clear Fwc0 Fwc1 Fwc2 Fwz
  clear Xxc0 Xxc1 Xxz
  have JK : Hid (Below w.heap.size w w8) := HK.out.trans (hb8.mono (by omega))
  have JAP : Hid (Bo2 w.heap.size w8 (.slice p1 p.caps.length a1) (.slice p2 p.bods.length a2)) := HAP.out.keep (Keep.of_below hb8 (by omega))
  have JRw : Hid (SrcR w8 w3.heap.size w4.heap.size xw1 xw2 xw3 (newA p)) := HRw.out.keep (Keep.of_below hb8 (by omega))
  have JFw : Hid (Bo3 w4.heap.size w8 (.slice xw1 (newA p).ths.length yw1) (.slice xw2 (newA p).chs.length yw2) (.slice xw3 (newA p).tr.length yw3)) := HFw.out.keep (Keep.of_below hb8 (by omega))
  have JRx : Hid (PR w8 V5.heap.size w6.heap.size xx1 xx2 p) := HRx.out.keep (Keep.of_below hb8 (by omega))
  have JOx : Hid (GB w8 V5.heap.size w6.heap.size (.slice xx1 p.caps.length p.caps.length) (.slice xx2 p.bods.length p.bods.length) Lxx p) := HOx.out.keep (Keep.of_below hb8 (by omega))
  have JXx : Hid (Bo2 w6.heap.size w8 (.slice xx1 p.caps.length p.caps.length) (.slice xx2 p.bods.length p.bods.length)) := HXx.out.keep (Keep.of_below hb8 (by omega))
  clear HK
  have HK := JK
  clear JK
  clear HAP
  have HAP := JAP
  clear JAP
  clear HRw
  have HRw := JRw
  clear JRw
  clear HFw
  have HFw := JFw
  clear JFw
  clear HRx
  have HRx := JRx
  clear JRx
  clear HOx
  have HOx := JOx
  clear JOx
  clear HXx
  have HXx := JXx
  clear JXx
  have HRg : Hid (SrcR w8 V7.heap.size w8.heap.size xg1 xg2 xg3 (newA p)) := hs8
  have HOg : Hid (SB w8 V7.heap.size w8.heap.size (.slice xg1 (newA p).ths.length yg1) (.slice xg2 (newA p).chs.length yg2) (.slice xg3 (newA p).tr.length yg3) Lag Lbg (newA p)) := SB.of ho8
  clear hb8 hs8 ho8
  obtain ⟨APc0, APc1⟩ := HAP.out
  have APz : w.heap.size < w8.heap.size := by omega
  obtain ⟨Fwc0, Fwc1, Fwc2⟩ := HFw.out
  have Fwz : w4.heap.size < w8.heap.size := by omega
  obtain ⟨Xxc0, Xxc1⟩ := HXx.out
  have Xxz : w6.heap.size < w8.heap.size := by omega
  rw [HBB.out]
  go_wp2_with fail
  obtain ⟨V9, hV9, bx9, kb9, zb9⟩ := Bo3.new w8 (.slice xg1 (newA p).ths.length yg1) (.slice xg2 (newA p).chs.length yg2) (.slice xg3 (newA p).tr.length yg3) 28
  rw [hV9]
  clear hV9
  clear APc0 APc1 APz
  clear Fwc0 Fwc1 Fwc2 Fwz
  clear Xxc0 Xxc1 Xxz
  have JK : Hid (Below w.heap.size w V9) := HK.out.trans (kb9.mono (by omega))
  have JAP : Hid (Bo2 w.heap.size V9 (.slice p1 p.caps.length a1) (.slice p2 p.bods.length a2)) := HAP.out.keep (Keep.of_below kb9 (by omega))
  have JRw : Hid (SrcR V9 w3.heap.size w4.heap.size xw1 xw2 xw3 (newA p)) := HRw.out.keep (Keep.of_below kb9 (by omega))
  have JFw : Hid (Bo3 w4.heap.size V9 (.slice xw1 (newA p).ths.length yw1) (.slice xw2 (newA p).chs.length yw2) (.slice xw3 (newA p).tr.length yw3)) := HFw.out.keep (Keep.of_below kb9 (by omega))
  have JRx : Hid (PR V9 V5.heap.size w6.heap.size xx1 xx2 p) := HRx.out.keep (Keep.of_below kb9 (by omega))
  have JOx : Hid (GB V9 V5.heap.size w6.heap.size (.slice xx1 p.caps.length p.caps.length) (.slice xx2 p.bods.length p.bods.length) Lxx p) := HOx.out.keep (Keep.of_below kb9 (by omega))
  have JXx : Hid (Bo2 w6.heap.size V9 (.slice xx1 p.caps.length p.caps.length) (.slice xx2 p.bods.length p.bods.length)) := HXx.out.keep (Keep.of_below kb9 (by omega))
  have JRg : Hid (SrcR V9 V7.heap.size w8.heap.size xg1 xg2 xg3 (newA p)) := HRg.out.keep (Keep.of_below kb9 (by omega))
  have JOg : Hid (SB V9 V7.heap.size w8.heap.size (.slice xg1 (newA p).ths.length yg1) (.slice xg2 (newA p).chs.length yg2) (.slice xg3 (newA p).tr.length yg3) Lag Lbg (newA p)) := HOg.out.keep (Keep.of_below kb9 (by omega))
  clear HK
  have HK := JK
  clear JK
  clear HAP
  have HAP := JAP
  clear JAP
  clear HRw
  have HRw := JRw
  clear JRw
  clear HFw
  have HFw := JFw
  clear JFw
  clear HRx
  have HRx := JRx
  clear JRx
  clear HOx
  have HOx := JOx
  clear JOx
  clear HXx
  have HXx := JXx
  clear JXx
  clear HRg
  have HRg := JRg
  clear JRg
  clear HOg
  have HOg := JOg
  clear JOg
  have HYg : Hid (Bo3 w8.heap.size V9 (.slice xg1 (newA p).ths.length yg1) (.slice xg2 (newA p).chs.length yg2) (.slice xg3 (newA p).tr.length yg3)) := bx9
  clear bx9 kb9
  obtain ⟨APc0, APc1⟩ := HAP.out
  have APz : w.heap.size < V9.heap.size := by omega
  obtain ⟨Fwc0, Fwc1, Fwc2⟩ := HFw.out
  have Fwz : w4.heap.size < V9.heap.size := by omega
  obtain ⟨Xxc0, Xxc1⟩ := HXx.out
  have Xxz : w6.heap.size < V9.heap.size := by omega
  obtain ⟨Ygc0, Ygc1, Ygc2⟩ := HYg.out
  have Ygz : w8.heap.size < V9.heap.size := by omega
  refine (eqSource_alike xg1 xg2 xg3 xw1 xw2 xw3 _ _ _ _ _ _ V7.heap.size w8.heap.size w3.heap.size w4.heap.size (newA p) V9 HRg.out HRw.out (by omega) (by omega) FS.out).mono ?_
  rintro e w10 ⟨rfl, hb10⟩
  have z10 := hb10.size
  clear APc0 APc1 APz
  clear Fwc0 Fwc1 Fwc2 Fwz
  clear Xxc0 Xxc1 Xxz
  clear Ygc0 Ygc1 Ygc2 Ygz
  have JK : Hid (Below w.heap.size w w10) := HK.out.trans (hb10.mono (by omega))
  have JAP : Hid (Bo2 w.heap.size w10 (.slice p1 p.caps.length a1) (.slice p2 p.bods.length a2)) := HAP.out.keep (Keep.of_below hb10 (by omega))
  have JRw : Hid (SrcR w10 w3.heap.size w4.heap.size xw1 xw2 xw3 (newA p)) := HRw.out.keep (Keep.of_below hb10 (by omega))
  have JFw : Hid (Bo3 w4.heap.size w10 (.slice xw1 (newA p).ths.length yw1) (.slice xw2 (newA p).chs.length yw2) (.slice xw3 (newA p).tr.length yw3)) := HFw.out.keep (Keep.of_below hb10 (by omega))
  have JRx : Hid (PR w10 V5.heap.size w6.heap.size xx1 xx2 p) := HRx.out.keep (Keep.of_below hb10 (by omega))
  have JOx : Hid (GB w10 V5.heap.size w6.heap.size (.slice xx1 p.caps.length p.caps.length) (.slice xx2 p.bods.length p.bods.length) Lxx p) := HOx.out.keep (Keep.of_below hb10 (by omega))
  have JXx : Hid (Bo2 w6.heap.size w10 (.slice xx1 p.caps.length p.caps.length) (.slice xx2 p.bods.length p.bods.length)) := HXx.out.keep (Keep.of_below hb10 (by omega))
  have JRg : Hid (SrcR w10 V7.heap.size w8.heap.size xg1 xg2 xg3 (newA p)) := HRg.out.keep (Keep.of_below hb10 (by omega))
  have JOg : Hid (SB w10 V7.heap.size w8.heap.size (.slice xg1 (newA p).ths.length yg1) (.slice xg2 (newA p).chs.length yg2) (.slice xg3 (newA p).tr.length yg3) Lag Lbg (newA p)) := HOg.out.keep (Keep.of_below hb10 (by omega))
  have JYg : Hid (Bo3 w8.heap.size w10 (.slice xg1 (newA p).ths.length yg1) (.slice xg2 (newA p).chs.length yg2) (.slice xg3 (newA p).tr.length yg3)) := HYg.out.keep (Keep.of_below hb10 (by omega))
  clear HK
  have HK := JK
  clear JK
  clear HAP
  have HAP := JAP
  clear JAP
  clear HRw
  have HRw := JRw
  clear JRw
  clear HFw
  have HFw := JFw
  clear JFw
  clear HRx
  have HRx := JRx
  clear JRx
  clear HOx
  have HOx := JOx
  clear JOx
  clear HXx
  have HXx := JXx
  clear JXx
  clear HRg
  have HRg := JRg
  clear JRg
  clear HOg
  have HOg := JOg
  clear JOg
  clear HYg
  have HYg := JYg
  clear JYg
  clear hb10
  obtain ⟨APc0, APc1⟩ := HAP.out
  have APz : w.heap.size < w10.heap.size := by omega
  obtain ⟨Fwc0, Fwc1, Fwc2⟩ := HFw.out
  have Fwz : w4.heap.size < w10.heap.size := by omega
  obtain ⟨Xxc0, Xxc1⟩ := HXx.out
  have Xxz : w6.heap.size < w10.heap.size := by omega
  obtain ⟨Ygc0, Ygc1, Ygc2⟩ := HYg.out
  have Ygz : w8.heap.size < w10.heap.size := by omega
  go_wp2_with fail
  go_region_held3 (fun w' => w'.cell? ⟨w6.heap.size, 0, none⟩ = some (.slice xx1 p.caps.length p.caps.length) ∧ w'.cell? ⟨w6.heap.size, 1, none⟩ = some (.slice xx2 p.bods.length p.bods.length) ∧ w'.cell? ⟨w.heap.size, 0, none⟩ = some (.slice p1 p.caps.length a1) ∧ w'.cell? ⟨w.heap.size, 1, none⟩ = some (.slice p2 p.bods.length a2)) (go_keep) (first | (go_at_call 12; refine (toProg_own p1 p2 a1 a2 0 w.heap.size p w10.drew (HP.out.keep' (Keep.of_below HK.out.drew (Nat.le_refl _))) (by show w.heap.size ≤ w10.heap.size; omega) FP.out).mono ?_; rintro e w11 ⟨f1, f2, Lf, rfl, ho11, hb11, hz11⟩; have kx : Below w10.heap.size w10 w11 := (Below.drew (Below.refl _ _)).trans hb11; have kz := kx.size; have XX := HXx.out.keep (Keep.of_below kx (by omega)); have AA := HAP.out.keep (Keep.of_below kx (by omega)); have t0 := XX.c0; have t1 := XX.c1; have t3 := AA.c0; have t4 := AA.c1) | (go_at_call 15; refine (eqProg_same xx1 xx2 f1 f2 _ _ _ _ V5.heap.size w6.heap.size w10.heap.size w11.heap.size p w11 (HRx.out.keep' (Keep.of_below kx (by omega))) ho11.prog (by omega) (Nat.le_refl _) FP.out).mono ?_; rintro e w12 ⟨rfl, hb12⟩; have ky : Below w10.heap.size w10 w12 := kx.trans (hb12.mono (by omega)); have XY := XX.keep (Keep.of_below hb12 (by omega)); have AY := AA.keep (Keep.of_below hb12 (by omega)); have u0 := XY.c0; have u1 := XY.c1; have u3 := AY.c0; have u4 := AY.c1))
  have z12 := ky.size
  clear t0 t1 t3 t4 u0 u1 u3 u4 XX AA XY AY hb11 hb12 ho11 hz11 kx kz
  clear APc0 APc1 APz
  clear Fwc0 Fwc1 Fwc2 Fwz
  clear Xxc0 Xxc1 Xxz
  clear Ygc0 Ygc1 Ygc2 Ygz
  have JK : Hid (Below w.heap.size w w12) := HK.out.trans (ky.mono (by omega))
  have JAP : Hid (Bo2 w.heap.size w12 (.slice p1 p.caps.length a1) (.slice p2 p.bods.length a2)) := HAP.out.keep (Keep.of_below ky (by omega))
  have JRw : Hid (SrcR w12 w3.heap.size w4.heap.size xw1 xw2 xw3 (newA p)) := HRw.out.keep (Keep.of_below ky (by omega))
  have JFw : Hid (Bo3 w4.heap.size w12 (.slice xw1 (newA p).ths.length yw1) (.slice xw2 (newA p).chs.length yw2) (.slice xw3 (newA p).tr.length yw3)) := HFw.out.keep (Keep.of_below ky (by omega))
  have JRx : Hid (PR w12 V5.heap.size w6.heap.size xx1 xx2 p) := HRx.out.keep (Keep.of_below ky (by omega))
  have JOx : Hid (GB w12 V5.heap.size w6.heap.size (.slice xx1 p.caps.length p.caps.length) (.slice xx2 p.bods.length p.bods.length) Lxx p) := HOx.out.keep (Keep.of_below ky (by omega))
  have JXx : Hid (Bo2 w6.heap.size w12 (.slice xx1 p.caps.length p.caps.length) (.slice xx2 p.bods.length p.bods.length)) := HXx.out.keep (Keep.of_below ky (by omega))
  have JRg : Hid (SrcR w12 V7.heap.size w8.heap.size xg1 xg2 xg3 (newA p)) := HRg.out.keep (Keep.of_below ky (by omega))
  have JOg : Hid (SB w12 V7.heap.size w8.heap.size (.slice xg1 (newA p).ths.length yg1) (.slice xg2 (newA p).chs.length yg2) (.slice xg3 (newA p).tr.length yg3) Lag Lbg (newA p)) := HOg.out.keep (Keep.of_below ky (by omega))
  have JYg : Hid (Bo3 w8.heap.size w12 (.slice xg1 (newA p).ths.length yg1) (.slice xg2 (newA p).chs.length yg2) (.slice xg3 (newA p).tr.length yg3)) := HYg.out.keep (Keep.of_below ky (by omega))
  clear HK
  have HK := JK
  clear JK
  clear HAP
  have HAP := JAP
  clear JAP
  clear HRw
  have HRw := JRw
  clear JRw
  clear HFw
  have HFw := JFw
  clear JFw
  clear HRx
  have HRx := JRx
  clear JRx
  clear HOx
  have HOx := JOx
  clear JOx
  clear HXx
  have HXx := JXx
  clear JXx
  clear HRg
  have HRg := JRg
  clear JRg
  clear HOg
  have HOg := JOg
  clear JOg
  clear HYg
  have HYg := JYg
  clear JYg
  clear ky
  obtain ⟨APc0, APc1⟩ := HAP.out
  have APz : w.heap.size < w12.heap.size := by omega
  obtain ⟨Fwc0, Fwc1, Fwc2⟩ := HFw.out
  have Fwz : w4.heap.size < w12.heap.size := by omega
  obtain ⟨Xxc0, Xxc1⟩ := HXx.out
  have Xxz : w6.heap.size < w12.heap.size := by omega
  obtain ⟨Ygc0, Ygc1, Ygc2⟩ := HYg.out
  have Ygz : w8.heap.size < w12.heap.size := by omega
  go_wp2_with fail
  refine (markProg_exc 1 HOx.out FP.out (by omega) (by omega)).mono ?_
  rintro e w13 ⟨rk, rfl, rk0, rk1, ex13⟩
  have z13 := ex13.size
  have hmk : ¬ rk < 0 := by omega
  clear APc0 APc1 APz
  clear Fwc0 Fwc1 Fwc2 Fwz
  clear Xxc0 Xxc1 Xxz
  clear Ygc0 Ygc1 Ygc2 Ygz
  have JK : Hid (Below w.heap.size w w13) := HK.out.trans (ex13.below (by omega) (by omega))
  have JAP : Hid (Bo2 w.heap.size w13 (.slice p1 p.caps.length a1) (.slice p2 p.bods.length a2)) := HAP.out.keep (Keep.of_exc ex13 (by omega) (by omega))
  have JRw : Hid (SrcR w13 w3.heap.size w4.heap.size xw1 xw2 xw3 (newA p)) := HRw.out.keep (Keep.of_exc ex13 (by omega) (by omega))
  have JFw : Hid (Bo3 w4.heap.size w13 (.slice xw1 (newA p).ths.length yw1) (.slice xw2 (newA p).chs.length yw2) (.slice xw3 (newA p).tr.length yw3)) := HFw.out.keep (Keep.of_exc ex13 (by omega) (by omega))
  have JXx : Hid (Bo2 w6.heap.size w13 (.slice xx1 p.caps.length p.caps.length) (.slice xx2 p.bods.length p.bods.length)) := HXx.out.keep (Keep.of_exc ex13 (by omega) (by omega))
  have JRg : Hid (SrcR w13 V7.heap.size w8.heap.size xg1 xg2 xg3 (newA p)) := HRg.out.keep (Keep.of_exc ex13 (by omega) (by omega))
  have JOg : Hid (SB w13 V7.heap.size w8.heap.size (.slice xg1 (newA p).ths.length yg1) (.slice xg2 (newA p).chs.length yg2) (.slice xg3 (newA p).tr.length yg3) Lag Lbg (newA p)) := HOg.out.keep (Keep.of_exc ex13 (by omega) (by omega))
  have JYg : Hid (Bo3 w8.heap.size w13 (.slice xg1 (newA p).ths.length yg1) (.slice xg2 (newA p).chs.length yg2) (.slice xg3 (newA p).tr.length yg3)) := HYg.out.keep (Keep.of_exc ex13 (by omega) (by omega))
  clear HK
  have HK := JK
  clear JK
  clear HAP
  have HAP := JAP
  clear JAP
  clear HRw
  have HRw := JRw
  clear JRw
  clear HFw
  have HFw := JFw
  clear JFw
  clear HRx
  clear HOx
  clear HXx
  have HXx := JXx
  clear JXx
  clear HRg
  have HRg := JRg
  clear JRg
  clear HOg
  have HOg := JOg
  clear JOg
  clear HYg
  have HYg := JYg
  clear JYg
  clear ex13
  obtain ⟨APc0, APc1⟩ := HAP.out
  have APz : w.heap.size < w13.heap.size := by omega
  obtain ⟨Fwc0, Fwc1, Fwc2⟩ := HFw.out
  have Fwz : w4.heap.size < w13.heap.size := by omega
  obtain ⟨Xxc0, Xxc1⟩ := HXx.out
  have Xxz : w6.heap.size < w13.heap.size := by omega
  obtain ⟨Ygc0, Ygc1, Ygc2⟩ := HYg.out
  have Ygz : w8.heap.size < w13.heap.size := by omega
  go_wp2_with fail
  refine (eqSource_alike xg1 xg2 xg3 xw1 xw2 xw3 _ _ _ _ _ _ V7.heap.size w8.heap.size w3.heap.size w4.heap.size (newA p) w13 HRg.out HRw.out (by omega) (by omega) FS.out).mono ?_
  rintro e w14 ⟨rfl, hb14⟩
  have z14 := hb14.size
  clear APc0 APc1 APz
  clear Fwc0 Fwc1 Fwc2 Fwz
  clear Xxc0 Xxc1 Xxz
  clear Ygc0 Ygc1 Ygc2 Ygz
  have JK : Hid (Below w.heap.size w w14) := HK.out.trans (hb14.mono (by omega))
  have JAP : Hid (Bo2 w.heap.size w14 (.slice p1 p.caps.length a1) (.slice p2 p.bods.length a2)) := HAP.out.keep (Keep.of_below hb14 (by omega))
  have JRw : Hid (SrcR w14 w3.heap.size w4.heap.size xw1 xw2 xw3 (newA p)) := HRw.out.keep (Keep.of_below hb14 (by omega))
  have JFw : Hid (Bo3 w4.heap.size w14 (.slice xw1 (newA p).ths.length yw1) (.slice xw2 (newA p).chs.length yw2) (.slice xw3 (newA p).tr.length yw3)) := HFw.out.keep (Keep.of_below hb14 (by omega))
  have JXx : Hid (Bo2 w6.heap.size w14 (.slice xx1 p.caps.length p.caps.length) (.slice xx2 p.bods.length p.bods.length)) := HXx.out.keep (Keep.of_below hb14 (by omega))
  have JRg : Hid (SrcR w14 V7.heap.size w8.heap.size xg1 xg2 xg3 (newA p)) := HRg.out.keep (Keep.of_below hb14 (by omega))
  have JOg : Hid (SB w14 V7.heap.size w8.heap.size (.slice xg1 (newA p).ths.length yg1) (.slice xg2 (newA p).chs.length yg2) (.slice xg3 (newA p).tr.length yg3) Lag Lbg (newA p)) := HOg.out.keep (Keep.of_below hb14 (by omega))
  have JYg : Hid (Bo3 w8.heap.size w14 (.slice xg1 (newA p).ths.length yg1) (.slice xg2 (newA p).chs.length yg2) (.slice xg3 (newA p).tr.length yg3)) := HYg.out.keep (Keep.of_below hb14 (by omega))
  clear HK
  have HK := JK
  clear JK
  clear HAP
  have HAP := JAP
  clear JAP
  clear HRw
  have HRw := JRw
  clear JRw
  clear HFw
  have HFw := JFw
  clear JFw
  clear HXx
  have HXx := JXx
  clear JXx
  clear HRg
  have HRg := JRg
  clear JRg
  clear HOg
  have HOg := JOg
  clear JOg
  clear HYg
  have HYg := JYg
  clear JYg
  clear hb14
  obtain ⟨APc0, APc1⟩ := HAP.out
  have APz : w.heap.size < w14.heap.size := by omega
  obtain ⟨Fwc0, Fwc1, Fwc2⟩ := HFw.out
  have Fwz : w4.heap.size < w14.heap.size := by omega
  obtain ⟨Xxc0, Xxc1⟩ := HXx.out
  have Xxz : w6.heap.size < w14.heap.size := by omega
  obtain ⟨Ygc0, Ygc1, Ygc2⟩ := HYg.out
  have Ygz : w8.heap.size < w14.heap.size := by omega
  go_wp2_with fail
  have rm := HOg.out.room FS.out
  have f3 := FS.out.2.2
  have RM : Hid (sumQ Lag ≤ 2000000000000 ∧ sumQ Lbg ≤ 2000000000000 ∧ (newA p).tr.length ≤ 1048576) := ⟨rm.1, rm.2, f3⟩
  have LL : Hid (Lag.length ≤ 1048577 ∧ (∀ (i : Nat) (x : Rec × Value), Lag[i]? = some x → x.1.l.length ≤ 1048577) ∧ Lbg.length ≤ 1048577 ∧ (∀ (i : Nat) (x : Rec × Value), Lbg[i]? = some x → x.1.l.length ≤ 1048577) ∧ (newA p).tr.length ≤ 1048577) := HOg.out.lens FS.out
  clear rm f3
  refine (markSource_exc 1 HOg.out FS.out (by omega) (by omega)).mono ?_
  rintro e w15 ⟨rfl, hm15, ex15⟩
  have z15 := ex15.size
  clear APc0 APc1 APz
  clear Fwc0 Fwc1 Fwc2 Fwz
  clear Xxc0 Xxc1 Xxz
  clear Ygc0 Ygc1 Ygc2 Ygz
  have JK : Hid (Below w.heap.size w w15) := HK.out.trans (ex15.below (by omega) (by omega))
  have JAP : Hid (Bo2 w.heap.size w15 (.slice p1 p.caps.length a1) (.slice p2 p.bods.length a2)) := HAP.out.keep (Keep.of_exc ex15 (by omega) (by omega))
  have JRw : Hid (SrcR w15 w3.heap.size w4.heap.size xw1 xw2 xw3 (newA p)) := HRw.out.keep (Keep.of_exc ex15 (by omega) (by omega))
  have JFw : Hid (Bo3 w4.heap.size w15 (.slice xw1 (newA p).ths.length yw1) (.slice xw2 (newA p).chs.length yw2) (.slice xw3 (newA p).tr.length yw3)) := HFw.out.keep (Keep.of_exc ex15 (by omega) (by omega))
  have JXx : Hid (Bo2 w6.heap.size w15 (.slice xx1 p.caps.length p.caps.length) (.slice xx2 p.bods.length p.bods.length)) := HXx.out.keep (Keep.of_exc ex15 (by omega) (by omega))
  have JYg : Hid (Bo3 w8.heap.size w15 (.slice xg1 (newA p).ths.length yg1) (.slice xg2 (newA p).chs.length yg2) (.slice xg3 (newA p).tr.length yg3)) := HYg.out.keep (Keep.of_exc ex15 (by omega) (by omega))
  clear HK
  have HK := JK
  clear JK
  clear HAP
  have HAP := JAP
  clear JAP
  clear HRw
  have HRw := JRw
  clear JRw
  clear HFw
  have HFw := JFw
  clear JFw
  clear HXx
  have HXx := JXx
  clear JXx
  clear HRg
  clear HOg
  clear HYg
  have HYg := JYg
  clear JYg
  have HD : Hid (MB w15 V7.heap.size w8.heap.size (.slice xg1 (newA p).ths.length yg1) (.slice xg2 (newA p).chs.length yg2) (.slice xg3 (newA p).tr.length yg3) Lag Lbg (newA p).tr.length 1) := hm15
  clear ex15 hm15
  obtain ⟨mm, hmm⟩ : ∃ m : Int, 1 + (sumQ Lag : Int) + sumQ Lbg + 2 * (newA p).tr.length = m := ⟨_, rfl⟩
  have HMM : Hid (1 + (sumQ Lag : Int) + sumQ Lbg + 2 * (newA p).tr.length = mm) := hmm
  have mm0 : ¬ mm < 0 := by omega
  have mmm : (mm != mm) = false := by simp
  rw [hmm]
  clear hmm
  obtain ⟨APc0, APc1⟩ := HAP.out
  have APz : w.heap.size < w15.heap.size := by omega
  obtain ⟨Fwc0, Fwc1, Fwc2⟩ := HFw.out
  have Fwz : w4.heap.size < w15.heap.size := by omega
  obtain ⟨Xxc0, Xxc1⟩ := HXx.out
  have Xxz : w6.heap.size < w15.heap.size := by omega
  obtain ⟨Ygc0, Ygc1, Ygc2⟩ := HYg.out
  have Ygz : w8.heap.size < w15.heap.size := by omega
  go_wp2_with fail
  refine (heldSource_any V7.heap.size _ _ _ Lag Lbg _ 1 w15 HD.out.o LL.out.1 LL.out.2.1 LL.out.2.2.1 LL.out.2.2.2.1 LL.out.2.2.2.2 (by omega) (by have := RM.out; omega)).mono ?_
  rintro e w16 ⟨rfl, hb16⟩
  have z16 := hb16.size
  clear APc0 APc1 APz
  clear Fwc0 Fwc1 Fwc2 Fwz
  clear Xxc0 Xxc1 Xxz
  clear Ygc0 Ygc1 Ygc2 Ygz
  have JK : Hid (Below w.heap.size w w16) := HK.out.trans (hb16.mono (by omega))
  have JAP : Hid (Bo2 w.heap.size w16 (.slice p1 p.caps.length a1) (.slice p2 p.bods.length a2)) := HAP.out.keep (Keep.of_below hb16 (by omega))
  have JRw : Hid (SrcR w16 w3.heap.size w4.heap.size xw1 xw2 xw3 (newA p)) := HRw.out.keep (Keep.of_below hb16 (by omega))
  have JFw : Hid (Bo3 w4.heap.size w16 (.slice xw1 (newA p).ths.length yw1) (.slice xw2 (newA p).chs.length yw2) (.slice xw3 (newA p).tr.length yw3)) := HFw.out.keep (Keep.of_below hb16 (by omega))
  have JXx : Hid (Bo2 w6.heap.size w16 (.slice xx1 p.caps.length p.caps.length) (.slice xx2 p.bods.length p.bods.length)) := HXx.out.keep (Keep.of_below hb16 (by omega))
  have JYg : Hid (Bo3 w8.heap.size w16 (.slice xg1 (newA p).ths.length yg1) (.slice xg2 (newA p).chs.length yg2) (.slice xg3 (newA p).tr.length yg3)) := HYg.out.keep (Keep.of_below hb16 (by omega))
  have JD : Hid (MB w16 V7.heap.size w8.heap.size (.slice xg1 (newA p).ths.length yg1) (.slice xg2 (newA p).chs.length yg2) (.slice xg3 (newA p).tr.length yg3) Lag Lbg (newA p).tr.length 1) := HD.out.keep (Keep.of_below hb16 (by omega))
  clear HK
  have HK := JK
  clear JK
  clear HAP
  have HAP := JAP
  clear JAP
  clear HRw
  have HRw := JRw
  clear JRw
  clear HFw
  have HFw := JFw
  clear JFw
  clear HXx
  have HXx := JXx
  clear JXx
  clear HYg
  have HYg := JYg
  clear JYg
  clear HD
  have HD := JD
  clear JD
  clear hb16
  rw [HMM.out]
  obtain ⟨APc0, APc1⟩ := HAP.out
  have APz : w.heap.size < w16.heap.size := by omega
  obtain ⟨Fwc0, Fwc1, Fwc2⟩ := HFw.out
  have Fwz : w4.heap.size < w16.heap.size := by omega
  obtain ⟨Xxc0, Xxc1⟩ := HXx.out
  have Xxz : w6.heap.size < w16.heap.size := by omega
  obtain ⟨Ygc0, Ygc1, Ygc2⟩ := HYg.out
  have Ygz : w8.heap.size < w16.heap.size := by omega
  go_wp2_with fail
  refine (toProg_own p1 p2 a1 a2 0 w.heap.size p w16 (HP.out.keep' (Keep.of_below HK.out (Nat.le_refl _))) (by omega) FP.out).mono ?_
  rintro e w17 ⟨xh1, xh2, Lxh, rfl, ho17, hb17, z17⟩
  clear APc0 APc1 APz
  clear Fwc0 Fwc1 Fwc2 Fwz
  clear Xxc0 Xxc1 Xxz
  clear Ygc0 Ygc1 Ygc2 Ygz
  have JK : Hid (Below w.heap.size w w17) := HK.out.trans (hb17.mono (by omega))
  have JAP : Hid (Bo2 w.heap.size w17 (.slice p1 p.caps.length a1) (.slice p2 p.bods.length a2)) := HAP.out.keep (Keep.of_below hb17 (by omega))
  have JRw : Hid (SrcR w17 w3.heap.size w4.heap.size xw1 xw2 xw3 (newA p)) := HRw.out.keep (Keep.of_below hb17 (by omega))
  have JFw : Hid (Bo3 w4.heap.size w17 (.slice xw1 (newA p).ths.length yw1) (.slice xw2 (newA p).chs.length yw2) (.slice xw3 (newA p).tr.length yw3)) := HFw.out.keep (Keep.of_below hb17 (by omega))
  have JXx : Hid (Bo2 w6.heap.size w17 (.slice xx1 p.caps.length p.caps.length) (.slice xx2 p.bods.length p.bods.length)) := HXx.out.keep (Keep.of_below hb17 (by omega))
  have JYg : Hid (Bo3 w8.heap.size w17 (.slice xg1 (newA p).ths.length yg1) (.slice xg2 (newA p).chs.length yg2) (.slice xg3 (newA p).tr.length yg3)) := HYg.out.keep (Keep.of_below hb17 (by omega))
  have JD : Hid (MB w17 V7.heap.size w8.heap.size (.slice xg1 (newA p).ths.length yg1) (.slice xg2 (newA p).chs.length yg2) (.slice xg3 (newA p).tr.length yg3) Lag Lbg (newA p).tr.length 1) := HD.out.keep (Keep.of_below hb17 (by omega))
  clear HK
  have HK := JK
  clear JK
  clear HAP
  have HAP := JAP
  clear JAP
  clear HRw
  have HRw := JRw
  clear JRw
  clear HFw
  have HFw := JFw
  clear JFw
  clear HXx
  have HXx := JXx
  clear JXx
  clear HYg
  have HYg := JYg
  clear JYg
  clear HD
  have HD := JD
  clear JD
  have HRh : Hid (PR w17 w16.heap.size w17.heap.size xh1 xh2 p) := ho17.prog
  clear hb17 ho17
  obtain ⟨APc0, APc1⟩ := HAP.out
  have APz : w.heap.size < w17.heap.size := by omega
  obtain ⟨Fwc0, Fwc1, Fwc2⟩ := HFw.out
  have Fwz : w4.heap.size < w17.heap.size := by omega
  obtain ⟨Xxc0, Xxc1⟩ := HXx.out
  have Xxz : w6.heap.size < w17.heap.size := by omega
  obtain ⟨Ygc0, Ygc1, Ygc2⟩ := HYg.out
  have Ygz : w8.heap.size < w17.heap.size := by omega
  go_wp2_with fail
  refine (implNew_any xh1 xh2 _ _ _ _ p w17 HRh.out (by omega) FP.out).mono ?_
  rintro e w18 ⟨va18, vb18, vc18, Lak, Lbk, rfl, ho18, hb18⟩
  have z18 := hb18.size
  obtain ⟨xk1, yk1, xk2, yk2, xk3, yk3, rfl, rfl, rfl, hs18⟩ := ho18.src
  clear APc0 APc1 APz
  clear Fwc0 Fwc1 Fwc2 Fwz
  clear Xxc0 Xxc1 Xxz
  clear Ygc0 Ygc1 Ygc2 Ygz
  have JK : Hid (Below w.heap.size w w18) := HK.out.trans (hb18.mono (by omega))
  have JAP : Hid (Bo2 w.heap.size w18 (.slice p1 p.caps.length a1) (.slice p2 p.bods.length a2)) := HAP.out.keep (Keep.of_below hb18 (by omega))
  have JRw : Hid (SrcR w18 w3.heap.size w4.heap.size xw1 xw2 xw3 (newA p)) := HRw.out.keep (Keep.of_below hb18 (by omega))
  have JFw : Hid (Bo3 w4.heap.size w18 (.slice xw1 (newA p).ths.length yw1) (.slice xw2 (newA p).chs.length yw2) (.slice xw3 (newA p).tr.length yw3)) := HFw.out.keep (Keep.of_below hb18 (by omega))
  have JXx : Hid (Bo2 w6.heap.size w18 (.slice xx1 p.caps.length p.caps.length) (.slice xx2 p.bods.length p.bods.length)) := HXx.out.keep (Keep.of_below hb18 (by omega))
  have JYg : Hid (Bo3 w8.heap.size w18 (.slice xg1 (newA p).ths.length yg1) (.slice xg2 (newA p).chs.length yg2) (.slice xg3 (newA p).tr.length yg3)) := HYg.out.keep (Keep.of_below hb18 (by omega))
  have JD : Hid (MB w18 V7.heap.size w8.heap.size (.slice xg1 (newA p).ths.length yg1) (.slice xg2 (newA p).chs.length yg2) (.slice xg3 (newA p).tr.length yg3) Lag Lbg (newA p).tr.length 1) := HD.out.keep (Keep.of_below hb18 (by omega))
  have JRh : Hid (PR w18 w16.heap.size w17.heap.size xh1 xh2 p) := HRh.out.keep (Keep.of_below hb18 (by omega))
  clear HK
  have HK := JK
  clear JK
  clear HAP
  have HAP := JAP
  clear JAP
  clear HRw
  have HRw := JRw
  clear JRw
  clear HFw
  have HFw := JFw
  clear JFw
  clear HXx
  have HXx := JXx
  clear JXx
  clear HYg
  have HYg := JYg
  clear JYg
  clear HD
  have HD := JD
  clear JD
  clear HRh
  have HRh := JRh
  clear JRh
  have HRk : Hid (SrcR w18 w17.heap.size w18.heap.size xk1 xk2 xk3 (newA p)) := hs18
  clear hb18 hs18 ho18
  obtain ⟨APc0, APc1⟩ := HAP.out
  have APz : w.heap.size < w18.heap.size := by omega
  obtain ⟨Fwc0, Fwc1, Fwc2⟩ := HFw.out
  have Fwz : w4.heap.size < w18.heap.size := by omega
  obtain ⟨Xxc0, Xxc1⟩ := HXx.out
  have Xxz : w6.heap.size < w18.heap.size := by omega
  obtain ⟨Ygc0, Ygc1, Ygc2⟩ := HYg.out
  have Ygz : w8.heap.size < w18.heap.size := by omega
  rw [HBB.out]
  go_wp2_with fail
  clear HRh
  obtain ⟨V19, hV19, bx19, kb19, zb19⟩ := Bo3.new w18 (.slice xk1 (newA p).ths.length yk1) (.slice xk2 (newA p).chs.length yk2) (.slice xk3 (newA p).tr.length yk3) 28
  rw [hV19]
  clear hV19
  clear APc0 APc1 APz
  clear Fwc0 Fwc1 Fwc2 Fwz
  clear Xxc0 Xxc1 Xxz
  clear Ygc0 Ygc1 Ygc2 Ygz
  have JK : Hid (Below w.heap.size w V19) := HK.out.trans (kb19.mono (by omega))
  have JAP : Hid (Bo2 w.heap.size V19 (.slice p1 p.caps.length a1) (.slice p2 p.bods.length a2)) := HAP.out.keep (Keep.of_below kb19 (by omega))
  have JRw : Hid (SrcR V19 w3.heap.size w4.heap.size xw1 xw2 xw3 (newA p)) := HRw.out.keep (Keep.of_below kb19 (by omega))
  have JFw : Hid (Bo3 w4.heap.size V19 (.slice xw1 (newA p).ths.length yw1) (.slice xw2 (newA p).chs.length yw2) (.slice xw3 (newA p).tr.length yw3)) := HFw.out.keep (Keep.of_below kb19 (by omega))
  have JXx : Hid (Bo2 w6.heap.size V19 (.slice xx1 p.caps.length p.caps.length) (.slice xx2 p.bods.length p.bods.length)) := HXx.out.keep (Keep.of_below kb19 (by omega))
  have JYg : Hid (Bo3 w8.heap.size V19 (.slice xg1 (newA p).ths.length yg1) (.slice xg2 (newA p).chs.length yg2) (.slice xg3 (newA p).tr.length yg3)) := HYg.out.keep (Keep.of_below kb19 (by omega))
  have JD : Hid (MB V19 V7.heap.size w8.heap.size (.slice xg1 (newA p).ths.length yg1) (.slice xg2 (newA p).chs.length yg2) (.slice xg3 (newA p).tr.length yg3) Lag Lbg (newA p).tr.length 1) := HD.out.keep (Keep.of_below kb19 (by omega))
  have JRk : Hid (SrcR V19 w17.heap.size w18.heap.size xk1 xk2 xk3 (newA p)) := HRk.out.keep (Keep.of_below kb19 (by omega))
  clear HK
  have HK := JK
  clear JK
  clear HAP
  have HAP := JAP
  clear JAP
  clear HRw
  have HRw := JRw
  clear JRw
  clear HFw
  have HFw := JFw
  clear JFw
  clear HXx
  have HXx := JXx
  clear JXx
  clear HYg
  have HYg := JYg
  clear JYg
  clear HD
  have HD := JD
  clear JD
  clear HRk
  have HRk := JRk
  clear JRk
  have HZk : Hid (Bo3 w18.heap.size V19 (.slice xk1 (newA p).ths.length yk1) (.slice xk2 (newA p).chs.length yk2) (.slice xk3 (newA p).tr.length yk3)) := bx19
  clear bx19 kb19
  obtain ⟨APc0, APc1⟩ := HAP.out
  have APz : w.heap.size < V19.heap.size := by omega
  obtain ⟨Fwc0, Fwc1, Fwc2⟩ := HFw.out
  have Fwz : w4.heap.size < V19.heap.size := by omega
  obtain ⟨Xxc0, Xxc1⟩ := HXx.out
  have Xxz : w6.heap.size < V19.heap.size := by omega
  obtain ⟨Ygc0, Ygc1, Ygc2⟩ := HYg.out
  have Ygz : w8.heap.size < V19.heap.size := by omega
  obtain ⟨Zkc0, Zkc1, Zkc2⟩ := HZk.out
  have Zkz : w18.heap.size < V19.heap.size := by omega
  refine (eqSource_alike xk1 xk2 xk3 xw1 xw2 xw3 _ _ _ _ _ _ w17.heap.size w18.heap.size w3.heap.size w4.heap.size (newA p) V19 HRk.out HRw.out (by omega) (by omega) FS.out).mono ?_
  rintro e w20 ⟨rfl, hb20⟩
  have z20 := hb20.size
  clear APc0 APc1 APz
  clear Fwc0 Fwc1 Fwc2 Fwz
  clear Xxc0 Xxc1 Xxz
  clear Ygc0 Ygc1 Ygc2 Ygz
  clear Zkc0 Zkc1 Zkc2 Zkz
  have JK : Hid (Below w.heap.size w w20) := HK.out.trans (hb20.mono (by omega))
  have JAP : Hid (Bo2 w.heap.size w20 (.slice p1 p.caps.length a1) (.slice p2 p.bods.length a2)) := HAP.out.keep (Keep.of_below hb20 (by omega))
  have JRw : Hid (SrcR w20 w3.heap.size w4.heap.size xw1 xw2 xw3 (newA p)) := HRw.out.keep (Keep.of_below hb20 (by omega))
  have JFw : Hid (Bo3 w4.heap.size w20 (.slice xw1 (newA p).ths.length yw1) (.slice xw2 (newA p).chs.length yw2) (.slice xw3 (newA p).tr.length yw3)) := HFw.out.keep (Keep.of_below hb20 (by omega))
  have JXx : Hid (Bo2 w6.heap.size w20 (.slice xx1 p.caps.length p.caps.length) (.slice xx2 p.bods.length p.bods.length)) := HXx.out.keep (Keep.of_below hb20 (by omega))
  have JYg : Hid (Bo3 w8.heap.size w20 (.slice xg1 (newA p).ths.length yg1) (.slice xg2 (newA p).chs.length yg2) (.slice xg3 (newA p).tr.length yg3)) := HYg.out.keep (Keep.of_below hb20 (by omega))
  have JD : Hid (MB w20 V7.heap.size w8.heap.size (.slice xg1 (newA p).ths.length yg1) (.slice xg2 (newA p).chs.length yg2) (.slice xg3 (newA p).tr.length yg3) Lag Lbg (newA p).tr.length 1) := HD.out.keep (Keep.of_below hb20 (by omega))
  have JRk : Hid (SrcR w20 w17.heap.size w18.heap.size xk1 xk2 xk3 (newA p)) := HRk.out.keep (Keep.of_below hb20 (by omega))
  have JZk : Hid (Bo3 w18.heap.size w20 (.slice xk1 (newA p).ths.length yk1) (.slice xk2 (newA p).chs.length yk2) (.slice xk3 (newA p).tr.length yk3)) := HZk.out.keep (Keep.of_below hb20 (by omega))
  clear HK
  have HK := JK
  clear JK
  clear HAP
  have HAP := JAP
  clear JAP
  clear HRw
  have HRw := JRw
  clear JRw
  clear HFw
  have HFw := JFw
  clear JFw
  clear HXx
  have HXx := JXx
  clear JXx
  clear HYg
  have HYg := JYg
  clear JYg
  clear HD
  have HD := JD
  clear JD
  clear HRk
  have HRk := JRk
  clear JRk
  clear HZk
  have HZk := JZk
  clear JZk
  clear hb20
  obtain ⟨APc0, APc1⟩ := HAP.out
  have APz : w.heap.size < w20.heap.size := by omega
  obtain ⟨Fwc0, Fwc1, Fwc2⟩ := HFw.out
  have Fwz : w4.heap.size < w20.heap.size := by omega
  obtain ⟨Xxc0, Xxc1⟩ := HXx.out
  have Xxz : w6.heap.size < w20.heap.size := by omega
  obtain ⟨Ygc0, Ygc1, Ygc2⟩ := HYg.out
  have Ygz : w8.heap.size < w20.heap.size := by omega
  obtain ⟨Zkc0, Zkc1, Zkc2⟩ := HZk.out
  have Zkz : w18.heap.size < w20.heap.size := by omega
  go_wp2_with fail
  refine (heldSource_any V7.heap.size _ _ _ Lag Lbg _ 1 w20 HD.out.o LL.out.1 LL.out.2.1 LL.out.2.2.1 LL.out.2.2.2.1 LL.out.2.2.2.2 (by omega) (by have := RM.out; omega)).mono ?_
  rintro e w21 ⟨rfl, hb21⟩
  have z21 := hb21.size
  clear APc0 APc1 APz
  clear Fwc0 Fwc1 Fwc2 Fwz
  clear Xxc0 Xxc1 Xxz
  clear Ygc0 Ygc1 Ygc2 Ygz
  clear Zkc0 Zkc1 Zkc2 Zkz
  have JK : Hid (Below w.heap.size w w21) := HK.out.trans (hb21.mono (by omega))
  have JAP : Hid (Bo2 w.heap.size w21 (.slice p1 p.caps.length a1) (.slice p2 p.bods.length a2)) := HAP.out.keep (Keep.of_below hb21 (by omega))
  have JRw : Hid (SrcR w21 w3.heap.size w4.heap.size xw1 xw2 xw3 (newA p)) := HRw.out.keep (Keep.of_below hb21 (by omega))
  have JFw : Hid (Bo3 w4.heap.size w21 (.slice xw1 (newA p).ths.length yw1) (.slice xw2 (newA p).chs.length yw2) (.slice xw3 (newA p).tr.length yw3)) := HFw.out.keep (Keep.of_below hb21 (by omega))
  have JXx : Hid (Bo2 w6.heap.size w21 (.slice xx1 p.caps.length p.caps.length) (.slice xx2 p.bods.length p.bods.length)) := HXx.out.keep (Keep.of_below hb21 (by omega))
  have JYg : Hid (Bo3 w8.heap.size w21 (.slice xg1 (newA p).ths.length yg1) (.slice xg2 (newA p).chs.length yg2) (.slice xg3 (newA p).tr.length yg3)) := HYg.out.keep (Keep.of_below hb21 (by omega))
  have JD : Hid (MB w21 V7.heap.size w8.heap.size (.slice xg1 (newA p).ths.length yg1) (.slice xg2 (newA p).chs.length yg2) (.slice xg3 (newA p).tr.length yg3) Lag Lbg (newA p).tr.length 1) := HD.out.keep (Keep.of_below hb21 (by omega))
  have JRk : Hid (SrcR w21 w17.heap.size w18.heap.size xk1 xk2 xk3 (newA p)) := HRk.out.keep (Keep.of_below hb21 (by omega))
  have JZk : Hid (Bo3 w18.heap.size w21 (.slice xk1 (newA p).ths.length yk1) (.slice xk2 (newA p).chs.length yk2) (.slice xk3 (newA p).tr.length yk3)) := HZk.out.keep (Keep.of_below hb21 (by omega))
  clear HK
  have HK := JK
  clear JK
  clear HAP
  have HAP := JAP
  clear JAP
  clear HRw
  have HRw := JRw
  clear JRw
  clear HFw
  have HFw := JFw
  clear JFw
  clear HXx
  have HXx := JXx
  clear JXx
  clear HYg
  have HYg := JYg
  clear JYg
  clear HD
  have HD := JD
  clear JD
  clear HRk
  have HRk := JRk
  clear JRk
  clear HZk
  have HZk := JZk
  clear JZk
  clear hb21
  rw [HMM.out]
  obtain ⟨APc0, APc1⟩ := HAP.out
  have APz : w.heap.size < w21.heap.size := by omega
  obtain ⟨Fwc0, Fwc1, Fwc2⟩ := HFw.out
  have Fwz : w4.heap.size < w21.heap.size := by omega
  obtain ⟨Xxc0, Xxc1⟩ := HXx.out
  have Xxz : w6.heap.size < w21.heap.size := by omega
  obtain ⟨Ygc0, Ygc1, Ygc2⟩ := HYg.out
  have Ygz : w8.heap.size < w21.heap.size := by omega
  obtain ⟨Zkc0, Zkc1, Zkc2⟩ := HZk.out
  have Zkz : w18.heap.size < w21.heap.size := by omega
  go_wp2
  go_ret
  exact ⟨rfl, HK.out⟩

set_option maxRecDepth 100000 in
theorem liftedExactSourceNew (os : Os) (started : os.Started) (H : Type) (enc : TypeId × Value → H) :
    ReturnsInHanded {} Try.checked os 4 .any (Rows.fnExactSourceNewSpec.pre6 enc Try.prog Try.f4 Rows.fnExactSourceNewRow.domain false) (Rows.fnExactSourceNewSpec.post enc Try.prog Try.f4 false true false false) := by
  refine returnsInHanded_of_change (C := Try.checked) ownP started (by kernel_rfl) Try.func4
    (ChangeSpec.witness6 (enc := enc) (C := Try.checked) false ⟨#[], #[.agg #[.slice none 0 0, .slice none 0 0]], []⟩ 8 (by kernel_rfl) (by kernel_rfl) (by kernel_rfl) (by kernel_rfl)) ?_
  intro W base args ds gs before hval0 hW hcnd _
  have hval : ∀ (j : Nat) t v, Try.f4.params[j]? = some t → args[j]? = some v → Value.okWide Try.prog W .any base t v := hval0
  have hW' := hW
  obtain ⟨p, q, hA0, hV, rfl, hfz, hnd⟩ := hW
  have hA : DataW.TrodAll enc Try.prog W 0 (fun _ => true) true Try.f4.params.toList args.toList ds p := hA0
  rw [Try.params4] at hA hval
  obtain ⟨v0, d0, hargs, rfl, h0⟩ := trodAll_one hA
  obtain rfl : args = #[v0] := by cases args; simp_all
  obtain ⟨rfl, rfl⟩ := trodVars_none hV
  have k0 := h0
  have lt0 : ∀ x ∈ p, x.block < W.heap.size := by obtain ⟨m, hm⟩ := k0; exact DataW.trod_lt m _ _ _ hm
  obtain ⟨p1, p2, a1, a2, pd, rfl, m1, m2, m3, hP⟩ := open_prog (hval 0 38 v0 rfl rfl) h0
  clear hA0 hval0
  refine (walkSourceNew p1 p2 a1 a2 pd W hP m1 m2 m3).mono fun e W' ⟨he, bel⟩ => ?_
  subst he
  exact ⟨_, rfl, _, _, _, [], _, [], hW', trodAll_mk1 (shut_bool Try.underlying4 _), trodAll_mk1 (Below.trod laidOutP (by kernel_rfl) (of_decide_eq_true (by kernel_rfl)) k0 bel lt0), rfl, bel.frame _, fun h => by cases h⟩

theorem fnExactSourceNew_holds : Rows.FnExactSourceNewSaid :=
  OpenClaim.holds_of_wide 4 Try.f4 rfl rfl rfl rfl rfl rfl rfl ⟨rfl, rfl, rfl, rfl, rfl⟩ rfl rfl rfl rfl rfl (by kernel_rfl) Try.func4 (by kernel_rfl)
    (of_decide_eq_true (by kernel_rfl)) (by unfold Func.isWrapper; first | (rw [if_pos (by decide +kernel)]; kernel_rfl) | (rw [if_neg (by decide +kernel)]; exact ⟨rfl, rfl⟩))
    (fun os started H enc _ => liftedExactSourceNew os started H enc)
#print axioms fnExactSourceNew_holds

end Go.Proofs.Ytpjlljhcnlhelaa
