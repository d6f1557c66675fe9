/- The law FnExactCompile of the given statements: at every argument Compile of the program answers as the specification's, writes into no argument, keeps nothing of one, and its answer owns its memory. No condition. -/
import Derived.Test.YthkpkdehicoikaaGreatJ04
import Derived.Test.YthkpkdehicoikaaGreatJ54
import Derived.Deep.RegionHeld3
namespace Go.Proofs.YthkpkdehicoikaaGreat
set_option linter.unusedSimpArgs false
set_option linter.unusedVariables false
set_option maxRecDepth 100000
open Go.ChangeShapes Go.WideShapes Go.ChangeAt Go.RowKit Go.Deep

def PR (w : World) (lo hi : Nat) (s s' : Option Addr) (p : PD) : Prop := ProgR w lo hi s s' p
theorem PR.keep {w w' : World} {lo hi : Nat} {s s' : Option Addr} {p : PD} (h : PR w lo hi s s' p) (hb : Keep lo hi w w') : PR w' lo hi s s' p := ProgR.keep' h hb
theorem PR.keep' {w w' : World} {lo hi : Nat} {s s' : Option Addr} {p : PD} (h : PR w lo hi s s' p) (hb : Keep lo hi w w') : ProgR w' lo hi s s' p := ProgR.keep' h hb

set_option maxRecDepth 100000 in
set_option maxHeartbeats 8000000 in
theorem walkCompile (p1 p2 : Option Addr) (a1 a2 : Nat) (p : PD) (w : World) (h : ProgR w 0 w.heap.size p1 p2 p) (m1 : p.caps.length ≤ maxLen) (m2 : p.bods.length ≤ maxLen) (m3 : ∀ i, i < p.bods.length → (p.bods.getD i []).length ≤ maxLen) :
    Calls Tryz.prog 3 #[.agg #[.slice p1 p.caps.length a1, .slice p2 p.bods.length a2]] w fun e w' => e = .returned (.bool true) ∧ Below w.heap.size w w' := by
  have HP : Hid (ProgR w 0 w.heap.size p1 p2 p) := h
  have M3 : Hid (∀ i, i < p.bods.length → (p.bods.getD i []).length ≤ maxLen) := m3
  clear h m3
  obtain ⟨L, ob, hL⟩ : ∃ L ob, cpM p = (L, ob) := ⟨_, _, rfl⟩
  have hSm : Small6 L := by have := cpM_small p; rw [hL] at this; exact this
  have HSM := hidP hSm
  have hn4 := hSm.n
  clear hSm
  have HL := hidP hL
  clear hL
  have hbn : (ob != ob) = false := by simp
  obtain ⟨mm, hmm⟩ : ∃ m : Int, 1 + 5 * (tot L L.length : Int) = m := ⟨_, rfl⟩
  have mm0 : ¬ mm < 0 := by omega
  have mmm : (mm != mm) = false := by simp
  have HMM := hidP hmm
  clear hmm
  go_enter Tryz.func3, Tryz.ntmps3
  go_wp2_with fail
  have HK : Hid (Below w.heap.size w w) := Below.refl _ _
  obtain ⟨V1, hV1, bx1, kb1, zb1⟩ := Bo2.new w (.slice p1 p.caps.length a1) (.slice p2 p.bods.length a2) 25
  rw [hV1]
  clear hV1
  have JK : Hid (Below w.heap.size w V1) := HK.out.trans (kb1.mono (by omega))
  clear HK
  have HK := JK
  clear JK
  have HAP : Hid (Bo2 w.heap.size V1 (.slice p1 p.caps.length a1) (.slice p2 p.bods.length a2)) := bx1
  clear bx1 kb1
  refine (szProg_le p1 p2 a1 a2 0 w.heap.size p V1 (HP.out.keep' (Keep.of_below HK.out (Nat.le_refl _))) (by omega) m1 m2 M3.out).mono ?_
  rintro e w2 ⟨⟨u, rfl, hu⟩, hb2⟩
  have z2 := hb2.size
  have JK : Hid (Below w.heap.size w w2) := HK.out.trans (hb2.mono (by omega))
  have JAP : Hid (Bo2 w.heap.size w2 (.slice p1 p.caps.length a1) (.slice p2 p.bods.length a2)) := HAP.out.keep (Keep.of_below hb2 (by omega))
  clear HK
  have HK := JK
  clear JK
  clear HAP
  have HAP := JAP
  clear JAP
  clear hb2
  obtain ⟨APc0, APc1⟩ := HAP.out
  have APz : w.heap.size < w2.heap.size := by omega
  rcases hu with hu | ⟨hu, hu2, hf⟩
  · go_wp2
    go_ret
    exact ⟨rfl, HK.out⟩
  have hun : ¬ u < 0 := by omega
  have FP : Hid (Fits p) := hf
  clear hf
  go_wp2_with fail
  refine (toProg_own p1 p2 a1 a2 0 w.heap.size p w2 (HP.out.keep' (Keep.of_below HK.out (Nat.le_refl _))) (by omega) FP.out).mono ?_
  rintro e w3 ⟨xa1, xa2, Lxa, rfl, ho3, hb3, z3⟩
  clear APc0 APc1 APz
  have JK : Hid (Below w.heap.size w w3) := HK.out.trans (hb3.mono (by omega))
  have JAP : Hid (Bo2 w.heap.size w3 (.slice p1 p.caps.length a1) (.slice p2 p.bods.length a2)) := HAP.out.keep (Keep.of_below hb3 (by omega))
  clear HK
  have HK := JK
  clear JK
  clear HAP
  have HAP := JAP
  clear JAP
  have HRa : Hid (PR w3 w2.heap.size w3.heap.size xa1 xa2 p) := ho3.prog
  clear hb3 ho3
  obtain ⟨APc0, APc1⟩ := HAP.out
  have APz : w.heap.size < w3.heap.size := by omega
  go_wp2_with fail
  refine (specCompile_any xa1 xa2 _ _ _ _ p w3 HRa.out (by omega) FP.out).mono ?_
  rintro e w4 ⟨v4, rfl, ho4, hb4⟩
  rw [HL.out] at ho4 ⊢
  have z4 := hb4.size
  obtain ⟨sw, cw, e4, hi4⟩ := OwnB6.bods ho4
  subst e4
  clear APc0 APc1 APz
  have JK : Hid (Below w.heap.size w w4) := HK.out.trans (hb4.mono (by omega))
  have JAP : Hid (Bo2 w.heap.size w4 (.slice p1 p.caps.length a1) (.slice p2 p.bods.length a2)) := HAP.out.keep (Keep.of_below hb4 (by omega))
  have JRa : Hid (PR w4 w2.heap.size w3.heap.size xa1 xa2 p) := HRa.out.keep (Keep.of_below hb4 (by omega))
  clear HK
  have HK := JK
  clear JK
  clear HAP
  have HAP := JAP
  clear JAP
  clear HRa
  have HRa := JRa
  clear JRa
  have HIw : Hid (BodsR w4 w3.heap.size w4.heap.size sw L) := hi4
  clear hb4 ho4 hi4
  obtain ⟨APc0, APc1⟩ := HAP.out
  have APz : w.heap.size < w4.heap.size := by omega
  go_wp2_with fail
  clear HRa
  refine (toProg_own p1 p2 a1 a2 0 w.heap.size p w4 (HP.out.keep' (Keep.of_below HK.out (Nat.le_refl _))) (by omega) FP.out).mono ?_
  rintro e w5 ⟨xx1, xx2, Lxx, rfl, ho5, hb5, z5⟩
  clear APc0 APc1 APz
  have JK : Hid (Below w.heap.size w w5) := HK.out.trans (hb5.mono (by omega))
  have JAP : Hid (Bo2 w.heap.size w5 (.slice p1 p.caps.length a1) (.slice p2 p.bods.length a2)) := HAP.out.keep (Keep.of_below hb5 (by omega))
  have JIw : Hid (BodsR w5 w3.heap.size w4.heap.size sw L) := HIw.out.keep (Keep.of_below hb5 (by omega))
  clear HK
  have HK := JK
  clear JK
  clear HAP
  have HAP := JAP
  clear JAP
  clear HIw
  have HIw := JIw
  clear JIw
  have HRx : Hid (PR w5 w4.heap.size w5.heap.size xx1 xx2 p) := ho5.prog
  have HOx : Hid (GB w5 w4.heap.size w5.heap.size (.slice xx1 p.caps.length p.caps.length) (.slice xx2 p.bods.length p.bods.length) Lxx p) := GB.of ho5
  clear hb5 ho5
  obtain ⟨APc0, APc1⟩ := HAP.out
  have APz : w.heap.size < w5.heap.size := by omega
  go_wp2_with fail
  obtain ⟨V6, hV6, bx6, kb6, zb6⟩ := Bo2.new w5 (.slice xx1 p.caps.length p.caps.length) (.slice xx2 p.bods.length p.bods.length) 32
  rw [hV6]
  clear hV6
  clear APc0 APc1 APz
  have JK : Hid (Below w.heap.size w V6) := HK.out.trans (kb6.mono (by omega))
  have JAP : Hid (Bo2 w.heap.size V6 (.slice p1 p.caps.length a1) (.slice p2 p.bods.length a2)) := HAP.out.keep (Keep.of_below kb6 (by omega))
  have JIw : Hid (BodsR V6 w3.heap.size w4.heap.size sw L) := HIw.out.keep (Keep.of_below kb6 (by omega))
  have JRx : Hid (PR V6 w4.heap.size w5.heap.size xx1 xx2 p) := HRx.out.keep (Keep.of_below kb6 (by omega))
  have JOx : Hid (GB V6 w4.heap.size w5.heap.size (.slice xx1 p.caps.length p.caps.length) (.slice xx2 p.bods.length p.bods.length) Lxx p) := HOx.out.keep (Keep.of_below kb6 (by omega))
  clear HK
  have HK := JK
  clear JK
  clear HAP
  have HAP := JAP
  clear JAP
  clear HIw
  have HIw := JIw
  clear JIw
  clear HRx
  have HRx := JRx
  clear JRx
  clear HOx
  have HOx := JOx
  clear JOx
  have HXx : Hid (Bo2 w5.heap.size V6 (.slice xx1 p.caps.length p.caps.length) (.slice xx2 p.bods.length p.bods.length)) := bx6
  clear bx6 kb6
  obtain ⟨APc0, APc1⟩ := HAP.out
  have APz : w.heap.size < V6.heap.size := by omega
  obtain ⟨Xxc0, Xxc1⟩ := HXx.out
  have Xxz : w5.heap.size < V6.heap.size := by omega
  refine (implCompile_any xx1 xx2 _ _ _ _ p V6 HRx.out (by omega) FP.out).mono ?_
  rintro e w7 ⟨v7, rfl, ho7, hb7⟩
  rw [HL.out] at ho7 ⊢
  have z7 := hb7.size
  obtain ⟨sg, cg, e7, hi7⟩ := OwnB6.bods ho7
  subst e7
  obtain ⟨xsg, hx7⟩ := CB6.of ho7
  clear APc0 APc1 APz
  clear Xxc0 Xxc1 Xxz
  have JK : Hid (Below w.heap.size w w7) := HK.out.trans (hb7.mono (by omega))
  have JAP : Hid (Bo2 w.heap.size w7 (.slice p1 p.caps.length a1) (.slice p2 p.bods.length a2)) := HAP.out.keep (Keep.of_below hb7 (by omega))
  have JIw : Hid (BodsR w7 w3.heap.size w4.heap.size sw L) := HIw.out.keep (Keep.of_below hb7 (by omega))
  have JRx : Hid (PR w7 w4.heap.size w5.heap.size xx1 xx2 p) := HRx.out.keep (Keep.of_below hb7 (by omega))
  have JOx : Hid (GB w7 w4.heap.size w5.heap.size (.slice xx1 p.caps.length p.caps.length) (.slice xx2 p.bods.length p.bods.length) Lxx p) := HOx.out.keep (Keep.of_below hb7 (by omega))
  have JXx : Hid (Bo2 w5.heap.size w7 (.slice xx1 p.caps.length p.caps.length) (.slice xx2 p.bods.length p.bods.length)) := HXx.out.keep (Keep.of_below hb7 (by omega))
  clear HK
  have HK := JK
  clear JK
  clear HAP
  have HAP := JAP
  clear JAP
  clear HIw
  have HIw := JIw
  clear JIw
  clear HRx
  have HRx := JRx
  clear JRx
  clear HOx
  have HOx := JOx
  clear JOx
  clear HXx
  have HXx := JXx
  clear JXx
  have HIg : Hid (BodsR w7 V6.heap.size w7.heap.size sg L) := hi7
  have HGg : Hid (CB6 w7 V6.heap.size w7.heap.size (.slice sg L.length cg) xsg L) := hx7
  clear hx7
  clear hb7 ho7 hi7
  obtain ⟨APc0, APc1⟩ := HAP.out
  have APz : w.heap.size < w7.heap.size := by omega
  obtain ⟨Xxc0, Xxc1⟩ := HXx.out
  have Xxz : w5.heap.size < w7.heap.size := by omega
  go_wp2_with fail
  refine (eqStepSS_same sg sw cg cw V6.heap.size w7.heap.size w3.heap.size w4.heap.size L w7 HIg.out HIw.out (by omega) (by omega) (by omega) (fun i hi => by have := HSM.out.l i hi; omega)).mono ?_
  rintro e w8 ⟨rfl, hb8⟩
  have z8 := hb8.size
  clear APc0 APc1 APz
  clear Xxc0 Xxc1 Xxz
  have JK : Hid (Below w.heap.size w w8) := HK.out.trans (hb8.mono (by omega))
  have JAP : Hid (Bo2 w.heap.size w8 (.slice p1 p.caps.length a1) (.slice p2 p.bods.length a2)) := HAP.out.keep (Keep.of_below hb8 (by omega))
  have JIw : Hid (BodsR w8 w3.heap.size w4.heap.size sw L) := HIw.out.keep (Keep.of_below hb8 (by omega))
  have JRx : Hid (PR w8 w4.heap.size w5.heap.size xx1 xx2 p) := HRx.out.keep (Keep.of_below hb8 (by omega))
  have JOx : Hid (GB w8 w4.heap.size w5.heap.size (.slice xx1 p.caps.length p.caps.length) (.slice xx2 p.bods.length p.bods.length) Lxx p) := HOx.out.keep (Keep.of_below hb8 (by omega))
  have JXx : Hid (Bo2 w5.heap.size w8 (.slice xx1 p.caps.length p.caps.length) (.slice xx2 p.bods.length p.bods.length)) := HXx.out.keep (Keep.of_below hb8 (by omega))
  have JIg : Hid (BodsR w8 V6.heap.size w7.heap.size sg L) := HIg.out.keep (Keep.of_below hb8 (by omega))
  have JGg : Hid (CB6 w8 V6.heap.size w7.heap.size (.slice sg L.length cg) xsg L) := HGg.out.keep (Keep.of_below hb8 (by omega))
  clear HK
  have HK := JK
  clear JK
  clear HAP
  have HAP := JAP
  clear JAP
  clear HIw
  have HIw := JIw
  clear JIw
  clear HRx
  have HRx := JRx
  clear JRx
  clear HOx
  have HOx := JOx
  clear JOx
  clear HXx
  have HXx := JXx
  clear JXx
  clear HIg
  have HIg := JIg
  clear JIg
  clear HGg
  have HGg := JGg
  clear JGg
  clear hb8
  obtain ⟨APc0, APc1⟩ := HAP.out
  have APz : w.heap.size < w8.heap.size := by omega
  obtain ⟨Xxc0, Xxc1⟩ := HXx.out
  have Xxz : w5.heap.size < w8.heap.size := by omega
  go_wp2_with fail
  go_region_held3 (fun w' => w'.cell? ⟨w5.heap.size, 0, none⟩ = some (.slice xx1 p.caps.length p.caps.length) ∧ w'.cell? ⟨w5.heap.size, 1, none⟩ = some (.slice xx2 p.bods.length p.bods.length) ∧ w'.cell? ⟨w.heap.size, 0, none⟩ = some (.slice p1 p.caps.length a1) ∧ w'.cell? ⟨w.heap.size, 1, none⟩ = some (.slice p2 p.bods.length a2)) (go_keep) (first | (go_at_call 6; refine (toProg_own p1 p2 a1 a2 0 w.heap.size p w8.drew (HP.out.keep' (Keep.of_below HK.out.drew (Nat.le_refl _))) (by show w.heap.size ≤ w8.heap.size; omega) FP.out).mono ?_; rintro e w9 ⟨f1, f2, Lf, rfl, ho9, hb9, hz9⟩; have kx : Below w8.heap.size w8 w9 := (Below.drew (Below.refl _ _)).trans hb9; have kz := kx.size; have XX := HXx.out.keep (Keep.of_below kx (by omega)); have AA := HAP.out.keep (Keep.of_below kx (by omega)); have t0 := XX.c0; have t1 := XX.c1; have t3 := AA.c0; have t4 := AA.c1) | (go_at_call 9; refine (eqProg_same xx1 xx2 f1 f2 _ _ _ _ w4.heap.size w5.heap.size w8.heap.size w9.heap.size p w9 (HRx.out.keep' (Keep.of_below kx (by omega))) ho9.prog (by omega) (Nat.le_refl _) FP.out).mono ?_; rintro e w10 ⟨rfl, hb10⟩; have ky : Below w8.heap.size w8 w10 := kx.trans (hb10.mono (by omega)); have XY := XX.keep (Keep.of_below hb10 (by omega)); have AY := AA.keep (Keep.of_below hb10 (by omega)); have u0 := XY.c0; have u1 := XY.c1; have u3 := AY.c0; have u4 := AY.c1))
  have z10 := ky.size
  clear t0 t1 t3 t4 u0 u1 u3 u4 XX AA XY AY hb9 hb10 ho9 hz9 kx kz
  clear APc0 APc1 APz
  clear Xxc0 Xxc1 Xxz
  have JK : Hid (Below w.heap.size w w10) := HK.out.trans (ky.mono (by omega))
  have JAP : Hid (Bo2 w.heap.size w10 (.slice p1 p.caps.length a1) (.slice p2 p.bods.length a2)) := HAP.out.keep (Keep.of_below ky (by omega))
  have JIw : Hid (BodsR w10 w3.heap.size w4.heap.size sw L) := HIw.out.keep (Keep.of_below ky (by omega))
  have JRx : Hid (PR w10 w4.heap.size w5.heap.size xx1 xx2 p) := HRx.out.keep (Keep.of_below ky (by omega))
  have JOx : Hid (GB w10 w4.heap.size w5.heap.size (.slice xx1 p.caps.length p.caps.length) (.slice xx2 p.bods.length p.bods.length) Lxx p) := HOx.out.keep (Keep.of_below ky (by omega))
  have JXx : Hid (Bo2 w5.heap.size w10 (.slice xx1 p.caps.length p.caps.length) (.slice xx2 p.bods.length p.bods.length)) := HXx.out.keep (Keep.of_below ky (by omega))
  have JIg : Hid (BodsR w10 V6.heap.size w7.heap.size sg L) := HIg.out.keep (Keep.of_below ky (by omega))
  have JGg : Hid (CB6 w10 V6.heap.size w7.heap.size (.slice sg L.length cg) xsg L) := HGg.out.keep (Keep.of_below ky (by omega))
  clear HK
  have HK := JK
  clear JK
  clear HAP
  have HAP := JAP
  clear JAP
  clear HIw
  have HIw := JIw
  clear JIw
  clear HRx
  have HRx := JRx
  clear JRx
  clear HOx
  have HOx := JOx
  clear JOx
  clear HXx
  have HXx := JXx
  clear JXx
  clear HIg
  have HIg := JIg
  clear JIg
  clear HGg
  have HGg := JGg
  clear JGg
  clear ky
  obtain ⟨APc0, APc1⟩ := HAP.out
  have APz : w.heap.size < w10.heap.size := by omega
  obtain ⟨Xxc0, Xxc1⟩ := HXx.out
  have Xxz : w5.heap.size < w10.heap.size := by omega
  go_wp2_with fail
  refine (markProg_exc 1 HOx.out FP.out (by omega) (by omega)).mono ?_
  rintro e w11 ⟨rk, rfl, rk0, rk1, ex11⟩
  have z11 := ex11.size
  have hmk : ¬ rk < 0 := by omega
  clear APc0 APc1 APz
  clear Xxc0 Xxc1 Xxz
  have JK : Hid (Below w.heap.size w w11) := HK.out.trans (ex11.below (by omega) (by omega))
  have JAP : Hid (Bo2 w.heap.size w11 (.slice p1 p.caps.length a1) (.slice p2 p.bods.length a2)) := HAP.out.keep (Keep.of_exc ex11 (by omega) (by omega))
  have JIw : Hid (BodsR w11 w3.heap.size w4.heap.size sw L) := HIw.out.keep (Keep.of_exc ex11 (by omega) (by omega))
  have JXx : Hid (Bo2 w5.heap.size w11 (.slice xx1 p.caps.length p.caps.length) (.slice xx2 p.bods.length p.bods.length)) := HXx.out.keep (Keep.of_exc ex11 (by omega) (by omega))
  have JIg : Hid (BodsR w11 V6.heap.size w7.heap.size sg L) := HIg.out.keep (Keep.of_exc ex11 (by omega) (by omega))
  have JGg : Hid (CB6 w11 V6.heap.size w7.heap.size (.slice sg L.length cg) xsg L) := HGg.out.keep (Keep.of_exc ex11 (by omega) (by omega))
  clear HK
  have HK := JK
  clear JK
  clear HAP
  have HAP := JAP
  clear JAP
  clear HIw
  have HIw := JIw
  clear JIw
  clear HRx
  clear HOx
  clear HXx
  have HXx := JXx
  clear JXx
  clear HIg
  have HIg := JIg
  clear JIg
  clear HGg
  have HGg := JGg
  clear JGg
  clear ex11
  obtain ⟨APc0, APc1⟩ := HAP.out
  have APz : w.heap.size < w11.heap.size := by omega
  obtain ⟨Xxc0, Xxc1⟩ := HXx.out
  have Xxz : w5.heap.size < w11.heap.size := by omega
  go_wp2_with fail
  refine (eqStepSS_same sg sw cg cw V6.heap.size w7.heap.size w3.heap.size w4.heap.size L w11 HIg.out HIw.out (by omega) (by omega) (by omega) (fun i hi => by have := HSM.out.l i hi; omega)).mono ?_
  rintro e w12 ⟨rfl, hb12⟩
  have z12 := hb12.size
  clear APc0 APc1 APz
  clear Xxc0 Xxc1 Xxz
  have JK : Hid (Below w.heap.size w w12) := HK.out.trans (hb12.mono (by omega))
  have JAP : Hid (Bo2 w.heap.size w12 (.slice p1 p.caps.length a1) (.slice p2 p.bods.length a2)) := HAP.out.keep (Keep.of_below hb12 (by omega))
  have JIw : Hid (BodsR w12 w3.heap.size w4.heap.size sw L) := HIw.out.keep (Keep.of_below hb12 (by omega))
  have JXx : Hid (Bo2 w5.heap.size w12 (.slice xx1 p.caps.length p.caps.length) (.slice xx2 p.bods.length p.bods.length)) := HXx.out.keep (Keep.of_below hb12 (by omega))
  have JIg : Hid (BodsR w12 V6.heap.size w7.heap.size sg L) := HIg.out.keep (Keep.of_below hb12 (by omega))
  have JGg : Hid (CB6 w12 V6.heap.size w7.heap.size (.slice sg L.length cg) xsg L) := HGg.out.keep (Keep.of_below hb12 (by omega))
  clear HK
  have HK := JK
  clear JK
  clear HAP
  have HAP := JAP
  clear JAP
  clear HIw
  have HIw := JIw
  clear JIw
  clear HXx
  have HXx := JXx
  clear JXx
  clear HIg
  have HIg := JIg
  clear JIg
  clear HGg
  have HGg := JGg
  clear JGg
  clear hb12
  obtain ⟨APc0, APc1⟩ := HAP.out
  have APz : w.heap.size < w12.heap.size := by omega
  obtain ⟨Xxc0, Xxc1⟩ := HXx.out
  have Xxz : w5.heap.size < w12.heap.size := by omega
  go_wp2_with fail
  refine (mark6_exc HGg.out HSM.out).mono ?_
  rintro e w13 ⟨rfl, hm13, ex13⟩
  rw [HMM.out]
  have z13 := ex13.size
  clear APc0 APc1 APz
  clear Xxc0 Xxc1 Xxz
  have JK : Hid (Below w.heap.size w w13) := HK.out.trans (ex13.below (by omega) (by omega))
  have JAP : Hid (Bo2 w.heap.size w13 (.slice p1 p.caps.length a1) (.slice p2 p.bods.length a2)) := HAP.out.keep (Keep.of_exc ex13 (by omega) (by omega))
  have JIw : Hid (BodsR w13 w3.heap.size w4.heap.size sw L) := HIw.out.keep (Keep.of_exc ex13 (by omega) (by omega))
  have JXx : Hid (Bo2 w5.heap.size w13 (.slice xx1 p.caps.length p.caps.length) (.slice xx2 p.bods.length p.bods.length)) := HXx.out.keep (Keep.of_exc ex13 (by omega) (by omega))
  clear HK
  have HK := JK
  clear JK
  clear HAP
  have HAP := JAP
  clear JAP
  clear HIw
  have HIw := JIw
  clear JIw
  clear HXx
  have HXx := JXx
  clear JXx
  clear HIg
  clear HGg
  have HD : Hid (MB6 w13 V6.heap.size w7.heap.size (.slice sg L.length cg) xsg L) := hm13
  clear ex13 hm13
  obtain ⟨APc0, APc1⟩ := HAP.out
  have APz : w.heap.size < w13.heap.size := by omega
  obtain ⟨Xxc0, Xxc1⟩ := HXx.out
  have Xxz : w5.heap.size < w13.heap.size := by omega
  go_wp2_with fail
  refine (held6_is HD.out HSM.out).mono ?_
  rintro e w14 ⟨rfl, hw14⟩
  rw [hw14, HMM.out]
  clear hw14 w14
  go_wp2_with fail
  refine (toProg_own p1 p2 a1 a2 0 w.heap.size p w13 (HP.out.keep' (Keep.of_below HK.out (Nat.le_refl _))) (by omega) FP.out).mono ?_
  rintro e w15 ⟨xh1, xh2, Lxh, rfl, ho15, hb15, z15⟩
  clear APc0 APc1 APz
  clear Xxc0 Xxc1 Xxz
  have JK : Hid (Below w.heap.size w w15) := HK.out.trans (hb15.mono (by omega))
  have JAP : Hid (Bo2 w.heap.size w15 (.slice p1 p.caps.length a1) (.slice p2 p.bods.length a2)) := HAP.out.keep (Keep.of_below hb15 (by omega))
  have JIw : Hid (BodsR w15 w3.heap.size w4.heap.size sw L) := HIw.out.keep (Keep.of_below hb15 (by omega))
  have JXx : Hid (Bo2 w5.heap.size w15 (.slice xx1 p.caps.length p.caps.length) (.slice xx2 p.bods.length p.bods.length)) := HXx.out.keep (Keep.of_below hb15 (by omega))
  have JD : Hid (MB6 w15 V6.heap.size w7.heap.size (.slice sg L.length cg) xsg L) := HD.out.keep (Keep.of_below hb15 (by omega))
  clear HK
  have HK := JK
  clear JK
  clear HAP
  have HAP := JAP
  clear JAP
  clear HIw
  have HIw := JIw
  clear JIw
  clear HXx
  have HXx := JXx
  clear JXx
  clear HD
  have HD := JD
  clear JD
  have HRh : Hid (PR w15 w13.heap.size w15.heap.size xh1 xh2 p) := ho15.prog
  clear hb15 ho15
  obtain ⟨APc0, APc1⟩ := HAP.out
  have APz : w.heap.size < w15.heap.size := by omega
  obtain ⟨Xxc0, Xxc1⟩ := HXx.out
  have Xxz : w5.heap.size < w15.heap.size := by omega
  go_wp2_with fail
  refine (implCompile_any xh1 xh2 _ _ _ _ p w15 HRh.out (by omega) FP.out).mono ?_
  rintro e w16 ⟨v16, rfl, ho16, hb16⟩
  rw [HL.out] at ho16 ⊢
  have z16 := hb16.size
  obtain ⟨sk, ck, e16, hi16⟩ := OwnB6.bods ho16
  subst e16
  clear APc0 APc1 APz
  clear Xxc0 Xxc1 Xxz
  have JK : Hid (Below w.heap.size w w16) := HK.out.trans (hb16.mono (by omega))
  have JAP : Hid (Bo2 w.heap.size w16 (.slice p1 p.caps.length a1) (.slice p2 p.bods.length a2)) := HAP.out.keep (Keep.of_below hb16 (by omega))
  have JIw : Hid (BodsR w16 w3.heap.size w4.heap.size sw L) := HIw.out.keep (Keep.of_below hb16 (by omega))
  have JXx : Hid (Bo2 w5.heap.size w16 (.slice xx1 p.caps.length p.caps.length) (.slice xx2 p.bods.length p.bods.length)) := HXx.out.keep (Keep.of_below hb16 (by omega))
  have JD : Hid (MB6 w16 V6.heap.size w7.heap.size (.slice sg L.length cg) xsg L) := HD.out.keep (Keep.of_below hb16 (by omega))
  have JRh : Hid (PR w16 w13.heap.size w15.heap.size xh1 xh2 p) := HRh.out.keep (Keep.of_below hb16 (by omega))
  clear HK
  have HK := JK
  clear JK
  clear HAP
  have HAP := JAP
  clear JAP
  clear HIw
  have HIw := JIw
  clear JIw
  clear HXx
  have HXx := JXx
  clear JXx
  clear HD
  have HD := JD
  clear JD
  clear HRh
  have HRh := JRh
  clear JRh
  have HIk : Hid (BodsR w16 w15.heap.size w16.heap.size sk L) := hi16
  clear hb16 ho16 hi16
  obtain ⟨APc0, APc1⟩ := HAP.out
  have APz : w.heap.size < w16.heap.size := by omega
  obtain ⟨Xxc0, Xxc1⟩ := HXx.out
  have Xxz : w5.heap.size < w16.heap.size := by omega
  go_wp2_with fail
  clear HRh
  refine (eqStepSS_same sk sw ck cw w15.heap.size w16.heap.size w3.heap.size w4.heap.size L w16 HIk.out HIw.out (by omega) (by omega) (by omega) (fun i hi => by have := HSM.out.l i hi; omega)).mono ?_
  rintro e w17 ⟨rfl, hb17⟩
  have z17 := hb17.size
  clear APc0 APc1 APz
  clear Xxc0 Xxc1 Xxz
  have JK : Hid (Below w.heap.size w w17) := HK.out.trans (hb17.mono (by omega))
  have JAP : Hid (Bo2 w.heap.size w17 (.slice p1 p.caps.length a1) (.slice p2 p.bods.length a2)) := HAP.out.keep (Keep.of_below hb17 (by omega))
  have JIw : Hid (BodsR w17 w3.heap.size w4.heap.size sw L) := HIw.out.keep (Keep.of_below hb17 (by omega))
  have JXx : Hid (Bo2 w5.heap.size w17 (.slice xx1 p.caps.length p.caps.length) (.slice xx2 p.bods.length p.bods.length)) := HXx.out.keep (Keep.of_below hb17 (by omega))
  have JD : Hid (MB6 w17 V6.heap.size w7.heap.size (.slice sg L.length cg) xsg L) := HD.out.keep (Keep.of_below hb17 (by omega))
  have JIk : Hid (BodsR w17 w15.heap.size w16.heap.size sk L) := HIk.out.keep (Keep.of_below hb17 (by omega))
  clear HK
  have HK := JK
  clear JK
  clear HAP
  have HAP := JAP
  clear JAP
  clear HIw
  have HIw := JIw
  clear JIw
  clear HXx
  have HXx := JXx
  clear JXx
  clear HD
  have HD := JD
  clear JD
  clear HIk
  have HIk := JIk
  clear JIk
  clear hb17
  obtain ⟨APc0, APc1⟩ := HAP.out
  have APz : w.heap.size < w17.heap.size := by omega
  obtain ⟨Xxc0, Xxc1⟩ := HXx.out
  have Xxz : w5.heap.size < w17.heap.size := by omega
  go_wp2_with fail
  refine (held6_is HD.out HSM.out).mono ?_
  rintro e w18 ⟨rfl, hw18⟩
  rw [hw18, HMM.out]
  clear hw18 w18
  go_wp2
  go_ret
  exact ⟨rfl, HK.out⟩

set_option maxRecDepth 100000 in
theorem liftedExactCompile (os : Os) (started : os.Started) (H : Type) (enc : TypeId × Value → H) :
    ReturnsInHanded {} Tryz.checked os 3 .any (Rows.fnExactCompileSpec.pre6 enc Tryz.prog Tryz.f3 Rows.fnExactCompileRow.domain false) (Rows.fnExactCompileSpec.post enc Tryz.prog Tryz.f3 false true false false) := by
  refine returnsInHanded_of_change (C := Tryz.checked) ownP started (by kernel_rfl) Tryz.func3
    (ChangeSpec.witness6 (enc := enc) (C := Tryz.checked) false ⟨#[], #[.agg #[.slice none 0 0, .slice none 0 0]], []⟩ 8 (by kernel_rfl) (by kernel_rfl) (by kernel_rfl) (by kernel_rfl)) ?_
  intro W base args ds gs before hval0 hW hcnd _
  have hval : ∀ (j : Nat) t v, Tryz.f3.params[j]? = some t → args[j]? = some v → Value.okWide Tryz.prog W .any base t v := hval0
  have hW' := hW
  obtain ⟨p, q, hA0, hV, rfl, hfz, hnd⟩ := hW
  have hA : DataW.TrodAll enc Tryz.prog W 0 (fun _ => true) true Tryz.f3.params.toList args.toList ds p := hA0
  rw [Tryz.params3] at hA hval
  obtain ⟨v0, d0, hargs, rfl, h0⟩ := trodAll_one hA
  obtain rfl : args = #[v0] := by cases args; simp_all
  obtain ⟨rfl, rfl⟩ := trodVars_none hV
  have k0 := h0
  have lt0 : ∀ x ∈ p, x.block < W.heap.size := by obtain ⟨m, hm⟩ := k0; exact DataW.trod_lt m _ _ _ hm
  obtain ⟨p1, p2, a1, a2, pd, rfl, m1, m2, m3, hP⟩ := open_prog (hval 0 25 v0 rfl rfl) h0
  clear hA0 hval0
  refine (walkCompile p1 p2 a1 a2 pd W hP m1 m2 m3).mono fun e W' ⟨he, bel⟩ => ?_
  subst he
  exact ⟨_, rfl, _, _, _, [], _, [], hW', trodAll_mk1 (shut_bool Tryz.underlying4 _), trodAll_mk1 (Below.trod laidOutP (by kernel_rfl) (of_decide_eq_true (by kernel_rfl)) k0 bel lt0), rfl, bel.frame _, fun h => by cases h⟩

theorem fnExactCompile_holds : Rows.FnExactCompileSaid :=
  OpenClaim.holds_of_wide 3 Tryz.f3 rfl rfl rfl rfl rfl rfl rfl ⟨rfl, rfl, rfl, rfl, rfl⟩ rfl rfl rfl rfl rfl (by kernel_rfl) Tryz.func3 (by kernel_rfl)
    (of_decide_eq_true (by kernel_rfl)) (by unfold Func.isWrapper; first | (rw [if_pos (by decide +kernel)]; kernel_rfl) | (rw [if_neg (by decide +kernel)]; exact ⟨rfl, rfl⟩))
    (fun os started H enc _ => liftedExactCompile os started H enc)
#print axioms fnExactCompile_holds

end Go.Proofs.YthkpkdehicoikaaGreat
