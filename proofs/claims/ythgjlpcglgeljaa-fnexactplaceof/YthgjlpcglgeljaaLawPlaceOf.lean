/- The law FnExactPlaceOf of the given statements: at every argument PlaceOf of the program answers as the specification's, and writes into no argument. No condition. -/
import Derived.Test.YthgjlpcglgeljaaFrameP
import Derived.Test.YthgjlpcglgeljaaSzProg
import Derived.Test.YthgjlpcglgeljaaP11SpP
import Derived.Test.YthgjlpcglgeljaaProgOk2
import Derived.Deep.RegionHeld3
namespace Go.Proofs.Ythgjlpcglgeljaa
set_option linter.unusedSimpArgs false
set_option linter.unusedVariables false
set_option maxRecDepth 100000
open Go.ChangeShapes Go.WideShapes Go.ChangeAt Go.RowKit Go.Deep

def PR (w : World) (lo hi : Nat) (s s' : Option Addr) (p : PD) : Prop := ProgR w lo hi s s' p
theorem PR.keep {w w' : World} {lo hi : Nat} {s s' : Option Addr} {p : PD} (h : PR w lo hi s s' p) (hb : Keep lo hi w w') : PR w' lo hi s s' p := ProgR.keep' h hb
theorem PR.keep' {w w' : World} {lo hi : Nat} {s s' : Option Addr} {p : PD} (h : PR w lo hi s s' p) (hb : Keep lo hi w w') : ProgR w' lo hi s s' p := ProgR.keep' h hb

set_option maxRecDepth 100000 in
set_option maxHeartbeats 8000000 in
theorem walkPlaceOf (p1 p2 : Option Addr) (a1 a2 : Nat) (p : PD) (b q : Int) (w : World) (h : ProgR w 0 w.heap.size p1 p2 p) (m1 : p.caps.length ≤ maxLen) (m2 : p.bods.length ≤ maxLen) (m3 : ∀ i, i < p.bods.length → (p.bods.getD i []).length ≤ maxLen) :
    Calls Try.prog 3 #[.agg #[.slice p1 p.caps.length a1, .slice p2 p.bods.length a2], .int .i64 b, .int .i64 q] w fun e w' => e = .returned (.bool true) ∧ Below w.heap.size w w' := by
  have HP : Hid (ProgR w 0 w.heap.size p1 p2 p) := h
  have M3 : Hid (∀ i, i < p.bods.length → (p.bods.getD i []).length ≤ maxLen) := m3
  clear h m3
  obtain ⟨pa, pb, hpv⟩ : ∃ pa pb, placeV (bodV p b) q = (pa, pb) := ⟨_, _, rfl⟩
  have HPV := hidP hpv
  clear hpv
  have hpa : (pa != pa) = false := by simp
  have hpb : (pb != pb) = false := by simp
  go_enter Try.func3, Try.ntmps3
  go_wp2_with fail
  have HK : Hid (Below w.heap.size w w) := Below.refl _ _
  obtain ⟨V1, hV1, bx1, kb1, zb1⟩ := Bo2.new w (.slice p1 p.caps.length a1) (.slice p2 p.bods.length a2) 25
  rw [hV1]
  clear hV1
  have JK : Hid (Below w.heap.size w V1) := HK.out.trans (kb1.mono (by omega))
  clear HK
  have HK := JK
  clear JK
  have HAP : Hid (Bo2 w.heap.size V1 (.slice p1 p.caps.length a1) (.slice p2 p.bods.length a2)) := bx1
  clear bx1 kb1
  refine (szProg_le p1 p2 a1 a2 0 w.heap.size p V1 (HP.out.keep' (Keep.of_below HK.out (Nat.le_refl _))) (by omega) m1 m2 M3.out).mono ?_
  rintro e w2 ⟨⟨u, rfl, hu⟩, hb2⟩
  have z2 := hb2.size
  have JK : Hid (Below w.heap.size w w2) := HK.out.trans (hb2.mono (by omega))
  have JAP : Hid (Bo2 w.heap.size w2 (.slice p1 p.caps.length a1) (.slice p2 p.bods.length a2)) := HAP.out.keep (Keep.of_below hb2 (by omega))
  clear HK
  have HK := JK
  clear JK
  clear HAP
  have HAP := JAP
  clear JAP
  clear hb2
  obtain ⟨APc0, APc1⟩ := HAP.out
  have APz : w.heap.size < w2.heap.size := by omega
  rcases hu with hu | ⟨hu, hu2, hf⟩
  · go_wp2
    go_ret
    exact ⟨rfl, HK.out⟩
  have hun : ¬ u < 0 := by omega
  have FP : Hid (Fits p) := hf
  clear hf
  go_wp2_with fail
  refine (toProg_new p1 p2 a1 a2 0 w.heap.size p w2 (HP.out.keep' (Keep.of_below HK.out (Nat.le_refl _))) (by omega) FP.out).mono ?_
  rintro e w3 ⟨xa1, xa2, rfl, hb3, z3, ho3⟩
  clear APc0 APc1 APz
  have JK : Hid (Below w.heap.size w w3) := HK.out.trans (hb3.mono (by omega))
  have JAP : Hid (Bo2 w.heap.size w3 (.slice p1 p.caps.length a1) (.slice p2 p.bods.length a2)) := HAP.out.keep (Keep.of_below hb3 (by omega))
  clear HK
  have HK := JK
  clear JK
  clear HAP
  have HAP := JAP
  clear JAP
  have HRa : Hid (PR w3 w2.heap.size w3.heap.size xa1 xa2 p) := ho3
  clear hb3 ho3
  obtain ⟨APc0, APc1⟩ := HAP.out
  have APz : w.heap.size < w3.heap.size := by omega
  go_wp2_with fail
  refine (specPlace_any xa1 xa2 _ _ _ _ p b q w3 HRa.out (by omega) FP.out).mono ?_
  rintro e w4 ⟨rfl, hb4⟩
  have z4 := hb4.size
  clear APc0 APc1 APz
  have JK : Hid (Below w.heap.size w w4) := HK.out.trans (hb4.mono (by omega))
  have JAP : Hid (Bo2 w.heap.size w4 (.slice p1 p.caps.length a1) (.slice p2 p.bods.length a2)) := HAP.out.keep (Keep.of_below hb4 (by omega))
  have JRa : Hid (PR w4 w2.heap.size w3.heap.size xa1 xa2 p) := HRa.out.keep (Keep.of_below hb4 (by omega))
  clear HK
  have HK := JK
  clear JK
  clear HAP
  have HAP := JAP
  clear JAP
  clear HRa
  have HRa := JRa
  clear JRa
  clear hb4
  obtain ⟨APc0, APc1⟩ := HAP.out
  have APz : w.heap.size < w4.heap.size := by omega
  rw [HPV.out]
  go_wp2_with fail
  clear HRa
  refine (toProg_new p1 p2 a1 a2 0 w.heap.size p w4 (HP.out.keep' (Keep.of_below HK.out (Nat.le_refl _))) (by omega) FP.out).mono ?_
  rintro e w5 ⟨xx1, xx2, rfl, hb5, z5, ho5⟩
  clear APc0 APc1 APz
  have JK : Hid (Below w.heap.size w w5) := HK.out.trans (hb5.mono (by omega))
  have JAP : Hid (Bo2 w.heap.size w5 (.slice p1 p.caps.length a1) (.slice p2 p.bods.length a2)) := HAP.out.keep (Keep.of_below hb5 (by omega))
  clear HK
  have HK := JK
  clear JK
  clear HAP
  have HAP := JAP
  clear JAP
  have HRx : Hid (PR w5 w4.heap.size w5.heap.size xx1 xx2 p) := ho5
  clear hb5 ho5
  obtain ⟨APc0, APc1⟩ := HAP.out
  have APz : w.heap.size < w5.heap.size := by omega
  go_wp2_with fail
  obtain ⟨V6, hV6, bx6, kb6, zb6⟩ := Bo2.new w5 (.slice xx1 p.caps.length p.caps.length) (.slice xx2 p.bods.length p.bods.length) 31
  rw [hV6]
  clear hV6
  clear APc0 APc1 APz
  have JK : Hid (Below w.heap.size w V6) := HK.out.trans (kb6.mono (by omega))
  have JAP : Hid (Bo2 w.heap.size V6 (.slice p1 p.caps.length a1) (.slice p2 p.bods.length a2)) := HAP.out.keep (Keep.of_below kb6 (by omega))
  have JRx : Hid (PR V6 w4.heap.size w5.heap.size xx1 xx2 p) := HRx.out.keep (Keep.of_below kb6 (by omega))
  clear HK
  have HK := JK
  clear JK
  clear HAP
  have HAP := JAP
  clear JAP
  clear HRx
  have HRx := JRx
  clear JRx
  have HXx : Hid (Bo2 w5.heap.size V6 (.slice xx1 p.caps.length p.caps.length) (.slice xx2 p.bods.length p.bods.length)) := bx6
  clear bx6 kb6
  obtain ⟨APc0, APc1⟩ := HAP.out
  have APz : w.heap.size < V6.heap.size := by omega
  obtain ⟨Xxc0, Xxc1⟩ := HXx.out
  have Xxz : w5.heap.size < V6.heap.size := by omega
  refine (implPlace_any xx1 xx2 _ _ _ _ p b q V6 HRx.out (by omega) FP.out).mono ?_
  rintro e w7 ⟨rfl, hb7⟩
  have z7 := hb7.size
  clear APc0 APc1 APz
  clear Xxc0 Xxc1 Xxz
  have JK : Hid (Below w.heap.size w w7) := HK.out.trans (hb7.mono (by omega))
  have JAP : Hid (Bo2 w.heap.size w7 (.slice p1 p.caps.length a1) (.slice p2 p.bods.length a2)) := HAP.out.keep (Keep.of_below hb7 (by omega))
  have JRx : Hid (PR w7 w4.heap.size w5.heap.size xx1 xx2 p) := HRx.out.keep (Keep.of_below hb7 (by omega))
  have JXx : Hid (Bo2 w5.heap.size w7 (.slice xx1 p.caps.length p.caps.length) (.slice xx2 p.bods.length p.bods.length)) := HXx.out.keep (Keep.of_below hb7 (by omega))
  clear HK
  have HK := JK
  clear JK
  clear HAP
  have HAP := JAP
  clear JAP
  clear HRx
  have HRx := JRx
  clear JRx
  clear HXx
  have HXx := JXx
  clear JXx
  clear hb7
  obtain ⟨APc0, APc1⟩ := HAP.out
  have APz : w.heap.size < w7.heap.size := by omega
  obtain ⟨Xxc0, Xxc1⟩ := HXx.out
  have Xxz : w5.heap.size < w7.heap.size := by omega
  rw [HPV.out]
  go_wp2_with fail
  go_region_held3 (fun w' => w'.cell? ⟨w5.heap.size, 0, none⟩ = some (.slice xx1 p.caps.length p.caps.length) ∧ w'.cell? ⟨w5.heap.size, 1, none⟩ = some (.slice xx2 p.bods.length p.bods.length) ∧ w'.cell? ⟨w.heap.size, 0, none⟩ = some (.slice p1 p.caps.length a1) ∧ w'.cell? ⟨w.heap.size, 1, none⟩ = some (.slice p2 p.bods.length a2)) (go_keep) (first | (go_at_call 6; refine (toProg_new p1 p2 a1 a2 0 w.heap.size p w7.drew (HP.out.keep' (Keep.of_below HK.out.drew (Nat.le_refl _))) (by show w.heap.size ≤ w7.heap.size; omega) FP.out).mono ?_; rintro e w8 ⟨f1, f2, rfl, hb8, hz8, ho8⟩; have kx : Below w7.heap.size w7 w8 := (Below.drew (Below.refl _ _)).trans hb8; have kz := kx.size; have XX := HXx.out.keep (Keep.of_below kx (by omega)); have AA := HAP.out.keep (Keep.of_below kx (by omega)); have t0 := XX.c0; have t1 := XX.c1; have t3 := AA.c0; have t4 := AA.c1) | (go_at_call 8; refine (eqProg_same xx1 xx2 f1 f2 _ _ _ _ w4.heap.size w5.heap.size w7.heap.size w8.heap.size p w8 (HRx.out.keep' (Keep.of_below kx (by omega))) ho8 (by omega) (Nat.le_refl _) FP.out).mono ?_; rintro e w9 ⟨rfl, hb9⟩; have ky : Below w7.heap.size w7 w9 := kx.trans (hb9.mono (by omega)); have XY := HXx.out.keep (Keep.of_below ky (by omega)); have AY := HAP.out.keep (Keep.of_below ky (by omega)); have u0 := XY.c0; have u1 := XY.c1; have u3 := AY.c0; have u4 := AY.c1))
  have z9 := ky.size
  clear t0 t1 t3 t4 u0 u1 u3 u4 XX AA XY AY hb8 hb9 ho8 hz8 kx kz
  clear APc0 APc1 APz
  clear Xxc0 Xxc1 Xxz
  have JK : Hid (Below w.heap.size w w9) := HK.out.trans (ky.mono (by omega))
  have JAP : Hid (Bo2 w.heap.size w9 (.slice p1 p.caps.length a1) (.slice p2 p.bods.length a2)) := HAP.out.keep (Keep.of_below ky (by omega))
  have JRx : Hid (PR w9 w4.heap.size w5.heap.size xx1 xx2 p) := HRx.out.keep (Keep.of_below ky (by omega))
  have JXx : Hid (Bo2 w5.heap.size w9 (.slice xx1 p.caps.length p.caps.length) (.slice xx2 p.bods.length p.bods.length)) := HXx.out.keep (Keep.of_below ky (by omega))
  clear HK
  have HK := JK
  clear JK
  clear HAP
  have HAP := JAP
  clear JAP
  clear HRx
  have HRx := JRx
  clear JRx
  clear HXx
  have HXx := JXx
  clear JXx
  clear ky
  obtain ⟨APc0, APc1⟩ := HAP.out
  have APz : w.heap.size < w9.heap.size := by omega
  obtain ⟨Xxc0, Xxc1⟩ := HXx.out
  have Xxz : w5.heap.size < w9.heap.size := by omega
  go_wp2
  go_ret
  exact ⟨rfl, HK.out⟩

set_option maxRecDepth 100000 in
theorem liftedExactPlaceOf (os : Os) (started : os.Started) (H : Type) (enc : TypeId × Value → H) :
    ReturnsInHanded {} Try.checked os 3 .any (Rows.fnExactPlaceOfSpec.pre6 enc Try.prog Try.f3 Rows.fnExactPlaceOfRow.domain false) (Rows.fnExactPlaceOfSpec.post enc Try.prog Try.f3 false true false false) := by
  refine returnsInHanded_of_change (C := Try.checked) ownP started (by kernel_rfl) Try.func3
    (ChangeSpec.witness6 (enc := enc) (C := Try.checked) false ⟨#[], #[.agg #[.slice none 0 0, .slice none 0 0], .int .i64 0, .int .i64 0], []⟩ 8 (by kernel_rfl) (by kernel_rfl) (by kernel_rfl) (by kernel_rfl)) ?_
  intro W base args ds gs before hval0 hW hcnd _
  have hval : ∀ (j : Nat) t v, Try.f3.params[j]? = some t → args[j]? = some v → Value.okWide Try.prog W .any base t v := hval0
  have hW' := hW
  obtain ⟨p, q, hA0, hV, rfl, hfz, hnd⟩ := hW
  have hA : DataW.TrodAll enc Try.prog W 0 (fun _ => true) true Try.f3.params.toList args.toList ds p := hA0
  rw [Try.params3] at hA hval
  obtain ⟨v0, v1, v2, d0, d1, d2, p0, p1, p2, hargs, rfl, rfl, h0, h1, h2⟩ := trodAll_three hA
  obtain rfl : args = #[v0, v1, v2] := by cases args; simp_all
  obtain ⟨rfl, rfl⟩ := trodVars_none hV
  have k0 := h0
  have lt0 : ∀ x ∈ p0, x.block < W.heap.size := by obtain ⟨m, hm⟩ := k0; exact DataW.trod_lt m _ _ _ hm
  have k1 := h1
  have lt1 : ∀ x ∈ p1, x.block < W.heap.size := by obtain ⟨m, hm⟩ := k1; exact DataW.trod_lt m _ _ _ hm
  have k2 := h2
  have lt2 : ∀ x ∈ p2, x.block < W.heap.size := by obtain ⟨m, hm⟩ := k2; exact DataW.trod_lt m _ _ _ hm
  obtain ⟨p1, p2, a1, a2, pd, rfl, m1, m2, m3, hP⟩ := open_prog (hval 0 25 v0 rfl rfl) h0
  obtain ⟨n1, rfl, hwf1⟩ := open_int Try.underlying3 (hval 1 3 v1 rfl rfl) h1
  obtain ⟨n2, rfl, hwf2⟩ := open_int Try.underlying3 (hval 2 3 v2 rfl rfl) h2
  clear hA0 hval0
  refine (walkPlaceOf p1 p2 a1 a2 pd n1 n2 W hP m1 m2 m3).mono fun e W' ⟨he, bel⟩ => ?_
  subst he
  exact ⟨_, rfl, _, _, _, [], _, [], hW', trodAll_mk1 (shut_bool Try.underlying4 _), trodAll_mk3 (Below.trod laidOutP (by kernel_rfl) (of_decide_eq_true (by kernel_rfl)) k0 bel lt0) (Below.trod laidOutP (by kernel_rfl) (of_decide_eq_true (by kernel_rfl)) k1 bel lt1) (Below.trod laidOutP (by kernel_rfl) (of_decide_eq_true (by kernel_rfl)) k2 bel lt2), rfl, bel.frame _, fun h => by cases h⟩

theorem fnExactPlaceOf_holds : Rows.FnExactPlaceOfSaid :=
  OpenClaim.holds_of_wide 3 Try.f3 rfl rfl rfl rfl rfl rfl rfl ⟨rfl, rfl, rfl, rfl, rfl⟩ rfl rfl rfl rfl rfl (by kernel_rfl) Try.func3 (by kernel_rfl)
    (of_decide_eq_true (by kernel_rfl)) (by unfold Func.isWrapper; first | (rw [if_pos (by decide +kernel)]; kernel_rfl) | (rw [if_neg (by decide +kernel)]; exact ⟨rfl, rfl⟩))
    (fun os started H enc _ => liftedExactPlaceOf os started H enc)
#print axioms fnExactPlaceOf_holds

end Go.Proofs.Ythgjlpcglgeljaa
