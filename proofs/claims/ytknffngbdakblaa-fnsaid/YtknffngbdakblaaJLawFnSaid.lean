/- The law FnSaid of the given statements: what all threads of a drawn source printed, each by itself, is together as much as the trace, each in order. No condition. -/
import Derived.Test.YtknffngbdakblaaRows
import Derived.Test.YtknffngbdakblaaJG17
import Derived.Test.YtknffngbdakblaaJSaidFns
import Derived.Test.YtknffngbdakblaaJSameInts
import Derived.ProofKit
import Derived.OpenShut
import Derived.ShutString
import Derived.ChangeOld
import Derived.ChangeSlices
namespace Go.Proofs.Ytknffngbdakblaa
set_option linter.unusedSimpArgs false
set_option linter.unusedVariables false
set_option maxRecDepth 100000
open Go.ChangeShapes Go.WideShapes Go.ChangeAt Go.RowKit
theorem said_app (who : Int) (a b : List ND) : said who (a ++ b) = said who a ++ said who b := by
 unfold said
 rw [List.filter_append, List.map_append]
theorem said_at {who : Int} {l : List ND} {i : Nat} {t : ND} (h : l[i]? = some t) (e : t.who = who) : (said who l)[(said who (l.take i)).length]? = some t.v := by
 have hi : i < l.length := (List.getElem?_eq_some_iff.1 h).1
 have e0 : l = l.take (i + 1) ++ l.drop (i + 1) := (List.take_append_drop _ _).symm
 have e1 : said who l = said who (l.take i) ++ [t.v] ++ said who (l.drop (i + 1)) := by
  have := said_app who (l.take (i + 1)) (l.drop (i + 1))
  rw [← e0] at this
  rw [this, said_yes h e]
 rw [e1, List.append_assoc, List.getElem?_append_right (Nat.le_refl _)]
 simp
/- how much the first k print -/
def cntS (l : List ND) : Nat → Nat
 | 0 => 0
 | k + 1 => cntS l k + (said (k : Int) l).length
theorem cntS_nil : ∀ k, cntS [] k = 0
 | 0 => rfl
 | k + 1 => by unfold cntS; rw [cntS_nil k]; rfl
theorem cntS_cons (x : ND) (l : List ND) : ∀ k : Nat, cntS (x :: l) k = cntS l k + (if 0 ≤ x.who ∧ x.who < (k : Int) then 1 else 0)
 | 0 => by
  unfold cntS
  rw [if_neg (by omega)]
 | k + 1 => by
  unfold cntS
  rw [cntS_cons x l k]
  have e : said (k : Int) (x :: l) = (if x.who = (k : Int) then x.v :: said (k : Int) l else said (k : Int) l) := by
   unfold said
   rw [List.filter_cons]
   by_cases h : x.who = (k : Int)
   ·rw [if_pos h, if_pos (by simp [h])]; rfl
   ·rw [if_neg h, if_neg (by simp [h])]
  rw [e]
  by_cases h : x.who = (k : Int)
  ·rw [if_pos h, if_neg (by omega), if_pos (by omega), List.length_cons]; omega
  ·rw [if_neg h]
   by_cases h2 : 0 ≤ x.who ∧ x.who < (k : Int)
   ·rw [if_pos h2, if_pos (by omega)]; omega
   ·rw [if_neg h2, if_neg (by omega)]; omega
theorem cntS_le : ∀ (l : List ND) (k : Nat), cntS l k ≤ l.length
 | [], k => by rw [cntS_nil]; exact Nat.le_refl _
 | x :: l, k => by
  rw [cntS_cons, List.length_cons]
  have := cntS_le l k
  split <;> omega
theorem cntS_all : ∀ (l : List ND), (∀ (i : Nat) (t : ND), l[i]? = some t → 0 ≤ t.who ∧ t.who ≤ 15) → cntS l 16 = l.length
 | [], _ => rfl
 | x :: l, h => by
  rw [cntS_cons, List.length_cons, cntS_all l (fun i t ht => h (i + 1) t (by simpa using ht)), if_pos]
  have := h 0 x rfl
  omega
theorem ownInts {w : World} {b cu : Nat} {su : Option Addr} {l : List Int} (h : OwnN w b (.slice su l.length cu) l) : Ints w su l := by
 obtain ⟨s9, c9, e9, r9⟩ := OwnN.row h
 cases e9
 rcases r9 with h | ⟨g, o, hs, hg, hc⟩
 ·exact .inl h
 ·exact .inr ⟨g, o, hs, hg, hc⟩
theorem Ints.keepB {w w' : World} {B : Nat} {s : Option Addr} {l : List Int} (h : Ints w s l) (hb : Below B w w') (hB : w.heap.size ≤ B) : Ints w' s l := by
 rcases h with h | ⟨g, o, hs, hg, hc⟩
 ·exact .inl h
 ·exact .inr ⟨g, o, hs, by have := hb.size; omega, fun i hi => (hb.cell (p := ⟨g, o + i, none⟩) (by show g < B; omega)).trans (hc i hi)⟩
set_option maxRecDepth 100000 in
set_option maxHeartbeats 8000000 in
theorem walkFnSaid (s : Option Addr) (n c : Nat) (w : World) (hb : Bytes w w.heap.size s n) (hn : n ≤ maxLen) :
  Calls Try.prog 3 #[.slice s n c] w fun e w' => e = .returned (.bool true) ∧ Below w.heap.size w w' := by
 by_cases hbig : 1048576 < n
 ·clear hb
  go_enter Try.func3, Try.ntmps3
  go_wp2_with fail
  refine (big_any s n c w).mono ?_
  rintro e w1 ⟨rfl, hw⟩
  have hw' := hw.symm
  clear hw
  subst hw'
  rw [decide_eq_true hbig]
  go_wp2
  go_ret
  exact ⟨rfl, Below.refl _ _⟩
 have HB := hidR hb
 have HN := hidR hn
 have BG := hidR hbig
 clear hb hn hbig
 go_enter Try.func3, Try.ntmps3
 go_wp2_with fail
 refine (big_any s n c w).mono ?_
 rintro e w1 ⟨rfl, hw⟩
 have hw' := hw.symm
 clear hw
 subst hw'
 rw [decide_eq_false BG.out]
 go_wp2_with fail
 refine (drawSaid_any s n c w HB.out HN.out).mono ?_
 rintro e w1 ⟨x1, x2, x3, who, rfl, h0, h5, hs, hb1⟩
 obtain ⟨hi, s1, s2, s3, c1, c2, c3, D, rfl, rfl, rfl, hr, hf, hnt, hB⟩ := hs
 obtain ⟨A, hA, rA, kA, sA⟩ := BoF.new w1 (.slice s1 D.ths.length c1) (.slice s2 D.chs.length c2) (.slice s3 D.tr.length c3) 28
 have HA := hidR hA
 have z1 := hb1.size
 have T1 := hidR (hr.2.2.keep (Keep.of_below kA (by omega)))
 have K1 := hidR (hb1.trans (kA.mono (by omega)))
 have B1 := hidR rA
 have NT := hidR hnt
 have LN := hidR hf.2.2
 have hln := hf.2.2
 clear hb1 hr hf hnt hA kA rA HB HN BG
 go_wp2_with fail
 rw [HA.out]
 clear HA
 have hsb : w1.heap.size < A.heap.size := by omega
 clear sA
 generalize w1.heap.size = sb at B1 hsb hB z1 ⊢
 obtain ⟨m0, m1, m2, mf, mz⟩ := B1.out
 refine (implSaid_any _ _ s3 c3 w.heap.size hi D.tr who A T1.out (by omega) LN.out).mono ?_
 rintro e w2 ⟨v, rfl, ho2, hb2⟩
 obtain ⟨su, cu, rfl⟩ := ownSl ho2
 have z2 := hb2.size
 have O2 := hidR (ownInts ho2)
 have T2 := hidR (T1.out.keep (Keep.of_below hb2 (by omega)))
 have K2 := hidR (K1.out.trans (hb2.mono (by omega)))
 have B2 := hidR (B1.out.below hb2 mz)
 clear ho2 hb2 T1 K1 B1 m0 m1 m2 mf
 obtain ⟨m0, m1, m2, mf, mz2⟩ := B2.out
 go_wp2_with fail
 refine (specSaid_any _ _ s3 c3 w.heap.size hi D.tr who w2 T2.out (by omega) LN.out).mono ?_
 rintro e w3 ⟨v, rfl, ho3, hb3⟩
 obtain ⟨sv, cv, rfl⟩ := ownSl ho3
 have z3 := hb3.size
 have O3 := hidR (ownInts ho3)
 have P3 := hidR (O2.out.keepB hb3 (Nat.le_refl _))
 have T3 := hidR (T2.out.keep (Keep.of_below hb3 (by omega)))
 have K3 := hidR (K2.out.trans (hb3.mono (by omega)))
 have B3 := hidR (B2.out.below hb3 mz2)
 clear ho3 hb3 T2 K2 B2 O2 m0 m1 m2 mf
 have hsl := said_len who D.tr
 go_wp2_with fail
 refine (sameInts_any su sv (said who D.tr) (said who D.tr) cu cv w3 P3.out O3.out (by omega)).mono ?_
 rintro e w4 ⟨rfl, m, rfl⟩
 rw [decide_eq_true (rfl : said who D.tr = said who D.tr)]
 have k4 : Below w3.heap.size w3 (w3.drewN m) := ⟨rfl, rfl, rfl, Nat.le_refl _, fun _ _ => rfl⟩
 obtain ⟨W, hW⟩ : ∃ W, w3.drewN m = W := ⟨_, rfl⟩
 rw [hW] at k4 ⊢
 clear hW
 have z4 := k4.size
 have P4 := hidR (P3.out.keepB k4 (Nat.le_refl _))
 have T4 := hidR (T3.out.keep (Keep.of_below k4 (by omega)))
 have K4 := hidR (K3.out.trans (k4.mono (by omega)))
 have B4 := hidR (B3.out.below k4 B3.out.z)
 clear k4 O3 P3 T3 K3 B3
 go_wp2
 go_loopw [6, 7] (fun u i wr => ∃ k : Nat, k ≤ 16 ∧ i = .int .i64 k ∧ u = .int .i64 (cntS D.tr k : Nat) ∧ Below W.heap.size W wr) (fun _ i _ => 16 - (intOf i).toNat)
 case atStart => exact ⟨0, Nat.zero_le _, rfl, rfl, Below.refl _ _⟩
 case round =>
  obtain ⟨k, hk, rfl, rfl, hkb⟩ := hrel
  have zr := hkb.size
  have B5 := hidR (B4.out.below hkb B4.out.z)
  have T5 := hidR (T4.out.keep (Keep.of_below hkb (by omega)))
  have KB := hidR hkb
  have hle := cntS_le D.tr k
  have hle2 := cntS_le D.tr (k + 1)
  have hsk := said_len (k : Int) D.tr
  obtain ⟨m0, m1, m2, mf, mz5⟩ := B5.out
  clear hkb
  by_cases hlt : k < 16
  ·have b1 : (k : Int) < 16 := by omega
   go_wp2_with fail
   refine (implSaid_any _ _ s3 c3 w.heap.size hi D.tr (k : Int) wr T5.out (by omega) LN.out).mono ?_
   rintro e w6 ⟨v, rfl, ho6, hb6⟩
   obtain ⟨sy, cy, rfl⟩ := ownSl ho6
   have K6 := hidR (KB.out.trans (hb6.mono zr))
   clear ho6 hb6 B5 T5 KB m0 m1 m2 mf
   have hn1 : cntS D.tr (k + 1) = cntS D.tr k + (said (k : Int) D.tr).length := rfl
   have hwr : IntKind.i64.wrap ((cntS D.tr k : Int) + ((said (k : Int) D.tr).length : Int)) = ((cntS D.tr (k + 1) : Nat) : Int) := by
    rw [IntWalk.i64_in _ ⟨by omega, by omega⟩, hn1]
    omega
   go_wp2
   go_roundw
   case rel => exact ⟨k + 1, by omega, by go_num, by first | rfl | (rw [hn1]; go_num), K6.out⟩
   case measure => simp [intOf]; omega
  ·have e16 : k = 16 := by omega
   subst e16
   obtain ⟨wy, hwy⟩ : ∃ wy, wy = wr := ⟨_, rfl⟩
   subst hwy
   clear m0 m1 m2 mf B5 T5
   have B5 := hidR (B4.out.below KB.out B4.out.z)
   have T5 := hidR (T4.out.keep (Keep.of_below KB.out (by omega)))
   have P5 := hidR (P4.out.keepB KB.out (Nat.le_refl _))
   have K5 := hidR (K4.out.trans (KB.out.mono (by omega)))
   have hall := cntS_all D.tr NT.out
   clear KB B4 T4 P4 K4 hle hle2 hsk
   go_wp2
   go_loopw [8, 9] (fun u i wr => ∃ k : Nat, k ≤ D.tr.length ∧ i = .int .i64 k ∧ u = .int .i64 ((said who (D.tr.take k)).length : Nat) ∧ Below wy.heap.size wy wr) (fun _ i _ => D.tr.length - (intOf i).toNat)
   case atStart => exact ⟨0, Nat.zero_le _, rfl, rfl, Below.refl _ _⟩
   case round =>
    obtain ⟨k, hk, rfl, rfl, hkb⟩ := hrel
    have zx := hkb.size
    have B6 := hidR (B5.out.below hkb B5.out.z)
    have T6 := hidR (T5.out.keep (Keep.of_below hkb (by omega)))
    have P6 := hidR (P5.out.keepB hkb (Nat.le_refl _))
    have KB := hidR hkb
    obtain ⟨m0, m1, m2, mf, mz6⟩ := B6.out
    clear hkb
    by_cases hlt : k < D.tr.length
    ·obtain ⟨t, ht⟩ : ∃ t, D.tr[k]? = some t := ⟨_, List.getElem?_eq_getElem hlt⟩
     obtain ⟨g, off, hs3, hg, hc⟩ : ∃ g off, s3 = some ⟨g, off, none⟩ ∧ g < wr.heap.size ∧ NtR wr g (off + k * 2) t := by
      rcases T6.out with h | ⟨g, off, a, b, d, e⟩
      ·rw [h] at hlt; simp at hlt
      ·exact ⟨g, off, a, by omega, e k t ht⟩
     subst hs3
     have f0 := hc.1
     have f1 := hc.2
     have HT := hidR ht
     have b0 : (0 : Int) ≤ (k : Int) := by omega
     have b1 : (k : Int) < (D.tr.length : Int) := by omega
     clear ht hc
     by_cases he : t.who = who
     ·have hat := said_at HT.out he
      have HY := hidR (said_yes HT.out he)
      have hlt2 : (said who (D.tr.take k)).length < (said who D.tr).length := (List.getElem?_eq_some_iff.1 hat).1
      obtain ⟨gu, ou, hsu, hgu, hcu⟩ : ∃ gu ou, su = some ⟨gu, ou, none⟩ ∧ gu < wr.heap.size ∧ wr.cell? ⟨gu, ou + (said who (D.tr.take k)).length, none⟩ = some (.int .i64 t.v) := by
       rcases P6.out with h | ⟨g, o, hs, hg, hc⟩
       ·rw [h] at hlt2; simp at hlt2
       ·refine ⟨g, o, hs, hg, ?_⟩
        rw [hc _ hlt2, List.getD_eq_getElem?_getD, hat]
        rfl
      subst hsu
      generalize hq : (said who (D.tr.take k)).length = q at hlt2 hcu ⊢
      have HQ := hidR hq
      clear hq hat
      have d0 : (0 : Int) ≤ (q : Int) := by omega
      have d1 : (q : Int) < ((said who D.tr).length : Int) := by omega
      have hee : (t.who == who) = true := by simp [he]
      have hvv : (t.v != t.v) = false := by simp
      go_wp2_with fail
      go_quiet (fail)
      go_wp2
      go_roundw
      case rel => exact ⟨k + 1, by omega, by go_num, by rw [HY.out, List.length_append, List.length_singleton, HQ.out]; go_num, KB.out.trans ⟨rfl, rfl, rfl, Nat.le_refl _, fun _ _ => rfl⟩⟩
      case measure => simp [intOf]; omega
     ·have HY := hidR (said_no HT.out he)
      have hee : (t.who == who) = false := by simp [he]
      go_wp2
      go_roundw
      case rel => exact ⟨k + 1, by omega, by go_num, by rw [HY.out], KB.out⟩
      case measure => simp [intOf]; omega
    ·have ek : k = D.tr.length := by omega
     subst ek
     rw [List.take_length]
     have hee : (((said who D.tr).length : Int) == ((said who D.tr).length : Int)) = true := by simp
     rw [hall]
     have hee2 : ((D.tr.length : Int) == (D.tr.length : Int)) = true := by simp
     go_wp2
     go_ret
     exact ⟨rfl, K5.out.trans (KB.out.mono (by omega))⟩
set_option maxRecDepth 100000 in
theorem liftedFnSaid (os : Os) (started : os.Started) (H : Type) (enc : TypeId × Value → H) :
  ReturnsInHanded {} Try.checked os 3 .any (Rows.fnSaidSpec.pre6 enc Try.prog Try.f3 Rows.fnSaidRow.domain false) (Rows.fnSaidSpec.post enc Try.prog Try.f3 false true false false) := by
 refine returnsInHanded_of_change (C := Try.checked) ownS started (by kernel_rfl) Try.func3
  (ChangeSpec.witness6 (enc := enc) (C := Try.checked) false ⟨#[], #[.slice none 0 0], []⟩ 8 (by kernel_rfl) (by kernel_rfl) (by kernel_rfl) (by kernel_rfl)) ?_
 intro W base args ds gs before hval0 hW hcnd _
 have hval : ∀ (j : Nat) t v, Try.f3.params[j]? = some t → args[j]? = some v → Value.okWide Try.prog W .any base t v := hval0
 have hW' := hW
 obtain ⟨p, q, hA0, hV, rfl, hfz, hnd⟩ := hW
 have hA : DataW.TrodAll enc Try.prog W 0 (fun _ => true) true Try.f3.params.toList args.toList ds p := hA0
 rw [Try.params3] at hA hval
 obtain ⟨v0, d0, hargs, rfl, h0⟩ := trodAll_one hA
 obtain rfl : args = #[v0] := by cases args; simp_all
 obtain ⟨rfl, rfl⟩ := trodVars_none hV
 have k0 := h0
 have lt0 : ∀ x ∈ p, x.block < W.heap.size := by obtain ⟨m, hm⟩ := k0; exact DataW.trod_lt m _ _ _ hm
 obtain ⟨s, n, c, rfl, hn, hB⟩ := bytes_read (hval 0 22 v0 rfl rfl) h0
 clear hA0 hval0
 refine (walkFnSaid s n c W hB hn).mono fun e W' ⟨he, bel⟩ => ?_
 subst he
 exact ⟨_, rfl, _, _, _, [], _, [], hW', trodAll_mk1 (shut_bool Try.underlying4 _), trodAll_mk1 (Below.trod laidOutS (by kernel_rfl) (of_decide_eq_true (by kernel_rfl)) k0 bel lt0), rfl, bel.frame _, fun h => by cases h⟩
theorem fnSaid_holds : Rows.FnSaidSaid :=
 OpenClaim.holds_of_wide 3 Try.f3 rfl rfl rfl rfl rfl rfl rfl ⟨rfl, rfl, rfl, rfl, rfl⟩ rfl rfl rfl rfl rfl (by kernel_rfl) Try.func3 (by kernel_rfl)
  (of_decide_eq_true (by kernel_rfl)) (by unfold Func.isWrapper; first | (rw [if_pos (by decide +kernel)]; kernel_rfl) | (rw [if_neg (by decide +kernel)]; exact ⟨rfl, rfl⟩))
  (fun os started H enc _ => liftedFnSaid os started H enc)
#print axioms fnSaid_holds
end Go.Proofs.Ytknffngbdakblaa
