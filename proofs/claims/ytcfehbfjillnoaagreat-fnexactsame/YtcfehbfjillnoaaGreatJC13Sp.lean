/- ChanSame of the specification. Conditions: rows that are counted. -/
import Derived.Test.YtcfehbfjillnoaaGreatJG00
import Derived.Test.YtcfehbfjillnoaaGreatJG06
import Derived.Test.YtcfehbfjillnoaaGreatJG08
import Derived.Test.YtcfehbfjillnoaaGreatJG07
import Derived.Test.YtcfehbfjillnoaaGreatJN9ChanS
import Derived.Test.YtcfehbfjillnoaaGreatJG05
import Derived.Test.YtcfehbfjillnoaaGreatJKSz
import Derived.Test.YtcfehbfjillnoaaGreatJG04
import Derived.Test.YtcfehbfjillnoaaGreatJG09
namespace Go.Proofs.YtcfehbfjillnoaaGreat
set_option linter.unusedSimpArgs false
set_option linter.unusedVariables false
set_option maxRecDepth 100000
open Go.RowKit
theorem chsV_no {m : List (List WD)} {caps : List Int} {chs : List CD} {n : Int} (h : baseV caps n < 0) : chsV m caps chs n = false := by
 obtain ⟨h1, h2⟩ := chan_none (m := m) h
 unfold chsV
 split
 ·split
  ·rw [h1, h2]; rfl
  ·rfl
 ·rfl
set_option maxHeartbeats 4000000 in
theorem specChs_any (p1 p2 s1 s2 s3 s4 t1 t2 t3 : Option Addr) (a1 a2 b2 c1 c2 c3 c4 k1 k2 k4 e1 e2 e3 h1' h3' lo hi lo' hi' lo2 hi2 : Nat) (caps : List Int) (m : List (List WD)) (chs : List CD) (n : Int) (w : World) (hp : IntsR w lo hi p1 caps) (hm : MemR w lo' hi' s3 m) (hc : RecsR w lo2 hi2 t2 (chs.map CD.rec3)) (hB : hi ≤ w.heap.size) (hB' : hi' ≤ w.heap.size) (hB2 : hi2 ≤ w.heap.size) (hl : caps.length ≤ 2000000) (hz : m.length + szR m ≤ 2000000) (hlc : chs.length ≤ 1048576) (hbl : ∀ (i : Nat) (t : CD), chs[i]? = some t → t.list.length ≤ 1048576) :
  Calls Tryz.prog 28 #[.agg #[.slice p1 caps.length a1, .slice p2 b2 a2], .agg #[.slice s1 k1 c1, .slice s2 k2 c2, .slice s3 m.length c3, .slice s4 k4 c4], .agg #[.slice t1 h1' e1, .slice t2 chs.length e2, .slice t3 h3' e3], .int .i64 n] w fun e w' => e = .returned (.bool (chsV m caps chs n)) ∧ Below w.heap.size w w' := by
 obtain ⟨W, hW⟩ : ∃ W, ((w.alloc (.cells #[.slice p1 caps.length a1, .slice p2 b2 a2] 44)).alloc (.cells #[.slice s1 k1 c1, .slice s2 k2 c2, .slice s3 m.length c3, .slice s4 k4 c4] 53)).alloc (.cells #[.slice t1 h1' e1, .slice t2 chs.length e2, .slice t3 h3' e3] 58) = W := ⟨_, rfl⟩
 obtain ⟨bs, kW⟩ := bs3_new hW
 have HW := hidC hW
 have BS := hidC bs
 have KW := hidC kW
 have sW := kW.size
 obtain ⟨q0, q1, q2, zz⟩ := bs
 have HP := hidC hp
 have HM := hidC hm
 have HC := hidC hc
 have BA := hidC (specBase_any p1 a1 lo hi caps n W (hp.keep (Keep.of_below kW hB)) (by omega) hl)
 obtain ⟨bv, hbv⟩ : ∃ bv, baseV caps n = bv := ⟨_, rfl⟩
 rw [hbv] at BA
 by_cases hneg : bv < 0
 ·rw [chsV_no (by omega)]
  clear hW kW hp hm hc hbv
  go_enter Tryz.func28, Tryz.ntmps28
  go_wp2_with fail
  rw [HW.out]
  refine Calls.mono BA.out ?_
  rintro e w1 ⟨rfl, hb1⟩
  have B1 := BS.out.below hb1
  have K1 := hidC (KW.out.trans (hb1.mono (by omega)))
  clear q0 q1 q2 hb1
  obtain ⟨q0, q1, q2, z1⟩ := B1
  go_wp2
  go_ret
  exact ⟨rfl, K1.out⟩
 have hn0 : 0 ≤ n := by
  rcases baseV_cases caps n with e | ⟨b, r, k, hk, -⟩
  ·omega
  ·omega
 unfold chsV
 by_cases hn : n < (chs.length : Int)
 ·rw [if_pos ⟨hn0, hn⟩]
  obtain ⟨k, rfl⟩ : ∃ k : Nat, n = (k : Int) := ⟨n.toNat, by omega⟩
  obtain ⟨t, ht⟩ : ∃ t, chs[k]? = some t := ⟨_, List.getElem?_eq_getElem (by omega)⟩
  rw [Int.toNat_natCast, ht]
  simp only
  have HT := hidC ht
  have hbt := hbl k t ht
  have HBT := hidC hbl
  clear hbl
  have b0 : (0 : Int) ≤ (k : Int) := by omega
  have b1 : (k : Int) < (chs.length : Int) := by omega
  have nge : ¬ (chs.length : Int) ≤ (k : Int) := by omega
  have CI := hidC (fun (V : World) (hV : Below w.heap.size w V) => specChanIn_any s3 p1 c3 a1 lo' hi' lo hi m caps k V (HM.out.keep (Keep.of_below hV hB')) (HP.out.keep (Keep.of_below hV hB)) (by have := hV.size; omega) (by have := hV.size; omega) hl hz)
  have LKD := hidC (fun (V : World) (hV : Below w.heap.size w V) => specLocked_any s3 p1 c3 a1 lo' hi' lo hi m caps k V (HM.out.keep (Keep.of_below hV hB')) (HP.out.keep (Keep.of_below hV hB)) (by have := hV.size; omega) (by have := hV.size; omega) hl hz)
  have hcl : (chanM m caps k).ls.length ≤ 1000000000 := by have := chan_len m caps k; omega
  obtain ⟨C, hC⟩ : ∃ C, chanM m caps k = C := ⟨_, rfl⟩
  obtain ⟨lk, hlk⟩ : ∃ b, lockB m caps k = b := ⟨_, rfl⟩
  rw [hC] at CI hcl ⊢
  rw [hlk] at LKD ⊢
  obtain ⟨cap, ls, cl, ok⟩ := C
  simp only at CI hcl ⊢
  clear hW kW hp hm hc ht hC hlk hbv
  go_enter Tryz.func28, Tryz.ntmps28
  go_wp2_with fail
  rw [HW.out]
  refine Calls.mono BA.out ?_
  rintro e w1 ⟨rfl, hb1⟩
  have B1 := BS.out.below hb1
  have HB1 := hidC B1
  have HK1 := hidC (KW.out.trans (hb1.mono (by omega)))
  have s1' := hb1.size
  clear q0 q1 q2 hb1
  obtain ⟨q0, q1, q2, z1⟩ := B1
  go_wp2_with fail
  refine Calls.mono (LKD.out w1 HK1.out) ?_
  rintro e w2 ⟨rfl, hb2⟩
  have B2 := HB1.out.below hb2
  have HB2 := hidC B2
  have HK2 := hidC (HK1.out.trans (hb2.mono HK1.out.size))
  have s2' := hb2.size
  clear q0 q1 q2 hb2
  obtain ⟨q0, q1, q2, z2⟩ := B2
  cases lk
  ·go_wp2_with fail
   refine Calls.mono (CI.out w2 HK2.out) ?_
   rintro e w4 ⟨v, rfl, ho, hb4⟩
   obtain ⟨sv, cv, rfl, hv⟩ := ownN_ints ho
   have B4 := HB2.out.below hb4
   have HK4 := hidC (HK2.out.trans (hb4.mono HK2.out.size))
   have s4' := hb4.size
   have HV := hidC hv
   clear q0 q1 q2 ho hb4 hv
   obtain ⟨q0, q1, q2, z4⟩ := B4
   obtain ⟨g, o, s', c', hs, hg, f0, f1, f2, f3⟩ := HC.out.chan hB2 HK4.out HT.out
   subst hs
   have zg : g < w4.heap.size := by omega
   have F3 := hidC f3
   clear f3
   obtain ⟨tc, tl, tb⟩ := t
   simp only at f0 f1 f2 F3 hbt ⊢
   cases ok
   ·go_wp2
    go_ret
    exact ⟨rfl, (HK4.out.alloc (by omega) _).alloc (by simp; omega) _⟩
   by_cases e1 : cap = tc
   ·subst e1
    by_cases e2 : cl = tb
    ·subst e2
     go_wp2_with fail
     refine Calls.mono (ints13_any _ _ _ _ _ _ _ _ _ _ _ (HV.out.keep (Keep.of_below (((Below.refl _ _).alloc (Nat.le_refl _) _).alloc (by simp) _) (Nat.le_refl _))) (F3.out.keep (Keep.of_below (((Below.refl _ _).alloc (Nat.le_refl _) _).alloc (by simp) _) (by omega))) (by simp; omega) (by simp; omega) hcl (by omega)) ?_
     rintro e w5 ⟨rfl, hb5⟩
     have K5 := hidC (HK4.out.trans (((((Below.refl _ _).alloc (Nat.le_refl _) _).alloc (by simp) _).trans (hb5.mono (by simp; omega))).mono (by omega)))
     clear hb5
     go_wp2
     go_ret
     exact ⟨by simp [sameV], K5.out⟩
    ·go_wp2
     go_ret
     exact ⟨by simp [sameV, e2], (HK4.out.alloc (by omega) _).alloc (by simp; omega) _⟩
   ·go_wp2
    go_ret
    exact ⟨by simp [sameV, e1], (HK4.out.alloc (by omega) _).alloc (by simp; omega) _⟩
  ·go_wp2
   go_ret
   exact ⟨rfl, HK2.out⟩
 ·rw [if_neg (fun e => hn e.2)]
  have nge : (chs.length : Int) ≤ n := by omega
  clear hW kW hp hm hc hbv
  go_enter Tryz.func28, Tryz.ntmps28
  go_wp2_with fail
  rw [HW.out]
  refine Calls.mono BA.out ?_
  rintro e w1 ⟨rfl, hb1⟩
  have B1 := BS.out.below hb1
  have K1 := hidC (KW.out.trans (hb1.mono (by omega)))
  clear q0 q1 q2 hb1
  obtain ⟨q0, q1, q2, z1⟩ := B1
  go_wp2
  go_ret
  exact ⟨rfl, K1.out⟩
end Go.Proofs.YtcfehbfjillnoaaGreat
