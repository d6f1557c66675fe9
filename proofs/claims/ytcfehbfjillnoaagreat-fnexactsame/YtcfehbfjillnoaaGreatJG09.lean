/- ChanSame of both sides. Conditions: rows that are counted. ChanSame of the program. Conditions: rows that are counted. -/
import Derived.Test.YtcfehbfjillnoaaGreatJG08
import Derived.Test.YtcfehbfjillnoaaGreatJG07
import Derived.Test.YtcfehbfjillnoaaGreatJG05
import Derived.Test.YtcfehbfjillnoaaGreatJG00
import Derived.Test.YtcfehbfjillnoaaGreatJC7Leaf
import Derived.Test.YtcfehbfjillnoaaGreatJN9Chan
import Derived.Test.YtcfehbfjillnoaaGreatJN9ChanS
import Derived.Test.YtcfehbfjillnoaaGreatJG06
import Derived.Test.YtcfehbfjillnoaaGreatJLeaves
import Derived.Test.YtcfehbfjillnoaaGreatJG04
namespace Go.Proofs.YtcfehbfjillnoaaGreat
section
set_option linter.unusedSimpArgs false
set_option linter.unusedVariables false
set_option maxRecDepth 100000
open Go.RowKit
theorem hidC {p : Prop} (h : p) : Hid p := h
theorem chan_len (m : List (List WD)) (caps : List Int) (n : Int) : (chanM m caps n).ls.length ≤ 4 := by
 unfold chanM
 split
 ·rename_i hh
  simp only [listV_len]
  simp only [Bool.and_eq_true, fitB, decide_eq_true_eq] at hh
  have h2 := hh.2.1.2.2
  rcases baseV_cases caps n with e | ⟨b, r, k, hn, -, -, hr, -, h4, -⟩
  ·have := hh.1.1; omega
  ·subst hn
   rw [Int.toNat_natCast, hr] at h2
   omega
 ·simp [zeroCH]
theorem chan_none {m : List (List WD)} {caps : List Int} {n : Int} (h : baseV caps n < 0) : (chanM m caps n).ok = false ∧ lockB m caps n = false := by
 have e : decide (0 ≤ baseV caps n) = false := by rw [decide_eq_false_iff_not]; omega
 unfold chanM lockB
 rw [e]
 exact ⟨rfl, rfl⟩
def sameV (a b : Int) (x y : Bool) (l l' : List Int) : Bool := decide (a = b) && (decide (x = y) && decide (l = l'))
def chsV (m : List (List WD)) (caps : List Int) (chs : List CD) (n : Int) : Bool :=
 if 0 ≤ n ∧ n < (chs.length : Int) then
  (match chs[n.toNat]? with
   | some t => lockB m caps n || ((chanM m caps n).ok && sameV (chanM m caps n).cap t.cap (chanM m caps n).cl t.cl (chanM m caps n).ls t.list)
   | none => false)
 else false
set_option maxHeartbeats 1000000 in
theorem chans_any (s s' : Option Addr) (c c' lo hi lo' hi' : Nat) (a b : Int) (x y : Bool) (l l' : List Int) (w : World) (h : IntsR w lo hi s l) (h' : IntsR w lo' hi' s' l') (hB : hi ≤ w.heap.size) (hB' : hi' ≤ w.heap.size) (hb : l.length ≤ 1000000000) :
  Calls Tryz.prog 89 #[.agg #[.int .i64 a, .slice s l.length c, .bool x], .agg #[.int .i64 b, .slice s' l'.length c', .bool y]] w fun e w' => e = .returned (.bool (sameV a b x y l l')) ∧ Below w.heap.size w w' := by
 unfold sameV
 by_cases hab : a = b
 ·subst hab
  by_cases hxy : x = y
  ·subst hxy
   obtain ⟨W, hW⟩ : ∃ W, (w.alloc (.cells #[.int .i64 a, .slice s l.length c, .bool x] 118)).alloc (.cells #[.int .i64 a, .slice s' l'.length c', .bool x] 118) = W := ⟨_, rfl⟩
   have kW : Below w.heap.size w W := by subst hW; exact ((Below.refl _ _).alloc (Nat.le_refl _) _).alloc (by simp) _
   have sW := kW.size
   have AL := hidC (alike_any s s' l l' c c' lo hi lo' hi' W (h.keep (Keep.of_below kW hB)) (h'.keep (Keep.of_below kW hB')) (by omega) (by omega) hb)
   have HW := hidC hW
   have KW := hidC kW
   clear hW kW h h'
   have e1 : (a == a) = true := by simp
   have e2 : (x == x) = true := by simp
   go_enter Tryz.func89, Tryz.ntmps89
   go_wp2_with fail
   rw [HW.out]
   refine Calls.mono AL.out ?_
   rintro e w1 ⟨rfl, hb1⟩
   have HB1 := hidC hb1
   clear hb1
   go_wp2
   go_ret
   exact ⟨by simp, KW.out.trans (HB1.out.mono sW)⟩
  ·have e1 : (a == a) = true := by simp
   have e2 : (x == y) = false := by simp [hxy]
   clear h h'
   go_enter Tryz.func89, Tryz.ntmps89
   go_wp2
   go_ret
   exact ⟨by simp [hxy], ((Below.refl _ _).alloc (Nat.le_refl _) _).alloc (by simp) _⟩
 ·have e1 : (a == b) = false := by simp [hab]
  clear h h'
  go_enter Tryz.func89, Tryz.ntmps89
  go_wp2
  go_ret
  exact ⟨by simp [hab], ((Below.refl _ _).alloc (Nat.le_refl _) _).alloc (by simp) _⟩
end
section
set_option linter.unusedSimpArgs false
set_option linter.unusedVariables false
set_option maxRecDepth 100000
open Go.RowKit
/- the boxes of ChanSame: program, machine, source: what is read of them -/
structure Bs3 (V : World) (z : Nat) (vp vm vs : Value) : Prop where
 p : V.cell? ⟨z, 0, none⟩ = some vp
 m : V.cell? ⟨z + 1, 2, none⟩ = some vm
 s : V.cell? ⟨z + 1 + 1, 1, none⟩ = some vs
 z : z + 1 + 1 < V.heap.size
theorem Bs3.below {V V' : World} {z : Nat} {vp vm vs : Value} (h : Bs3 V z vp vm vs) (hb : Below V.heap.size V V') : Bs3 V' z vp vm vs := by
 have hz := h.z
 have hs := hb.size
 exact ⟨(hb.cell (p := ⟨z, 0, none⟩) (by show z < _; omega)).trans h.p, (hb.cell (p := ⟨z + 1, 2, none⟩) (by show z + 1 < _; omega)).trans h.m, (hb.cell (p := ⟨z + 1 + 1, 1, none⟩) hz).trans h.s, by omega⟩
theorem bs3_new {w W : World} {p0 p1 m0 m1 m2 m3 s0 s1 s2 : Value} {T0 T1 T2 : TypeId} (hW : ((w.alloc (.cells #[p0, p1] T0)).alloc (.cells #[m0, m1, m2, m3] T1)).alloc (.cells #[s0, s1, s2] T2) = W) : Bs3 W w.heap.size p0 m2 s1 ∧ Below w.heap.size w W := by
 subst hW
 refine ⟨⟨?_, ?_, ?_, ?_⟩, ((((Below.refl _ _).alloc (Nat.le_refl _) _).alloc (by simp) _).alloc (by simp; omega) _)⟩
 all_goals simp [go_sem]
theorem RecsR.chan {w wr : World} {lo hi : Nat} {s : Option Addr} {l : List CD} (h : RecsR w lo hi s (l.map CD.rec3)) (hB : hi ≤ w.heap.size) (hb : Below w.heap.size w wr) {k : Nat} {t : CD} (hk : l[k]? = some t) : ∃ g o s' c', s = some ⟨g, o, none⟩ ∧ g < w.heap.size ∧ wr.cell? ⟨g, o + k * 3, none⟩ = some (.int .i64 t.cap) ∧ wr.cell? ⟨g, o + k * 3 + 1, none⟩ = some (.slice s' t.list.length c') ∧ wr.cell? ⟨g, o + k * 3 + 2, none⟩ = some (.bool t.cl) ∧ IntsR wr lo hi s' t.list := by
 rcases h with h | ⟨g, o, hs, h1, h2, hc⟩
 ·have : l = [] := by simpa using h
  subst this
  simp at hk
 ·obtain ⟨s', c', q1, q2, q3, q4⟩ := hc k t.rec3 (by rw [List.getElem?_map, hk]; rfl)
  have cc : ∀ j, wr.cell? ⟨g, j, none⟩ = w.cell? ⟨g, j, none⟩ := fun j => hb.cell (p := ⟨g, j, none⟩) (by show g < _; omega)
  exact ⟨g, o, s', c', hs, by omega, (cc _).trans q1, (cc _).trans q2, (cc _).trans q3, q4.keep (Keep.of_below hb hB)⟩
set_option maxHeartbeats 4000000 in
theorem implChs_any (p1 p2 s1 s2 s3 s4 t1 t2 t3 : Option Addr) (a1 a2 b2 c1 c2 c3 c4 k1 k2 k4 e1 e2 e3 h1' h3' lo hi lo' hi' lo2 hi2 : Nat) (caps : List Int) (m : List (List WD)) (chs : List CD) (n : Int) (w : World) (hp : IntsR w lo hi p1 caps) (hm : MemR w lo' hi' s3 m) (hc : RecsR w lo2 hi2 t2 (chs.map CD.rec3)) (hB : hi ≤ w.heap.size) (hB' : hi' ≤ w.heap.size) (hB2 : hi2 ≤ w.heap.size) (hl : caps.length ≤ 2000000) (hz : m.length + szR m ≤ 2000000) (hlc : chs.length ≤ 1048576) :
  Calls Tryz.prog 41 #[.agg #[.slice p1 caps.length a1, .slice p2 b2 a2], .agg #[.slice s1 k1 c1, .slice s2 k2 c2, .slice s3 m.length c3, .slice s4 k4 c4], .agg #[.slice t1 h1' e1, .slice t2 chs.length e2, .slice t3 h3' e3], .int .i64 n] w fun e w' => e = .returned (.bool (chsV m caps chs n)) ∧ Below w.heap.size w w' := by
 obtain ⟨W, hW⟩ : ∃ W, ((w.alloc (.cells #[.slice p1 caps.length a1, .slice p2 b2 a2] 44)).alloc (.cells #[.slice s1 k1 c1, .slice s2 k2 c2, .slice s3 m.length c3, .slice s4 k4 c4] 53)).alloc (.cells #[.slice t1 h1' e1, .slice t2 chs.length e2, .slice t3 h3' e3] 58) = W := ⟨_, rfl⟩
 obtain ⟨bs, kW⟩ := bs3_new hW
 have HW := hidC hW
 have BS := hidC bs
 have KW := hidC kW
 have sW := kW.size
 obtain ⟨q0, q1, q2, zz⟩ := bs
 unfold chsV
 by_cases hn : 0 ≤ n ∧ n < (chs.length : Int)
 ·rw [if_pos hn]
  obtain ⟨k, rfl⟩ : ∃ k : Nat, n = (k : Int) := ⟨n.toNat, by omega⟩
  obtain ⟨t, ht⟩ : ∃ t, chs[k]? = some t := ⟨_, List.getElem?_eq_getElem (by omega)⟩
  rw [Int.toNat_natCast, ht]
  simp only
  have HP := hidC hp
  have HM := hidC hm
  have HC := hidC hc
  have HT := hidC ht
  have b0 : (0 : Int) ≤ (k : Int) := by omega
  have b1 : (k : Int) < (chs.length : Int) := by omega
  have CI := hidC (fun (V : World) (hV : Below w.heap.size w V) => implChanIn_any s3 p1 c3 a1 lo' hi' lo hi m caps k V (HM.out.keep (Keep.of_below hV hB')) (HP.out.keep (Keep.of_below hV hB)) (by have := hV.size; omega) (by have := hV.size; omega) hl hz)
  have LKD := hidC (fun (V : World) (hV : Below w.heap.size w V) => implLocked_any s3 p1 c3 a1 lo' hi' lo hi m caps k V (HM.out.keep (Keep.of_below hV hB')) (HP.out.keep (Keep.of_below hV hB)) (by have := hV.size; omega) (by have := hV.size; omega) hl hz)
  have hcl : (chanM m caps k).ls.length ≤ 1000000000 := by have := chan_len m caps k; omega
  obtain ⟨C, hC⟩ : ∃ C, chanM m caps k = C := ⟨_, rfl⟩
  obtain ⟨lk, hlk⟩ : ∃ b, lockB m caps k = b := ⟨_, rfl⟩
  rw [hC] at CI hcl ⊢
  rw [hlk] at LKD ⊢
  obtain ⟨cap, ls, cl, ok⟩ := C
  simp only at CI hcl ⊢
  clear hW kW hp hm hc ht hC hlk
  go_enter Tryz.func41, Tryz.ntmps41
  go_wp2_with fail
  rw [HW.out]
  refine (isOneOf_is _ _ true _ (by unfold Plain.oneB; simp; omega)).mono ?_
  rintro e w9 ⟨rfl, hw9⟩
  rw [hw9]
  clear hw9 w9
  go_wp2_with fail
  refine Calls.mono (CI.out W KW.out) ?_
  rintro e w1 ⟨v, rfl, ho, hb1⟩
  obtain ⟨sv, cv, rfl, hv⟩ := ownN_ints ho
  have B1 := BS.out.below hb1
  have K1 : Below w.heap.size w w1 := KW.out.trans (hb1.mono (by omega))
  have HV := hidC hv
  have HB1 := hidC B1
  have HK1 := hidC K1
  have s1' := hb1.size
  clear q0 q1 q2 ho hb1 hv K1
  obtain ⟨q0, q1, q2, z1⟩ := B1
  go_wp2_with fail
  obtain ⟨Y, hY⟩ : ∃ Y, w1.alloc (.cells #[.int .i64 cap, .slice sv ls.length cv, .bool cl] 118) = Y := ⟨_, rfl⟩
  have kY : Below w1.heap.size w1 Y := by subst hY; exact (Below.refl _ _).alloc (Nat.le_refl _) _
  have sY : w1.heap.size < Y.heap.size := by subst hY; simp
  have y0 : Y.cell? ⟨w1.heap.size, 0, none⟩ = some (.int .i64 cap) := by subst hY; simp [go_sem]
  have y1 : Y.cell? ⟨w1.heap.size, 1, none⟩ = some (.slice sv ls.length cv) := by subst hY; simp [go_sem]
  have y2 : Y.cell? ⟨w1.heap.size, 2, none⟩ = some (.bool cl) := by subst hY; simp [go_sem]
  rw [hY]
  clear hY
  have BY := HB1.out.below kY
  have KY : Below w.heap.size w Y := HK1.out.trans (kY.mono (by omega))
  obtain ⟨g, o, s', c', hs, hg, f0, f1, f2, f3⟩ := HC.out.chan hB2 KY HT.out
  subst hs
  have hne := ext_ne Y
  have u0 := Ext.fit y0 sY
  have u1 := Ext.fit y1 sY
  have u2 := Ext.fit y2 sY
  have u3 := Ext.fit BY.p (by have := BY.z; omega)
  have u4 := Ext.fit BY.m (by have := BY.z; omega)
  have u5 := Ext.fit BY.s BY.z
  have u6 := Ext.fit f0 (by omega)
  have u7 := Ext.fit f1 (by omega)
  have u8 := Ext.fit f2 (by omega)
  have KYH := hidC KY
  have F3 := hidC f3
  have HVY := hidC (HV.out.keep (w' := Y) (Keep.of_below kY (Nat.le_refl _)))
  clear q0 q1 q2 f0 f1 f2 f3 y0 y1 y2 BY KY kY
  cases lk
  all_goals cases ok
  all_goals
   refine regionExt Y (by kernel_rfl) (by kernel_rfl) ?_
   repeat (go_big_quiet_step (first | (rename_i X; go_at_call 88; refine Calls.mono (LKD.out _ (KYH.out.trans (X.b.mono (by omega)))) ?_; rintro e w3 ⟨rfl, hb3⟩; exact ⟨rfl, X.on hb3⟩) | (rename_i X; go_at_call 89; refine Calls.mono (chans_any _ _ _ _ _ _ _ _ _ _ _ _ _ _ _ (HVY.out.keep (Keep.of_below X.b (by omega))) (F3.out.keep (Keep.of_below X.b (by omega))) (by have := X.b.size; omega) (by have := X.b.size; omega) hcl) ?_; rintro e w3 ⟨rfl, hb3⟩; exact ⟨rfl, X.on hb3⟩) | fail))
   refine wpQuiet_nil ?_
   rintro w3 ⟨X3, rfl⟩
   have KU := hidC (KYH.out.trans (X3.b.mono (by omega)))
   clear hne u0 u1 u2 u3 u4 u5 u6 u7 u8
   go_wp2
   go_ret
   exact ⟨by first | rfl | simp, KU.out⟩
 ·rw [if_neg hn]
  have HN := hidC hn
  clear hW kW hp hm hc hn
  go_enter Tryz.func41, Tryz.ntmps41
  go_wp2_with fail
  rw [HW.out]
  refine (isOneOf_is _ _ false _ (by have := HN.out; unfold Plain.oneB; simp; omega)).mono ?_
  rintro e w9 ⟨rfl, hw9⟩
  rw [hw9]
  clear hw9 w9
  go_wp2
  go_ret
  exact ⟨rfl, KW.out⟩
end
end Go.Proofs.YtcfehbfjillnoaaGreat
