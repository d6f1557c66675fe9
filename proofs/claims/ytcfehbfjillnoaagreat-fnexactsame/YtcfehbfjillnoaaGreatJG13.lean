/- Between of both sides. Conditions: the program fits. CoreSame of both sides, where the core and the thread have four registers or more and the core's State is 0, 1 or 2. Conditions: the program fits. Rows of notes held against each other, by both sides; the first numbers of two rows. Conditions: rows of at most a thousand million. How great memories are counted. No condition but the lists' own bounds. -/
import Derived.Test.YtcfehbfjillnoaaGreatJG01
import Derived.Test.YtcfehbfjillnoaaGreatJG00
import Derived.Test.YtcfehbfjillnoaaGreatJG11
import Derived.Test.YtcfehbfjillnoaaGreatJG08
import Derived.Test.YtcfehbfjillnoaaGreatJC7SpA
import Derived.Test.YtcfehbfjillnoaaGreatJC7Leaf
import Derived.Test.YtcfehbfjillnoaaGreatJG12
import Derived.Test.YtcfehbfjillnoaaGreatJG05
import Derived.Test.YtcfehbfjillnoaaGreatJG09
import Derived.Deep.RegionHeld3
import Derived.Deep.DeepCutAuto
import Derived.Test.YtcfehbfjillnoaaGreatJG06
namespace Go.Proofs.YtcfehbfjillnoaaGreat
section
set_option linter.unusedSimpArgs false
set_option linter.unusedVariables false
set_option maxRecDepth 100000
open Go.RowKit
theorem hidB {p : Prop} (h : p) : Hid p := h
/- the boxes of Between: the program and the machine -/
structure Bb6 (V : World) (z : Nat) (p0 p1 m0 m1 m2 m3 : Value) : Prop where
 p0 : V.cell? ⟨z, 0, none⟩ = some p0
 p1 : V.cell? ⟨z, 1, none⟩ = some p1
 m0 : V.cell? ⟨z + 1, 0, none⟩ = some m0
 m1 : V.cell? ⟨z + 1, 1, none⟩ = some m1
 m2 : V.cell? ⟨z + 1, 2, none⟩ = some m2
 m3 : V.cell? ⟨z + 1, 3, none⟩ = some m3
 z : z + 1 < V.heap.size
theorem bb6_new {w W : World} {p0 p1 m0 m1 m2 m3 : Value} {T0 T1 : TypeId} (hW : (w.alloc (.cells #[p0, p1] T0)).alloc (.cells #[m0, m1, m2, m3] T1) = W) : Bb6 W w.heap.size p0 p1 m0 m1 m2 m3 ∧ Below w.heap.size w W := by
 subst hW
 refine ⟨⟨?_, ?_, ?_, ?_, ?_, ?_, ?_⟩, (((Below.refl _ _).alloc (Nat.le_refl _) _).alloc (by simp) _)⟩
 all_goals simp [go_sem]
set_option maxHeartbeats 2000000 in
theorem implBet_at (p1 p2 s1 s2 s3 s4 : Option Addr) (a1 a2 c1 c2 c3 c4 lo hi lo' hi' : Nat) (p : PD) (d : MD) (who : Nat) (kk : KD) (w : World) (h0 : ProgR w lo hi p1 p2 p) (h1 : KsR w lo' hi' s2 d.cores) (hB : hi ≤ w.heap.size) (hB' : hi' ≤ w.heap.size) (hf : Fits p) (hl : d.cores.length ≤ 1048576) (hk : d.cores[who]? = some kk) :
  Calls Tryz.prog 85 #[.agg #[.slice p1 p.caps.length a1, .slice p2 p.bods.length a2], .agg #[.slice s1 d.codes.length c1, .slice s2 d.cores.length c2, .slice s3 d.mem.length c3, .slice s4 d.tr.length c4], .int .i64 who] w fun e w' => e = .returned (.bool (if kk.st = 0 then (placeV (bodV p who) kk.pc).2 else false)) ∧ Below w.heap.size w w' := by
 have hn := (List.getElem?_eq_some_iff.1 hk).1
 have b0 : (0 : Int) ≤ (who : Int) := by omega
 have b1 : (who : Int) < (d.cores.length : Int) := by omega
 obtain ⟨W, hW⟩ : ∃ W, (w.alloc (.cells #[.slice p1 p.caps.length a1, .slice p2 p.bods.length a2] 44)).alloc (.cells #[.slice s1 d.codes.length c1, .slice s2 d.cores.length c2, .slice s3 d.mem.length c3, .slice s4 d.tr.length c4] 53) = W := ⟨_, rfl⟩
 obtain ⟨bb, kW⟩ := bb6_new hW
 have HWW := hidB hW
 have KW := hidB kW
 have H0 := hidB h0
 have HF := hidB hf
 obtain ⟨g, o, t1, e1, t2, e2, es, g1, g2, f0, f1, f2, f3, -, -⟩ := (h1.keep (Keep.of_below kW hB')).at hk
 subst es
 obtain ⟨q0, q1, m0, m1, m2, m3, zz⟩ := bb
 have sW := kW.size
 have zg : g < W.heap.size := by omega
 obtain ⟨pc, regs, vw, st⟩ := kk
 simp only at f0 f3 ⊢
 clear hW kW h0 h1 hf f1 f2
 by_cases hst : st = 0
 ·subst hst
  rw [if_pos rfl]
  obtain ⟨⟨pa, pb⟩, hpv⟩ : ∃ x, placeV (bodV p who) pc = x := ⟨_, rfl⟩
  rw [hpv]
  have HPV := hidB hpv
  clear hpv
  go_enter Tryz.func85, Tryz.ntmps85
  go_wp2_with fail
  rw [HWW.out]
  refine (isOneOf_is _ _ true _ (by unfold Plain.oneB; simp; omega)).mono ?_
  rintro e w9 ⟨rfl, hw9⟩
  rw [hw9]
  clear hw9 w9
  go_wp2_with fail
  have hne := ext_ne W
  have u0 := Ext.fit q0 (by omega)
  have u1 := Ext.fit q1 (by omega)
  have u2 := Ext.fit m1 (by omega)
  have u3 := Ext.fit f0 zg
  have PL := hidB (fun (V : World) (hV : Below w.heap.size w V) => implPlace_any p1 p2 a1 a2 lo hi p who pc V (ProgR.keep' H0.out (Keep.of_below hV hB)) (by have := hV.size; omega) HF.out)
  rw [HPV.out] at PL
  refine regionExt W (by kernel_rfl) (by kernel_rfl) ?_
  repeat (go_big_quiet_step ((rename_i X; go_at_call 84; refine Calls.mono (PL.out _ (KW.out.trans (X.b.mono (by omega)))) ?_; rintro e w3 ⟨rfl, hb3⟩; exact ⟨rfl, X.on hb3⟩)))
  refine wpQuiet_nil ?_
  rintro w3 ⟨X3, rfl⟩
  have KU := hidB (KW.out.trans (X3.b.mono (by omega)))
  clear hne u0 u1 u2 u3 q0 q1 m0 m1 m2 m3 f0 f3 PL
  go_wp2
  go_ret
  exact ⟨rfl, KU.out⟩
 ·rw [if_neg hst]
  go_enter Tryz.func85, Tryz.ntmps85
  go_wp2_with fail
  rw [HWW.out]
  refine (isOneOf_is _ _ true _ (by unfold Plain.oneB; simp; omega)).mono ?_
  rintro e w9 ⟨rfl, hw9⟩
  rw [hw9]
  clear hw9 w9
  have hst' : (st != 0) = true := by simp [hst]
  go_wp2
  go_ret
  exact ⟨rfl, KW.out⟩
set_option maxHeartbeats 2000000 in
theorem specBet_at (p1 p2 s1 s2 s3 s4 : Option Addr) (a1 a2 c1 c2 c3 c4 lo hi lo' hi' : Nat) (p : PD) (d : MD) (who : Nat) (kk : KD) (w : World) (h0 : ProgR w lo hi p1 p2 p) (h1 : KsR w lo' hi' s2 d.cores) (hB : hi ≤ w.heap.size) (hB' : hi' ≤ w.heap.size) (hf : Fits p) (hl : d.cores.length ≤ 1048576) (hk : d.cores[who]? = some kk) :
  Calls Tryz.prog 63 #[.agg #[.slice p1 p.caps.length a1, .slice p2 p.bods.length a2], .agg #[.slice s1 d.codes.length c1, .slice s2 d.cores.length c2, .slice s3 d.mem.length c3, .slice s4 d.tr.length c4], .int .i64 who] w fun e w' => e = .returned (.bool (if kk.st = 0 then (placeV (bodV p who) kk.pc).2 else false)) ∧ Below w.heap.size w w' := by
 have hn := (List.getElem?_eq_some_iff.1 hk).1
 have wl : IntKind.i64.wrap ((d.cores.length : Int) - 1) = (d.cores.length : Int) - 1 := Go.IntWalk.i64_in _ (by omega)
 have b0 : (0 : Int) ≤ (who : Int) := by omega
 have b1 : (who : Int) < (d.cores.length : Int) := by omega
 obtain ⟨W, hW⟩ : ∃ W, (w.alloc (.cells #[.slice p1 p.caps.length a1, .slice p2 p.bods.length a2] 44)).alloc (.cells #[.slice s1 d.codes.length c1, .slice s2 d.cores.length c2, .slice s3 d.mem.length c3, .slice s4 d.tr.length c4] 53) = W := ⟨_, rfl⟩
 obtain ⟨bb, kW⟩ := bb6_new hW
 have HWW := hidB hW
 have KW := hidB kW
 have H0 := hidB h0
 have HF := hidB hf
 obtain ⟨g, o, t1, e1, t2, e2, es, g1, g2, f0, f1, f2, f3, -, -⟩ := (h1.keep (Keep.of_below kW hB')).at hk
 subst es
 obtain ⟨q0, q1, m0, m1, m2, m3, zz⟩ := bb
 have sW := kW.size
 have zg : g < W.heap.size := by omega
 obtain ⟨pc, regs, vw, st⟩ := kk
 simp only at f0 f3 ⊢
 clear hW kW h0 h1 hf f1 f2
 by_cases hst : st = 0
 ·subst hst
  rw [if_pos rfl]
  obtain ⟨⟨pa, pb⟩, hpv⟩ : ∃ x, placeV (bodV p who) pc = x := ⟨_, rfl⟩
  rw [hpv]
  have HPV := hidB hpv
  clear hpv
  go_enter Tryz.func63, Tryz.ntmps63
  go_wp2_with fail
  rw [HWW.out]
  refine (l1In_is _ _ _ true _ (by unfold Plain.inB; simp; omega)).mono ?_
  rintro e w9 ⟨rfl, hw9⟩
  rw [hw9]
  clear hw9 w9
  go_wp2_with fail
  have hne := ext_ne W
  have u0 := Ext.fit q0 (by omega)
  have u1 := Ext.fit q1 (by omega)
  have u2 := Ext.fit m1 (by omega)
  have u3 := Ext.fit f0 zg
  have PL := hidB (fun (V : World) (hV : Below w.heap.size w V) => specPlace_any p1 p2 a1 a2 lo hi p who pc V (ProgR.keep' H0.out (Keep.of_below hV hB)) (by have := hV.size; omega) HF.out)
  rw [HPV.out] at PL
  refine regionExt W (by kernel_rfl) (by kernel_rfl) ?_
  repeat (go_big_quiet_step ((rename_i X; go_at_call 62; refine Calls.mono (PL.out _ (KW.out.trans (X.b.mono (by omega)))) ?_; rintro e w3 ⟨rfl, hb3⟩; exact ⟨rfl, X.on hb3⟩)))
  refine wpQuiet_nil ?_
  rintro w3 ⟨X3, rfl⟩
  have KU := hidB (KW.out.trans (X3.b.mono (by omega)))
  clear hne u0 u1 u2 u3 q0 q1 m0 m1 m2 m3 f0 f3 PL
  go_wp2
  go_ret
  exact ⟨rfl, KU.out⟩
 ·rw [if_neg hst]
  go_enter Tryz.func63, Tryz.ntmps63
  go_wp2_with fail
  rw [HWW.out]
  refine (l1In_is _ _ _ true _ (by unfold Plain.inB; simp; omega)).mono ?_
  rintro e w9 ⟨rfl, hw9⟩
  rw [hw9]
  clear hw9 w9
  have hst' : (st != 0) = true := by simp [hst]
  go_wp2
  go_ret
  exact ⟨rfl, KW.out⟩
end
section
set_option linter.unusedSimpArgs false
set_option linter.unusedVariables false
set_option maxRecDepth 100000
open Go.RowKit
theorem hidS {p : Prop} (h : p) : Hid p := h
theorem take_all {l l' : List Int} {n : Nat} (h1 : n ≤ l.length) (h2 : n ≤ l'.length) (h : ∀ j, j < n → l.getD j 0 = l'.getD j 0) : l.take n = l'.take n := by
 refine List.ext_getElem (by simp; omega) fun i q1 q2 => ?_
 have hi : i < n := by simp at q1; omega
 have q := h i hi
 have e1 : i < l.length := by omega
 have e2 : i < l'.length := by omega
 simpa [List.getD_eq_getElem?_getD, List.getElem?_eq_getElem e1, List.getElem?_eq_getElem e2] using q
theorem take_ne {l l' : List Int} {n j : Nat} (h1 : n ≤ l.length) (h2 : n ≤ l'.length) (hj : j < n) (h : ¬ l.getD j 0 = l'.getD j 0) : ¬ l.take n = l'.take n := by
 intro e
 apply h
 have q : (l.take n)[j]? = (l'.take n)[j]? := by rw [e]
 rw [List.getElem?_take_of_lt hj, List.getElem?_take_of_lt hj] at q
 rw [List.getD_eq_getElem?_getD, List.getD_eq_getElem?_getD, q]
set_option maxHeartbeats 2000000 in
theorem headsN_any (s s' : Option Addr) (l l' : List Int) (c c' lo hi lo' hi' n : Nat) (w : World) (h : IntsR w lo hi s l) (h' : IntsR w lo' hi' s' l') (hB : hi ≤ w.heap.size) (hB' : hi' ≤ w.heap.size) (hn : n ≤ l.length) (hn' : n ≤ l'.length) (hb : l.length ≤ 1000000000) :
  Calls Tryz.prog 86 #[.slice s l.length c, .slice s' l'.length c', .int .i64 n] w fun e w' => e = .returned (.bool (decide (l.take n = l'.take n))) ∧ Below w.heap.size w w' := by
 have HN : Hid (n ≤ l.length) := hn
 have HN' : Hid (n ≤ l'.length) := hn'
 have H : Hid (IntsR w lo hi s l) := h
 have H' : Hid (IntsR w lo' hi' s' l') := h'
 have n1 : ¬ (l.length : Int) < (n : Int) := by omega
 have n2 : ¬ (l'.length : Int) < (n : Int) := by omega
 clear h h' hn hn'
 go_enter Tryz.func86, Tryz.ntmps86
 go_wp2_with fail
 clear n1 n2
 go_loopw [19] (fun i wr => ∃ k : Nat, k ≤ n ∧ i = .int .i64 k ∧ Hid (∀ j, j < k → l.getD j 0 = l'.getD j 0) ∧ Hid (Below w.heap.size w wr)) (fun i _ => n - (intOf i).toNat)
 case atStart => exact ⟨0, Nat.zero_le _, rfl, fun j hj => absurd hj (Nat.not_lt_zero _), Below.refl _ _⟩
 case round =>
  obtain ⟨k, hk, rfl, HJ, HB⟩ := hrel
  by_cases hkn : k < n
  ·have hlt : k < l.length := by have := HN.out; omega
   have hlt' : k < l'.length := by have := HN'.out; omega
   obtain ⟨g, o, hs, e1⟩ := H.out.at hB HB.out hlt
   obtain ⟨g', o', hs', e2⟩ := H'.out.at hB' HB.out hlt'
   subst hs hs'
   generalize hx : l.getD k 0 = x at e1
   generalize hy : l'.getD k 0 = y at e2
   have HX : Hid (l.getD k 0 = x) := hx
   have HY : Hid (l'.getD k 0 = y) := hy
   clear hx hy
   have b0 : (0 : Int) ≤ (k : Int) := by omega
   have b1 : (k : Int) < (l.length : Int) := by omega
   have b2 : (k : Int) < (l'.length : Int) := by omega
   have b3 : (k : Int) < (n : Int) := by omega
   by_cases hxy : x = y
   ·have hd : (x != y) = false := by simp [hxy]
    have HXY : Hid (x = y) := hxy
    clear hxy
    go_wp2_with fail
    go_quiet (fail)
    go_wp2
    go_roundw
    case rel =>
     refine ⟨k + 1, by omega, by go_num, fun j hj => ?_, below_draw HB.out _⟩
     by_cases e : j < k
     ·exact HJ.out j e
     ·have : j = k := by omega
      subst this
      rw [HX.out, HY.out, HXY.out]
    case measure => simp [intOf]; omega
   ·have hd : (x != y) = true := by simp [hxy]
    have HXY : Hid (¬ x = y) := hxy
    clear hxy
    go_wp2_with fail
    go_quiet (fail)
    go_wp2
    go_ret
    refine ⟨retB ?_, below_draw HB.out _⟩
    symm
    rw [decide_eq_false_iff_not]
    exact take_ne HN.out HN'.out hkn (by rw [HX.out, HY.out]; exact HXY.out)
  ·have b3 : ¬ (k : Int) < (n : Int) := by omega
   go_wp2
   go_ret
   refine ⟨retB ?_, HB.out⟩
   symm
   rw [decide_eq_true_iff]
   exact take_all HN.out HN'.out (fun j hj => HJ.out j (by omega))
/- what CoreSame tells of a core and a thread -/
def coreW (pa : Int) (pb : Bool) (k : KD) (t : TD) : Bool :=
 if pa < 0 then false
 else if k.st = 0 then (if pb = true then (decide (k.regs.take 4 = t.regs.take 4) && (decide (t.st = 0) && decide (t.pc = pa))) else true)
 else decide (k.st = t.st)
def coreSV (p : PD) (who : Int) (k : KD) (t : TD) : Bool := coreW (placeV (bodV p who) k.pc).1 (placeV (bodV p who) k.pc).2 k t
theorem cw_neg (pb : Bool) (k : KD) (t : TD) : coreW (-1) pb k t = false := rfl
theorem cw_way {pa : Int} (h : 0 ≤ pa) {k : KD} (hs : k.st = 0) (t : TD) : coreW pa false k t = true := by
 unfold coreW
 rw [if_neg (by omega), if_pos hs]
 rfl
theorem cw_run {pa : Int} (h : 0 ≤ pa) {k : KD} (hs : k.st = 0) (t : TD) : coreW pa true k t = (decide (k.regs.take 4 = t.regs.take 4) && (decide (t.st = 0) && decide (t.pc = pa))) := by
 unfold coreW
 rw [if_neg (by omega), if_pos hs, if_pos rfl]
theorem cw_end {pa : Int} (h : 0 ≤ pa) {k : KD} (hs : ¬ k.st = 0) (pb : Bool) (t : TD) : coreW pa pb k t = decide (k.st = t.st) := by
 unfold coreW
 rw [if_neg (by omega), if_neg hs]
theorem placeV_neg (l : List I5) (q : Int) : (placeV l q).1 = -1 ∨ 0 ≤ (placeV l q).1 := by
 unfold placeV
 split
 ·right; simp
 ·left; rfl
theorem RecsR.thr {w wr : World} {lo hi : Nat} {s : Option Addr} {l : List TD} (h : RecsR w lo hi s (l.map TD.rec3)) (hB : hi ≤ w.heap.size) (hb : Below w.heap.size w wr) {k : Nat} {t : TD} (hk : l[k]? = some t) : ∃ g o s' c', s = some ⟨g, o, none⟩ ∧ g < w.heap.size ∧ wr.cell? ⟨g, o + k * 3, none⟩ = some (.int .i64 t.pc) ∧ wr.cell? ⟨g, o + k * 3 + 1, none⟩ = some (.slice s' t.regs.length c') ∧ wr.cell? ⟨g, o + k * 3 + 2, none⟩ = some (.int .i64 t.st) ∧ IntsR wr lo hi s' t.regs := by
 rcases h with h | ⟨g, o, hs, h1, h2, hc⟩
 ·have : l = [] := by simpa using h
  subst this
  simp at hk
 ·obtain ⟨s', c', q1, q2, q3, q4⟩ := hc k t.rec3 (by rw [List.getElem?_map, hk]; rfl)
  have cc : ∀ j, wr.cell? ⟨g, j, none⟩ = w.cell? ⟨g, j, none⟩ := fun j => hb.cell (p := ⟨g, j, none⟩) (by show g < _; omega)
  exact ⟨g, o, s', c', hs, by omega, (cc _).trans q1, (cc _).trans q2, (cc _).trans q3, q4.keep (Keep.of_below hb hB)⟩
/- the boxes of CoreSame: program, machine, source -/
structure Bs9 (V : World) (z : Nat) (p0 p1 m0 m1 m2 m3 s0 s1 s2 : Value) : Prop where
 p0 : V.cell? ⟨z, 0, none⟩ = some p0
 p1 : V.cell? ⟨z, 1, none⟩ = some p1
 m0 : V.cell? ⟨z + 1, 0, none⟩ = some m0
 m1 : V.cell? ⟨z + 1, 1, none⟩ = some m1
 m2 : V.cell? ⟨z + 1, 2, none⟩ = some m2
 m3 : V.cell? ⟨z + 1, 3, none⟩ = some m3
 s0 : V.cell? ⟨z + 1 + 1, 0, none⟩ = some s0
 s1 : V.cell? ⟨z + 1 + 1, 1, none⟩ = some s1
 s2 : V.cell? ⟨z + 1 + 1, 2, none⟩ = some s2
 z : z + 1 + 1 < V.heap.size
theorem Bs9.below {V V' : World} {z : Nat} {p0 p1 m0 m1 m2 m3 s0 s1 s2 : Value} (h : Bs9 V z p0 p1 m0 m1 m2 m3 s0 s1 s2) (hb : Below V.heap.size V V') : Bs9 V' z p0 p1 m0 m1 m2 m3 s0 s1 s2 := by
 have hz := h.z
 have hs := hb.size
 have A : ∀ b o, b ≤ z + 1 + 1 → V'.cell? ⟨b, o, none⟩ = V.cell? ⟨b, o, none⟩ := fun b o h => hb.cell (p := ⟨b, o, none⟩) (by show b < _; omega)
 exact ⟨(A _ _ (by omega)).trans h.p0, (A _ _ (by omega)).trans h.p1, (A _ _ (by omega)).trans h.m0, (A _ _ (by omega)).trans h.m1, (A _ _ (by omega)).trans h.m2, (A _ _ (by omega)).trans h.m3, (A _ _ (by omega)).trans h.s0, (A _ _ (by omega)).trans h.s1, (A _ _ (by omega)).trans h.s2, by omega⟩
theorem bs9_new {w W : World} {p0 p1 m0 m1 m2 m3 s0 s1 s2 : Value} {T0 T1 T2 : TypeId} (hW : ((w.alloc (.cells #[p0, p1] T0)).alloc (.cells #[m0, m1, m2, m3] T1)).alloc (.cells #[s0, s1, s2] T2) = W) : Bs9 W w.heap.size p0 p1 m0 m1 m2 m3 s0 s1 s2 ∧ Below w.heap.size w W := by
 subst hW
 refine ⟨⟨?_, ?_, ?_, ?_, ?_, ?_, ?_, ?_, ?_, ?_⟩, ((((Below.refl _ _).alloc (Nat.le_refl _) _).alloc (by simp) _).alloc (by simp; omega) _)⟩
 all_goals simp [go_sem]
/- the boxes of the core and of the thread -/
structure CutS (W : World) (c0 c1 c2 c3 t0 t1 t2 : Value) (bc bt : Nat) (wx : World) : Prop where
 c0 : wx.cell? ⟨bc, 0, none⟩ = some c0
 c1 : wx.cell? ⟨bc, 1, none⟩ = some c1
 c2 : wx.cell? ⟨bc, 2, none⟩ = some c2
 c3 : wx.cell? ⟨bc, 3, none⟩ = some c3
 t0 : wx.cell? ⟨bt, 0, none⟩ = some t0
 t1 : wx.cell? ⟨bt, 1, none⟩ = some t1
 t2 : wx.cell? ⟨bt, 2, none⟩ = some t2
 cl : bc < wx.heap.size
 tl : bt < wx.heap.size
 b : Below W.heap.size W wx
theorem CutS.below {W wx V' : World} {c0 c1 c2 c3 t0 t1 t2 : Value} {bc bt : Nat} (h : CutS W c0 c1 c2 c3 t0 t1 t2 bc bt wx) (hb : Below wx.heap.size wx V') : CutS W c0 c1 c2 c3 t0 t1 t2 bc bt V' := by
 have hs := hb.size
 have h1 := h.cl
 have h2 := h.tl
 have A : ∀ o, V'.cell? ⟨bc, o, none⟩ = wx.cell? ⟨bc, o, none⟩ := fun o => hb.cell (p := ⟨bc, o, none⟩) h1
 have B : ∀ o, V'.cell? ⟨bt, o, none⟩ = wx.cell? ⟨bt, o, none⟩ := fun o => hb.cell (p := ⟨bt, o, none⟩) h2
 exact ⟨(A _).trans h.c0, (A _).trans h.c1, (A _).trans h.c2, (A _).trans h.c3, (B _).trans h.t0, (B _).trans h.t1, (B _).trans h.t2, by omega, by omega, h.b.trans (hb.mono h.b.size)⟩
set_option maxHeartbeats 4000000 in
theorem implCore_any (p1 p2 s1 s2 s3 s4 t1 t2 t3 : Option Addr) (a1 a2 c1 c2 c3 c4 e1 e2 e3 lo hi lo' hi' lo2 hi2 : Nat) (p : PD) (d : MD) (sd : SD) (who : Nat) (kk : KD) (t : TD) (w : World) (h0 : ProgR w lo hi p1 p2 p) (h1 : KsR w lo' hi' s2 d.cores) (h2 : RecsR w lo2 hi2 t1 (sd.ths.map TD.rec3)) (hB : hi ≤ w.heap.size) (hB' : hi' ≤ w.heap.size) (hB2 : hi2 ≤ w.heap.size) (hf : Fits p) (hl : d.cores.length ≤ 1048576) (hl2 : sd.ths.length ≤ 1048576) (hk : d.cores[who]? = some kk) (ht : sd.ths[who]? = some t) (hkr : 4 ≤ kk.regs.length) (htr : 4 ≤ t.regs.length) (hkb : kk.regs.length ≤ 1000000000) (htb : t.regs.length ≤ 1000000000) (hst : kk.st = 0 ∨ kk.st = 1 ∨ kk.st = 2) :
  Calls Tryz.prog 40 #[.agg #[.slice p1 p.caps.length a1, .slice p2 p.bods.length a2], .agg #[.slice s1 d.codes.length c1, .slice s2 d.cores.length c2, .slice s3 d.mem.length c3, .slice s4 d.tr.length c4], .agg #[.slice t1 sd.ths.length e1, .slice t2 sd.chs.length e2, .slice t3 sd.tr.length e3], .int .i64 who] w fun e w' => e = .returned (.bool (coreSV p who kk t)) ∧ Below w.heap.size w w' := by
 have hn := (List.getElem?_eq_some_iff.1 hk).1
 have hn2 := (List.getElem?_eq_some_iff.1 ht).1
 have b0 : (0 : Int) ≤ (who : Int) := by omega
 have b1 : (who : Int) < (d.cores.length : Int) := by omega
 have b2 : (who : Int) < (sd.ths.length : Int) := by omega
 have b3 : ¬ (sd.ths.length : Int) ≤ (who : Int) := by omega
 obtain ⟨W, hW⟩ : ∃ W, ((w.alloc (.cells #[.slice p1 p.caps.length a1, .slice p2 p.bods.length a2] 44)).alloc (.cells #[.slice s1 d.codes.length c1, .slice s2 d.cores.length c2, .slice s3 d.mem.length c3, .slice s4 d.tr.length c4] 53)).alloc (.cells #[.slice t1 sd.ths.length e1, .slice t2 sd.chs.length e2, .slice t3 sd.tr.length e3] 58) = W := ⟨_, rfl⟩
 obtain ⟨bb, kW⟩ := bs9_new hW
 have HWW := hidS hW
 have BB := hidS bb
 have KW := hidS kW
 have sW := kW.size
 have BET := hidS (fun (V : World) (hV : Below w.heap.size w V) => implBet_at p1 p2 s1 s2 s3 s4 a1 a2 c1 c2 c3 c4 lo hi lo' hi' p d who kk V (ProgR.keep' h0 (Keep.of_below hV hB)) (h1.keep (Keep.of_below hV hB')) (by have := hV.size; omega) (by have := hV.size; omega) hf hl hk)
 obtain ⟨g, o, r1, x1, r2, x2, es, g1, g2, f0, f1, f2, f3, f4, -⟩ := (h1.keep (Keep.of_below kW hB')).at hk
 obtain ⟨g', o', r3, x3, es', g3, f5, f6, f7, f8⟩ := h2.thr hB2 kW ht
 subst es es'
 have PL := hidS (fun (V : World) (hV : Below w.heap.size w V) => implPlace_any p1 p2 a1 a2 lo hi p who kk.pc V (ProgR.keep' h0 (Keep.of_below hV hB)) (by have := hV.size; omega) hf)
 have hneg := placeV_neg (bodV p who) kk.pc
 have hcv : coreSV p who kk t = coreW (placeV (bodV p who) kk.pc).1 (placeV (bodV p who) kk.pc).2 kk t := rfl
 rw [hcv]
 obtain ⟨⟨pa, pb⟩, hpv⟩ : ∃ x, placeV (bodV p who) kk.pc = x := ⟨_, rfl⟩
 rw [hpv] at PL BET hneg ⊢
 simp only at PL BET hneg ⊢
 obtain ⟨cw, hcw⟩ : ∃ b, coreW pa pb kk t = b := ⟨_, rfl⟩
 rw [hcw]
 have CW := hidS hcw
 clear hcw
 have F4 := hidS f4
 have F8 := hidS f8
 have zg : g < W.heap.size := by omega
 have zg' : g' < W.heap.size := by omega
 obtain ⟨q0, q1, m0, m1, m2, m3, y0, y1, y2, zz⟩ := bb
 clear hW kW h0 h1 h2 hf hcv hpv f4 f8 hk ht
 have n1 : ¬ w.heap.size + 1 = W.heap.size := by omega
 have n2 : ¬ W.heap.size = w.heap.size + 1 := by omega
 have n3 : ¬ w.heap.size + 1 + 1 = W.heap.size := by omega
 have n4 : ¬ W.heap.size = w.heap.size + 1 + 1 := by omega
 have n5 : ¬ g = W.heap.size := by omega
 have n6 : ¬ W.heap.size = g := by omega
 have n7 : ¬ g' = W.heap.size := by omega
 have n8 : ¬ W.heap.size = g' := by omega
 have n9 : ¬ w.heap.size = W.heap.size := by omega
 have m5 : ¬ g = W.heap.size + 1 := by omega
 have m6 : ¬ W.heap.size + 1 = g := by omega
 have m7 : ¬ g' = W.heap.size + 1 := by omega
 have m8 : ¬ W.heap.size + 1 = g' := by omega
 go_enter Tryz.func40, Tryz.ntmps40
 go_wp2_with fail
 rw [HWW.out]
 refine (isOneOf_is _ _ true _ (by unfold Plain.oneB; simp; omega)).mono ?_
 rintro e w9 ⟨rfl, hw9⟩
 rw [hw9]
 clear hw9 w9
 go_wp2_with fail
 refine (isOneOf_is _ _ true _ (by unfold Plain.oneB; simp; omega)).mono ?_
 rintro e w9 ⟨rfl, hw9⟩
 rw [hw9]
 clear hw9 w9
 go_upto_region 3 with fail
 go_cut [9, 10] (fun s9 s10 wx => ∃ bc bt, s9 = .pointer (some ⟨bc, 0, none⟩) ∧ s10 = .pointer (some ⟨bt, 0, none⟩) ∧ CutS W (.int .i64 kk.pc) (.slice r1 kk.regs.length x1) (.slice r2 kk.vw.length x2) (.int .i64 kk.st) (.int .i64 t.pc) (.slice r3 t.regs.length x3) (.int .i64 t.st) bc bt wx)
 case first =>
  go_region_held3 (fun w' => w'.cell? ⟨w.heap.size + 1, 1, none⟩ = some (.slice (some ⟨g, o, none⟩) d.cores.length c2) ∧ w'.cell? ⟨w.heap.size + 1 + 1, 0, none⟩ = some (.slice (some ⟨g', o', none⟩) sd.ths.length e1) ∧ w'.cell? ⟨g, o + who * 4, none⟩ = some (.int .i64 kk.pc) ∧ w'.cell? ⟨g, o + who * 4 + 1, none⟩ = some (.slice r1 kk.regs.length x1) ∧ w'.cell? ⟨g, o + who * 4 + 2, none⟩ = some (.slice r2 kk.vw.length x2) ∧ w'.cell? ⟨g, o + who * 4 + 3, none⟩ = some (.int .i64 kk.st) ∧ w'.cell? ⟨g', o' + who * 3, none⟩ = some (.int .i64 t.pc) ∧ w'.cell? ⟨g', o' + who * 3 + 1, none⟩ = some (.slice r3 t.regs.length x3) ∧ w'.cell? ⟨g', o' + who * 3 + 2, none⟩ = some (.int .i64 t.st)) (go_keep) (fail)
  all_goals
   go_wp2_with fail
   go_meet
   refine ⟨_, _, rfl, rfl, ⟨?_, ?_, ?_, ?_, ?_, ?_, ?_, ?_, ?_, ?_⟩⟩
   all_goals first | (simp [go_sem]; done) | (simp; omega) | exact Below.drew (((Below.refl _ _).alloc (Nat.le_refl _) _).alloc (by simp) _) | (repeat (first | with_reducible exact Below.refl _ _ | with_reducible refine Below.drew ?_ | with_reducible refine Below.alloc ?_ (by first | omega | (simp; omega)) _ | with_reducible refine Below.setCell ?_ (by first | omega | exact Nat.le_refl _ | exact Nat.le_succ _ | (simp; done)) _))
 case rest =>
  obtain ⟨bc, bt, rfl, rfl, hcut⟩ := hcut
  have CU := hidS hcut
  have BW := BB.out.below hcut.b
  have HBW := hidS BW
  have KX := hidS (KW.out.trans (hcut.b.mono (by omega)))
  have zx := KX.out.size
  clear q0 q1 m0 m1 m2 m3 y0 y1 y2 f0 f1 f2 f3 f5 f6 f7 n1 n2 n3 n4 n5 n6 n7 n8 n9 m5 m6 m7 m8
  obtain ⟨q0, q1, m0, m1, m2, m3, y0, y1, y2, -⟩ := BW
  obtain ⟨u0, u1, u2, u3, v0, v1, v2, ul, vl, -⟩ := hcut
  go_wp2_with fail
  refine Calls.mono (PL.out wc KX.out) ?_
  rintro e w1 ⟨rfl, hb1⟩
  have BW1 := HBW.out.below hb1
  have CU1 := CU.out.below hb1
  have K1 := hidS (KX.out.trans (hb1.mono zx))
  have HB1 := hidS BW1
  have HC1 := hidS CU1
  have z1 := K1.out.size
  clear q0 q1 m0 m1 m2 m3 y0 y1 y2 u0 u1 u2 u3 v0 v1 v2 ul vl hb1
  obtain ⟨q0, q1, m0, m1, m2, m3, y0, y1, y2, -⟩ := BW1
  obtain ⟨u0, u1, u2, u3, v0, v1, v2, ul, vl, -⟩ := CU1
  rcases hneg with hpa | hpa
  ·subst hpa
   go_wp2
   go_ret
   exact ⟨retB ((cw_neg _ _ _).symm.trans CW.out), K1.out⟩
  have HPA := hidS hpa
  have hp1 : (pa == -1) = false := by simp; omega
  rcases hst with hst | hst
  ·rw [hst] at u3
   have BET2 := hidS (BET.out w1 K1.out)
   rw [if_pos hst] at BET2
   have HS0 := hidS hst
   clear hst
   go_wp2_with fail
   refine Calls.mono BET2.out ?_
   rintro e w2 ⟨rfl, hb2⟩
   have CU2 := HC1.out.below hb2
   have K2 := hidS (K1.out.trans (hb2.mono z1))
   have HC2 := hidS CU2
   have z2 := K2.out.size
   clear q0 q1 m0 m1 m2 m3 y0 y1 y2 u0 u1 u2 u3 v0 v1 v2 ul vl hb2
   obtain ⟨u0, u1, u2, u3, v0, v1, v2, ul, vl, ub⟩ := CU2
   cases pb
   ·go_wp2
    go_ret
    exact ⟨retB ((cw_way HPA.out HS0.out _).symm.trans CW.out), K2.out⟩
   have FIN := hidS ((cw_run HPA.out HS0.out t).symm.trans CW.out)
   have HDS := hidS (headsN_any r1 r3 kk.regs t.regs x1 x3 _ _ _ _ 4 w2 (F4.out.keep (Keep.of_below ub (by omega))) (F8.out.keep (Keep.of_below ub (by omega))) (by have := ub.size; omega) (by have := ub.size; omega) hkr htr hkb)
   clear ub
   by_cases e1 : t.st = 0
   ·rw [e1] at v2
    by_cases e2 : t.pc = pa
    ·rw [e2] at v0
     have hee : (pa == pa) = true := by simp
     go_wp2_with fail
     refine Calls.mono HDS.out ?_
     rintro e w3 ⟨rfl, hb3⟩
     have K3 := hidS (K2.out.trans (hb3.mono z2))
     clear hb3
     go_wp2
     go_ret
     exact ⟨retB (Eq.trans (by simp [e1, e2]) FIN.out), K3.out⟩
    ·have hee : (t.pc == pa) = false := by simp [e2]
     go_wp2
     go_ret
     exact ⟨retB (Eq.trans (by simp [e2]) FIN.out), K2.out⟩
   ·have hee : (t.st == 0) = false := by simp [e1]
    go_wp2
    go_ret
    exact ⟨retB (Eq.trans (by simp [e1]) FIN.out), K2.out⟩
  ·have hs0 : ¬ kk.st = 0 := by omega
   have FIN := hidS ((cw_end HPA.out hs0 pb t).symm.trans CW.out)
   have fin : (t.st == kk.st) = decide (kk.st = t.st) := by
    by_cases e : kk.st = t.st
    ·simp [e]
    ·have e' : ¬ t.st = kk.st := fun q => e q.symm
     simp [e, e']
   rcases hst with hst | hst
   ·have FI2 := hidS (fin.trans FIN.out)
    clear fin
    rw [hst] at u3 FI2
    clear hst hs0
    go_wp2
    go_ret
    exact ⟨retB FI2.out, K1.out⟩
   ·have FI2 := hidS (fin.trans FIN.out)
    clear fin
    rw [hst] at u3 FI2
    clear hst hs0
    go_wp2
    go_ret
    exact ⟨retB FI2.out, K1.out⟩
set_option maxHeartbeats 4000000 in
theorem specCore_any (p1 p2 s1 s2 s3 s4 t1 t2 t3 : Option Addr) (a1 a2 c1 c2 c3 c4 e1 e2 e3 lo hi lo' hi' lo2 hi2 : Nat) (p : PD) (d : MD) (sd : SD) (who : Nat) (kk : KD) (t : TD) (w : World) (h0 : ProgR w lo hi p1 p2 p) (h1 : KsR w lo' hi' s2 d.cores) (h2 : RecsR w lo2 hi2 t1 (sd.ths.map TD.rec3)) (hB : hi ≤ w.heap.size) (hB' : hi' ≤ w.heap.size) (hB2 : hi2 ≤ w.heap.size) (hf : Fits p) (hl : d.cores.length ≤ 1048576) (hl2 : sd.ths.length ≤ 1048576) (hk : d.cores[who]? = some kk) (ht : sd.ths[who]? = some t) (hkr : 4 ≤ kk.regs.length) (htr : 4 ≤ t.regs.length) (hkb : kk.regs.length ≤ 1000000000) (htb : t.regs.length ≤ 1000000000) (hst : kk.st = 0 ∨ kk.st = 1 ∨ kk.st = 2) :
  Calls Tryz.prog 27 #[.agg #[.slice p1 p.caps.length a1, .slice p2 p.bods.length a2], .agg #[.slice s1 d.codes.length c1, .slice s2 d.cores.length c2, .slice s3 d.mem.length c3, .slice s4 d.tr.length c4], .agg #[.slice t1 sd.ths.length e1, .slice t2 sd.chs.length e2, .slice t3 sd.tr.length e3], .int .i64 who] w fun e w' => e = .returned (.bool (coreSV p who kk t)) ∧ Below w.heap.size w w' := by
 have hn := (List.getElem?_eq_some_iff.1 hk).1
 have hn2 := (List.getElem?_eq_some_iff.1 ht).1
 have wl : IntKind.i64.wrap ((d.cores.length : Int) - 1) = (d.cores.length : Int) - 1 := Go.IntWalk.i64_in _ (by omega)
 have b0 : (0 : Int) ≤ (who : Int) := by omega
 have b1 : (who : Int) < (d.cores.length : Int) := by omega
 have b2 : (who : Int) < (sd.ths.length : Int) := by omega
 have b3 : ¬ (sd.ths.length : Int) ≤ (who : Int) := by omega
 obtain ⟨W, hW⟩ : ∃ W, ((w.alloc (.cells #[.slice p1 p.caps.length a1, .slice p2 p.bods.length a2] 44)).alloc (.cells #[.slice s1 d.codes.length c1, .slice s2 d.cores.length c2, .slice s3 d.mem.length c3, .slice s4 d.tr.length c4] 53)).alloc (.cells #[.slice t1 sd.ths.length e1, .slice t2 sd.chs.length e2, .slice t3 sd.tr.length e3] 58) = W := ⟨_, rfl⟩
 obtain ⟨bb, kW⟩ := bs9_new hW
 have HWW := hidS hW
 have BB := hidS bb
 have KW := hidS kW
 have sW := kW.size
 have BET := hidS (fun (V : World) (hV : Below w.heap.size w V) => specBet_at p1 p2 s1 s2 s3 s4 a1 a2 c1 c2 c3 c4 lo hi lo' hi' p d who kk V (ProgR.keep' h0 (Keep.of_below hV hB)) (h1.keep (Keep.of_below hV hB')) (by have := hV.size; omega) (by have := hV.size; omega) hf hl hk)
 obtain ⟨g, o, r1, x1, r2, x2, es, g1, g2, f0, f1, f2, f3, f4, -⟩ := (h1.keep (Keep.of_below kW hB')).at hk
 obtain ⟨g', o', r3, x3, es', g3, f5, f6, f7, f8⟩ := h2.thr hB2 kW ht
 subst es es'
 have PL := hidS (fun (V : World) (hV : Below w.heap.size w V) => specPlace_any p1 p2 a1 a2 lo hi p who kk.pc V (ProgR.keep' h0 (Keep.of_below hV hB)) (by have := hV.size; omega) hf)
 have hneg := placeV_neg (bodV p who) kk.pc
 have hcv : coreSV p who kk t = coreW (placeV (bodV p who) kk.pc).1 (placeV (bodV p who) kk.pc).2 kk t := rfl
 rw [hcv]
 obtain ⟨⟨pa, pb⟩, hpv⟩ : ∃ x, placeV (bodV p who) kk.pc = x := ⟨_, rfl⟩
 rw [hpv] at PL BET hneg ⊢
 simp only at PL BET hneg ⊢
 obtain ⟨cw, hcw⟩ : ∃ b, coreW pa pb kk t = b := ⟨_, rfl⟩
 rw [hcw]
 have CW := hidS hcw
 clear hcw
 have F4 := hidS f4
 have F8 := hidS f8
 have zg : g < W.heap.size := by omega
 have zg' : g' < W.heap.size := by omega
 obtain ⟨q0, q1, m0, m1, m2, m3, y0, y1, y2, zz⟩ := bb
 clear hW kW h0 h1 h2 hf hcv hpv f4 f8 hk ht
 have n1 : ¬ w.heap.size + 1 = W.heap.size := by omega
 have n2 : ¬ W.heap.size = w.heap.size + 1 := by omega
 have n3 : ¬ w.heap.size + 1 + 1 = W.heap.size := by omega
 have n4 : ¬ W.heap.size = w.heap.size + 1 + 1 := by omega
 have n5 : ¬ g = W.heap.size := by omega
 have n6 : ¬ W.heap.size = g := by omega
 have n7 : ¬ g' = W.heap.size := by omega
 have n8 : ¬ W.heap.size = g' := by omega
 have n9 : ¬ w.heap.size = W.heap.size := by omega
 have m5 : ¬ g = W.heap.size + 1 := by omega
 have m6 : ¬ W.heap.size + 1 = g := by omega
 have m7 : ¬ g' = W.heap.size + 1 := by omega
 have m8 : ¬ W.heap.size + 1 = g' := by omega
 go_enter Tryz.func27, Tryz.ntmps27
 go_wp2_with fail
 rw [HWW.out]
 refine (l1In_is _ _ _ true _ (by unfold Plain.inB; simp; omega)).mono ?_
 rintro e w9 ⟨rfl, hw9⟩
 rw [hw9]
 clear hw9 w9
 go_upto_region 3 with fail
 go_cut [9, 10] (fun s9 s10 wx => ∃ bc bt, s9 = .pointer (some ⟨bc, 0, none⟩) ∧ s10 = .pointer (some ⟨bt, 0, none⟩) ∧ CutS W (.int .i64 kk.pc) (.slice r1 kk.regs.length x1) (.slice r2 kk.vw.length x2) (.int .i64 kk.st) (.int .i64 t.pc) (.slice r3 t.regs.length x3) (.int .i64 t.st) bc bt wx)
 case first =>
  go_region_held3 (fun w' => w'.cell? ⟨w.heap.size + 1, 1, none⟩ = some (.slice (some ⟨g, o, none⟩) d.cores.length c2) ∧ w'.cell? ⟨w.heap.size + 1 + 1, 0, none⟩ = some (.slice (some ⟨g', o', none⟩) sd.ths.length e1) ∧ w'.cell? ⟨g, o + who * 4, none⟩ = some (.int .i64 kk.pc) ∧ w'.cell? ⟨g, o + who * 4 + 1, none⟩ = some (.slice r1 kk.regs.length x1) ∧ w'.cell? ⟨g, o + who * 4 + 2, none⟩ = some (.slice r2 kk.vw.length x2) ∧ w'.cell? ⟨g, o + who * 4 + 3, none⟩ = some (.int .i64 kk.st) ∧ w'.cell? ⟨g', o' + who * 3, none⟩ = some (.int .i64 t.pc) ∧ w'.cell? ⟨g', o' + who * 3 + 1, none⟩ = some (.slice r3 t.regs.length x3) ∧ w'.cell? ⟨g', o' + who * 3 + 2, none⟩ = some (.int .i64 t.st)) (go_keep) (fail)
  all_goals
   go_wp2_with fail
   go_meet
   refine ⟨_, _, rfl, rfl, ⟨?_, ?_, ?_, ?_, ?_, ?_, ?_, ?_, ?_, ?_⟩⟩
   all_goals first | (simp [go_sem]; done) | (simp; omega) | exact Below.drew (((Below.refl _ _).alloc (Nat.le_refl _) _).alloc (by simp) _) | (repeat (first | with_reducible exact Below.refl _ _ | with_reducible refine Below.drew ?_ | with_reducible refine Below.alloc ?_ (by first | omega | (simp; omega)) _ | with_reducible refine Below.setCell ?_ (by first | omega | exact Nat.le_refl _ | exact Nat.le_succ _ | (simp; done)) _))
 case rest =>
  obtain ⟨bc, bt, rfl, rfl, hcut⟩ := hcut
  have CU := hidS hcut
  have BW := BB.out.below hcut.b
  have HBW := hidS BW
  have KX := hidS (KW.out.trans (hcut.b.mono (by omega)))
  have zx := KX.out.size
  clear q0 q1 m0 m1 m2 m3 y0 y1 y2 f0 f1 f2 f3 f5 f6 f7 n1 n2 n3 n4 n5 n6 n7 n8 n9 m5 m6 m7 m8
  obtain ⟨q0, q1, m0, m1, m2, m3, y0, y1, y2, -⟩ := BW
  obtain ⟨u0, u1, u2, u3, v0, v1, v2, ul, vl, -⟩ := hcut
  go_wp2_with fail
  refine Calls.mono (PL.out wc KX.out) ?_
  rintro e w1 ⟨rfl, hb1⟩
  have BW1 := HBW.out.below hb1
  have CU1 := CU.out.below hb1
  have K1 := hidS (KX.out.trans (hb1.mono zx))
  have HB1 := hidS BW1
  have HC1 := hidS CU1
  have z1 := K1.out.size
  clear q0 q1 m0 m1 m2 m3 y0 y1 y2 u0 u1 u2 u3 v0 v1 v2 ul vl hb1
  obtain ⟨q0, q1, m0, m1, m2, m3, y0, y1, y2, -⟩ := BW1
  obtain ⟨u0, u1, u2, u3, v0, v1, v2, ul, vl, -⟩ := CU1
  rcases hneg with hpa | hpa
  ·subst hpa
   go_wp2
   go_ret
   exact ⟨retB ((cw_neg _ _ _).symm.trans CW.out), K1.out⟩
  have HPA := hidS hpa
  have hp1 : ¬ pa < 0 := by omega
  have hk4 : ¬ (kk.regs.length : Int) < 4 := by omega
  have ht4 : ¬ (t.regs.length : Int) < 4 := by omega
  by_cases hst0 : kk.st = 0
  ·have BET2 := hidS (BET.out w1 K1.out)
   rw [if_pos hst0] at BET2
   rw [hst0] at u3
   have HS0 := hidS hst0
   clear hst hst0
   go_wp2_with fail
   refine Calls.mono BET2.out ?_
   rintro e w2 ⟨rfl, hb2⟩
   have CU2 := HC1.out.below hb2
   have K2 := hidS (K1.out.trans (hb2.mono z1))
   have HC2 := hidS CU2
   have z2 := K2.out.size
   clear q0 q1 m0 m1 m2 m3 y0 y1 y2 u0 u1 u2 u3 v0 v1 v2 ul vl hb2
   obtain ⟨u0, u1, u2, u3, v0, v1, v2, ul, vl, ub⟩ := CU2
   cases pb
   ·go_wp2
    go_ret
    exact ⟨retB ((cw_way HPA.out HS0.out _).symm.trans CW.out), K2.out⟩
   have FIN := hidS ((cw_run HPA.out HS0.out t).symm.trans CW.out)
   have R1 := hidS (F4.out.keep (Keep.of_below ub (by omega)))
   have R3 := hidS (F8.out.keep (Keep.of_below ub (by omega)))
   have i1 : hi' ≤ w2.heap.size := by have := ub.size; omega
   have i3 : hi2 ≤ w2.heap.size := by have := ub.size; omega
   clear ub u0 u1 u2 u3 v0 v1 v2 ul vl
   go_wp2_with fail
   go_loopw [13] (fun i wr => ∃ k : Nat, k ≤ 4 ∧ i = .int .i64 k ∧ Hid (∀ j, j < k → kk.regs.getD j 0 = t.regs.getD j 0) ∧ Hid (Below w2.heap.size w2 wr)) (fun i _ => 4 - (intOf i).toNat)
   case atStart => exact ⟨0, Nat.zero_le _, rfl, fun j hj => absurd hj (Nat.not_lt_zero _), Below.refl _ _⟩
   case round =>
    obtain ⟨k, hk, rfl, HJ, HB⟩ := hrel
    obtain ⟨u0, u1, u2, u3, v0, v1, v2, ul, vl, -⟩ := HC2.out.below HB.out
    by_cases hk4' : k < 4
    ·have hlt : k < kk.regs.length := by omega
     have hlt' : k < t.regs.length := by omega
     obtain ⟨gx, ox, hsx, ex1⟩ := R1.out.at i1 HB.out hlt
     obtain ⟨gy, oy, hsy, ex2⟩ := R3.out.at i3 HB.out hlt'
     subst hsx hsy
     generalize hx : kk.regs.getD k 0 = x at ex1
     generalize hy : t.regs.getD k 0 = y at ex2
     have HX := hidS hx
     have HY := hidS hy
     clear hx hy
     have c0 : (0 : Int) ≤ (k : Int) := by omega
     have c1' : (k : Int) < (kk.regs.length : Int) := by omega
     have c2' : (k : Int) < (t.regs.length : Int) := by omega
     have c3' : (k : Int) < 4 := by omega
     by_cases hxy : x = y
     ·have hd : (x != y) = false := by simp [hxy]
      have HXY := hidS hxy
      clear hxy
      go_wp2_with fail
      go_quiet (fail)
      go_wp2
      go_roundw
      case rel =>
       refine ⟨k + 1, by omega, by go_num, fun j hj => ?_, below_draw HB.out _⟩
       by_cases e : j < k
       ·exact HJ.out j e
       ·have : j = k := by omega
        subst this
        rw [HX.out, HY.out, HXY.out]
      case measure => simp [intOf]; omega
     ·have hd : (x != y) = true := by simp [hxy]
      have HXY := hidS hxy
      clear hxy
      go_wp2_with fail
      go_quiet (fail)
      go_wp2
      go_ret
      refine ⟨retB ?_, K2.out.trans ((below_draw HB.out _).mono z2)⟩
      rw [← FIN.out, decide_eq_false (take_ne hkr htr hk4' (by rw [HX.out, HY.out]; exact HXY.out)), Bool.false_and]
    ·have c3' : ¬ (k : Int) < 4 := by omega
     have tk : decide (kk.regs.take 4 = t.regs.take 4) = true := decide_eq_true (take_all hkr htr (fun j hj => HJ.out j (by omega)))
     rw [tk, Bool.true_and] at FIN
     clear tk
     have K3 := hidS (K2.out.trans (HB.out.mono z2))
     by_cases e1 : t.st = 0
     ·rw [e1] at v2
      by_cases e2 : t.pc = pa
      ·rw [e2] at v0
       have hee : (pa == pa) = true := by simp
       go_wp2
       go_ret
       exact ⟨retB (Eq.trans (by simp [e1, e2]) FIN.out), K3.out⟩
      ·have hee : (t.pc == pa) = false := by simp [e2]
       go_wp2
       go_ret
       exact ⟨retB (Eq.trans (by simp [e2]) FIN.out), K3.out⟩
     ·have hee : (t.st == 0) = false := by simp [e1]
      go_wp2
      go_ret
      exact ⟨retB (Eq.trans (by simp [e1]) FIN.out), K3.out⟩
  ·have FIN := hidS ((cw_end HPA.out hst0 pb t).symm.trans CW.out)
   have hne0 : (kk.st != 0) = true := by simp [hst0]
   have fin : (kk.st == t.st) = decide (kk.st = t.st) := by
    by_cases e : kk.st = t.st
    ·simp [e]
    ·simp [e]
   have FI2 := hidS (fin.trans FIN.out)
   clear fin
   go_wp2
   go_ret
   exact ⟨retB FI2.out, K1.out⟩
end
section
set_option linter.unusedSimpArgs false
set_option linter.unusedVariables false
set_option maxRecDepth 100000
open Go.RowKit
def nk (l : List ND) : List (Int × Int) := l.map (fun n => (n.who, n.v))
theorem nk_len (l : List ND) : (nk l).length = l.length := by simp [nk]
theorem nk_all {l l' : List ND} (hn : l.length = l'.length) (h : ∀ (j : Nat) (a b : ND), l[j]? = some a → l'[j]? = some b → a.who = b.who ∧ a.v = b.v) : nk l = nk l' := by
 refine List.ext_getElem (by simp [nk_len, hn]) fun i h1 h2 => ?_
 rw [nk_len] at h1 h2
 have q := h i _ _ (List.getElem?_eq_getElem h1) (List.getElem?_eq_getElem h2)
 simp [nk, q.1, q.2]
theorem nk_ne {l l' : List ND} {k : Nat} {a b : ND} (h : l[k]? = some a) (h' : l'[k]? = some b) (hn : ¬ (a.who = b.who ∧ a.v = b.v)) : ¬ nk l = nk l' := by
 intro e
 have q : (nk l)[k]? = (nk l')[k]? := by rw [e]
 simp [nk, h, h'] at q
 exact hn q
theorem NtsR.at {w wr : World} {lo hi : Nat} {s : Option Addr} {l : List ND} (h : NtsR w lo hi s l) (hB : hi ≤ w.heap.size) (hb : Below w.heap.size w wr) {k : Nat} {n : ND} (hk : l[k]? = some n) : ∃ g o, s = some ⟨g, o, none⟩ ∧ g < w.heap.size ∧ wr.cell? ⟨g, o + k * 2, none⟩ = some (.int .i64 n.who) ∧ wr.cell? ⟨g, o + k * 2 + 1, none⟩ = some (.int .i64 n.v) := by
 rcases h with rfl | ⟨g, o, hs, h1, h2, hc⟩
 ·simp at hk
 ·exact ⟨g, o, hs, by omega, (hb.cell (p := ⟨g, o + k * 2, none⟩) (by show g < _; omega)).trans (hc k n hk).1, (hb.cell (p := ⟨g, o + k * 2 + 1, none⟩) (by show g < _; omega)).trans (hc k n hk).2⟩
theorem hidN {p : Prop} (h : p) : Hid p := h
set_option maxHeartbeats 2000000 in
theorem headsT_any (s s' : Option Addr) (l l' : List ND) (c c' lo hi lo' hi' : Nat) (w : World) (h : NtsR w lo hi s l) (h' : NtsR w lo' hi' s' l') (hB : hi ≤ w.heap.size) (hB' : hi' ≤ w.heap.size) (hn : l.length = l'.length) (hb : l.length ≤ 1000000000) :
  Calls Tryz.prog 82 #[.slice s l.length c, .slice s' l'.length c', .int .i64 l.length] w fun e w' => e = .returned (.bool (decide (nk l = nk l'))) ∧ Below w.heap.size w w' := by
 have HN : Hid (l.length = l'.length) := hn
 have H : Hid (NtsR w lo hi s l) := h
 have H' : Hid (NtsR w lo' hi' s' l') := h'
 have n1 : ¬ (l.length : Int) < (l.length : Int) := by omega
 have n2 : ¬ (l'.length : Int) < (l.length : Int) := by omega
 clear h h' hn
 go_enter Tryz.func82, Tryz.ntmps82
 go_wp2_with fail
 clear n1 n2
 go_loopw [19] (fun i wr => ∃ k : Nat, k ≤ l.length ∧ i = .int .i64 k ∧ Hid (∀ (j : Nat) (a b : ND), j < k → l[j]? = some a → l'[j]? = some b → a.who = b.who ∧ a.v = b.v) ∧ Hid (Below w.heap.size w wr)) (fun i _ => l.length - (intOf i).toNat)
 case atStart => exact ⟨0, Nat.zero_le _, rfl, fun j a b hj => absurd hj (Nat.not_lt_zero _), Below.refl _ _⟩
 case round =>
  obtain ⟨k, hk, rfl, HJ, HB⟩ := hrel
  by_cases hlt : k < l.length
  ·have hlt' : k < l'.length := by have := HN.out; omega
   obtain ⟨x, hx⟩ : ∃ x, l[k]? = some x := ⟨_, List.getElem?_eq_getElem hlt⟩
   obtain ⟨y, hy⟩ : ∃ y, l'[k]? = some y := ⟨_, List.getElem?_eq_getElem hlt'⟩
   obtain ⟨g, o, hs, hg, e1, e2⟩ := H.out.at hB HB.out hx
   obtain ⟨g', o', hs', hg', e3, e4⟩ := H'.out.at hB' HB.out hy
   subst hs hs'
   have HX : Hid (l[k]? = some x) := hx
   have HY : Hid (l'[k]? = some y) := hy
   obtain ⟨x1, x2⟩ := x
   obtain ⟨y1, y2⟩ := y
   simp only at e1 e2 e3 e4
   clear hx hy
   have b0 : (0 : Int) ≤ (k : Int) := by omega
   have b1 : (k : Int) < (l.length : Int) := by omega
   have b2 : (k : Int) < (l'.length : Int) := by omega
   by_cases hxy : x1 = y1 ∧ x2 = y2
   ·obtain ⟨rfl, rfl⟩ := hxy
    go_wp2_with fail
    go_quiet (fail)
    go_wp2
    go_roundw
    case rel =>
     refine ⟨k + 1, by omega, by go_num, fun j a b hj ha hb => ?_, below_draw HB.out _⟩
     by_cases e : j < k
     ·exact HJ.out j a b e ha hb
     ·have : j = k := by omega
      subst this
      rw [HX.out] at ha
      rw [HY.out] at hb
      cases ha
      cases hb
      exact ⟨rfl, rfl⟩
    case measure => simp [intOf]; omega
   ·have HXY := hidN hxy
    by_cases h1 : x1 = y1
    ·have h2 : ¬ x2 = y2 := fun e => hxy ⟨h1, e⟩
     have h3 : (x2 == y2) = false := by simp [h2]
     have H2 := hidN h2
     clear hxy
     subst h1
     go_wp2_with fail
     go_quiet (fail)
     go_wp2
     go_ret
     refine ⟨retB ?_, below_draw HB.out _⟩
     symm
     rw [decide_eq_false_iff_not]
     exact nk_ne HX.out HY.out (fun q => H2.out q.2)
    ·have h3 : (x1 == y1) = false := by simp [h1]
     clear hxy
     go_wp2_with fail
     go_quiet (fail)
     go_wp2
     go_ret
     refine ⟨retB ?_, below_draw HB.out _⟩
     symm
     rw [decide_eq_false_iff_not]
     exact nk_ne HX.out HY.out HXY.out
  ·go_wp2
   go_ret
   refine ⟨retB ?_, HB.out⟩
   symm
   rw [decide_eq_true_iff]
   exact nk_all HN.out (fun j a b ha hb => HJ.out j a b (by have := (List.getElem?_eq_some_iff.1 ha).1; omega) ha hb)
set_option maxHeartbeats 2000000 in
theorem notes_any (s s' : Option Addr) (l l' : List ND) (c c' lo hi lo' hi' : Nat) (w : World) (h : NtsR w lo hi s l) (h' : NtsR w lo' hi' s' l') (hB : hi ≤ w.heap.size) (hB' : hi' ≤ w.heap.size) (hb : l.length ≤ 1000000000) (hb' : l'.length ≤ 1000000000) :
  Calls Tryz.prog 26 #[.slice s l.length c, .slice s' l'.length c'] w fun e w' => e = .returned (.bool (decide (nk l = nk l'))) ∧ Below w.heap.size w w' := by
 have H : Hid (NtsR w lo hi s l) := h
 have H' : Hid (NtsR w lo' hi' s' l') := h'
 clear h h'
 go_enter Tryz.func26, Tryz.ntmps26
 go_wp2_with fail
 go_loopw [5] (fun i wr => ∃ k : Nat, k ≤ l.length ∧ k ≤ l'.length ∧ i = .int .i64 k ∧ Hid (∀ (j : Nat) (a b : ND), j < k → l[j]? = some a → l'[j]? = some b → a.who = b.who ∧ a.v = b.v) ∧ Hid (Below w.heap.size w wr)) (fun i _ => l.length - (intOf i).toNat)
 case atStart => exact ⟨0, Nat.zero_le _, Nat.zero_le _, rfl, fun j a b hj => absurd hj (Nat.not_lt_zero _), Below.refl _ _⟩
 case round =>
  obtain ⟨k, hk, hk', rfl, HJ, HB⟩ := hrel
  by_cases hlt : k < l.length ∧ k < l'.length
  ·obtain ⟨hlt, hlt'⟩ := hlt
   obtain ⟨x, hx⟩ : ∃ x, l[k]? = some x := ⟨_, List.getElem?_eq_getElem hlt⟩
   obtain ⟨y, hy⟩ : ∃ y, l'[k]? = some y := ⟨_, List.getElem?_eq_getElem hlt'⟩
   obtain ⟨g, o, hs, hg, e1, e2⟩ := H.out.at hB HB.out hx
   obtain ⟨g', o', hs', hg', e3, e4⟩ := H'.out.at hB' HB.out hy
   subst hs hs'
   have HX : Hid (l[k]? = some x) := hx
   have HY : Hid (l'[k]? = some y) := hy
   obtain ⟨x1, x2⟩ := x
   obtain ⟨y1, y2⟩ := y
   simp only at e1 e2 e3 e4
   clear hx hy
   have b0 : (0 : Int) ≤ (k : Int) := by omega
   have b1 : (k : Int) < (l.length : Int) := by omega
   have b2 : (k : Int) < (l'.length : Int) := by omega
   by_cases hxy : x1 = y1 ∧ x2 = y2
   ·obtain ⟨rfl, rfl⟩ := hxy
    go_wp2_with fail
    go_quiet (fail)
    go_wp2
    go_roundw
    case rel =>
     refine ⟨k + 1, by omega, by omega, by go_num, fun j a b hj ha hb => ?_, below_draw HB.out _⟩
     by_cases e : j < k
     ·exact HJ.out j a b e ha hb
     ·have : j = k := by omega
      subst this
      rw [HX.out] at ha
      rw [HY.out] at hb
      cases ha
      cases hb
      exact ⟨rfl, rfl⟩
    case measure => simp [intOf]; omega
   ·have HXY := hidN hxy
    by_cases h1 : x1 = y1
    ·have h2 : ¬ x2 = y2 := fun e => hxy ⟨h1, e⟩
     have h3 : (x2 == y2) = false := by simp [h2]
     have H2 := hidN h2
     clear hxy
     subst h1
     go_wp2_with fail
     go_quiet (fail)
     go_wp2
     go_ret
     refine ⟨retB ?_, below_draw HB.out _⟩
     symm
     rw [decide_eq_false_iff_not]
     exact nk_ne HX.out HY.out (fun q => H2.out q.2)
    ·have h3 : (x1 == y1) = false := by simp [h1]
     clear hxy
     go_wp2_with fail
     go_quiet (fail)
     go_wp2
     go_ret
     refine ⟨retB ?_, below_draw HB.out _⟩
     symm
     rw [decide_eq_false_iff_not]
     exact nk_ne HX.out HY.out HXY.out
  ·by_cases hl : l.length = l'.length
   ·have hn : ¬ (k : Int) < (l.length : Int) := by omega
    have hee : ((l.length : Int) == (l'.length : Int)) = true := by simp; omega
    have HL : Hid (l.length = l'.length) := hl
    have HK : Hid (¬ (k < l.length ∧ k < l'.length)) := hlt
    clear hl hlt
    go_wp2
    go_ret
    refine ⟨retB ?_, HB.out⟩
    symm
    rw [decide_eq_true_iff]
    exact nk_all HL.out (fun j a b ha hb => HJ.out j a b (by have := (List.getElem?_eq_some_iff.1 ha).1; have := HK.out; have := HL.out; omega) ha hb)
   ·have hee : ((l.length : Int) == (l'.length : Int)) = false := by simp; omega
    have HL : Hid (¬ l.length = l'.length) := hl
    have fin : decide (nk l = nk l') = false := by
     rw [decide_eq_false_iff_not]
     intro e
     have := congrArg List.length e
     rw [nk_len, nk_len] at this
     exact HL.out this
    by_cases h1 : k < l.length
    ·have a1 : (k : Int) < (l.length : Int) := by omega
     have a2 : ¬ (k : Int) < (l'.length : Int) := by omega
     clear hl hlt
     go_wp2
     go_ret
     exact ⟨by first | exact retB fin.symm | rfl, HB.out⟩
    ·have a1 : ¬ (k : Int) < (l.length : Int) := by omega
     clear hl hlt
     go_wp2
     go_ret
     exact ⟨by first | exact retB fin.symm | rfl, HB.out⟩
theorem alikeT_any (s s' : Option Addr) (l l' : List ND) (c c' lo hi lo' hi' : Nat) (w : World) (h : NtsR w lo hi s l) (h' : NtsR w lo' hi' s' l') (hB : hi ≤ w.heap.size) (hB' : hi' ≤ w.heap.size) (hb : l.length ≤ 1000000000) (hb' : l'.length ≤ 1000000000) :
  Calls Tryz.prog 39 #[.slice s l.length c, .slice s' l'.length c'] w fun e w' => e = .returned (.bool (decide (nk l = nk l'))) ∧ Below w.heap.size w w' := by
 by_cases hn : l.length = l'.length
 ·have he : ((l.length : Int) == (l'.length : Int)) = true := by simp; omega
  have HA : Hid _ := headsT_any s s' l l' c c' lo hi lo' hi' w h h' hB hB' hn hb
  clear hn
  go_enter Tryz.func39, Tryz.ntmps39
  go_wp2_with fail
  refine Calls.mono HA.out ?_
  rintro e w1 ⟨rfl, hb1⟩
  have HB1 : Hid (Below w.heap.size w w1) := hb1
  clear hb1
  go_wp2
  go_ret
  exact ⟨rfl, HB1.out⟩
 ·have he : ((l.length : Int) == (l'.length : Int)) = false := by simp; omega
  have HN : Hid (¬ l.length = l'.length) := hn
  clear hn
  go_enter Tryz.func39, Tryz.ntmps39
  go_wp2
  go_ret
  refine ⟨retB ?_, Below.refl _ _⟩
  symm
  rw [decide_eq_false_iff_not]
  intro e
  have := congrArg List.length e
  rw [nk_len, nk_len] at this
  exact HN.out this
end
section
set_option linter.unusedSimpArgs false
set_option linter.unusedVariables false
set_option maxRecDepth 100000
open Go.RowKit
set_option maxHeartbeats 400000 in
theorem szWrite_all (v : Int) (s : Option Addr) (n c : Nat) (q : Int) (w : World) (hn : n ≤ maxLen) (hq : 0 ≤ q) (hq' : q ≤ 1048576) :
  Calls Tryz.prog 127 #[.agg #[.int .i64 v, .slice s n c], .int .i64 q] w fun e w' => e = .returned (.int .i64 (if q < n then -1 else q - (n : Int))) ∧ Below w.heap.size w w' := by
 by_cases h : q < n
 ·rw [if_pos h]
  go_enter Tryz.func127, Tryz.ntmps127
  go_wp2_with (go_at_call 15; refine (szIntS_any _ _ _ _ _ hn hq hq').mono ?_; rintro e w' ⟨rfl, hw⟩; have hw' := hw.symm; clear hw; subst hw'; rw [if_pos h])
  go_ret
  exact ⟨rfl, (Below.refl _ _).alloc (Nat.le_refl _) _⟩
 ·rw [if_neg h]
  have hnn : ¬ q - (n : Int) < 0 := by omega
  go_enter Tryz.func127, Tryz.ntmps127
  go_wp2_with (go_at_call 15; refine (szIntS_any _ _ _ _ _ hn hq hq').mono ?_; rintro e w' ⟨rfl, hw⟩; have hw' := hw.symm; clear hw; subst hw'; rw [if_neg h])
  go_ret
  exact ⟨rfl, (Below.refl _ _).alloc (Nat.le_refl _) _⟩
set_option maxHeartbeats 1000000 in
theorem szWriteS_any (s : Option Addr) (c lo hi : Nat) (l : List WD) (q : Int) (w : World) (h : WsR w lo hi s l) (hB : hi ≤ w.heap.size) (hn : l.length ≤ maxLen) (hls : ∀ (i : Nat) (t : WD), l[i]? = some t → t.vw.length ≤ maxLen) (hq : 0 ≤ q) (hq' : q ≤ 1048576) :
  Calls Tryz.prog 97 #[.slice s l.length c, .int .i64 q] w fun e w' => (∃ v : Int, e = .returned (.int .i64 v) ∧ (v < 0 ∨ (0 ≤ v ∧ v = q - ((l.length : Int) + szV l)))) ∧ Below w.heap.size w w' := by
 unfold maxLen at hn
 have HLS : Hid (∀ (i : Nat) (t : WD), l[i]? = some t → t.vw.length ≤ maxLen) := hls
 have HC : Hid (WsR w lo hi s l) := h
 clear hls h
 by_cases hb : q < (l.length : Int)
 ·have h1 : q - (l.length : Int) < 0 := by omega
  go_enter Tryz.func97, Tryz.ntmps97
  go_wp2
  go_ret
  exact ⟨⟨-1, rfl, .inl (by omega)⟩, Below.refl _ _⟩
 ·have h1 : ¬ q - (l.length : Int) < 0 := by omega
  go_enter Tryz.func97, Tryz.ntmps97
  go_wp2
  go_loopw [1, 5] (fun a i wr => ∃ (k : Nat) (v : Int), k ≤ l.length ∧ i = .int .i64 k ∧ a = .int .i64 v ∧ 0 ≤ v ∧ v ≤ 1048576 ∧ Below w.heap.size w wr ∧ Hid (v = q - ((l.length : Int) + szV (l.take k)))) (fun _ i _ => l.length - (intOf i).toNat)
  case atStart => exact ⟨0, _, Nat.zero_le _, rfl, rfl, by omega, by omega, Below.refl _ _, show _ = _ by simp [szV]⟩
  case round =>
   obtain ⟨k, v, hk, rfl, rfl, hv, hv', hbl, HD⟩ := hrel
   have HB : Hid (Below w.heap.size w wr) := hbl
   clear hbl
   by_cases hlt : k < l.length
   ·obtain ⟨t, ht⟩ : ∃ t, l[k]? = some t := ⟨_, List.getElem?_eq_getElem hlt⟩
    obtain ⟨g, off, s1, c1, hs, hg1, hg, f0, f1, -⟩ := (HC.out.keep (Keep.of_below HB.out hB)).at ht
    subst hs
    have hm := HLS.out k t ht
    have HT : Hid (szV (l.take (k + 1)) = szV (l.take k) + t.vw.length) := szV_take l k t ht
    obtain ⟨pc, rg⟩ := t
    simp only at f0 f1 hm
    generalize hx : rg.length = n at f1 hm HT
    clear hx ht
    have b0 : (0 : Int) ≤ (k : Int) := by omega
    have b1 : (k : Int) < (l.length : Int) := by omega
    by_cases hvn : v < (n : Int)
    ·go_wp2_with (go_at_call 127; refine (szWrite_all _ _ _ _ _ _ hm hv hv').mono ?_; rintro e w' ⟨rfl, hw⟩; rw [if_pos hvn])
     go_ret
     exact ⟨⟨-1, rfl, .inl (by omega)⟩, HB.out.trans (hw.mono HB.out.size)⟩
    ·have hnn : ¬ v - (n : Int) < 0 := by omega
     go_wp2_with (go_at_call 127; refine (szWrite_all _ _ _ _ _ _ hm hv hv').mono ?_; rintro e w' ⟨rfl, hw⟩; have HW : Hid (Below wr.heap.size wr w') := hw; clear hw; rw [if_neg hvn])
     go_roundw
     case rel =>
      refine ⟨k + 1, _, by omega, by go_num, rfl, by omega, by omega, HB.out.trans (HW.out.mono HB.out.size), ?_⟩
      show _ = _
      rw [HT.out, HD.out]
      omega
     case measure => simp [intOf]; omega
   ·go_wp2
    go_ret
    have : k = l.length := by omega
    subst this
    have hd := HD.out
    rw [List.take_length] at hd
    exact ⟨⟨v, rfl, .inr ⟨hv, hd⟩⟩, HB.out⟩
set_option maxHeartbeats 1000000 in
theorem szWriteSS_any (s : Option Addr) (c lo hi : Nat) (m : List (List WD)) (q : Int) (w : World) (h : MemR w lo hi s m) (hB : hi ≤ w.heap.size) (hls : MLens m) (hq : 0 ≤ q) (hq' : q ≤ 1048576) :
  Calls Tryz.prog 53 #[.slice s m.length c, .int .i64 q] w fun e w' => (∃ v : Int, e = .returned (.int .i64 v) ∧ (v < 0 ∨ (0 ≤ v ∧ v = q - ((m.length : Int) + szR m)))) ∧ Below w.heap.size w w' := by
 have hn := hls.n
 unfold maxLen at hn
 have HLS : Hid (MLens m) := hls
 have HC : Hid (MemR w lo hi s m) := h
 clear hls h
 by_cases hb : q < (m.length : Int)
 ·have h1 : q - (m.length : Int) < 0 := by omega
  go_enter Tryz.func53, Tryz.ntmps53
  go_wp2
  go_ret
  exact ⟨⟨-1, rfl, .inl (by omega)⟩, Below.refl _ _⟩
 ·have h1 : ¬ q - (m.length : Int) < 0 := by omega
  go_enter Tryz.func53, Tryz.ntmps53
  go_wp2
  go_loopw [1, 5] (fun a i wr => ∃ (k : Nat) (v : Int), k ≤ m.length ∧ i = .int .i64 k ∧ a = .int .i64 v ∧ 0 ≤ v ∧ v ≤ 1048576 ∧ Below w.heap.size w wr ∧ Hid (v = q - ((m.length : Int) + szR (m.take k)))) (fun _ i _ => m.length - (intOf i).toNat)
  case atStart => exact ⟨0, _, Nat.zero_le _, rfl, rfl, by omega, by omega, Below.refl _ _, show _ = _ by simp [szR]⟩
  case round =>
   obtain ⟨k, v, hk, rfl, rfl, hv, hv', hbl, HD⟩ := hrel
   have HB : Hid (Below w.heap.size w wr) := hbl
   have hsz := hbl.size
   clear hbl
   by_cases hlt : k < m.length
   ·obtain ⟨t, ht⟩ : ∃ t, m[k]? = some t := ⟨_, List.getElem?_eq_getElem hlt⟩
    obtain ⟨g, off, s1, c1, hs, hg1, hg, f0, f1⟩ := (HC.out.keep (Keep.of_below HB.out hB)).row ht
    subst hs
    have hm := HLS.out.r k t ht
    have HM2 : Hid (∀ (i : Nat) (x : WD), t[i]? = some x → x.vw.length ≤ maxLen) := fun i x hx => HLS.out.v k t i x ht hx
    have HT : Hid (szR (m.take (k + 1)) = szR (m.take k) + (t.length + szV t)) := szR_take m k t ht
    have HF : Hid (WsR wr lo hi s1 t) := f1
    clear f1 ht
    have b0 : (0 : Int) ≤ (k : Int) := by omega
    have b1 : (k : Int) < (m.length : Int) := by omega
    go_wp2_with fail
    refine (szWriteS_any s1 c1 lo hi t v wr HF.out (by omega) hm HM2.out hv hv').mono ?_
    rintro e w1 ⟨⟨u, rfl, hu⟩, hb1⟩
    have HB1 : Hid (Below w.heap.size w w1) := HB.out.trans (hb1.mono hsz)
    clear hb1
    rcases hu with hu | ⟨hu, hu2⟩
    ·go_wp2
     go_ret
     exact ⟨⟨-1, rfl, .inl (by omega)⟩, HB1.out⟩
    ·have hnn : ¬ u < 0 := by omega
     have HU : Hid (u = v - ((t.length : Int) + szV t)) := hu2
     have hu3 : u ≤ 1048576 := by omega
     clear hu2
     go_wp2
     go_roundw
     case rel =>
      refine ⟨k + 1, _, by omega, by go_num, rfl, by omega, by omega, HB1.out, ?_⟩
      show _ = _
      rw [HT.out, HU.out, HD.out]
      omega
     case measure => simp [intOf]; omega
   ·go_wp2
    go_ret
    have : k = m.length := by omega
    subst this
    have hd := HD.out
    rw [List.take_length] at hd
    exact ⟨⟨v, rfl, .inr ⟨hv, hd⟩⟩, HB.out⟩
end
end Go.Proofs.YtcfehbfjillnoaaGreat
