/- The law FnViews of the given statements: drawn views together know all that each knows, and are the least that does. No condition. -/
import Derived.Test.YtniidllclehlaaaRows
import Derived.Test.YtniidllclehlaaaDrawV
import Derived.Test.YtniidllclehlaaaViewsK
import Derived.Test.YtniidllclehlaaaViewsP
import Derived.ProofKit
import Derived.OpenShut
import Derived.ShutString
import Derived.ChangeOld
import Derived.ChangeSlices
namespace Go.Proofs.Ytniidllclehlaaa
set_option linter.unusedSimpArgs false
set_option linter.unusedVariables false
set_option maxRecDepth 100000
open Go.ChangeShapes Go.WideShapes Go.ChangeAt Go.RowKit

theorem big_any (s : Option Addr) (n c : Nat) (w : World) : Calls Try.prog 4 #[.slice s n c] w fun e w' => e = .returned (.bool (decide (1048576 < n))) ∧ w' = w := by
  go_enter Try.func4, Try.ntmps4
  go_wp2
  go_ret
  refine ⟨ret_bool' ?_, rfl⟩
  rw [Bool.eq_iff_iff]
  simp
  omega
theorem OwnN.capI {w : World} {base : Nat} {s : Option Addr} {n c : Nat} {l : List Int} (h : OwnN w base (.slice s n c) l) : l.length ≤ c := by
  rcases h.2 with ⟨h1, h2⟩ | ⟨g, cap, cur, hv, -, -, h3, -⟩
  · omega
  · injection hv with e1 e2 e3
    omega


def Rw (w : World) (s : Option Addr) (l : List Int) : Prop := IntsR w 0 w.heap.size s l
theorem Rw.below {w w' : World} {s : Option Addr} {l : List Int} (h : Rw w s l) (hb : Below w.heap.size w w') : Rw w' s l := (h.keep (Keep.of_below hb (Nat.le_refl _))).mono (Nat.le_refl _) hb.size
theorem OwnN.rw {w : World} {base : Nat} {s : Option Addr} {c : Nat} {l : List Int} (h : OwnN w base (.slice s l.length c) l) : Rw w s l := by
  obtain ⟨s', c', e, hi⟩ := ownN_ints h
  injection e with e1
  subst e1
  exact hi.mono (Nat.zero_le _) (Nat.le_refl _)
theorem drewB (w : World) (n : Nat) : Below w.heap.size w (w.drewN n) := ⟨rfl, rfl, rfl, Nat.le_refl _, fun _ _ => rfl⟩
theorem vJoinI (s s' : Option Addr) (c c' : Nat) (l l' j : List Int) (w : World) (h : Rw w s l) (h' : Rw w s' l') (hl : l.length ≤ 7) (hl' : l'.length ≤ 7) (hc : l.length ≤ c) (hj : joinL l l' = j) :
    Calls Try.prog 6 #[.slice s l.length c, .slice s' l'.length c'] w fun e w' => ∃ sj cj, e = .returned (.slice sj j.length cj) ∧ Rw w' sj j ∧ Below w.heap.size w w' := by
  refine (implJoin_any s s' c c' 0 w.heap.size 0 w.heap.size l l' w h h' (by omega) (by omega) (Nat.le_refl _) (Nat.le_refl _) hc).mono ?_
  rintro e w' ⟨v, rfl, ho, hb⟩
  subst hj
  obtain ⟨s1, c1, rfl⟩ := ownSl ho
  exact ⟨s1, c1, by simp, OwnN.rw (by simpa using ho), hb⟩
theorem vJoinS (s s' : Option Addr) (c c' : Nat) (l l' j : List Int) (w : World) (h : Rw w s l) (h' : Rw w s' l') (hl : l.length ≤ 7) (hl' : l'.length ≤ 7) (hj : joinL l l' = j) :
    Calls Try.prog 8 #[.slice s l.length c, .slice s' l'.length c'] w fun e w' => ∃ sj cj, e = .returned (.slice sj j.length cj) ∧ Rw w' sj j ∧ Below w.heap.size w w' := by
  refine (specJoin_any s s' c c' 0 w.heap.size 0 w.heap.size l l' w h h' (by omega) (by omega) (Nat.le_refl _) (Nat.le_refl _)).mono ?_
  rintro e w' ⟨v, rfl, ho, hb⟩
  subst hj
  obtain ⟨s1, c1, rfl⟩ := ownSl ho
  exact ⟨s1, c1, by simp, OwnN.rw (by simpa using ho), hb⟩
theorem vKnowsI (s s' : Option Addr) (c c' : Nat) (l l' : List Int) (b : Bool) (w : World) (h : Rw w s l) (h' : Rw w s' l') (hl : l.length ≤ 7) (hb : knowsB l l' = b) :
    Calls Try.prog 9 #[.slice s l.length c, .slice s' l'.length c'] w fun e w' => e = .returned (.bool b) ∧ Below w.heap.size w w' := by
  refine (implKnows_any s s' c c' 0 w.heap.size 0 w.heap.size l l' w h h' (by omega) (Nat.le_refl _) (Nat.le_refl _)).mono ?_
  rintro e w' ⟨rfl, rfl⟩
  exact ⟨by rw [hb], Below.refl _ _⟩
theorem vKnowsS (s s' : Option Addr) (c c' : Nat) (l l' : List Int) (b : Bool) (w : World) (h : Rw w s l) (h' : Rw w s' l') (hl : l.length ≤ 7) (hl' : l'.length ≤ 7) (hb : knowsB l l' = b) :
    Calls Try.prog 10 #[.slice s l.length c, .slice s' l'.length c'] w fun e w' => e = .returned (.bool b) ∧ Below w.heap.size w w' := by
  refine (specKnows_any s s' c c' 0 w.heap.size 0 w.heap.size l l' w h h' (by omega) (by omega) (Nat.le_refl _) (Nat.le_refl _)).mono ?_
  rintro e w' ⟨rfl, n, rfl⟩
  exact ⟨by rw [hb], drewB _ _⟩
theorem vSame (s s' : Option Addr) (c c' : Nat) (l l' : List Int) (w : World) (h : Rw w s l) (h' : Rw w s' l') (hl : l.length ≤ 7) (hj : l = l') :
    Calls Try.prog 7 #[.slice s l.length c, .slice s' l'.length c'] w fun e w' => e = .returned (.bool true) ∧ Below w.heap.size w w' := by
  refine (sameInts_any s s' l l' c c' w (h.ints (Nat.le_refl _)) (h'.ints (Nat.le_refl _)) (by omega)).mono ?_
  rintro e w' ⟨rfl, n, rfl⟩
  exact ⟨by rw [decide_eq_true hj], drewB _ _⟩
set_option maxHeartbeats 1000000 in
theorem drawJoin_any (s : Option Addr) (n c : Nat) (w : World) (hb : Bytes w w.heap.size s n) (hn : n ≤ maxLen) :
    Calls Try.prog 5 #[.slice s n c] w fun e w' => ∃ sa ca sb cb la lb, e = .returned (.tuple #[.slice sa (List.length la) ca, .slice sb (List.length lb) cb]) ∧ Rw w' sa la ∧ Rw w' sb lb ∧ la.length ≤ 7 ∧ lb.length ≤ 7 ∧ la.length ≤ ca ∧ lb.length ≤ cb ∧ Below w.heap.size w w' := by
  have H := l6DrawViews_any s n c w hb hn
  clear hb
  go_enter Try.func5, Try.ntmps5
  go_wp2_with fail
  refine H.mono ?_
  rintro e w' ⟨va, vb, la, lb, rfl, ha, hb', la7, lb7, hbel⟩
  obtain ⟨sa, ca, rfl⟩ := ownSl ha
  obtain ⟨sb, cb, rfl⟩ := ownSl hb'
  have HA : Hid (OwnN w' w.heap.size (.slice sa la.length ca) la) := ha
  have HB : Hid (OwnN w' w.heap.size (.slice sb lb.length cb) lb) := hb'
  have HK : Hid (Below w.heap.size w w') := hbel
  clear ha hb' hbel H
  go_wp2
  go_ret2
  exact ⟨sa, ca, sb, cb, la, lb, rfl, HA.out.rw, HB.out.rw, la7, lb7, HA.out.capI, HB.out.capI, HK.out⟩
theorem ownS : ownKnob Try.prog.godebug = none := by kernel_rfl
theorem laidOutS : laidOutB Try.prog = true := by kernel_rfl
theorem bytes_read {H : Type} {enc : TypeId × Value → H} {w : World} {base b0 : Nat} {held : Bool} {k : Reach} {v : Value} {d : DataW H} {p : List MemPlace}
    (hv : Value.okWide Try.prog w k b0 22 v) (h : DataW.Trod enc Try.prog w base (fun _ => true) held 22 v d p) :
    ∃ (s : Option Addr) (n c : Nat), v = .slice s n c ∧ n ≤ maxLen ∧ Bytes w w.heap.size s n := by
  obtain ⟨s, len, cap, rfl⟩ := okWide_slice Try.underlying22 hv
  obtain ⟨fuel, hf⟩ := h
  rcases open_ints Try.underlying22 Try.underlying5 (by kernel_rfl) hf with ⟨hcs, _⟩ | ⟨a, l, c, zs, hcs, _, hl, hm, hz, _, hcell, hwz⟩
  · simp [Value.cells] at hcs
    obtain ⟨rfl, rfl, rfl⟩ := hcs
    exact ⟨none, 0, 0, rfl, Nat.zero_le _, .inl rfl⟩
  · simp [Value.cells] at hcs
    obtain ⟨rfl, rfl, rfl⟩ := hcs
    simp at hz
    refine ⟨some a, len, cap, rfl, by omega, ?_⟩
    by_cases h0 : len = 0
    · exact .inl h0
    · have c0 := hcell 0 (by omega)
      have c0' : w.cell? a = some (.int .u8 (zs.getD 0 0)) := by simpa [Addr.add] using c0
      have hs := World.cell?_spot c0'
      have hg : a.block < w.heap.size := by
        apply Classical.byContradiction
        intro hn
        have : w.heap[a.block]? = none := by simp; omega
        simp [World.cell?, this] at c0'
      obtain ⟨g, off, spot⟩ := a
      simp at hs
      subst hs
      refine .inr ⟨g, off, rfl, hg, fun i hi => ?_⟩
      have ci := hcell i (by omega)
      have e : (Addr.add ⟨g, off, none⟩ i) = ⟨g, off + i, none⟩ := by
        by_cases h : i = 0
        · subst h; rfl
        · simp [Addr.add, h]
      rw [e] at ci
      have hmem : zs.getD i 0 ∈ zs := by
        rw [List.getD_eq_getElem?_getD, List.getElem?_eq_getElem (by omega)]
        exact List.getElem_mem (by omega)
      have hw := bounds_u8 (hwz _ hmem)
      exact ⟨_, ci, by omega, by omega⟩

set_option maxHeartbeats 16000000 in
theorem walkFnViews (s : Option Addr) (n c : Nat) (w : World) (hb : Bytes w w.heap.size s n) (hn : n ≤ maxLen) :
    Calls Try.prog 3 #[.slice s n c] w fun e w' => e = .returned (.bool true) ∧ Below w.heap.size w w' := by
  have HB0 : Hid (Bytes w w.heap.size s n) := hb
  have HN : Hid (n ≤ maxLen) := hn
  clear hb hn
  by_cases hbig : 1048576 < n
  · go_enter Try.func3, Try.ntmps3
    go_wp2_with (go_at_call 4; refine (big_any _ _ _ _).mono ?_; rintro e w' ⟨rfl, hw⟩; have hw' := hw.symm; clear hw; subst hw'; rw [decide_eq_true hbig])
    go_ret
    exact ⟨rfl, Below.refl _ _⟩
  go_enter Try.func3, Try.ntmps3
  go_wp2_with (go_at_call 4; refine (big_any _ _ _ _).mono ?_; rintro e w' ⟨rfl, hw⟩; have hw' := hw.symm; clear hw; subst hw'; rw [decide_eq_false hbig])
  refine (drawJoin_any s n c w HB0.out HN.out).mono ?_
  rintro e w1 ⟨sa, ca, sb, cb, la, lb, rfl, hA, hB, la7, lb7, hca, hcb, hK⟩
  have z := hK.size
  clear HB0 HN hbig
  by_cases hd : la.length = lb.length
  · cases hk : knowsB la lb with
    | false =>
      have HA : Hid (Rw w1 sa la) := hA
      have HB : Hid (Rw w1 sb lb) := hB
      have HK : Hid (Below w.heap.size w w1) := hK
      clear hA hB hK
      obtain ⟨j, hj⟩ : ∃ j, joinL la lb = j := ⟨_, rfl⟩
      have hjl : j.length = min la.length lb.length := by rw [← hj, join_len]
      have HJ : Hid (joinL la lb = j) := hj
      have HJ2 : Hid (joinL lb la = j) := (joinL_comm lb la).trans hj
      have K1 : Hid (knowsB la lb = false) := hk
      have hne : ((la.length : Int) != (lb.length : Int)) = false := by simp; omega
      have KJA : Hid (knowsB j la = true) := by have := knows_join la lb hd; rw [hj] at this; exact this
      have KJB : Hid (knowsB j lb = true) := by have := knows_join lb la hd.symm; rw [joinL_comm, hj] at this; exact this
      have j7 : j.length ≤ 7 := by omega
      clear hj hjl hd hk
      go_wp2_with fail
      refine (vJoinI sa sb ca cb la lb j w1 HA.out HB.out la7 lb7 hca HJ.out).mono ?_
      rintro e w2 ⟨sP, cP, rfl, hP, hb⟩
      have JA : Hid (Rw w2 sa la) := HA.out.below hb
      clear HA
      have HA := JA
      clear JA
      have JB : Hid (Rw w2 sb lb) := HB.out.below hb
      clear HB
      have HB := JB
      clear JB
      have JK : Hid (Below w.heap.size w w2) := HK.out.trans (hb.mono z)
      clear HK
      have HK := JK
      clear JK
      have z2 := hb.size
      have z : w.heap.size ≤ w2.heap.size := Nat.le_trans z z2
      clear z2
      have HP : Hid (Rw w2 sP j) := hP
      clear hP
      clear hb
      go_wp2_with fail
      refine (vJoinS sa sb ca cb la lb j w2 HA.out HB.out la7 lb7 HJ.out).mono ?_
      rintro e w3 ⟨sQ, cQ, rfl, hQ, hb⟩
      have JA : Hid (Rw w3 sa la) := HA.out.below hb
      clear HA
      have HA := JA
      clear JA
      have JB : Hid (Rw w3 sb lb) := HB.out.below hb
      clear HB
      have HB := JB
      clear JB
      have JP : Hid (Rw w3 sP j) := HP.out.below hb
      clear HP
      have HP := JP
      clear JP
      have JK : Hid (Below w.heap.size w w3) := HK.out.trans (hb.mono z)
      clear HK
      have HK := JK
      clear JK
      have z3 := hb.size
      have z : w.heap.size ≤ w3.heap.size := Nat.le_trans z z3
      clear z3
      have HQ : Hid (Rw w3 sQ j) := hQ
      clear hQ
      clear hb
      go_wp2_with fail
      refine (vSame sP sQ cP cQ j j w3 HP.out HQ.out j7 rfl).mono ?_
      rintro e w4 ⟨rfl, hb⟩
      have JA : Hid (Rw w4 sa la) := HA.out.below hb
      clear HA
      have HA := JA
      clear JA
      have JB : Hid (Rw w4 sb lb) := HB.out.below hb
      clear HB
      have HB := JB
      clear JB
      have JP : Hid (Rw w4 sP j) := HP.out.below hb
      clear HP
      have HP := JP
      clear JP
      have JQ : Hid (Rw w4 sQ j) := HQ.out.below hb
      clear HQ
      have HQ := JQ
      clear JQ
      have JK : Hid (Below w.heap.size w w4) := HK.out.trans (hb.mono z)
      clear HK
      have HK := JK
      clear JK
      have z4 := hb.size
      have z : w.heap.size ≤ w4.heap.size := Nat.le_trans z z4
      clear z4
      clear hb
      go_wp2_with fail
      refine (vKnowsI sa sb ca cb la lb false w4 HA.out HB.out la7 K1.out).mono ?_
      rintro e w5 ⟨rfl, hb⟩
      have JA : Hid (Rw w5 sa la) := HA.out.below hb
      clear HA
      have HA := JA
      clear JA
      have JB : Hid (Rw w5 sb lb) := HB.out.below hb
      clear HB
      have HB := JB
      clear JB
      have JP : Hid (Rw w5 sP j) := HP.out.below hb
      clear HP
      have HP := JP
      clear JP
      have JQ : Hid (Rw w5 sQ j) := HQ.out.below hb
      clear HQ
      have HQ := JQ
      clear JQ
      have JK : Hid (Below w.heap.size w w5) := HK.out.trans (hb.mono z)
      clear HK
      have HK := JK
      clear JK
      have z5 := hb.size
      have z : w.heap.size ≤ w5.heap.size := Nat.le_trans z z5
      clear z5
      clear hb
      go_wp2_with fail
      refine (vKnowsS sa sb ca cb la lb false w5 HA.out HB.out la7 lb7 K1.out).mono ?_
      rintro e w6 ⟨rfl, hb⟩
      have JA : Hid (Rw w6 sa la) := HA.out.below hb
      clear HA
      have HA := JA
      clear JA
      have JB : Hid (Rw w6 sb lb) := HB.out.below hb
      clear HB
      have HB := JB
      clear JB
      have JP : Hid (Rw w6 sP j) := HP.out.below hb
      clear HP
      have HP := JP
      clear JP
      have JQ : Hid (Rw w6 sQ j) := HQ.out.below hb
      clear HQ
      have HQ := JQ
      clear JQ
      have JK : Hid (Below w.heap.size w w6) := HK.out.trans (hb.mono z)
      clear HK
      have HK := JK
      clear JK
      have z6 := hb.size
      have z : w.heap.size ≤ w6.heap.size := Nat.le_trans z z6
      clear z6
      clear hb
      go_wp2_with fail
      refine (vJoinI sb sa cb ca lb la j w6 HB.out HA.out lb7 la7 hcb HJ2.out).mono ?_
      rintro e w7 ⟨sS, cS, rfl, hS, hb⟩
      have JA : Hid (Rw w7 sa la) := HA.out.below hb
      clear HA
      have HA := JA
      clear JA
      have JB : Hid (Rw w7 sb lb) := HB.out.below hb
      clear HB
      have HB := JB
      clear JB
      have JP : Hid (Rw w7 sP j) := HP.out.below hb
      clear HP
      have HP := JP
      clear JP
      have JQ : Hid (Rw w7 sQ j) := HQ.out.below hb
      clear HQ
      have HQ := JQ
      clear JQ
      have JK : Hid (Below w.heap.size w w7) := HK.out.trans (hb.mono z)
      clear HK
      have HK := JK
      clear JK
      have z7 := hb.size
      have z : w.heap.size ≤ w7.heap.size := Nat.le_trans z z7
      clear z7
      have HS : Hid (Rw w7 sS j) := hS
      clear hS
      clear hb
      go_wp2_with fail
      refine (vSame sP sS cP cS j j w7 HP.out HS.out j7 rfl).mono ?_
      rintro e w8 ⟨rfl, hb⟩
      have JA : Hid (Rw w8 sa la) := HA.out.below hb
      clear HA
      have HA := JA
      clear JA
      have JB : Hid (Rw w8 sb lb) := HB.out.below hb
      clear HB
      have HB := JB
      clear JB
      have JP : Hid (Rw w8 sP j) := HP.out.below hb
      clear HP
      have HP := JP
      clear JP
      have JQ : Hid (Rw w8 sQ j) := HQ.out.below hb
      clear HQ
      have HQ := JQ
      clear JQ
      have JS : Hid (Rw w8 sS j) := HS.out.below hb
      clear HS
      have HS := JS
      clear JS
      have JK : Hid (Below w.heap.size w w8) := HK.out.trans (hb.mono z)
      clear HK
      have HK := JK
      clear JK
      have z8 := hb.size
      have z : w.heap.size ≤ w8.heap.size := Nat.le_trans z z8
      clear z8
      clear hb
      go_wp2_with fail
      refine (vKnowsI sP sa cP ca j la true w8 HP.out HA.out j7 KJA.out).mono ?_
      rintro e w9 ⟨rfl, hb⟩
      have JA : Hid (Rw w9 sa la) := HA.out.below hb
      clear HA
      have HA := JA
      clear JA
      have JB : Hid (Rw w9 sb lb) := HB.out.below hb
      clear HB
      have HB := JB
      clear JB
      have JP : Hid (Rw w9 sP j) := HP.out.below hb
      clear HP
      have HP := JP
      clear JP
      have JQ : Hid (Rw w9 sQ j) := HQ.out.below hb
      clear HQ
      have HQ := JQ
      clear JQ
      have JS : Hid (Rw w9 sS j) := HS.out.below hb
      clear HS
      have HS := JS
      clear JS
      have JK : Hid (Below w.heap.size w w9) := HK.out.trans (hb.mono z)
      clear HK
      have HK := JK
      clear JK
      have z9 := hb.size
      have z : w.heap.size ≤ w9.heap.size := Nat.le_trans z z9
      clear z9
      clear hb
      go_wp2_with fail
      refine (vKnowsI sP sb cP cb j lb true w9 HP.out HB.out j7 KJB.out).mono ?_
      rintro e w10 ⟨rfl, hb⟩
      have JA : Hid (Rw w10 sa la) := HA.out.below hb
      clear HA
      have HA := JA
      clear JA
      have JB : Hid (Rw w10 sb lb) := HB.out.below hb
      clear HB
      have HB := JB
      clear JB
      have JP : Hid (Rw w10 sP j) := HP.out.below hb
      clear HP
      have HP := JP
      clear JP
      have JQ : Hid (Rw w10 sQ j) := HQ.out.below hb
      clear HQ
      have HQ := JQ
      clear JQ
      have JS : Hid (Rw w10 sS j) := HS.out.below hb
      clear HS
      have HS := JS
      clear JS
      have JK : Hid (Below w.heap.size w w10) := HK.out.trans (hb.mono z)
      clear HK
      have HK := JK
      clear JK
      have z10 := hb.size
      have z : w.heap.size ≤ w10.heap.size := Nat.le_trans z z10
      clear z10
      clear hb
      go_wp2_with fail
      refine (vKnowsI sa sa ca ca la la true w10 HA.out HA.out la7 (knowsB_refl _)).mono ?_
      rintro e w11 ⟨rfl, hb⟩
      have JA : Hid (Rw w11 sa la) := HA.out.below hb
      clear HA
      have HA := JA
      clear JA
      have JB : Hid (Rw w11 sb lb) := HB.out.below hb
      clear HB
      have HB := JB
      clear JB
      have JP : Hid (Rw w11 sP j) := HP.out.below hb
      clear HP
      have HP := JP
      clear JP
      have JQ : Hid (Rw w11 sQ j) := HQ.out.below hb
      clear HQ
      have HQ := JQ
      clear JQ
      have JS : Hid (Rw w11 sS j) := HS.out.below hb
      clear HS
      have HS := JS
      clear JS
      have JK : Hid (Below w.heap.size w w11) := HK.out.trans (hb.mono z)
      clear HK
      have HK := JK
      clear JK
      have z11 := hb.size
      have z : w.heap.size ≤ w11.heap.size := Nat.le_trans z z11
      clear z11
      clear hb
      go_wp2_with fail
      refine (vKnowsI sa sb ca cb la lb false w11 HA.out HB.out la7 K1.out).mono ?_
      rintro e w12 ⟨rfl, hb⟩
      have JA : Hid (Rw w12 sa la) := HA.out.below hb
      clear HA
      have HA := JA
      clear JA
      have JB : Hid (Rw w12 sb lb) := HB.out.below hb
      clear HB
      have HB := JB
      clear JB
      have JP : Hid (Rw w12 sP j) := HP.out.below hb
      clear HP
      have HP := JP
      clear JP
      have JQ : Hid (Rw w12 sQ j) := HQ.out.below hb
      clear HQ
      have HQ := JQ
      clear JQ
      have JS : Hid (Rw w12 sS j) := HS.out.below hb
      clear HS
      have HS := JS
      clear JS
      have JK : Hid (Below w.heap.size w w12) := HK.out.trans (hb.mono z)
      clear HK
      have HK := JK
      clear JK
      have z12 := hb.size
      have z : w.heap.size ≤ w12.heap.size := Nat.le_trans z z12
      clear z12
      clear hb
      go_wp2_with fail
      refine (vKnowsI sa sb ca cb la lb false w12 HA.out HB.out la7 K1.out).mono ?_
      rintro e w13 ⟨rfl, hb⟩
      have JA : Hid (Rw w13 sa la) := HA.out.below hb
      clear HA
      have HA := JA
      clear JA
      have JB : Hid (Rw w13 sb lb) := HB.out.below hb
      clear HB
      have HB := JB
      clear JB
      have JP : Hid (Rw w13 sP j) := HP.out.below hb
      clear HP
      have HP := JP
      clear JP
      have JQ : Hid (Rw w13 sQ j) := HQ.out.below hb
      clear HQ
      have HQ := JQ
      clear JQ
      have JS : Hid (Rw w13 sS j) := HS.out.below hb
      clear HS
      have HS := JS
      clear JS
      have JK : Hid (Below w.heap.size w w13) := HK.out.trans (hb.mono z)
      clear HK
      have HK := JK
      clear JK
      have z13 := hb.size
      have z : w.heap.size ≤ w13.heap.size := Nat.le_trans z z13
      clear z13
      clear hb
      go_wp2
      go_ret
      exact ⟨rfl, HK.out⟩
    | true =>
      cases hk2 : knowsB lb la with
      | false =>
        have HA : Hid (Rw w1 sa la) := hA
        have HB : Hid (Rw w1 sb lb) := hB
        have HK : Hid (Below w.heap.size w w1) := hK
        clear hA hB hK
        obtain ⟨j, hj⟩ : ∃ j, joinL la lb = j := ⟨_, rfl⟩
        have hjl : j.length = min la.length lb.length := by rw [← hj, join_len]
        have HJ : Hid (joinL la lb = j) := hj
        have HJ2 : Hid (joinL lb la = j) := (joinL_comm lb la).trans hj
        have K1 : Hid (knowsB la lb = true) := hk
        have hne : ((la.length : Int) != (lb.length : Int)) = false := by simp; omega
        have KJA : Hid (knowsB j la = true) := by have := knows_join la lb hd; rw [hj] at this; exact this
        have KJB : Hid (knowsB j lb = true) := by have := knows_join lb la hd.symm; rw [joinL_comm, hj] at this; exact this
        have K2 : Hid (knowsB lb la = false) := hk2
        have EJ : Hid (j = la) := hj.symm.trans (join_of_knows hk)
        have j7 : j.length ≤ 7 := by omega
        clear hj hjl hd hk hk2
        go_wp2_with fail
        refine (vJoinI sa sb ca cb la lb j w1 HA.out HB.out la7 lb7 hca HJ.out).mono ?_
        rintro e w2 ⟨sP, cP, rfl, hP, hb⟩
        have JA : Hid (Rw w2 sa la) := HA.out.below hb
        clear HA
        have HA := JA
        clear JA
        have JB : Hid (Rw w2 sb lb) := HB.out.below hb
        clear HB
        have HB := JB
        clear JB
        have JK : Hid (Below w.heap.size w w2) := HK.out.trans (hb.mono z)
        clear HK
        have HK := JK
        clear JK
        have z2 := hb.size
        have z : w.heap.size ≤ w2.heap.size := Nat.le_trans z z2
        clear z2
        have HP : Hid (Rw w2 sP j) := hP
        clear hP
        clear hb
        go_wp2_with fail
        refine (vJoinS sa sb ca cb la lb j w2 HA.out HB.out la7 lb7 HJ.out).mono ?_
        rintro e w3 ⟨sQ, cQ, rfl, hQ, hb⟩
        have JA : Hid (Rw w3 sa la) := HA.out.below hb
        clear HA
        have HA := JA
        clear JA
        have JB : Hid (Rw w3 sb lb) := HB.out.below hb
        clear HB
        have HB := JB
        clear JB
        have JP : Hid (Rw w3 sP j) := HP.out.below hb
        clear HP
        have HP := JP
        clear JP
        have JK : Hid (Below w.heap.size w w3) := HK.out.trans (hb.mono z)
        clear HK
        have HK := JK
        clear JK
        have z3 := hb.size
        have z : w.heap.size ≤ w3.heap.size := Nat.le_trans z z3
        clear z3
        have HQ : Hid (Rw w3 sQ j) := hQ
        clear hQ
        clear hb
        go_wp2_with fail
        refine (vSame sP sQ cP cQ j j w3 HP.out HQ.out j7 rfl).mono ?_
        rintro e w4 ⟨rfl, hb⟩
        have JA : Hid (Rw w4 sa la) := HA.out.below hb
        clear HA
        have HA := JA
        clear JA
        have JB : Hid (Rw w4 sb lb) := HB.out.below hb
        clear HB
        have HB := JB
        clear JB
        have JP : Hid (Rw w4 sP j) := HP.out.below hb
        clear HP
        have HP := JP
        clear JP
        have JQ : Hid (Rw w4 sQ j) := HQ.out.below hb
        clear HQ
        have HQ := JQ
        clear JQ
        have JK : Hid (Below w.heap.size w w4) := HK.out.trans (hb.mono z)
        clear HK
        have HK := JK
        clear JK
        have z4 := hb.size
        have z : w.heap.size ≤ w4.heap.size := Nat.le_trans z z4
        clear z4
        clear hb
        go_wp2_with fail
        refine (vKnowsI sa sb ca cb la lb true w4 HA.out HB.out la7 K1.out).mono ?_
        rintro e w5 ⟨rfl, hb⟩
        have JA : Hid (Rw w5 sa la) := HA.out.below hb
        clear HA
        have HA := JA
        clear JA
        have JB : Hid (Rw w5 sb lb) := HB.out.below hb
        clear HB
        have HB := JB
        clear JB
        have JP : Hid (Rw w5 sP j) := HP.out.below hb
        clear HP
        have HP := JP
        clear JP
        have JQ : Hid (Rw w5 sQ j) := HQ.out.below hb
        clear HQ
        have HQ := JQ
        clear JQ
        have JK : Hid (Below w.heap.size w w5) := HK.out.trans (hb.mono z)
        clear HK
        have HK := JK
        clear JK
        have z5 := hb.size
        have z : w.heap.size ≤ w5.heap.size := Nat.le_trans z z5
        clear z5
        clear hb
        go_wp2_with fail
        refine (vKnowsS sa sb ca cb la lb true w5 HA.out HB.out la7 lb7 K1.out).mono ?_
        rintro e w6 ⟨rfl, hb⟩
        have JA : Hid (Rw w6 sa la) := HA.out.below hb
        clear HA
        have HA := JA
        clear JA
        have JB : Hid (Rw w6 sb lb) := HB.out.below hb
        clear HB
        have HB := JB
        clear JB
        have JP : Hid (Rw w6 sP j) := HP.out.below hb
        clear HP
        have HP := JP
        clear JP
        have JQ : Hid (Rw w6 sQ j) := HQ.out.below hb
        clear HQ
        have HQ := JQ
        clear JQ
        have JK : Hid (Below w.heap.size w w6) := HK.out.trans (hb.mono z)
        clear HK
        have HK := JK
        clear JK
        have z6 := hb.size
        have z : w.heap.size ≤ w6.heap.size := Nat.le_trans z z6
        clear z6
        clear hb
        go_wp2_with fail
        refine (vJoinI sb sa cb ca lb la j w6 HB.out HA.out lb7 la7 hcb HJ2.out).mono ?_
        rintro e w7 ⟨sS, cS, rfl, hS, hb⟩
        have JA : Hid (Rw w7 sa la) := HA.out.below hb
        clear HA
        have HA := JA
        clear JA
        have JB : Hid (Rw w7 sb lb) := HB.out.below hb
        clear HB
        have HB := JB
        clear JB
        have JP : Hid (Rw w7 sP j) := HP.out.below hb
        clear HP
        have HP := JP
        clear JP
        have JQ : Hid (Rw w7 sQ j) := HQ.out.below hb
        clear HQ
        have HQ := JQ
        clear JQ
        have JK : Hid (Below w.heap.size w w7) := HK.out.trans (hb.mono z)
        clear HK
        have HK := JK
        clear JK
        have z7 := hb.size
        have z : w.heap.size ≤ w7.heap.size := Nat.le_trans z z7
        clear z7
        have HS : Hid (Rw w7 sS j) := hS
        clear hS
        clear hb
        go_wp2_with fail
        refine (vSame sP sS cP cS j j w7 HP.out HS.out j7 rfl).mono ?_
        rintro e w8 ⟨rfl, hb⟩
        have JA : Hid (Rw w8 sa la) := HA.out.below hb
        clear HA
        have HA := JA
        clear JA
        have JB : Hid (Rw w8 sb lb) := HB.out.below hb
        clear HB
        have HB := JB
        clear JB
        have JP : Hid (Rw w8 sP j) := HP.out.below hb
        clear HP
        have HP := JP
        clear JP
        have JQ : Hid (Rw w8 sQ j) := HQ.out.below hb
        clear HQ
        have HQ := JQ
        clear JQ
        have JS : Hid (Rw w8 sS j) := HS.out.below hb
        clear HS
        have HS := JS
        clear JS
        have JK : Hid (Below w.heap.size w w8) := HK.out.trans (hb.mono z)
        clear HK
        have HK := JK
        clear JK
        have z8 := hb.size
        have z : w.heap.size ≤ w8.heap.size := Nat.le_trans z z8
        clear z8
        clear hb
        go_wp2_with fail
        refine (vKnowsI sP sa cP ca j la true w8 HP.out HA.out j7 KJA.out).mono ?_
        rintro e w9 ⟨rfl, hb⟩
        have JA : Hid (Rw w9 sa la) := HA.out.below hb
        clear HA
        have HA := JA
        clear JA
        have JB : Hid (Rw w9 sb lb) := HB.out.below hb
        clear HB
        have HB := JB
        clear JB
        have JP : Hid (Rw w9 sP j) := HP.out.below hb
        clear HP
        have HP := JP
        clear JP
        have JQ : Hid (Rw w9 sQ j) := HQ.out.below hb
        clear HQ
        have HQ := JQ
        clear JQ
        have JS : Hid (Rw w9 sS j) := HS.out.below hb
        clear HS
        have HS := JS
        clear JS
        have JK : Hid (Below w.heap.size w w9) := HK.out.trans (hb.mono z)
        clear HK
        have HK := JK
        clear JK
        have z9 := hb.size
        have z : w.heap.size ≤ w9.heap.size := Nat.le_trans z z9
        clear z9
        clear hb
        go_wp2_with fail
        refine (vKnowsI sP sb cP cb j lb true w9 HP.out HB.out j7 KJB.out).mono ?_
        rintro e w10 ⟨rfl, hb⟩
        have JA : Hid (Rw w10 sa la) := HA.out.below hb
        clear HA
        have HA := JA
        clear JA
        have JB : Hid (Rw w10 sb lb) := HB.out.below hb
        clear HB
        have HB := JB
        clear JB
        have JP : Hid (Rw w10 sP j) := HP.out.below hb
        clear HP
        have HP := JP
        clear JP
        have JQ : Hid (Rw w10 sQ j) := HQ.out.below hb
        clear HQ
        have HQ := JQ
        clear JQ
        have JS : Hid (Rw w10 sS j) := HS.out.below hb
        clear HS
        have HS := JS
        clear JS
        have JK : Hid (Below w.heap.size w w10) := HK.out.trans (hb.mono z)
        clear HK
        have HK := JK
        clear JK
        have z10 := hb.size
        have z : w.heap.size ≤ w10.heap.size := Nat.le_trans z z10
        clear z10
        clear hb
        go_wp2_with fail
        refine (vKnowsI sa sa ca ca la la true w10 HA.out HA.out la7 (knowsB_refl _)).mono ?_
        rintro e w11 ⟨rfl, hb⟩
        have JA : Hid (Rw w11 sa la) := HA.out.below hb
        clear HA
        have HA := JA
        clear JA
        have JB : Hid (Rw w11 sb lb) := HB.out.below hb
        clear HB
        have HB := JB
        clear JB
        have JP : Hid (Rw w11 sP j) := HP.out.below hb
        clear HP
        have HP := JP
        clear JP
        have JQ : Hid (Rw w11 sQ j) := HQ.out.below hb
        clear HQ
        have HQ := JQ
        clear JQ
        have JS : Hid (Rw w11 sS j) := HS.out.below hb
        clear HS
        have HS := JS
        clear JS
        have JK : Hid (Below w.heap.size w w11) := HK.out.trans (hb.mono z)
        clear HK
        have HK := JK
        clear JK
        have z11 := hb.size
        have z : w.heap.size ≤ w11.heap.size := Nat.le_trans z z11
        clear z11
        clear hb
        go_wp2_with fail
        refine (vKnowsI sa sb ca cb la lb true w11 HA.out HB.out la7 K1.out).mono ?_
        rintro e w12 ⟨rfl, hb⟩
        have JA : Hid (Rw w12 sa la) := HA.out.below hb
        clear HA
        have HA := JA
        clear JA
        have JB : Hid (Rw w12 sb lb) := HB.out.below hb
        clear HB
        have HB := JB
        clear JB
        have JP : Hid (Rw w12 sP j) := HP.out.below hb
        clear HP
        have HP := JP
        clear JP
        have JQ : Hid (Rw w12 sQ j) := HQ.out.below hb
        clear HQ
        have HQ := JQ
        clear JQ
        have JS : Hid (Rw w12 sS j) := HS.out.below hb
        clear HS
        have HS := JS
        clear JS
        have JK : Hid (Below w.heap.size w w12) := HK.out.trans (hb.mono z)
        clear HK
        have HK := JK
        clear JK
        have z12 := hb.size
        have z : w.heap.size ≤ w12.heap.size := Nat.le_trans z z12
        clear z12
        clear hb
        go_wp2_with fail
        refine (vSame sP sa cP ca j la w12 HP.out HA.out j7 EJ.out).mono ?_
        rintro e w13 ⟨rfl, hb⟩
        have JA : Hid (Rw w13 sa la) := HA.out.below hb
        clear HA
        have HA := JA
        clear JA
        have JB : Hid (Rw w13 sb lb) := HB.out.below hb
        clear HB
        have HB := JB
        clear JB
        have JP : Hid (Rw w13 sP j) := HP.out.below hb
        clear HP
        have HP := JP
        clear JP
        have JQ : Hid (Rw w13 sQ j) := HQ.out.below hb
        clear HQ
        have HQ := JQ
        clear JQ
        have JS : Hid (Rw w13 sS j) := HS.out.below hb
        clear HS
        have HS := JS
        clear JS
        have JK : Hid (Below w.heap.size w w13) := HK.out.trans (hb.mono z)
        clear HK
        have HK := JK
        clear JK
        have z13 := hb.size
        have z : w.heap.size ≤ w13.heap.size := Nat.le_trans z z13
        clear z13
        clear hb
        go_wp2_with fail
        refine (vKnowsI sa sb ca cb la lb true w13 HA.out HB.out la7 K1.out).mono ?_
        rintro e w14 ⟨rfl, hb⟩
        have JA : Hid (Rw w14 sa la) := HA.out.below hb
        clear HA
        have HA := JA
        clear JA
        have JB : Hid (Rw w14 sb lb) := HB.out.below hb
        clear HB
        have HB := JB
        clear JB
        have JP : Hid (Rw w14 sP j) := HP.out.below hb
        clear HP
        have HP := JP
        clear JP
        have JQ : Hid (Rw w14 sQ j) := HQ.out.below hb
        clear HQ
        have HQ := JQ
        clear JQ
        have JS : Hid (Rw w14 sS j) := HS.out.below hb
        clear HS
        have HS := JS
        clear JS
        have JK : Hid (Below w.heap.size w w14) := HK.out.trans (hb.mono z)
        clear HK
        have HK := JK
        clear JK
        have z14 := hb.size
        have z : w.heap.size ≤ w14.heap.size := Nat.le_trans z z14
        clear z14
        clear hb
        go_wp2_with fail
        refine (vKnowsI sb sa cb ca lb la false w14 HB.out HA.out lb7 K2.out).mono ?_
        rintro e w15 ⟨rfl, hb⟩
        have JA : Hid (Rw w15 sa la) := HA.out.below hb
        clear HA
        have HA := JA
        clear JA
        have JB : Hid (Rw w15 sb lb) := HB.out.below hb
        clear HB
        have HB := JB
        clear JB
        have JP : Hid (Rw w15 sP j) := HP.out.below hb
        clear HP
        have HP := JP
        clear JP
        have JQ : Hid (Rw w15 sQ j) := HQ.out.below hb
        clear HQ
        have HQ := JQ
        clear JQ
        have JS : Hid (Rw w15 sS j) := HS.out.below hb
        clear HS
        have HS := JS
        clear JS
        have JK : Hid (Below w.heap.size w w15) := HK.out.trans (hb.mono z)
        clear HK
        have HK := JK
        clear JK
        have z15 := hb.size
        have z : w.heap.size ≤ w15.heap.size := Nat.le_trans z z15
        clear z15
        clear hb
        go_wp2
        go_ret
        exact ⟨rfl, HK.out⟩
      | true =>
        have HA : Hid (Rw w1 sa la) := hA
        have HB : Hid (Rw w1 sb lb) := hB
        have HK : Hid (Below w.heap.size w w1) := hK
        clear hA hB hK
        obtain ⟨j, hj⟩ : ∃ j, joinL la lb = j := ⟨_, rfl⟩
        have hjl : j.length = min la.length lb.length := by rw [← hj, join_len]
        have HJ : Hid (joinL la lb = j) := hj
        have HJ2 : Hid (joinL lb la = j) := (joinL_comm lb la).trans hj
        have K1 : Hid (knowsB la lb = true) := hk
        have hne : ((la.length : Int) != (lb.length : Int)) = false := by simp; omega
        have KJA : Hid (knowsB j la = true) := by have := knows_join la lb hd; rw [hj] at this; exact this
        have KJB : Hid (knowsB j lb = true) := by have := knows_join lb la hd.symm; rw [joinL_comm, hj] at this; exact this
        have K2 : Hid (knowsB lb la = true) := hk2
        have EJ : Hid (j = la) := hj.symm.trans (join_of_knows hk)
        have EA : Hid (la = lb) := knows_both hk hk2
        have j7 : j.length ≤ 7 := by omega
        clear hj hjl hd hk hk2
        go_wp2_with fail
        refine (vJoinI sa sb ca cb la lb j w1 HA.out HB.out la7 lb7 hca HJ.out).mono ?_
        rintro e w2 ⟨sP, cP, rfl, hP, hb⟩
        have JA : Hid (Rw w2 sa la) := HA.out.below hb
        clear HA
        have HA := JA
        clear JA
        have JB : Hid (Rw w2 sb lb) := HB.out.below hb
        clear HB
        have HB := JB
        clear JB
        have JK : Hid (Below w.heap.size w w2) := HK.out.trans (hb.mono z)
        clear HK
        have HK := JK
        clear JK
        have z2 := hb.size
        have z : w.heap.size ≤ w2.heap.size := Nat.le_trans z z2
        clear z2
        have HP : Hid (Rw w2 sP j) := hP
        clear hP
        clear hb
        go_wp2_with fail
        refine (vJoinS sa sb ca cb la lb j w2 HA.out HB.out la7 lb7 HJ.out).mono ?_
        rintro e w3 ⟨sQ, cQ, rfl, hQ, hb⟩
        have JA : Hid (Rw w3 sa la) := HA.out.below hb
        clear HA
        have HA := JA
        clear JA
        have JB : Hid (Rw w3 sb lb) := HB.out.below hb
        clear HB
        have HB := JB
        clear JB
        have JP : Hid (Rw w3 sP j) := HP.out.below hb
        clear HP
        have HP := JP
        clear JP
        have JK : Hid (Below w.heap.size w w3) := HK.out.trans (hb.mono z)
        clear HK
        have HK := JK
        clear JK
        have z3 := hb.size
        have z : w.heap.size ≤ w3.heap.size := Nat.le_trans z z3
        clear z3
        have HQ : Hid (Rw w3 sQ j) := hQ
        clear hQ
        clear hb
        go_wp2_with fail
        refine (vSame sP sQ cP cQ j j w3 HP.out HQ.out j7 rfl).mono ?_
        rintro e w4 ⟨rfl, hb⟩
        have JA : Hid (Rw w4 sa la) := HA.out.below hb
        clear HA
        have HA := JA
        clear JA
        have JB : Hid (Rw w4 sb lb) := HB.out.below hb
        clear HB
        have HB := JB
        clear JB
        have JP : Hid (Rw w4 sP j) := HP.out.below hb
        clear HP
        have HP := JP
        clear JP
        have JQ : Hid (Rw w4 sQ j) := HQ.out.below hb
        clear HQ
        have HQ := JQ
        clear JQ
        have JK : Hid (Below w.heap.size w w4) := HK.out.trans (hb.mono z)
        clear HK
        have HK := JK
        clear JK
        have z4 := hb.size
        have z : w.heap.size ≤ w4.heap.size := Nat.le_trans z z4
        clear z4
        clear hb
        go_wp2_with fail
        refine (vKnowsI sa sb ca cb la lb true w4 HA.out HB.out la7 K1.out).mono ?_
        rintro e w5 ⟨rfl, hb⟩
        have JA : Hid (Rw w5 sa la) := HA.out.below hb
        clear HA
        have HA := JA
        clear JA
        have JB : Hid (Rw w5 sb lb) := HB.out.below hb
        clear HB
        have HB := JB
        clear JB
        have JP : Hid (Rw w5 sP j) := HP.out.below hb
        clear HP
        have HP := JP
        clear JP
        have JQ : Hid (Rw w5 sQ j) := HQ.out.below hb
        clear HQ
        have HQ := JQ
        clear JQ
        have JK : Hid (Below w.heap.size w w5) := HK.out.trans (hb.mono z)
        clear HK
        have HK := JK
        clear JK
        have z5 := hb.size
        have z : w.heap.size ≤ w5.heap.size := Nat.le_trans z z5
        clear z5
        clear hb
        go_wp2_with fail
        refine (vKnowsS sa sb ca cb la lb true w5 HA.out HB.out la7 lb7 K1.out).mono ?_
        rintro e w6 ⟨rfl, hb⟩
        have JA : Hid (Rw w6 sa la) := HA.out.below hb
        clear HA
        have HA := JA
        clear JA
        have JB : Hid (Rw w6 sb lb) := HB.out.below hb
        clear HB
        have HB := JB
        clear JB
        have JP : Hid (Rw w6 sP j) := HP.out.below hb
        clear HP
        have HP := JP
        clear JP
        have JQ : Hid (Rw w6 sQ j) := HQ.out.below hb
        clear HQ
        have HQ := JQ
        clear JQ
        have JK : Hid (Below w.heap.size w w6) := HK.out.trans (hb.mono z)
        clear HK
        have HK := JK
        clear JK
        have z6 := hb.size
        have z : w.heap.size ≤ w6.heap.size := Nat.le_trans z z6
        clear z6
        clear hb
        go_wp2_with fail
        refine (vJoinI sb sa cb ca lb la j w6 HB.out HA.out lb7 la7 hcb HJ2.out).mono ?_
        rintro e w7 ⟨sS, cS, rfl, hS, hb⟩
        have JA : Hid (Rw w7 sa la) := HA.out.below hb
        clear HA
        have HA := JA
        clear JA
        have JB : Hid (Rw w7 sb lb) := HB.out.below hb
        clear HB
        have HB := JB
        clear JB
        have JP : Hid (Rw w7 sP j) := HP.out.below hb
        clear HP
        have HP := JP
        clear JP
        have JQ : Hid (Rw w7 sQ j) := HQ.out.below hb
        clear HQ
        have HQ := JQ
        clear JQ
        have JK : Hid (Below w.heap.size w w7) := HK.out.trans (hb.mono z)
        clear HK
        have HK := JK
        clear JK
        have z7 := hb.size
        have z : w.heap.size ≤ w7.heap.size := Nat.le_trans z z7
        clear z7
        have HS : Hid (Rw w7 sS j) := hS
        clear hS
        clear hb
        go_wp2_with fail
        refine (vSame sP sS cP cS j j w7 HP.out HS.out j7 rfl).mono ?_
        rintro e w8 ⟨rfl, hb⟩
        have JA : Hid (Rw w8 sa la) := HA.out.below hb
        clear HA
        have HA := JA
        clear JA
        have JB : Hid (Rw w8 sb lb) := HB.out.below hb
        clear HB
        have HB := JB
        clear JB
        have JP : Hid (Rw w8 sP j) := HP.out.below hb
        clear HP
        have HP := JP
        clear JP
        have JQ : Hid (Rw w8 sQ j) := HQ.out.below hb
        clear HQ
        have HQ := JQ
        clear JQ
        have JS : Hid (Rw w8 sS j) := HS.out.below hb
        clear HS
        have HS := JS
        clear JS
        have JK : Hid (Below w.heap.size w w8) := HK.out.trans (hb.mono z)
        clear HK
        have HK := JK
        clear JK
        have z8 := hb.size
        have z : w.heap.size ≤ w8.heap.size := Nat.le_trans z z8
        clear z8
        clear hb
        go_wp2_with fail
        refine (vKnowsI sP sa cP ca j la true w8 HP.out HA.out j7 KJA.out).mono ?_
        rintro e w9 ⟨rfl, hb⟩
        have JA : Hid (Rw w9 sa la) := HA.out.below hb
        clear HA
        have HA := JA
        clear JA
        have JB : Hid (Rw w9 sb lb) := HB.out.below hb
        clear HB
        have HB := JB
        clear JB
        have JP : Hid (Rw w9 sP j) := HP.out.below hb
        clear HP
        have HP := JP
        clear JP
        have JQ : Hid (Rw w9 sQ j) := HQ.out.below hb
        clear HQ
        have HQ := JQ
        clear JQ
        have JS : Hid (Rw w9 sS j) := HS.out.below hb
        clear HS
        have HS := JS
        clear JS
        have JK : Hid (Below w.heap.size w w9) := HK.out.trans (hb.mono z)
        clear HK
        have HK := JK
        clear JK
        have z9 := hb.size
        have z : w.heap.size ≤ w9.heap.size := Nat.le_trans z z9
        clear z9
        clear hb
        go_wp2_with fail
        refine (vKnowsI sP sb cP cb j lb true w9 HP.out HB.out j7 KJB.out).mono ?_
        rintro e w10 ⟨rfl, hb⟩
        have JA : Hid (Rw w10 sa la) := HA.out.below hb
        clear HA
        have HA := JA
        clear JA
        have JB : Hid (Rw w10 sb lb) := HB.out.below hb
        clear HB
        have HB := JB
        clear JB
        have JP : Hid (Rw w10 sP j) := HP.out.below hb
        clear HP
        have HP := JP
        clear JP
        have JQ : Hid (Rw w10 sQ j) := HQ.out.below hb
        clear HQ
        have HQ := JQ
        clear JQ
        have JS : Hid (Rw w10 sS j) := HS.out.below hb
        clear HS
        have HS := JS
        clear JS
        have JK : Hid (Below w.heap.size w w10) := HK.out.trans (hb.mono z)
        clear HK
        have HK := JK
        clear JK
        have z10 := hb.size
        have z : w.heap.size ≤ w10.heap.size := Nat.le_trans z z10
        clear z10
        clear hb
        go_wp2_with fail
        refine (vKnowsI sa sa ca ca la la true w10 HA.out HA.out la7 (knowsB_refl _)).mono ?_
        rintro e w11 ⟨rfl, hb⟩
        have JA : Hid (Rw w11 sa la) := HA.out.below hb
        clear HA
        have HA := JA
        clear JA
        have JB : Hid (Rw w11 sb lb) := HB.out.below hb
        clear HB
        have HB := JB
        clear JB
        have JP : Hid (Rw w11 sP j) := HP.out.below hb
        clear HP
        have HP := JP
        clear JP
        have JQ : Hid (Rw w11 sQ j) := HQ.out.below hb
        clear HQ
        have HQ := JQ
        clear JQ
        have JS : Hid (Rw w11 sS j) := HS.out.below hb
        clear HS
        have HS := JS
        clear JS
        have JK : Hid (Below w.heap.size w w11) := HK.out.trans (hb.mono z)
        clear HK
        have HK := JK
        clear JK
        have z11 := hb.size
        have z : w.heap.size ≤ w11.heap.size := Nat.le_trans z z11
        clear z11
        clear hb
        go_wp2_with fail
        refine (vKnowsI sa sb ca cb la lb true w11 HA.out HB.out la7 K1.out).mono ?_
        rintro e w12 ⟨rfl, hb⟩
        have JA : Hid (Rw w12 sa la) := HA.out.below hb
        clear HA
        have HA := JA
        clear JA
        have JB : Hid (Rw w12 sb lb) := HB.out.below hb
        clear HB
        have HB := JB
        clear JB
        have JP : Hid (Rw w12 sP j) := HP.out.below hb
        clear HP
        have HP := JP
        clear JP
        have JQ : Hid (Rw w12 sQ j) := HQ.out.below hb
        clear HQ
        have HQ := JQ
        clear JQ
        have JS : Hid (Rw w12 sS j) := HS.out.below hb
        clear HS
        have HS := JS
        clear JS
        have JK : Hid (Below w.heap.size w w12) := HK.out.trans (hb.mono z)
        clear HK
        have HK := JK
        clear JK
        have z12 := hb.size
        have z : w.heap.size ≤ w12.heap.size := Nat.le_trans z z12
        clear z12
        clear hb
        go_wp2_with fail
        refine (vSame sP sa cP ca j la w12 HP.out HA.out j7 EJ.out).mono ?_
        rintro e w13 ⟨rfl, hb⟩
        have JA : Hid (Rw w13 sa la) := HA.out.below hb
        clear HA
        have HA := JA
        clear JA
        have JB : Hid (Rw w13 sb lb) := HB.out.below hb
        clear HB
        have HB := JB
        clear JB
        have JP : Hid (Rw w13 sP j) := HP.out.below hb
        clear HP
        have HP := JP
        clear JP
        have JQ : Hid (Rw w13 sQ j) := HQ.out.below hb
        clear HQ
        have HQ := JQ
        clear JQ
        have JS : Hid (Rw w13 sS j) := HS.out.below hb
        clear HS
        have HS := JS
        clear JS
        have JK : Hid (Below w.heap.size w w13) := HK.out.trans (hb.mono z)
        clear HK
        have HK := JK
        clear JK
        have z13 := hb.size
        have z : w.heap.size ≤ w13.heap.size := Nat.le_trans z z13
        clear z13
        clear hb
        go_wp2_with fail
        refine (vKnowsI sa sb ca cb la lb true w13 HA.out HB.out la7 K1.out).mono ?_
        rintro e w14 ⟨rfl, hb⟩
        have JA : Hid (Rw w14 sa la) := HA.out.below hb
        clear HA
        have HA := JA
        clear JA
        have JB : Hid (Rw w14 sb lb) := HB.out.below hb
        clear HB
        have HB := JB
        clear JB
        have JP : Hid (Rw w14 sP j) := HP.out.below hb
        clear HP
        have HP := JP
        clear JP
        have JQ : Hid (Rw w14 sQ j) := HQ.out.below hb
        clear HQ
        have HQ := JQ
        clear JQ
        have JS : Hid (Rw w14 sS j) := HS.out.below hb
        clear HS
        have HS := JS
        clear JS
        have JK : Hid (Below w.heap.size w w14) := HK.out.trans (hb.mono z)
        clear HK
        have HK := JK
        clear JK
        have z14 := hb.size
        have z : w.heap.size ≤ w14.heap.size := Nat.le_trans z z14
        clear z14
        clear hb
        go_wp2_with fail
        refine (vKnowsI sb sa cb ca lb la true w14 HB.out HA.out lb7 K2.out).mono ?_
        rintro e w15 ⟨rfl, hb⟩
        have JA : Hid (Rw w15 sa la) := HA.out.below hb
        clear HA
        have HA := JA
        clear JA
        have JB : Hid (Rw w15 sb lb) := HB.out.below hb
        clear HB
        have HB := JB
        clear JB
        have JP : Hid (Rw w15 sP j) := HP.out.below hb
        clear HP
        have HP := JP
        clear JP
        have JQ : Hid (Rw w15 sQ j) := HQ.out.below hb
        clear HQ
        have HQ := JQ
        clear JQ
        have JS : Hid (Rw w15 sS j) := HS.out.below hb
        clear HS
        have HS := JS
        clear JS
        have JK : Hid (Below w.heap.size w w15) := HK.out.trans (hb.mono z)
        clear HK
        have HK := JK
        clear JK
        have z15 := hb.size
        have z : w.heap.size ≤ w15.heap.size := Nat.le_trans z z15
        clear z15
        clear hb
        go_wp2_with fail
        refine (vSame sa sb ca cb la lb w15 HA.out HB.out la7 EA.out).mono ?_
        rintro e w16 ⟨rfl, hb⟩
        have JA : Hid (Rw w16 sa la) := HA.out.below hb
        clear HA
        have HA := JA
        clear JA
        have JB : Hid (Rw w16 sb lb) := HB.out.below hb
        clear HB
        have HB := JB
        clear JB
        have JP : Hid (Rw w16 sP j) := HP.out.below hb
        clear HP
        have HP := JP
        clear JP
        have JQ : Hid (Rw w16 sQ j) := HQ.out.below hb
        clear HQ
        have HQ := JQ
        clear JQ
        have JS : Hid (Rw w16 sS j) := HS.out.below hb
        clear HS
        have HS := JS
        clear JS
        have JK : Hid (Below w.heap.size w w16) := HK.out.trans (hb.mono z)
        clear HK
        have HK := JK
        clear JK
        have z16 := hb.size
        have z : w.heap.size ≤ w16.heap.size := Nat.le_trans z z16
        clear z16
        clear hb
        go_wp2
        go_ret
        exact ⟨rfl, HK.out⟩
  ·
    have HA : Hid (Rw w1 sa la) := hA
    have HB : Hid (Rw w1 sb lb) := hB
    have HK : Hid (Below w.heap.size w w1) := hK
    clear hA hB hK
    obtain ⟨j, hj⟩ : ∃ j, joinL la lb = j := ⟨_, rfl⟩
    have hjl : j.length = min la.length lb.length := by rw [← hj, join_len]
    have HJ : Hid (joinL la lb = j) := hj
    have HJ2 : Hid (joinL lb la = j) := (joinL_comm lb la).trans hj
    have K1 : Hid (knowsB la lb = false) := knowsB_len hd
    have hne : ((la.length : Int) != (lb.length : Int)) = true := by simp; omega
    have g1 : (j.length : Int) ≤ (la.length : Int) := by omega
    have g2 : (j.length : Int) ≤ (lb.length : Int) := by omega
    have j7 : j.length ≤ 7 := by omega
    clear hj hjl hd
    go_wp2_with fail
    refine (vJoinI sa sb ca cb la lb j w1 HA.out HB.out la7 lb7 hca HJ.out).mono ?_
    rintro e w2 ⟨sP, cP, rfl, hP, hb⟩
    have JA : Hid (Rw w2 sa la) := HA.out.below hb
    clear HA
    have HA := JA
    clear JA
    have JB : Hid (Rw w2 sb lb) := HB.out.below hb
    clear HB
    have HB := JB
    clear JB
    have JK : Hid (Below w.heap.size w w2) := HK.out.trans (hb.mono z)
    clear HK
    have HK := JK
    clear JK
    have z2 := hb.size
    have z : w.heap.size ≤ w2.heap.size := Nat.le_trans z z2
    clear z2
    have HP : Hid (Rw w2 sP j) := hP
    clear hP
    clear hb
    go_wp2_with fail
    refine (vJoinS sa sb ca cb la lb j w2 HA.out HB.out la7 lb7 HJ.out).mono ?_
    rintro e w3 ⟨sQ, cQ, rfl, hQ, hb⟩
    have JA : Hid (Rw w3 sa la) := HA.out.below hb
    clear HA
    have HA := JA
    clear JA
    have JB : Hid (Rw w3 sb lb) := HB.out.below hb
    clear HB
    have HB := JB
    clear JB
    have JP : Hid (Rw w3 sP j) := HP.out.below hb
    clear HP
    have HP := JP
    clear JP
    have JK : Hid (Below w.heap.size w w3) := HK.out.trans (hb.mono z)
    clear HK
    have HK := JK
    clear JK
    have z3 := hb.size
    have z : w.heap.size ≤ w3.heap.size := Nat.le_trans z z3
    clear z3
    have HQ : Hid (Rw w3 sQ j) := hQ
    clear hQ
    clear hb
    go_wp2_with fail
    refine (vSame sP sQ cP cQ j j w3 HP.out HQ.out j7 rfl).mono ?_
    rintro e w4 ⟨rfl, hb⟩
    have JA : Hid (Rw w4 sa la) := HA.out.below hb
    clear HA
    have HA := JA
    clear JA
    have JB : Hid (Rw w4 sb lb) := HB.out.below hb
    clear HB
    have HB := JB
    clear JB
    have JP : Hid (Rw w4 sP j) := HP.out.below hb
    clear HP
    have HP := JP
    clear JP
    have JQ : Hid (Rw w4 sQ j) := HQ.out.below hb
    clear HQ
    have HQ := JQ
    clear JQ
    have JK : Hid (Below w.heap.size w w4) := HK.out.trans (hb.mono z)
    clear HK
    have HK := JK
    clear JK
    have z4 := hb.size
    have z : w.heap.size ≤ w4.heap.size := Nat.le_trans z z4
    clear z4
    clear hb
    go_wp2_with fail
    refine (vKnowsI sa sb ca cb la lb false w4 HA.out HB.out la7 K1.out).mono ?_
    rintro e w5 ⟨rfl, hb⟩
    have JA : Hid (Rw w5 sa la) := HA.out.below hb
    clear HA
    have HA := JA
    clear JA
    have JB : Hid (Rw w5 sb lb) := HB.out.below hb
    clear HB
    have HB := JB
    clear JB
    have JP : Hid (Rw w5 sP j) := HP.out.below hb
    clear HP
    have HP := JP
    clear JP
    have JQ : Hid (Rw w5 sQ j) := HQ.out.below hb
    clear HQ
    have HQ := JQ
    clear JQ
    have JK : Hid (Below w.heap.size w w5) := HK.out.trans (hb.mono z)
    clear HK
    have HK := JK
    clear JK
    have z5 := hb.size
    have z : w.heap.size ≤ w5.heap.size := Nat.le_trans z z5
    clear z5
    clear hb
    go_wp2_with fail
    refine (vKnowsS sa sb ca cb la lb false w5 HA.out HB.out la7 lb7 K1.out).mono ?_
    rintro e w6 ⟨rfl, hb⟩
    have JA : Hid (Rw w6 sa la) := HA.out.below hb
    clear HA
    have HA := JA
    clear JA
    have JB : Hid (Rw w6 sb lb) := HB.out.below hb
    clear HB
    have HB := JB
    clear JB
    have JP : Hid (Rw w6 sP j) := HP.out.below hb
    clear HP
    have HP := JP
    clear JP
    have JQ : Hid (Rw w6 sQ j) := HQ.out.below hb
    clear HQ
    have HQ := JQ
    clear JQ
    have JK : Hid (Below w.heap.size w w6) := HK.out.trans (hb.mono z)
    clear HK
    have HK := JK
    clear JK
    have z6 := hb.size
    have z : w.heap.size ≤ w6.heap.size := Nat.le_trans z z6
    clear z6
    clear hb
    go_wp2_with fail
    refine (vJoinI sb sa cb ca lb la j w6 HB.out HA.out lb7 la7 hcb HJ2.out).mono ?_
    rintro e w7 ⟨sS, cS, rfl, hS, hb⟩
    have JA : Hid (Rw w7 sa la) := HA.out.below hb
    clear HA
    have HA := JA
    clear JA
    have JB : Hid (Rw w7 sb lb) := HB.out.below hb
    clear HB
    have HB := JB
    clear JB
    have JP : Hid (Rw w7 sP j) := HP.out.below hb
    clear HP
    have HP := JP
    clear JP
    have JQ : Hid (Rw w7 sQ j) := HQ.out.below hb
    clear HQ
    have HQ := JQ
    clear JQ
    have JK : Hid (Below w.heap.size w w7) := HK.out.trans (hb.mono z)
    clear HK
    have HK := JK
    clear JK
    have z7 := hb.size
    have z : w.heap.size ≤ w7.heap.size := Nat.le_trans z z7
    clear z7
    have HS : Hid (Rw w7 sS j) := hS
    clear hS
    clear hb
    go_wp2_with fail
    refine (vSame sP sS cP cS j j w7 HP.out HS.out j7 rfl).mono ?_
    rintro e w8 ⟨rfl, hb⟩
    have JA : Hid (Rw w8 sa la) := HA.out.below hb
    clear HA
    have HA := JA
    clear JA
    have JB : Hid (Rw w8 sb lb) := HB.out.below hb
    clear HB
    have HB := JB
    clear JB
    have JP : Hid (Rw w8 sP j) := HP.out.below hb
    clear HP
    have HP := JP
    clear JP
    have JQ : Hid (Rw w8 sQ j) := HQ.out.below hb
    clear HQ
    have HQ := JQ
    clear JQ
    have JS : Hid (Rw w8 sS j) := HS.out.below hb
    clear HS
    have HS := JS
    clear JS
    have JK : Hid (Below w.heap.size w w8) := HK.out.trans (hb.mono z)
    clear HK
    have HK := JK
    clear JK
    have z8 := hb.size
    have z : w.heap.size ≤ w8.heap.size := Nat.le_trans z z8
    clear z8
    clear hb
    go_wp2_with fail
    refine (vKnowsI sa sb ca cb la lb false w8 HA.out HB.out la7 K1.out).mono ?_
    rintro e w9 ⟨rfl, hb⟩
    have JA : Hid (Rw w9 sa la) := HA.out.below hb
    clear HA
    have HA := JA
    clear JA
    have JB : Hid (Rw w9 sb lb) := HB.out.below hb
    clear HB
    have HB := JB
    clear JB
    have JP : Hid (Rw w9 sP j) := HP.out.below hb
    clear HP
    have HP := JP
    clear JP
    have JQ : Hid (Rw w9 sQ j) := HQ.out.below hb
    clear HQ
    have HQ := JQ
    clear JQ
    have JS : Hid (Rw w9 sS j) := HS.out.below hb
    clear HS
    have HS := JS
    clear JS
    have JK : Hid (Below w.heap.size w w9) := HK.out.trans (hb.mono z)
    clear HK
    have HK := JK
    clear JK
    have z9 := hb.size
    have z : w.heap.size ≤ w9.heap.size := Nat.le_trans z z9
    clear z9
    clear hb
    go_wp2
    go_ret
    exact ⟨rfl, HK.out⟩

set_option maxRecDepth 100000 in
theorem liftedFnViews (os : Os) (started : os.Started) (H : Type) (enc : TypeId × Value → H) :
    ReturnsInHanded {} Try.checked os 3 .any (Rows.fnViewsSpec.pre6 enc Try.prog Try.f3 Rows.fnViewsRow.domain false) (Rows.fnViewsSpec.post enc Try.prog Try.f3 false true false false) := by
  refine returnsInHanded_of_change (C := Try.checked) ownS started (by kernel_rfl) Try.func3
    (ChangeSpec.witness6 (enc := enc) (C := Try.checked) false ⟨#[], #[.slice none 0 0], []⟩ 8 (by kernel_rfl) (by kernel_rfl) (by kernel_rfl) (by kernel_rfl)) ?_
  intro W base args ds gs before hval0 hW hcnd _
  have hval : ∀ (j : Nat) t v, Try.f3.params[j]? = some t → args[j]? = some v → Value.okWide Try.prog W .any base t v := hval0
  have hW' := hW
  obtain ⟨p, q, hA0, hV, rfl, hfz, hnd⟩ := hW
  have hA : DataW.TrodAll enc Try.prog W 0 (fun _ => true) true Try.f3.params.toList args.toList ds p := hA0
  rw [Try.params3] at hA hval
  obtain ⟨v0, d0, hargs, rfl, h0⟩ := trodAll_one hA
  obtain rfl : args = #[v0] := by cases args; simp_all
  obtain ⟨rfl, rfl⟩ := trodVars_none hV
  have k0 := h0
  have lt0 : ∀ x ∈ p, x.block < W.heap.size := by obtain ⟨m, hm⟩ := k0; exact DataW.trod_lt m _ _ _ hm
  obtain ⟨s, n, c, rfl, hn, hB⟩ := bytes_read (hval 0 22 v0 rfl rfl) h0
  clear hA0 hval0
  refine (walkFnViews s n c W hB hn).mono fun e W' ⟨he, bel⟩ => ?_
  subst he
  exact ⟨_, rfl, _, _, _, [], _, [], hW', trodAll_mk1 (shut_bool Try.underlying4 _), trodAll_mk1 (Below.trod laidOutS (by kernel_rfl) (of_decide_eq_true (by kernel_rfl)) k0 bel lt0), rfl, bel.frame _, fun h => by cases h⟩

theorem fnViews_holds : Rows.FnViewsSaid :=
  OpenClaim.holds_of_wide 3 Try.f3 rfl rfl rfl rfl rfl rfl rfl ⟨rfl, rfl, rfl, rfl, rfl⟩ rfl rfl rfl rfl rfl (by kernel_rfl) Try.func3 (by kernel_rfl)
    (of_decide_eq_true (by kernel_rfl)) (by unfold Func.isWrapper; first | (rw [if_pos (by decide +kernel)]; kernel_rfl) | (rw [if_neg (by decide +kernel)]; exact ⟨rfl, rfl⟩))
    (fun os started H enc _ => liftedFnViews os started H enc)
#print axioms fnViews_holds

end Go.Proofs.Ytniidllclehlaaa
