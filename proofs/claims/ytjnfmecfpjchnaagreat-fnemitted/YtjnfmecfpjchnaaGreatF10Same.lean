/- sameSteps of two rows that are alike. Conditions: at most a thousand steps. -/
import Derived.Test.YtjnfmecfpjchnaaGreatF10Draw
import Derived.Test.YtjnfmecfpjchnaaGreatF10Ok
import Derived.Test.YtjnfmecfpjchnaaGreatC7Ok
import Derived.Test.YtjnfmecfpjchnaaGreatFnBytes
import Derived.BigRegion
namespace Go.Proofs.YtjnfmecfpjchnaaGreat
set_option linter.unusedSimpArgs false
set_option linter.unusedVariables false
set_option maxRecDepth 100000
open Go.RowKit

theorem At5.keep {w w' : World} {B g off : Nat} {x : I5} (h : At5 w g off x) (hb : Below B w w') (hg : g < B) : At5 w' g off x :=
  ⟨(hb.cell hg).trans h.1, (hb.cell hg).trans h.2.1, (hb.cell hg).trans h.2.2.1, (hb.cell hg).trans h.2.2.2.1, (hb.cell hg).trans h.2.2.2.2⟩

/- a list of steps below block B -/
def InsB (w : World) (B : Nat) (s : Option Addr) (l : List I5) : Prop :=
  l = [] ∨ ∃ g off, s = some ⟨g, off, none⟩ ∧ g < B ∧ ∀ i, i < l.length → At5 w g (off + i * 5) (l.getD i z5)

set_option maxHeartbeats 1000000 in
theorem sameSteps_same (s s' : Option Addr) (c c' B : Nat) (l : List I5) (w : World) (h : InsB w B s l) (h' : InsB w B s' l) (hB : B ≤ w.heap.size) (hl : l.length ≤ 1000) :
    Calls Tryz.prog 9 #[.slice s l.length c, .slice s' l.length c'] w fun e w' => e = .returned (.bool true) ∧ ∃ n, w' = w.drewN n := by
  have hne : ((l.length : Int) != (l.length : Int)) = false := by simp
  have H := hid_of h
  have H' := hid_of h'
  clear h h'
  go_enter Tryz.func9, Tryz.ntmps9
  go_wp2
  go_loopw [5] (fun i wr => ∃ (k m : Nat), k ≤ l.length ∧ i = .int .i64 k ∧ wr = w.drewN m) (fun i _ => l.length - (intOf i).toNat)
  case atStart => exact ⟨0, 0, Nat.zero_le _, rfl, rfl⟩
  case round =>
    obtain ⟨k, m, hk, rfl, rfl⟩ := hrel
    by_cases hlt : k < l.length
    · obtain ⟨g, o, rfl, hg, hc⟩ : ∃ g o, s = some ⟨g, o, none⟩ ∧ g < B ∧ At5 w g (o + k * 5) (l.getD k z5) := by
        rcases H.out with e | ⟨g, o, e, hg, hc⟩
        · rw [e] at hlt; simp at hlt
        · exact ⟨g, o, e, hg, hc k hlt⟩
      obtain ⟨g', o', rfl, hg', hc'⟩ : ∃ g o, s' = some ⟨g, o, none⟩ ∧ g < B ∧ At5 w g (o + k * 5) (l.getD k z5) := by
        rcases H'.out with e | ⟨g, o, e, hg, hc⟩
        · rw [e] at hlt; simp at hlt
        · exact ⟨g, o, e, hg, hc k hlt⟩
      generalize l.getD k z5 = x at hc hc'
      obtain ⟨xo, xr, xa, xb, xn⟩ := x
      obtain ⟨f0, f1, f2, f3, f4⟩ := hc
      obtain ⟨e0, e1, e2, e3, e4⟩ := hc'
      simp only at f0 f1 f2 f3 f4 e0 e1 e2 e3 e4
      have b0 : (0 : Int) ≤ (k : Int) := by omega
      have b1 : (k : Int) < (l.length : Int) := by omega
      have hr : ∀ w, (binOp .neq 35 (.agg #[.int .i64 xo, .int .i64 xr, .int .i64 xa, .int .i64 xb, .int .i64 xn]) (.agg #[.int .i64 xo, .int .i64 xr, .int .i64 xa, .int .i64 xb, .int .i64 xn])).run Tryz.prog w = .ok (.bool false) w := fun w => by rw [neqStep_run]; simp
      clear H H'
      go_wp2
      go_region
      all_goals go_wp2
      all_goals exact ⟨⟨k + 1, m + 1, by omega, by go_num, rfl⟩, by simp [intOf]; omega⟩
    · go_wp2
      go_ret
      exact ⟨rfl, m, rfl⟩
theorem drawSize_any (s : Option Addr) (n c : Nat) (w : World) (hb : Bytes w w.heap.size s n) (hn : n ≤ maxLen) :
    Calls Tryz.prog 8 #[.slice s n c] w fun e w' => ∃ o r a b m : Int, e = .returned (.agg #[.int .i64 o, .int .i64 r, .int .i64 a, .int .i64 b, .int .i64 m]) ∧ Below w.heap.size w w' := by
  obtain ⟨W, hW⟩ : ∃ W, w.alloc (.cells #[.int .i64 0, .int .i64 0, .int .i64 0, .int .i64 0, .int .i64 0] 26) = W := ⟨_, rfl⟩
  have HKW : Hid (Below w.heap.size w W) := by rw [← hW]; exact (Below.refl _ _).alloc (Nat.le_refl _) _
  have R0 : Res W w.heap.size := by rw [← hW]; exact res_new w _ _ _ _ _ _
  have HR0 := hid_of R0
  have HB := hid_of (hb.up HKW.out)
  have HN := hid_of hn
  clear hb hn R0
  go_enter Tryz.func8, Tryz.ntmps8
  go_wp2_with (go_at_call 33; refine (drawOne_any s n c W HB.out HN.out).mono ?_; rintro e w1 ⟨o, r, a, b, m, rfl, hb1⟩; have HR1 := hid_of (HR0.out.of_below hb1 HR0.out.2.2); have HK1 := hid_of (HKW.out.trans (hb1.mono HKW.out.size)); obtain ⟨u0, u1, u2, u3, u4, t0, t1, t2, t3, t4⟩ := HR1.out.at; have tf := HR1.out.2.1; clear hb1)
  exact bodyPost_ret (v := .agg #[.int .i64 o, .int .i64 r, .int .i64 a, .int .i64 b, .int .i64 m]) (by simp [results, Tryz.results8, go_sem, t0, t1, t2, t3, t4]) rfl ⟨_, _, _, _, _, rfl, below_set5v HK1.out (Nat.le_refl _)⟩
set_option maxHeartbeats 1000000 in
theorem within_true (s : Option Addr) (c lo hi : Nat) (l : List Int) (x : Int) (w : World) (h : IntsR w lo hi s l) (hx : x ∈ l) (hB : hi ≤ w.heap.size) (hl : l.length ≤ 1000) :
    Calls Tryz.prog 13 #[.slice s l.length c, .int .i64 x] w fun e w' => e = .returned (.bool true) ∧ ∃ n, w' = w.drewN n := by
  have H := hid_of h
  have HX := hid_of hx
  clear h hx
  go_enter Tryz.func13, Tryz.ntmps13
  go_wp2
  go_loopw [5] (fun i wr => ∃ (k m : Nat), k ≤ l.length ∧ i = .int .i64 k ∧ (∀ j, j < k → l.getD j 0 ≠ x) ∧ wr = w.drewN m) (fun i _ => l.length - (intOf i).toNat)
  case atStart => exact ⟨0, 0, Nat.zero_le _, rfl, fun j hj => absurd hj (Nat.not_lt_zero _), rfl⟩
  case round =>
    obtain ⟨k, m, hk, rfl, hj, rfl⟩ := hrel
    have HJ := hid_of hj
    clear hj
    have hlt : k < l.length := by
      rcases Nat.lt_or_ge k l.length with g | g
      · exact g
      · obtain ⟨i, hi, e⟩ := List.getElem_of_mem HX.out
        exact absurd (by rw [List.getD_eq_getElem?_getD, List.getElem?_eq_getElem hi]; exact e) (HJ.out i (by omega))
    obtain ⟨g, o, rfl, a1, a2, a3⟩ := H.out.pos (by omega)
    have f1 := a3 k hlt
    clear a3
    have b0 : (0 : Int) ≤ (k : Int) := by omega
    have b1 : (k : Int) < (l.length : Int) := by omega
    generalize hy : l.getD k 0 = y at f1
    have HY := hid_of hy
    clear hy H
    by_cases e : y = x
    · subst e
      have ee : (y == y) = true := by simp
      go_wp2
      all_goals first | (go_ret; exact ⟨rfl, _, rfl⟩) | (go_region; all_goals go_wp2; all_goals go_ret; all_goals exact ⟨rfl, _, rfl⟩)
    · have ee : (y == x) = false := by simpa using e
      go_wp2
      all_goals first | exact ⟨⟨k + 1, m, by omega, by go_num, fun j hj => by rcases Nat.lt_or_ge j k with q | q; exact HJ.out j q; (have : j = k := by omega); subst this; rw [HY.out]; exact e, rfl⟩, by simp [intOf]; omega⟩ | (go_region; all_goals go_wp2; all_goals exact ⟨⟨k + 1, m + 1, by omega, by go_num, fun j hj => by rcases Nat.lt_or_ge j k with q | q; exact HJ.out j q; (have : j = k := by omega); subst this; rw [HY.out]; exact e, rfl⟩, by simp [intOf]; omega⟩)
theorem baseV_room {caps : List Int} {n : Int} (h : baseV caps n ≠ -1) : 0 ≤ baseV caps n ∧ baseV caps n ≤ 19 ∧ 0 ≤ n ∧ n < caps.length ∧ 1 ≤ caps.getD n.toNat 0 ∧ caps.getD n.toNat 0 ≤ 4 := by
  unfold baseV at h ⊢
  by_cases hc : capsR caps = true ∧ sumC caps ≤ 24 ∧ 0 ≤ n ∧ n < caps.length
  · rw [if_pos hc]
    obtain ⟨h1, h2, h3, h4⟩ := hc
    have q := sumC_next h1 (k := n.toNat) (by omega)
    have q2 := capsR_at h1 (k := n.toNat) (by omega)
    have q3 := sumC_len _ (capsR_take n.toNat h1)
    refine ⟨by omega, by omega, h3, h4, q2.1, q2.2⟩
  · rw [if_neg hc] at h
    exact absurd rfl h
theorem emit_ok {caps : List Int} {o r a x n fr : Int} (f0 : 0 ≤ fr) (f1 : fr < 200) (L : List I5) (hL : emitM caps [0, 1, 30, 60, 61] o r a x n fr = L) : L = [] ∨ ((L.length : Int) = sizeV o ∧ ∀ s ∈ L, okS fr L.length [0, 1, 30, 60, 61] s) := by
  subst hL
  unfold emitM
  by_cases hok : Plain.insB o r a x n ([0, 1, 30, 60, 61] : List Int).length caps.length = true
  · rw [if_pos hok]
    have hb := hok
    unfold Plain.insB at hb
    have hb := of_decide_eq_true hb
    have jr : ∀ k : Int, 0 ≤ k → k < 5 → ([0, 1, 30, 60, 61] : List Int).getD k.toNat 0 ∈ ([0, 1, 30, 60, 61] : List Int) ∧ 0 ≤ ([0, 1, 30, 60, 61] : List Int).getD k.toNat 0 ∧ ([0, 1, 30, 60, 61] : List Int).getD k.toNat 0 < 800 := fun k h0 h5 => by
      rcases (show k = 0 ∨ k = 1 ∨ k = 2 ∨ k = 3 ∨ k = 4 by omega) with rfl | rfl | rfl | rfl | rfl <;> simp
    have len5 : (([0, 1, 30, 60, 61] : List Int).length : Int) = 5 := rfl
    rw [len5] at hb
    rcases insB_ops hok with rfl | rfl | rfl | rfl | rfl | rfl | rfl | rfl | rfl | rfl | rfl | rfl | rfl
    · exact .inr ⟨rfl, forall_one (okS_of (st1 (by omega) (by omega)) (by omega)) forall_nil⟩
    · exact .inr ⟨rfl, forall_one (okS_of (st2 (by omega) (by omega) (by omega) (by omega)) (by omega)) forall_nil⟩
    · exact .inr ⟨rfl, forall_one (okS_of (st2 (by omega) (by omega) (by omega) (by omega)) (by omega)) forall_nil⟩
    · exact .inr ⟨rfl, forall_one (okS_of (st2 (by omega) (by omega) (by omega) (by omega)) (by omega)) forall_nil⟩
    · by_cases hb0 : baseV caps n = -1
      · exact .inl (if_pos hb0)
      · obtain ⟨u0, u1, u2, u3, u4, u5⟩ := baseV_room hb0
        have e2 : (if baseV caps n = -1 then [] else chanM 5 r a x (caps.getD n.toNat 0) (baseV caps n) fr) = sendS5 r a (baseV caps n) (caps.getD n.toNat 0) fr := (if_neg hb0).trans (eq5 r a (baseV caps n) (caps.getD n.toNat 0) fr)
        right
        show ((if baseV caps n = -1 then [] else chanM 5 r a x (caps.getD n.toNat 0) (baseV caps n) fr).length : Int) = _ ∧ ∀ s ∈ (if baseV caps n = -1 then [] else chanM 5 r a x (caps.getD n.toNat 0) (baseV caps n) fr), okS fr ((if baseV caps n = -1 then [] else chanM 5 r a x (caps.getD n.toNat 0) (baseV caps n) fr).length : Int) _ s
        rw [e2]
        exact ⟨rfl, ok_sendS5 (r := r) (a := a) (x := x) (rm := caps.getD n.toNat 0) _ f0 (by omega) u0 u1 u4 u5 (by omega) (by omega) (by omega)⟩
    · by_cases hb0 : baseV caps n = -1
      · exact .inl (if_pos hb0)
      · obtain ⟨u0, u1, u2, u3, u4, u5⟩ := baseV_room hb0
        have e2 : (if baseV caps n = -1 then [] else chanM 6 r a x (caps.getD n.toNat 0) (baseV caps n) fr) = takeS6 r x (baseV caps n) (caps.getD n.toNat 0) fr := (if_neg hb0).trans (eq6 r x (baseV caps n) (caps.getD n.toNat 0) fr)
        right
        show ((if baseV caps n = -1 then [] else chanM 6 r a x (caps.getD n.toNat 0) (baseV caps n) fr).length : Int) = _ ∧ ∀ s ∈ (if baseV caps n = -1 then [] else chanM 6 r a x (caps.getD n.toNat 0) (baseV caps n) fr), okS fr ((if baseV caps n = -1 then [] else chanM 6 r a x (caps.getD n.toNat 0) (baseV caps n) fr).length : Int) _ s
        rw [e2]
        exact ⟨rfl, ok_takeS6 (r := r) (a := a) (x := x) (rm := caps.getD n.toNat 0) _ f0 (by omega) u0 u1 u4 u5 (by omega) (by omega) (by omega)⟩
    · by_cases hb0 : baseV caps n = -1
      · exact .inl (if_pos hb0)
      · obtain ⟨u0, u1, u2, u3, u4, u5⟩ := baseV_room hb0
        have e2 : (if baseV caps n = -1 then [] else chanM 7 r a x (caps.getD n.toNat 0) (baseV caps n) fr) = sendS7 r a (baseV caps n) (caps.getD n.toNat 0) fr := (if_neg hb0).trans (eq7 r a (baseV caps n) (caps.getD n.toNat 0) fr)
        right
        show ((if baseV caps n = -1 then [] else chanM 7 r a x (caps.getD n.toNat 0) (baseV caps n) fr).length : Int) = _ ∧ ∀ s ∈ (if baseV caps n = -1 then [] else chanM 7 r a x (caps.getD n.toNat 0) (baseV caps n) fr), okS fr ((if baseV caps n = -1 then [] else chanM 7 r a x (caps.getD n.toNat 0) (baseV caps n) fr).length : Int) _ s
        rw [e2]
        exact ⟨rfl, ok_sendS7 (r := r) (a := a) (x := x) (rm := caps.getD n.toNat 0) _ f0 (by omega) u0 u1 u4 u5 (by omega) (by omega) (by omega)⟩
    · by_cases hb0 : baseV caps n = -1
      · exact .inl (if_pos hb0)
      · obtain ⟨u0, u1, u2, u3, u4, u5⟩ := baseV_room hb0
        have e2 : (if baseV caps n = -1 then [] else chanM 8 r a x (caps.getD n.toNat 0) (baseV caps n) fr) = takeS8 r x (baseV caps n) (caps.getD n.toNat 0) fr := (if_neg hb0).trans (eq8 r x (baseV caps n) (caps.getD n.toNat 0) fr)
        right
        show ((if baseV caps n = -1 then [] else chanM 8 r a x (caps.getD n.toNat 0) (baseV caps n) fr).length : Int) = _ ∧ ∀ s ∈ (if baseV caps n = -1 then [] else chanM 8 r a x (caps.getD n.toNat 0) (baseV caps n) fr), okS fr ((if baseV caps n = -1 then [] else chanM 8 r a x (caps.getD n.toNat 0) (baseV caps n) fr).length : Int) _ s
        rw [e2]
        exact ⟨rfl, ok_takeS8 (r := r) (a := a) (x := x) (rm := caps.getD n.toNat 0) _ f0 (by omega) u0 u1 u4 u5 (by omega) (by omega) (by omega)⟩
    · by_cases hb0 : baseV caps n = -1
      · exact .inl (if_pos hb0)
      · obtain ⟨u0, u1, u2, u3, u4, u5⟩ := baseV_room hb0
        have e2 : (if baseV caps n = -1 then [] else chanM 9 r a x (caps.getD n.toNat 0) (baseV caps n) fr) = closeS (baseV caps n) fr := (if_neg hb0).trans (eq9 (baseV caps n) fr)
        right
        show ((if baseV caps n = -1 then [] else chanM 9 r a x (caps.getD n.toNat 0) (baseV caps n) fr).length : Int) = _ ∧ ∀ s ∈ (if baseV caps n = -1 then [] else chanM 9 r a x (caps.getD n.toNat 0) (baseV caps n) fr), okS fr ((if baseV caps n = -1 then [] else chanM 9 r a x (caps.getD n.toNat 0) (baseV caps n) fr).length : Int) _ s
        rw [e2]
        exact ⟨rfl, ok_closeS (r := r) (a := a) (x := x) (rm := caps.getD n.toNat 0) _ f0 (by omega) u0 u1 u4 u5 (by omega) (by omega) (by omega)⟩
    · exact .inr ⟨rfl, forall_one (okS_of (st9 (by omega)) (by omega)) forall_nil⟩
    · obtain ⟨q1, q2, q3⟩ := jr n (by omega) (by omega)
      exact .inr ⟨rfl, forall_one (okS_of (st10 ⟨q2, q3⟩) (fun _ => .inr q1)) forall_nil⟩
    · obtain ⟨q1, q2, q3⟩ := jr n (by omega) (by omega)
      exact .inr ⟨rfl, forall_one (okS_of (st11 (by omega) ⟨q2, q3⟩) (fun _ => .inr q1)) forall_nil⟩
    · exact .inr ⟨rfl, forall_one (okS_of (st13 (by omega)) (by omega)) forall_nil⟩
  · exact .inl (if_neg hok)

end Go.Proofs.YtjnfmecfpjchnaaGreat
