/- Parts put together behind the lock. Conditions: the channel lies in memory; at most ninety parts. Rows that lie somewhere, and a row of them. Conditions: at most a thousand steps. -/
import Derived.Test.YthkpkdehicoikaaGreatE10Tog
namespace Go.Proofs.YthkpkdehicoikaaGreat
section
set_option linter.unusedSimpArgs false
set_option linter.unusedVariables false
set_option maxRecDepth 100000
open Go.RowKit

theorem infoCd : ∃ i, Tryz.prog.info? 44 = some i ∧ i.zero = some (.slice none 0 0) ∧ i.size = 1 ∧ i.bytes = 24 := ⟨_, rfl, rfl, rfl, rfl⟩
def vals (D : List RD) : List Value := D.map fun x => .slice (some ⟨x.g, 0, none⟩) x.l.length x.c
theorem vals_at {D : List RD} {i : Nat} {u : Value} (h : (vals D)[i]? = some u) : ∃ x, D[i]? = some x ∧ u = .slice (some ⟨x.g, 0, none⟩) x.l.length x.c := by
  unfold vals at h
  rw [List.getElem?_map] at h
  obtain ⟨x, h1, h2⟩ := Option.map_eq_some_iff.1 h
  exact ⟨x, h1, h2.symm⟩
theorem stepP {ops : Array Oper} {o : Oper} {a : Act} {K : Act → World → Prop} {Q : Exit → Act → World → Prop} {E : Prop} (hgd : o.guard = none) (s x : Operand) (ho : o.op = .call { callee := .builtin .append, args := #[s, x], argTypes := #[27, 27] })
    (w : World) (base g1 n1 c1 : Nat) (L1 : List I5) (h1 : OwnT5 w base (.slice (some ⟨g1, 0, none⟩) n1 c1) L1) (hs : a.eval s = .slice (some ⟨w.heap.size, 0, none⟩) 1 1) (G C : Nat) (D : List RD) (hx : a.eval x = .slice (some ⟨G, 0, none⟩) D.length C) (hP : PartsR w w.heap.size G D) (hD : 0 < D.length) (hD' : D.length ≤ 90)
    (h : ∀ g cap w', PartsR w' w'.heap.size g (⟨g1, c1, L1⟩ :: D) → D.length + 1 ≤ cap → Below w.heap.size w w' → K (a.put o.dst (.slice (some ⟨g, 0, none⟩) (D.length + 1) cap)) w') : if Region.wanted o (yielded ops a.tmps) = true then Oper.wp Tryz.prog o a (w.alloc (.cells #[.slice (some ⟨g1, 0, none⟩) n1 c1] 44)) K Q else E := by
  have hwt : Region.wanted o (yielded ops a.tmps) = true := by simp [Region.wanted, hgd]
  rw [if_pos hwt]
  obtain ⟨i0, hi0, hz0, hz1, hz2⟩ := infoCd
  have kk : Below w.heap.size w (w.alloc (.cells #[.slice (some ⟨g1, 0, none⟩) n1 c1] 44)) := (Below.refl _ _).alloc (Nat.le_refl _) _
  have hown := World.ownsRow_lit (base := w.heap.size) (e := 44) (size := 1) w #[.slice (some ⟨g1, 0, none⟩) n1 c1] 1 (Nat.le_refl _) (by unfold maxLen; omega) rfl
  refine wp_append_lies _ s x 27 ho w.heap.size 44 i0 _ 1 24 Tryz.underlying27 hi0 hz0 hz1 hz2 rfl (by decide) _ 1 _ hs hown ⟨G, 0, none⟩ D.length C (vals D) hx (by simp [vals]) (fun j u hj => ?_) (fun u hu => by obtain ⟨z, -, rfl⟩ := List.mem_map.1 hu; rfl) hD (by unfold maxLen; omega) (by omega) (by simp) _ rfl ?_
  · obtain ⟨y, hy, rfl⟩ := vals_at hj
    have ea : Addr.add ⟨G, 0, none⟩ j = ⟨G, j, none⟩ := by
      by_cases h : j = 0
      · subst h; rfl
      · simp [Addr.add, h]
    rw [ea]
    exact ((hP.r j y hy).keep hP.lt kk).c
  intro g cap w' q1 q2 q3 q4
  have hb : Below w.heap.size w w' := kk.trans (Below.grown (Below.refl _ _) q2 (by simp) (fun j hj => (World.ownsRow.lt hown _ hj).1))
  have hsz := hb.size
  have hcap : 1 + D.length ≤ cap := by
    rcases q1.2 with ⟨e, -⟩ | ⟨g', cap', cur, e, _, _, hnc, _⟩
    · cases e
    · injection e with e1 e2 e3
      omega
  have hg := World.ownsRow.lt q1 g rfl
  rw [Nat.add_comm 1 D.length]
  refine h g cap w' ⟨hg.2, fun i y hy => ?_⟩ (by omega) hb
  have hcell : ∀ u, ([Value.slice (some ⟨g1, 0, none⟩) n1 c1] ++ vals D)[i]? = some u → w'.cell? ⟨g, i, none⟩ = some u := fun u hu => by
    have hi' := (List.getElem?_eq_some_iff.1 hu).1
    simp [vals] at hi'
    rw [World.ownsRow.cellAt q1 i (by omega)]
    exact hu
  rcases Nat.eq_zero_or_pos i with rfl | hp
  · simp at hy
    subst hy
    have e := h1.len
    subst e
    refine ⟨hcell _ rfl, by have := h1.lt; show g1 < _; omega, fun j hj => ?_⟩
    have hr := (h1.keep hb).insR
    rcases hr with e | ⟨g', o', e, -, -, hc⟩
    · rw [e] at hj; simp at hj
    · injection e with e
      injection e with e1 e2
      subst e1 e2
      have := hc j hj
      rw [Nat.zero_add] at this
      exact this
  · obtain ⟨k, rfl⟩ : ∃ k, i = k + 1 := ⟨i - 1, by omega⟩
    have hy' : D[k]? = some y := by simpa using hy
    have r := (hP.r k y hy').keep hP.lt hb
    refine ⟨hcell _ ?_, by have := r.lt; omega, r.at'⟩
    have : (vals D)[k]? = some (.slice (some ⟨y.g, 0, none⟩) y.l.length y.c) := by unfold vals; rw [List.getElem?_map, hy']; rfl
    simpa using this
set_option maxHeartbeats 4000000 in
theorem iUnder (o r a x n fr : Int) (ss : Option Addr) (sl sc pb : Nat) (rm b : Int) (G C : Nat) (D : List RD) (w : World) (h : CB w pb b) (hP : PartsR w w.heap.size G D) (hD : 0 < D.length) (hD' : D.length ≤ 90) (ht : lens (lockR b :: D.map RD.l) ≤ 900) (hj : ∀ (i : Nat) (x : RD), D[i]? = some x → ∀ (j : Nat) (s : I5), x.l[j]? = some s → isJ s.o = true → -1 ≤ s.n ∧ s.n ≤ D.length + 1) (N : Nat) (hN : lens (lockR b :: D.map RD.l) = N) : Calls Tryz.prog 133 #[.agg #[.int .i64 o, .int .i64 r, .int .i64 a, .int .i64 x, .int .i64 n, .int .i64 fr, .slice ss sl sc, .func (.func 88) #[] #[.pointer (some ⟨pb, 0, none⟩)], .int .i64 rm], .slice (some ⟨G, 0, none⟩) D.length C] w fun e w' => ∃ g c, e = .returned (.slice (some ⟨g, 0, none⟩) N c) ∧ OwnT5 w' w.heap.size (.slice (some ⟨g, 0, none⟩) N c) (togL fr (lockR b :: D.map RD.l) (lockR b :: D.map RD.l)) ∧ Below w.heap.size w w' := by
  have HP0 := hid_of hP
  have HT := hid_of ht
  have HJ := hid_of hj
  have HN := hid_of hN
  clear hP ht hj hN
  obtain ⟨W, hW, hx, hb, hz⟩ := SX.new w (.int .i64 o) (.int .i64 r) (.int .i64 a) (.int .i64 x) (.int .i64 n) (.int .i64 fr) (.slice ss sl sc) (.func (.func 88) #[] #[.pointer (some ⟨pb, 0, none⟩)]) (.int .i64 rm) 89
  have HC : Hid (CB W pb b) := h.keep hb
  have HX := hid_of hx
  have HW : Hid (Below w.heap.size w W) := hb
  have HK : Hid (Below W.heap.size W W) := Below.refl _ _
  clear h hx hb
  obtain ⟨t0, t1, t2, t3, t4, t5, t6, t7, t8, tl⟩ := HX.out
  have HP : Hid (PartsR W W.heap.size G D) := ⟨by have := HP0.out.lt; have := HW.out.size; omega, fun i x hx => by have q := (HP0.out.keep HW.out).r i x hx; exact ⟨q.c, by have := q.lt; have := HW.out.size; omega, q.at'⟩⟩
  clear HP0
  have hwz := HW.out.size
  have HL1 : Hid (0 < lens (lockR b :: D.map RD.l)) := by show 0 < _; simp [lens, lockR]; omega
  have HJ2 : Hid (∀ (g c i : Nat) (x : RD), ((⟨g, c, lockR b⟩ : RD) :: D)[i]? = some x → ∀ (j : Nat) (s : I5), x.l[j]? = some s → isJ s.o = true → -1 ≤ s.n ∧ s.n ≤ (((⟨g, c, lockR b⟩ : RD) :: D).length : Int)) := by
    intro g c i x hx j s hs hq
    have e : ((((⟨g, c, lockR b⟩ : RD) :: D).length : Nat) : Int) = (D.length : Int) + 1 := by simp
    rw [e]
    rcases Nat.eq_zero_or_pos i with rfl | hp
    · simp at hx
      subst hx
      have hm := List.mem_of_getElem? hs
      simp [lockR] at hm
      rcases hm with rfl | rfl | rfl | rfl
      · simp [isJ] at hq
      · simp [isJ] at hq
      · simp; omega
      · simp; omega
    · obtain ⟨k, rfl⟩ : ∃ k, i = k + 1 := ⟨i - 1, by omega⟩
      exact HJ.out k x (by simpa using hx) j s hs hq
  go_enter Tryz.func133, Tryz.ntmps133
  go_wp2
  go_region_held3 (fun w' => w'.cell? ⟨w.heap.size, 0, none⟩ = some (.int .i64 o) ∧ w'.cell? ⟨w.heap.size, 1, none⟩ = some (.int .i64 r) ∧ w'.cell? ⟨w.heap.size, 2, none⟩ = some (.int .i64 a) ∧ w'.cell? ⟨w.heap.size, 3, none⟩ = some (.int .i64 x) ∧ w'.cell? ⟨w.heap.size, 4, none⟩ = some (.int .i64 n) ∧ w'.cell? ⟨w.heap.size, 5, none⟩ = some (.int .i64 fr) ∧ w'.cell? ⟨w.heap.size, 6, none⟩ = some (.slice ss sl sc) ∧ w'.cell? ⟨w.heap.size, 7, none⟩ = some (.func (.func 88) #[] #[.pointer (some ⟨pb, 0, none⟩)]) ∧ w'.cell? ⟨w.heap.size, 8, none⟩ = some (.int .i64 rm)) (go_keep) (first | (go_at_call 146; refine (iLock o r a x n fr ss sl sc pb rm b _ (by first | exact HC.out.keep HK.out | exact HC.out.keep HK.out.drew)).mono ?_; rintro e w1 ⟨g1, c1, rfl, ho1, hb1⟩; have hbk : Below W.heap.size W w1 := (by first | exact HK.out.trans (hb1.mono HK.out.size) | exact HK.out.drew.trans (hb1.mono HK.out.drew.size)); have HB1 := hid_of hbk; have HO1 := hid_of ho1; obtain ⟨t0, t1, t2, t3, t4, t5, t6, t7, t8, tl⟩ := HX.out.keep hbk; have hz1 := hbk.size; have HP1 : Hid (PartsR w1 w1.heap.size G D) := ⟨(by have := HP.out.lt; omega), fun i x hx => (by have q := (HP.out.keep hbk).r i x hx; exact ⟨q.c, (by have := q.lt; omega), q.at'⟩)⟩; clear ho1 hb1 hbk) | (refine stepP rfl _ _ rfl w1 _ g1 4 c1 (lockR b) HO1.out rfl G C D rfl HP1.out hD hD' ?_; intro g2 c2 w2 hp2 hc2 hb2; have HP2 := hid_of hp2; have HB2 := hid_of hb2; obtain ⟨t0, t1, t2, t3, t4, t5, t6, t7, t8, tl⟩ := HX.out.keep (HB1.out.trans (hb2.mono hz1)); clear hp2 hb2) | (go_at_call 145; refine (together_is fr g2 c2 (⟨g1, c1, lockR b⟩ :: D) w2 HP2.out hc2 (by show D.length + 1 ≤ 100; omega) HT.out HL1.out (HJ2.out g1 c1) N HN.out).mono ?_; rintro e w3 ⟨g3, c3, rfl, ho3, hb3⟩; have HO3 := hid_of ho3; have HB3 := hid_of hb3; obtain ⟨t0, t1, t2, t3, t4, t5, t6, t7, t8, tl⟩ := (HX.out.keep (HB1.out.trans (HB2.out.mono hz1))).keep hb3; clear ho3 hb3))
  go_wp2
  go_ret
  have hz2 := HB2.out.size
  exact ⟨_, _, rfl, HO3.out.low (by omega), ((HW.out.trans (HB1.out.mono (by omega))).trans (HB2.out.mono (by omega))).trans (HB3.out.mono (by omega))⟩
end

section
set_option linter.unusedSimpArgs false
set_option linter.unusedVariables false
set_option maxRecDepth 100000
open Go.RowKit

theorem name5 {P : World → Prop} {w : World} {C : Array Value} (L : List I5) (base n : Nat) (hC : C.toList = (fl5 L).map (Value.int .i64)) (hn : L.length = n) (hn' : n ≤ 1000) (hb : base ≤ w.heap.size)
    (h : ∀ W, OwnT5 W base (.slice (some ⟨w.heap.size, 0, none⟩) n n) L → Below w.heap.size w W → w.heap.size < W.heap.size → P W) : P (w.alloc (.cells C 64)) := by
  subst hn
  exact h _ (own5_new L C hC hb hn') ((Below.refl _ _).alloc (Nat.le_refl _) _) (by simp)
/- rows that lie somewhere, and a row of them -/
structure Row5 (w : World) (x : RD) : Prop where
  o : ∃ base, OwnT5 w base (.slice (some ⟨x.g, 0, none⟩) x.l.length x.c) x.l
theorem Row5.keep {w w' : World} {x : RD} (h : Row5 w x) (hb : Below w.heap.size w w') : Row5 w' x := by
  obtain ⟨base, h⟩ := h.o
  exact ⟨base, h.keep hb⟩
theorem Row5.of {w : World} {base g n c : Nat} {L : List I5} (h : OwnT5 w base (.slice (some ⟨g, 0, none⟩) n c) L) : Row5 w ⟨g, c, L⟩ := by
  have e := h.len
  subst e
  exact ⟨base, h⟩
theorem parts_new (w : World) (D : List RD) (C : Array Value) (hC : C.toList = vals D) (h : ∀ x ∈ D, Row5 w x) : PartsR (w.alloc (.cells C 44)) (w.alloc (.cells C 44)).heap.size w.heap.size D := by
  have hsz : (w.alloc (.cells C 44)).heap.size = w.heap.size + 1 := by simp
  refine ⟨by omega, fun i x hx => ?_⟩
  obtain ⟨base, ho⟩ := (h x (List.mem_of_getElem? hx)).o
  have hb : Below w.heap.size w (w.alloc (.cells C 44)) := (Below.refl _ _).alloc (Nat.le_refl _) _
  refine ⟨?_, by have := ho.lt; omega, fun j hj => ?_⟩
  · have e : C[i]? = some (.slice (some ⟨x.g, 0, none⟩) x.l.length x.c) := by
      rw [← Array.getElem?_toList, hC]
      unfold vals
      rw [List.getElem?_map, hx]
      rfl
    simpa [go_sem] using e
  · rcases (ho.keep hb).insR with e | ⟨g', o', e, -, -, hc⟩
    · rw [e] at hj; simp at hj
    · injection e with e
      injection e with e1 e2
      subst e1 e2
      have := hc j hj
      rw [Nat.zero_add] at this
      exact this
def jOk (k : Int) (s : I5) : Bool := !isJ s.o || decide (-1 ≤ s.n ∧ s.n ≤ k)
theorem jOk_of {D : List RD} {k : Int} (h : ∀ x ∈ D, x.l.all (jOk k) = true) : ∀ (i : Nat) (x : RD), D[i]? = some x → ∀ (j : Nat) (s : I5), x.l[j]? = some s → isJ s.o = true → -1 ≤ s.n ∧ s.n ≤ k := by
  intro i x hx j s hs hq
  have h1 := h x (List.mem_of_getElem? hx)
  rw [List.all_eq_true] at h1
  have h2 := h1 s (List.mem_of_getElem? hs)
  unfold jOk at h2
  rw [hq] at h2
  simpa using h2
end

end Go.Proofs.YthkpkdehicoikaaGreat
