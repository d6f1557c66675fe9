/- A row behind what lets a lock go; what faults. Conditions: the channel lies in memory, and the row is of at most a hundred steps. Where parts begin that stand one behind the other. Conditions: at most a hundred of them. -/
import Derived.Test.YthkpkdehicoikaaGreatE10Lock
namespace Go.Proofs.YthkpkdehicoikaaGreat
section
set_option linter.unusedSimpArgs false
set_option linter.unusedVariables false
set_option maxRecDepth 100000
open Go.RowKit

set_option maxHeartbeats 2000000 in
theorem iLetThen (o r a x n fr : Int) (ss : Option Addr) (sl sc pb : Nat) (rm b : Int) (gt nt ct bt : Nat) (L : List I5) (w : World) (h : CB w pb b) (hL : OwnT5 w bt (.slice (some ⟨gt, 0, none⟩) nt ct) L) (hn0 : 0 < nt) (hn : nt ≤ 100) (N : Nat) (hN : nt + 2 = N) : Calls Tryz.prog 143 #[.agg #[.int .i64 o, .int .i64 r, .int .i64 a, .int .i64 x, .int .i64 n, .int .i64 fr, .slice ss sl sc, .func (.func 88) #[] #[.pointer (some ⟨pb, 0, none⟩)], .int .i64 rm], .slice (some ⟨gt, 0, none⟩) nt ct] w fun e w' => ∃ g c, e = .returned (.slice (some ⟨g, 0, none⟩) N c) ∧ OwnT5 w' w.heap.size (.slice (some ⟨g, 0, none⟩) N c) (letR b ++ L) ∧ Below w.heap.size w w' := by
  have hlen : L.length = nt := hL.len.symm
  have HL0 : Hid (OwnT5 w bt (.slice (some ⟨gt, 0, none⟩) nt ct) L) := hL
  have HLN : Hid (L.length = nt) := hlen
  clear hL hlen
  obtain ⟨W, hW, hx, hb, hz⟩ := SX.new w (.int .i64 o) (.int .i64 r) (.int .i64 a) (.int .i64 x) (.int .i64 n) (.int .i64 fr) (.slice ss sl sc) (.func (.func 88) #[] #[.pointer (some ⟨pb, 0, none⟩)]) (.int .i64 rm) 89
  have HC : Hid (CB W pb b) := h.keep hb
  have HX := hid_of hx
  have HW : Hid (Below w.heap.size w W) := hb
  have HK : Hid (Below W.heap.size W W) := Below.refl _ _
  clear h hx hb
  obtain ⟨t0, t1, t2, t3, t4, t5, t6, t7, t8, tl⟩ := HX.out
  have HL : Hid (OwnT5 W bt (.slice (some ⟨gt, 0, none⟩) nt ct) L) := HL0.out.keep HW.out
  clear HL0
  go_enter Tryz.func143, Tryz.ntmps143
  have hwz := HW.out.size
  go_wp2_with (first | (go_at_call 136; refine (iLetGo o r a x n fr ss sl sc pb rm b _ (by first | exact HC.out.keep HK.out | exact HC.out.keep HK.out.drew)).mono ?_; rintro e w1 ⟨g1, c1, rfl, ho1, hb1⟩; have HO1 := hid_of ho1; have HL1 := hid_of (HL.out.keep hb1); have hz1 := hb1.size; have HB1 := hid_of hb1; clear ho1 hb1) | (at_builtin; refine app5 rfl _ _ rfl w1 W.heap.size (.slice (some ⟨g1, 0, none⟩) 2 c1) (letR b) rfl HO1.out bt gt nt ct L rfl HL1.out HLN.out hn0 (by show 2 + nt ≤ 1000; omega) N (by show 2 + nt = N; omega) (by omega) ?_; intro g2 c2 w2 ho2 hb2; have HO2 := hid_of ho2; have HB2 := hid_of hb2; clear ho2 hb2))
  go_ret
  exact ⟨_, _, rfl, HO2.out.low (by omega), (HW.out.trans (HB1.out.mono (by omega))).trans (HB2.out.mono (by omega))⟩
theorem calls_new {f : Nat} {args : Array Value} {w : World} {C : Array Value} {post : Ending → World → Prop} (L : List I5) (base n : Nat) (hC : C.toList = (fl5 L).map (Value.int .i64)) (hn : L.length = n) (hn' : n ≤ 1000) (hb : base ≤ w.heap.size)
    (h : ∀ W, OwnT5 W base (.slice (some ⟨w.heap.size, 0, none⟩) n n) L → Below w.heap.size w W → W.heap.size = w.heap.size + 1 → Calls Tryz.prog f args W post) : Calls Tryz.prog f args (w.alloc (.cells C 64)) post := by
  subst hn
  exact h _ (own5_new L C hC hb hn') ((Below.refl _ _).alloc (Nat.le_refl _) _) (by simp)
set_option maxHeartbeats 2000000 in
theorem iFault (o r a x n fr : Int) (ss : Option Addr) (sl sc pb : Nat) (rm b : Int) (w : World) (h : CB w pb b) : Calls Tryz.prog 135 #[.agg #[.int .i64 o, .int .i64 r, .int .i64 a, .int .i64 x, .int .i64 n, .int .i64 fr, .slice ss sl sc, .func (.func 88) #[] #[.pointer (some ⟨pb, 0, none⟩)], .int .i64 rm]] w fun e w' => ∃ g c, e = .returned (.slice (some ⟨g, 0, none⟩) 3 c) ∧ OwnT5 w' w.heap.size (.slice (some ⟨g, 0, none⟩) 3 c) (faultR b) ∧ Below w.heap.size w w' := by
  obtain ⟨W, hW, hx, hb, hz⟩ := SX.new w (.int .i64 o) (.int .i64 r) (.int .i64 a) (.int .i64 x) (.int .i64 n) (.int .i64 fr) (.slice ss sl sc) (.func (.func 88) #[] #[.pointer (some ⟨pb, 0, none⟩)]) (.int .i64 rm) 89
  have HC : Hid (CB W pb b) := h.keep hb
  have HX := hid_of hx
  have HW : Hid (Below w.heap.size w W) := hb
  have HK : Hid (Below W.heap.size W W) := Below.refl _ _
  clear h hx hb
  obtain ⟨t0, t1, t2, t3, t4, t5, t6, t7, t8, tl⟩ := HX.out
  go_enter Tryz.func135, Tryz.ntmps135
  have hwz := HW.out.size
  go_wp2_with (go_at_call 143; refine calls_new [⟨13, 0, 0, 0, 0⟩] W.heap.size 1 rfl rfl (by omega) (Nat.le_refl _) ?_; intro W2 ho2 hb2 hz2; refine (iLetThen o r a x n fr ss sl sc pb rm b _ 1 _ W.heap.size [⟨13, 0, 0, 0, 0⟩] _ (HC.out.keep hb2) ho2 (by omega) (by omega) 3 rfl).mono ?_; rintro e w1 ⟨g1, c1, rfl, ho1, hb1⟩; have HO1 := hid_of ho1; have HB2 := hid_of hb2; have HB1 := hid_of hb1; have HZ2 := hid_of hz2; clear ho1 hb1 ho2 hb2 hz2)
  go_ret
  have hz2 := HZ2.out
  exact ⟨_, _, rfl, HO1.out.low (by omega), (HW.out.trans (HB2.out.mono (by omega))).trans (HB1.out.mono (by omega))⟩
end

section
set_option linter.unusedSimpArgs false
set_option linter.unusedVariables false
set_option maxRecDepth 100000
open Go.RowKit

def isJ (o : Int) : Bool := decide (o = 10 ∨ o = 11)
theorem isJump_is (o r a b n : Int) (q : Bool) (w : World) (h : isJ o = q) : Calls Tryz.prog 147 #[.agg #[.int .i64 o, .int .i64 r, .int .i64 a, .int .i64 b, .int .i64 n]] w fun e w' => e = .returned (.bool q) ∧ Below w.heap.size w w' := by
  subst h
  by_cases h0 : o = 10
  · subst h0
    go_enter Tryz.func147, Tryz.ntmps147
    go_wp2
    go_ret
    exact ⟨rfl, (Below.refl _ _).alloc (Nat.le_refl _) _⟩
  · have e0 : (o == 10) = false := by simpa using h0
    by_cases h1 : o = 11
    · subst h1
      go_enter Tryz.func147, Tryz.ntmps147
      go_wp2
      go_ret
      exact ⟨rfl, (Below.refl _ _).alloc (Nat.le_refl _) _⟩
    · have e1 : (o == 11) = false := by simpa using h1
      have e : isJ o = false := decide_eq_false (fun e => by omega)
      rw [e]
      clear e h0 h1
      go_enter Tryz.func147, Tryz.ntmps147
      go_wp2
      go_ret
      exact ⟨by simp [Array.getD, e1], (Below.refl _ _).alloc (Nat.le_refl _) _⟩
/- parts: rows of steps, each somewhere, and the row that holds them -/
structure RD where
  g : Nat
  c : Nat
  l : List I5
structure PartR (w : World) (B G : Nat) (i : Nat) (x : RD) : Prop where
  c : w.cell? ⟨G, i, none⟩ = some (.slice (some ⟨x.g, 0, none⟩) x.l.length x.c)
  lt : x.g < B
  at' : ∀ j, j < x.l.length → At5 w x.g (j * 5) (x.l.getD j z5)
structure PartsR (w : World) (B G : Nat) (D : List RD) : Prop where
  lt : G < B
  r : ∀ (i : Nat) (x : RD), D[i]? = some x → PartR w B G i x
theorem PartR.keep {w w' : World} {B G i : Nat} {x : RD} (h : PartR w B G i x) (hg : G < B) (hb : Below B w w') : PartR w' B G i x :=
  ⟨(hb.cell (p := ⟨G, i, none⟩) hg).trans h.c, h.lt, fun j hj => by
    obtain ⟨h0, h1, h2, h3, h4⟩ := h.at' j hj
    have g0 := h.lt
    exact ⟨(hb.cell (p := ⟨x.g, j * 5, none⟩) g0).trans h0, (hb.cell (p := ⟨x.g, j * 5 + 1, none⟩) g0).trans h1, (hb.cell (p := ⟨x.g, j * 5 + 2, none⟩) g0).trans h2, (hb.cell (p := ⟨x.g, j * 5 + 3, none⟩) g0).trans h3, (hb.cell (p := ⟨x.g, j * 5 + 4, none⟩) g0).trans h4⟩⟩
theorem PartsR.keep {w w' : World} {B G : Nat} {D : List RD} (h : PartsR w B G D) (hb : Below B w w') : PartsR w' B G D := ⟨h.lt, fun i x hx => (h.r i x hx).keep h.lt hb⟩
def firstV (f : Int) : List (List I5) → Int
  | [] => f
  | l :: r => firstV (ad f l.length) r
theorem firstV_app (b : List (List I5)) : ∀ (a : List (List I5)) (f : Int), firstV f (a ++ b) = firstV (firstV f a) b
  | [], f => rfl
  | x :: r, f => firstV_app b r (ad f x.length)
theorem firstV_take {D : List RD} {f : Int} {i : Nat} {x : RD} (h : D[i]? = some x) : firstV f ((D.map RD.l).take (i + 1)) = ad (firstV f ((D.map RD.l).take i)) x.l.length := by
  have e : (D.map RD.l)[i]? = some x.l := by rw [List.getElem?_map, h]; rfl
  rw [List.take_add_one, e, Option.toList_some, firstV_app]
  rfl
def toN (t : Int) (n : Nat) : Nat := if t = -1 then n else t.toNat
theorem firstOf_is (fr t : Int) (G C : Nat) (D : List RD) (w : World) (B : Nat) (h : PartsR w B G D) (hC : D.length ≤ C) (hn : D.length ≤ 100) (t0 : -1 ≤ t) (t1 : t ≤ D.length) :
    Calls Tryz.prog 148 #[.int .i64 fr, .slice (some ⟨G, 0, none⟩) D.length C, .int .i64 t] w fun e w' => e = .returned (.int .i64 (firstV fr ((D.map RD.l).take (toN t D.length)))) ∧ w' = w := by
  have H := hid_of h
  clear h
  obtain ⟨k, hk, hk1⟩ : ∃ k : Nat, toN t D.length = k ∧ k ≤ D.length := by
    refine ⟨_, rfl, ?_⟩
    unfold toN
    split <;> omega
  have HKN := hid_of hk
  rw [hk]
  clear hk
  by_cases hm : t = -1
  · subst hm
    have ek : k = D.length := by rw [← HKN.out]; rfl
    subst ek
    go_enter Tryz.func148, Tryz.ntmps148
    go_wp2
    go_loop [0, 17] (fun a i => ∃ (j : Nat) (z : Int), j ≤ D.length ∧ i = .int .i64 j ∧ a = .int .i64 z ∧ Hid (z = firstV fr ((D.map RD.l).take j))) (fun _ i => D.length - (intOf i).toNat)
    case atStart => exact ⟨0, fr, Nat.zero_le _, rfl, rfl, show _ = _ by rfl⟩
    case round =>
      obtain ⟨j, z, hj, rfl, rfl, HZ⟩ := hrel
      by_cases hlt : j < D.length
      · obtain ⟨x, hx⟩ : ∃ x, D[j]? = some x := ⟨_, List.getElem?_eq_getElem hlt⟩
        have p := (H.out.r j x hx).c
        have HS := hid_of (firstV_take (f := fr) hx)
        have b0 : (0 : Int) ≤ (j : Int) := by omega
        have b1 : (j : Int) < (D.length : Int) := by omega
        go_wp2
        go_round
        case rel => exact ⟨j + 1, _, by omega, by go_num, rfl, by show _ = _; rw [HS.out, ← HZ.out]; rfl⟩
        case measure => simp [intOf]; omega
      · go_wp2
        go_ret
        have e : j = D.length := by omega
        subst e
        exact ⟨by rw [HZ.out]; rfl, rfl⟩
  · have em : (t == -1) = false := by simpa using hm
    have ek : t = (k : Int) := by
      have := HKN.out
      unfold toN at this
      rw [if_neg hm] at this
      omega
    subst ek
    have b2 : (0 : Int) ≤ (k : Int) := by omega
    have b3 : (k : Int) ≤ (C : Int) := by omega
    clear hm t0
    go_enter Tryz.func148, Tryz.ntmps148
    go_wp2
    go_loop [0, 17] (fun a i => ∃ (j : Nat) (z : Int), j ≤ k ∧ i = .int .i64 j ∧ a = .int .i64 z ∧ Hid (z = firstV fr ((D.map RD.l).take j))) (fun _ i => k - (intOf i).toNat)
    case atStart => exact ⟨0, fr, Nat.zero_le _, rfl, rfl, show _ = _ by rfl⟩
    case round =>
      obtain ⟨j, z, hj, rfl, rfl, HZ⟩ := hrel
      by_cases hlt : j < k
      · obtain ⟨x, hx⟩ : ∃ x, D[j]? = some x := ⟨_, List.getElem?_eq_getElem (by omega)⟩
        have p := (H.out.r j x hx).c
        have HS := hid_of (firstV_take (f := fr) hx)
        have b0 : (0 : Int) ≤ (j : Int) := by omega
        have b1 : (j : Int) < (k : Int) := by omega
        go_wp2
        go_round
        case rel => exact ⟨j + 1, _, by omega, by go_num, rfl, by show _ = _; rw [HS.out, ← HZ.out]; rfl⟩
        case measure => simp [intOf]; omega
      · go_wp2
        go_ret
        have e : j = k := by omega
        subst e
        exact ⟨by rw [HZ.out]; rfl, rfl⟩
end

end Go.Proofs.YthkpkdehicoikaaGreat
