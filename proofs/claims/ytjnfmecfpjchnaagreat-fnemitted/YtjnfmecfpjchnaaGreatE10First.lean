/- Where parts begin that stand one behind the other. Conditions: at most a hundred of them. -/
import Derived.Test.YtjnfmecfpjchnaaGreatE10Let
namespace Go.Proofs.YtjnfmecfpjchnaaGreat
set_option linter.unusedSimpArgs false
set_option linter.unusedVariables false
set_option maxRecDepth 100000
open Go.RowKit

def isJ (o : Int) : Bool := decide (o = 10 ∨ o = 11)
theorem isJump_is (o r a b n : Int) (q : Bool) (w : World) (h : isJ o = q) : Calls Tryz.prog 97 #[.agg #[.int .i64 o, .int .i64 r, .int .i64 a, .int .i64 b, .int .i64 n]] w fun e w' => e = .returned (.bool q) ∧ Below w.heap.size w w' := by
  subst h
  by_cases h0 : o = 10
  · subst h0
    go_enter Tryz.func97, Tryz.ntmps97
    go_wp2
    go_ret
    exact ⟨rfl, (Below.refl _ _).alloc (Nat.le_refl _) _⟩
  · have e0 : (o == 10) = false := by simpa using h0
    by_cases h1 : o = 11
    · subst h1
      go_enter Tryz.func97, Tryz.ntmps97
      go_wp2
      go_ret
      exact ⟨rfl, (Below.refl _ _).alloc (Nat.le_refl _) _⟩
    · have e1 : (o == 11) = false := by simpa using h1
      have e : isJ o = false := decide_eq_false (fun e => by omega)
      rw [e]
      clear e h0 h1
      go_enter Tryz.func97, Tryz.ntmps97
      go_wp2
      go_ret
      exact ⟨by simp [Array.getD, e1], (Below.refl _ _).alloc (Nat.le_refl _) _⟩
/- parts: rows of steps, each somewhere, and the row that holds them -/
structure RD where
  g : Nat
  c : Nat
  l : List I5
structure PartR (w : World) (B G : Nat) (i : Nat) (x : RD) : Prop where
  c : w.cell? ⟨G, i, none⟩ = some (.slice (some ⟨x.g, 0, none⟩) x.l.length x.c)
  lt : x.g < B
  at' : ∀ j, j < x.l.length → At5 w x.g (j * 5) (x.l.getD j z5)
structure PartsR (w : World) (B G : Nat) (D : List RD) : Prop where
  lt : G < B
  r : ∀ (i : Nat) (x : RD), D[i]? = some x → PartR w B G i x
theorem PartR.keep {w w' : World} {B G i : Nat} {x : RD} (h : PartR w B G i x) (hg : G < B) (hb : Below B w w') : PartR w' B G i x :=
  ⟨(hb.cell (p := ⟨G, i, none⟩) hg).trans h.c, h.lt, fun j hj => by
    obtain ⟨h0, h1, h2, h3, h4⟩ := h.at' j hj
    have g0 := h.lt
    exact ⟨(hb.cell (p := ⟨x.g, j * 5, none⟩) g0).trans h0, (hb.cell (p := ⟨x.g, j * 5 + 1, none⟩) g0).trans h1, (hb.cell (p := ⟨x.g, j * 5 + 2, none⟩) g0).trans h2, (hb.cell (p := ⟨x.g, j * 5 + 3, none⟩) g0).trans h3, (hb.cell (p := ⟨x.g, j * 5 + 4, none⟩) g0).trans h4⟩⟩
theorem PartsR.keep {w w' : World} {B G : Nat} {D : List RD} (h : PartsR w B G D) (hb : Below B w w') : PartsR w' B G D := ⟨h.lt, fun i x hx => (h.r i x hx).keep h.lt hb⟩
def firstV (f : Int) : List (List I5) → Int
  | [] => f
  | l :: r => firstV (ad f l.length) r
theorem firstV_app (b : List (List I5)) : ∀ (a : List (List I5)) (f : Int), firstV f (a ++ b) = firstV (firstV f a) b
  | [], f => rfl
  | x :: r, f => firstV_app b r (ad f x.length)
theorem firstV_take {D : List RD} {f : Int} {i : Nat} {x : RD} (h : D[i]? = some x) : firstV f ((D.map RD.l).take (i + 1)) = ad (firstV f ((D.map RD.l).take i)) x.l.length := by
  have e : (D.map RD.l)[i]? = some x.l := by rw [List.getElem?_map, h]; rfl
  rw [List.take_add_one, e, Option.toList_some, firstV_app]
  rfl
def toN (t : Int) (n : Nat) : Nat := if t = -1 then n else t.toNat
theorem firstOf_is (fr t : Int) (G C : Nat) (D : List RD) (w : World) (B : Nat) (h : PartsR w B G D) (hC : D.length ≤ C) (hn : D.length ≤ 100) (t0 : -1 ≤ t) (t1 : t ≤ D.length) :
    Calls Tryz.prog 98 #[.int .i64 fr, .slice (some ⟨G, 0, none⟩) D.length C, .int .i64 t] w fun e w' => e = .returned (.int .i64 (firstV fr ((D.map RD.l).take (toN t D.length)))) ∧ w' = w := by
  have H := hid_of h
  clear h
  obtain ⟨k, hk, hk1⟩ : ∃ k : Nat, toN t D.length = k ∧ k ≤ D.length := by
    refine ⟨_, rfl, ?_⟩
    unfold toN
    split <;> omega
  have HKN := hid_of hk
  rw [hk]
  clear hk
  by_cases hm : t = -1
  · subst hm
    have ek : k = D.length := by rw [← HKN.out]; rfl
    subst ek
    go_enter Tryz.func98, Tryz.ntmps98
    go_wp2
    go_loop [0, 17] (fun a i => ∃ (j : Nat) (z : Int), j ≤ D.length ∧ i = .int .i64 j ∧ a = .int .i64 z ∧ Hid (z = firstV fr ((D.map RD.l).take j))) (fun _ i => D.length - (intOf i).toNat)
    case atStart => exact ⟨0, fr, Nat.zero_le _, rfl, rfl, show _ = _ by rfl⟩
    case round =>
      obtain ⟨j, z, hj, rfl, rfl, HZ⟩ := hrel
      by_cases hlt : j < D.length
      · obtain ⟨x, hx⟩ : ∃ x, D[j]? = some x := ⟨_, List.getElem?_eq_getElem hlt⟩
        have p := (H.out.r j x hx).c
        have HS := hid_of (firstV_take (f := fr) hx)
        have b0 : (0 : Int) ≤ (j : Int) := by omega
        have b1 : (j : Int) < (D.length : Int) := by omega
        go_wp2
        go_round
        case rel => exact ⟨j + 1, _, by omega, by go_num, rfl, by show _ = _; rw [HS.out, ← HZ.out]; rfl⟩
        case measure => simp [intOf]; omega
      · go_wp2
        go_ret
        have e : j = D.length := by omega
        subst e
        exact ⟨by rw [HZ.out]; rfl, rfl⟩
  · have em : (t == -1) = false := by simpa using hm
    have ek : t = (k : Int) := by
      have := HKN.out
      unfold toN at this
      rw [if_neg hm] at this
      omega
    subst ek
    have b2 : (0 : Int) ≤ (k : Int) := by omega
    have b3 : (k : Int) ≤ (C : Int) := by omega
    clear hm t0
    go_enter Tryz.func98, Tryz.ntmps98
    go_wp2
    go_loop [0, 17] (fun a i => ∃ (j : Nat) (z : Int), j ≤ k ∧ i = .int .i64 j ∧ a = .int .i64 z ∧ Hid (z = firstV fr ((D.map RD.l).take j))) (fun _ i => k - (intOf i).toNat)
    case atStart => exact ⟨0, fr, Nat.zero_le _, rfl, rfl, show _ = _ by rfl⟩
    case round =>
      obtain ⟨j, z, hj, rfl, rfl, HZ⟩ := hrel
      by_cases hlt : j < k
      · obtain ⟨x, hx⟩ : ∃ x, D[j]? = some x := ⟨_, List.getElem?_eq_getElem (by omega)⟩
        have p := (H.out.r j x hx).c
        have HS := hid_of (firstV_take (f := fr) hx)
        have b0 : (0 : Int) ≤ (j : Int) := by omega
        have b1 : (j : Int) < (k : Int) := by omega
        go_wp2
        go_round
        case rel => exact ⟨j + 1, _, by omega, by go_num, rfl, by show _ = _; rw [HS.out, ← HZ.out]; rfl⟩
        case measure => simp [intOf]; omega
      · go_wp2
        go_ret
        have e : j = k := by omega
        subst e
        exact ⟨by rw [HZ.out]; rfl, rfl⟩

end Go.Proofs.YtjnfmecfpjchnaaGreat
