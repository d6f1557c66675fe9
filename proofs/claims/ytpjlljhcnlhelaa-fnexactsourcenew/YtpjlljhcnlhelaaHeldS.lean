/- Running numbers read back from rows of threads and of channels. Conditions: the numbers stay below 10^15. -/
import Derived.Test.YtpjlljhcnlhelaaMarkS
namespace Go.Proofs.Ytpjlljhcnlhelaa
set_option linter.unusedSimpArgs false
set_option linter.unusedVariables false
set_option maxRecDepth 100000
open Go.RowKit

theorem mksT_mid : ∀ (A : List (Rec × Value)) (x : Rec × Value) (B : List (Rec × Value)) (q : Int), (mksT q (A ++ x :: B))[A.length]? = some (mkdT (q + sumQ A) x)
  | [], x, B, q => by simp [mksT, sumQ]
  | y :: r, x, B, q => by
    have e : q + (y.1.l.length : Int) + 2 + (sumQ r : Int) = q + ((y.1.l.length + 2 + sumQ r : Nat) : Int) := by push_cast; omega
    have h := mksT_mid r x B (q + y.1.l.length + 2)
    rw [e] at h
    simpa [mksT, sumQ] using h

set_option maxHeartbeats 4000000 in
theorem heldThreadS_any (base : Nat) (v : Value) (L : List (Rec × Value)) (q : Int) (w : World) (h : OwnQ w base 60 v (mksT q L)) (hn : L.length ≤ 1048577) (hls : ∀ (i : Nat) (x : Rec × Value), L[i]? = some x → x.1.l.length ≤ 1048577) (hq : 0 ≤ q) (hq' : q + sumQ L ≤ 1000000000000000) :
    Calls Try.prog 38 #[v, .int .i64 q] w fun e w' => e = .returned (.int .i64 (q + sumQ L)) ∧ w' = w := by
  have hrow : w.ownsRow base 60 3 v L.length (flatR (mksT q L)) := by have h1 := h.row; rw [mksT_len] at h1; exact h1
  obtain ⟨s, c, rfl⟩ := ownSl hrow
  have HW := (show Hid _ from hrow)
  have H : Hid (OwnQ w base 60 (.slice s L.length c) (mksT q L)) := h
  have HL : Hid (∀ (i : Nat) (x : Rec × Value), L[i]? = some x → x.1.l.length ≤ 1048577) := hls
  clear h hls hrow
  go_enter Try.func38, Try.ntmps38
  go_wp2
  go_loop [1, 5] (fun a i => ∃ A B : List (Rec × Value), L = A ++ B ∧ i = .int .i64 A.length ∧ a = .int .i64 (q + sumQ A)) (fun _ i => L.length - (intOf i).toNat)
  case atStart => exact ⟨[], L, rfl, rfl, by simp [sumQ]⟩
  case round =>
    obtain ⟨A, B, hAB, rfl, rfl⟩ := hrel
    have HAB : Hid (L = A ++ B) := hAB
    have hlen : L.length = A.length + B.length := by rw [hAB]; simp
    clear hAB
    cases B with
    | cons x B =>
      simp only [List.length_cons] at hlen
      obtain ⟨k, hk⟩ : ∃ k, A.length = k := ⟨_, rfl⟩
      obtain ⟨g, hs⟩ : ∃ g, s = some ⟨g, 0, none⟩ := by
        obtain ⟨g, cap, e, -⟩ := World.ownsRow.form HW.out (by omega)
        injection e with e1 e2 e3
        exact ⟨g, e1⟩
      subst hs
      have hx : (mksT q L)[k]? = some (mkdT (q + sumQ A) x) := by rw [HAB.out, ← hk]; exact mksT_mid A x B q
      have hLx : L[k]? = some x := by rw [HAB.out, ← hk]; exact put_mid _ _ _
      have hxl := HL.out k x hLx
      have hsum : (sumQ L : Int) = sumQ A + (x.1.l.length + 2) + sumQ B := by rw [HAB.out, sumQ_app]; show ((sumQ A + (x.1.l.length + 2 + sumQ B) : Nat) : Int) = _; push_cast; omega
      obtain ⟨m0, m1, m2⟩ := flatR_at _ _ _ hx
      have f0 : w.cell? ⟨g, k * 3, none⟩ = some (mkdT (q + sumQ A) x).1.a := by rw [World.ownsRow.cellAt HW.out _ (by omega)]; exact m0
      have f1 : w.cell? ⟨g, k * 3 + 1, none⟩ = some x.2 := by rw [World.ownsRow.cellAt HW.out _ (by omega)]; exact m1
      have f2 : w.cell? ⟨g, k * 3 + 2, none⟩ = some (mkdT (q + sumQ A) x).1.z := by rw [World.ownsRow.cellAt HW.out _ (by omega)]; exact m2
      have hin : OwnN w base x.2 (relN (q + sumQ A + 1) x.1.l.length) := H.out.inn k _ hx
      obtain ⟨sx, cx, hx2⟩ := ownSl hin
      rw [relN_len] at hx2
      have hs1 : q + (sumQ A : Int) + x.1.l.length + 2 ≤ 1000000000000000 := by omega
      obtain ⟨sa, hsa⟩ : ∃ sa : Int, (sumQ A : Int) = sa := ⟨_, rfl⟩
      have hsa0 : 0 ≤ sa := by omega
      obtain ⟨xn, hxn⟩ : ∃ xn, x.1.l.length = xn := ⟨_, rfl⟩
      have HSA : Hid ((sumQ A : Int) = sa) := hsa
      have HXN : Hid (x.1.l.length = xn) := hxn
      have HK : Hid (A.length = k) := hk
      unfold mkdT at f0 f2
      simp only at f0 f2
      rw [hsa, hxn] at f2
      rw [hsa] at f0 hs1
      rw [hx2] at f1 hin
      rw [hxn] at f1 hin hxl hs1
      rw [hsa] at hin
      rw [hk, hsa]
      have HI : Hid (OwnN w base (.slice sx xn cx) (relN (q + sa + 1) xn)) := hin
      have hkl : k < L.length := by omega
      have b0 : (0 : Int) ≤ (k : Int) := by omega
      have b1 : (k : Int) < (L.length : Int) := by omega
      have b2 : ¬ (q + sa + 1 + (xn : Int) < 0) := by omega
      have hzz : ((q + sa + 1 + (xn : Int)) != (q + sa + 1 + (xn : Int))) = false := by simp
      clear hx hLx hin hx2 m0 m1 m2 hk hsum hsa hxn hlen
      go_wp2_with (go_at_call 56; refine (heldN_any base (.slice sx xn cx) xn (q + sa + 1) _ HI.out hxl (by omega) (by omega)).mono ?_; rintro e w1 ⟨rfl, rfl⟩)
      all_goals
        go_round
        case rel =>
          refine ⟨A ++ [x], B, by rw [HAB.out]; simp, ?_, ?_⟩
          · have hkA := HK.out
            rw [List.length_append, hkA]; simp
          · rw [sumQ_app]
            have e1 := HSA.out
            have e2 := HXN.out
            congr 1
            show _ = q + ((sumQ A + (x.1.l.length + 2 + 0) : Nat) : Int)
            rw [e2]
            push_cast
            omega
        case measure => simp [intOf]; omega
    | nil =>
      go_wp2
      go_ret
      have e : A = L := by rw [HAB.out]; simp
      subst e
      exact ⟨rfl, rfl⟩

theorem mksC_mid : ∀ (A : List (Rec × Value)) (x : Rec × Value) (B : List (Rec × Value)) (q : Int), (mksC q (A ++ x :: B))[A.length]? = some (mkdC (q + sumQ A) x)
  | [], x, B, q => by simp [mksC, sumQ]
  | y :: r, x, B, q => by
    have e : q + (y.1.l.length : Int) + 2 + (sumQ r : Int) = q + ((y.1.l.length + 2 + sumQ r : Nat) : Int) := by push_cast; omega
    have h := mksC_mid r x B (q + y.1.l.length + 2)
    rw [e] at h
    simpa [mksC, sumQ] using h

set_option maxHeartbeats 4000000 in
theorem heldChanS_any (base : Nat) (v : Value) (L : List (Rec × Value)) (q : Int) (w : World) (h : OwnQ w base 62 v (mksC q L)) (hn : L.length ≤ 1048577) (hls : ∀ (i : Nat) (x : Rec × Value), L[i]? = some x → x.1.l.length ≤ 1048577) (hq : 0 ≤ q) (hq' : q + sumQ L ≤ 1000000000000000) :
    Calls Try.prog 39 #[v, .int .i64 q] w fun e w' => e = .returned (.int .i64 (q + sumQ L)) ∧ w' = w := by
  have hrow : w.ownsRow base 62 3 v L.length (flatR (mksC q L)) := by have h1 := h.row; rw [mksC_len] at h1; exact h1
  obtain ⟨s, c, rfl⟩ := ownSl hrow
  have HW := (show Hid _ from hrow)
  have H : Hid (OwnQ w base 62 (.slice s L.length c) (mksC q L)) := h
  have HL : Hid (∀ (i : Nat) (x : Rec × Value), L[i]? = some x → x.1.l.length ≤ 1048577) := hls
  clear h hls hrow
  go_enter Try.func39, Try.ntmps39
  go_wp2
  go_loop [1, 5] (fun a i => ∃ A B : List (Rec × Value), L = A ++ B ∧ i = .int .i64 A.length ∧ a = .int .i64 (q + sumQ A)) (fun _ i => L.length - (intOf i).toNat)
  case atStart => exact ⟨[], L, rfl, rfl, by simp [sumQ]⟩
  case round =>
    obtain ⟨A, B, hAB, rfl, rfl⟩ := hrel
    have HAB : Hid (L = A ++ B) := hAB
    have hlen : L.length = A.length + B.length := by rw [hAB]; simp
    clear hAB
    cases B with
    | cons x B =>
      simp only [List.length_cons] at hlen
      obtain ⟨k, hk⟩ : ∃ k, A.length = k := ⟨_, rfl⟩
      obtain ⟨g, hs⟩ : ∃ g, s = some ⟨g, 0, none⟩ := by
        obtain ⟨g, cap, e, -⟩ := World.ownsRow.form HW.out (by omega)
        injection e with e1 e2 e3
        exact ⟨g, e1⟩
      subst hs
      have hx : (mksC q L)[k]? = some (mkdC (q + sumQ A) x) := by rw [HAB.out, ← hk]; exact mksC_mid A x B q
      have hLx : L[k]? = some x := by rw [HAB.out, ← hk]; exact put_mid _ _ _
      have hxl := HL.out k x hLx
      have hsum : (sumQ L : Int) = sumQ A + (x.1.l.length + 2) + sumQ B := by rw [HAB.out, sumQ_app]; show ((sumQ A + (x.1.l.length + 2 + sumQ B) : Nat) : Int) = _; push_cast; omega
      obtain ⟨m0, m1, m2⟩ := flatR_at _ _ _ hx
      have f0 : w.cell? ⟨g, k * 3, none⟩ = some (mkdC (q + sumQ A) x).1.a := by rw [World.ownsRow.cellAt HW.out _ (by omega)]; exact m0
      have f1 : w.cell? ⟨g, k * 3 + 1, none⟩ = some x.2 := by rw [World.ownsRow.cellAt HW.out _ (by omega)]; exact m1
      have f2 : w.cell? ⟨g, k * 3 + 2, none⟩ = some (mkdC (q + sumQ A) x).1.z := by rw [World.ownsRow.cellAt HW.out _ (by omega)]; exact m2
      have hin : OwnN w base x.2 (relN (q + sumQ A + 1) x.1.l.length) := H.out.inn k _ hx
      obtain ⟨sx, cx, hx2⟩ := ownSl hin
      rw [relN_len] at hx2
      have hs1 : q + (sumQ A : Int) + x.1.l.length + 2 ≤ 1000000000000000 := by omega
      obtain ⟨sa, hsa⟩ : ∃ sa : Int, (sumQ A : Int) = sa := ⟨_, rfl⟩
      have hsa0 : 0 ≤ sa := by omega
      obtain ⟨xn, hxn⟩ : ∃ xn, x.1.l.length = xn := ⟨_, rfl⟩
      have HSA : Hid ((sumQ A : Int) = sa) := hsa
      have HXN : Hid (x.1.l.length = xn) := hxn
      have HK : Hid (A.length = k) := hk
      unfold mkdC at f0 f2
      simp only at f0 f2
      rw [hsa, hxn] at f2
      rw [hsa] at f0 hs1
      rw [hx2] at f1 hin
      rw [hxn] at f1 hin hxl hs1
      rw [hsa] at hin
      rw [hk, hsa]
      have HI : Hid (OwnN w base (.slice sx xn cx) (relN (q + sa + 1) xn)) := hin
      have hkl : k < L.length := by omega
      have b0 : (0 : Int) ≤ (k : Int) := by omega
      have b1 : (k : Int) < (L.length : Int) := by omega
      have b2 : ¬ (q + sa + 1 + (xn : Int) < 0) := by omega
      have hzz : ((((q + sa + 1 + (xn : Int)) % 3) == 0) != (((q + sa + 1 + (xn : Int)) % 3) == 0)) = false := by simp
      clear hx hLx hin hx2 m0 m1 m2 hk hsum hsa hxn hlen
      go_wp2_with (go_at_call 56; refine (heldN_any base (.slice sx xn cx) xn (q + sa + 1) _ HI.out hxl (by omega) (by omega)).mono ?_; rintro e w1 ⟨rfl, rfl⟩)
      all_goals
        go_round
        case rel =>
          refine ⟨A ++ [x], B, by rw [HAB.out]; simp, ?_, ?_⟩
          · have hkA := HK.out
            rw [List.length_append, hkA]; simp
          · rw [sumQ_app]
            have e1 := HSA.out
            have e2 := HXN.out
            congr 1
            show _ = q + ((sumQ A + (x.1.l.length + 2 + 0) : Nat) : Int)
            rw [e2]
            push_cast
            omega
        case measure => simp [intOf]; omega
    | nil =>
      go_wp2
      go_ret
      have e : A = L := by rw [HAB.out]; simp
      subst e
      exact ⟨rfl, rfl⟩

end Go.Proofs.Ytpjlljhcnlhelaa
