/- The specification's l2Read, at every word of at most 2^40 bytes. -/
import Derived.Test.YtajblippcnidiaaGreatDoorSRead1
namespace Go.Proofs.YtajblippcnidiaaGreatDoor
set_option linter.unusedSimpArgs false
set_option linter.unusedVariables false
set_option maxRecDepth 100000
open Go.RowKit

def atS (l : List UInt8) : Nat := if 1 < l.length ∧ l.headD 0 = 45 then 1 else 0
def numKS (l : List UInt8) (a : Nat) (x : Option Nat) : Option Int :=
  match x with
  | none => none
  | some u => if Lib.itoa (if a = 1 then -(u : Int) else (u : Int)) = l then some (if a = 1 then -(u : Int) else (u : Int)) else none
def numS (l : List UInt8) : Option Int := if l.length = atS l ∨ 10 < l.length - atS l then none else numKS l (atS l) (dvA 0 (l.drop (atS l)))
theorem num_eq {u : Nat} {c : UInt8} (h : 48 ≤ c.toNat) : Value.int .i64 (10 * (u : Int) + (c.toNat : Int) - 48) = Value.int .i64 ((10 * u + (c.toNat - 48) : Nat) : Int) := by
  congr 1
  omega

set_option maxHeartbeats 4000000 in
theorem l2Read_any (l : List UInt8) (hl : l.length ≤ 1099511627775) (w : World) : Calls Tryz.prog 54 #[.string ⟨l.toArray⟩] w fun e w' => ∃ v, e = .returned (.tuple #[.int .i64 v, .bool (numS l).isSome]) ∧ (∀ x, numS l = some x → v = x) ∧ Below w.heap.size w w' := by
  by_cases h1 : 1 < l.length
  · obtain ⟨c0, hc0⟩ : ∃ c0, l[0] = c0 := ⟨_, rfl⟩
    have hh : l.headD 0 = c0 := by cases l with | nil => simp at h1 | cons a r => exact hc0
    have hp : 0 < (⟨l.toArray⟩ : ByteArray).size := by simp [ByteArray.size]; omega
    have hg0 : (⟨l.toArray⟩ : ByteArray)[0]'hp = c0 := hc0
    have h1i : (1 : Int) < (l.length : Int) := by omega
    have h0i : (0 : Int) < (l.length : Int) := by omega
    clear hc0
    by_cases h45 : c0 = 45
    · have HA : Hid (atS l = 1) := by show _ = _; unfold atS; rw [if_pos ⟨h1, by rw [hh]; exact h45⟩]
      subst h45
      clear hh
      go_enter Tryz.func54, Tryz.ntmps54
      by_cases hbad : l.length = 1 ∨ 10 < l.length - 1
      · have HN : Hid (numS l = none) := by show _ = _; unfold numS; rw [HA.out, if_pos hbad]
        have hb2 : ((l.length : Int) = 1) ∨ (10 < (l.length : Int) - 1) := by omega
        rcases hb2 with hb2 | hb2
        · omega
        · have hb3 : ((l.length : Int) == 1) = false := by rw [beq_eq_false_iff_ne]; omega
          go_wp2
          exact bodyPost_ret (v := .tuple #[.int .i64 0, .bool false]) (by simp [results, Tryz.results54, go_sem]) rfl ⟨0, (by rw [HN.out]; rfl), fun x hx => (by rw [HN.out] at hx; cases hx), Below.refl _ _⟩
      · have hl1 : 1 < l.length := by omega
        have hl2 : l.length ≤ 1 + 10 := by omega
        have HK : Hid (numS l = numKS l 1 (dvA 0 (l.drop 1))) := by show _ = _; unfold numS; rw [HA.out, if_neg hbad]
        have hb3 : ((l.length : Int) == 1) = false := by rw [beq_eq_false_iff_ne]; omega
        have hb4 : ¬ (10 < (l.length : Int) - 1) := by omega
        clear hbad
        go_wp2
        go_loop [5, 6] (fun x i => ∃ (k u : Nat), 1 ≤ k ∧ k ≤ l.length ∧ i = .int .i64 k ∧ x = .int .i64 (u : Int) ∧ u < 10 ^ (k - 1) ∧ Hid (dvA u (l.drop k) = dvA 0 (l.drop 1))) (fun _ i => l.length - (intOf i).toNat)
        case atStart => exact ⟨1, 0, Nat.le_refl _, by omega, rfl, rfl, by simp, rfl⟩
        case round =>
          obtain ⟨k, u, ha, hk, rfl, rfl, hu, HD⟩ := hrel
          have hu10 : u ≤ 10000000000 := by
            have : 10 ^ (k - 1) ≤ 10 ^ 10 := Nat.pow_le_pow_right (by omega) (by omega)
            omega
          by_cases hlt : k < l.length
          · obtain ⟨c, hc⟩ : ∃ c, l[k] = c := ⟨_, rfl⟩
            have hdr : l.drop k = c :: l.drop (k + 1) := by rw [List.drop_eq_getElem_cons hlt, hc]
            have HR : Hid (l.drop k = c :: l.drop (k + 1)) := hdr
            clear hdr
            have hp : k < (⟨l.toArray⟩ : ByteArray).size := by simpa [ByteArray.size] using hlt
            have hgk : (⟨l.toArray⟩ : ByteArray)[k]'hp = c := hc
            have hc256 := c.toNat_lt
            clear hc
            have i0 : (0 : Int) ≤ (k : Int) := by omega
            have i1 : (k : Int) < (l.length : Int) := by omega
            by_cases hd : 48 ≤ c.toNat ∧ c.toNat ≤ 57
            · obtain ⟨d0, d1⟩ := hd
              have DG : Hid (isDig c = true) := by show _ = _; unfold isDig; simp; omega
              have e0 : ¬ ((c.toNat : Int) < 48) := by omega
              have e1 : ¬ ((57 : Int) < (c.toNat : Int)) := by omega
              have q0 : (0 : Int) ≤ (u : Int) := by omega
              have q1 : (u : Int) ≤ 10000000000 := by omega
              have q2 : (48 : Int) ≤ (c.toNat : Int) := by omega
              have q3 : (c.toNat : Int) ≤ 57 := by omega
              have w1 : IntKind.i64.wrap (10 * (u : Int)) = 10 * (u : Int) := by rw [IntKind.wrap_i64]; omega
              have w2 : IntKind.i64.wrap (10 * (u : Int) + (c.toNat : Int)) = 10 * (u : Int) + (c.toNat : Int) := by rw [IntKind.wrap_i64]; omega
              have w3 : IntKind.i64.wrap (10 * (u : Int) + (c.toNat : Int) - 48) = 10 * (u : Int) + (c.toNat : Int) - 48 := by rw [IntKind.wrap_i64]; omega
              have PW : Hid (10 * u + (c.toNat - 48) < 10 ^ (k + 1 - 1)) := by
                have e : k + 1 - 1 = (k - 1) + 1 := by omega
                show _ < _
                rw [e, Nat.pow_succ]
                omega
              go_wp2
              go_round
              case rel => exact ⟨k + 1, 10 * u + (c.toNat - 48), by omega, by omega, by go_num, num_eq d0, PW.out, by show _ = _; rw [← HD.out, HR.out]; simp only [dvA, DG.out, if_true]⟩
              case measure => (simp [intOf] <;> omega)
            · have DG : Hid (isDig c = false) := by show _ = _; unfold isDig; simp; omega
              have HN : Hid (numS l = none) := by show _ = _; rw [HK.out, ← HD.out, HR.out]; simp [dvA, DG.out, numKS]
              by_cases e0 : (c.toNat : Int) < 48
              · go_wp2
                exact bodyPost_ret (v := .tuple #[.int .i64 0, .bool false]) (by simp [results, Tryz.results54, go_sem]) rfl ⟨0, (by rw [HN.out]; rfl), fun x hx => (by rw [HN.out] at hx; cases hx), Below.refl _ _⟩
              · have e1 : (57 : Int) < (c.toNat : Int) := by omega
                go_wp2
                exact bodyPost_ret (v := .tuple #[.int .i64 0, .bool false]) (by simp [results, Tryz.results54, go_sem]) rfl ⟨0, (by rw [HN.out]; rfl), fun x hx => (by rw [HN.out] at hx; cases hx), Below.refl _ _⟩
          · have HU : Hid (dvA 0 (l.drop 1) = some u) := by
              show _ = _
              rw [← HD.out, List.drop_eq_nil_of_le (by omega)]
              rfl
            have HS : Hid (numS l = if Lib.itoa (-(u : Int)) = l then some (-(u : Int)) else none) := by show _ = _; rw [HK.out, HU.out]; rfl
            have i1 : ¬ (k : Int) < (l.length : Int) := by omega
            have q1 : (u : Int) ≤ 10000000000 := by omega
            have w4 : IntKind.i64.wrap (0 - (u : Int)) = -(u : Int) := by rw [IntKind.wrap_i64]; omega
            by_cases hV : Lib.itoa (-(u : Int)) = l
            · have hb : (Lib.itoa (-(u : Int)) == l) = true := by simpa using hV
              have HN : Hid (numS l = some (-(u : Int))) := by show _ = _; rw [HS.out, if_pos hV]
              clear hV
              go_wp2_with (go_at_call 19; refine (l2Digits_any (-(u : Int)) (by omega) (by omega) _).mono ?_; rintro e w4 ⟨rfl, hb4⟩; have K4 := (show Hid _ from hb4); clear hb4)
              exact bodyPost_ret (v := .tuple #[.int .i64 (-(u : Int)), .bool true]) (by simp [results, Tryz.results54, go_sem]) rfl ⟨-(u : Int), (by rw [HN.out]; rfl), fun x hx => (by rw [HN.out] at hx; injection hx), K4.out⟩
            · have hb : (Lib.itoa (-(u : Int)) == l) = false := by simpa using hV
              have HN : Hid (numS l = none) := by show _ = _; rw [HS.out, if_neg hV]
              clear hV
              go_wp2_with (go_at_call 19; refine (l2Digits_any (-(u : Int)) (by omega) (by omega) _).mono ?_; rintro e w4 ⟨rfl, hb4⟩; have K4 := (show Hid _ from hb4); clear hb4)
              exact bodyPost_ret (v := .tuple #[.int .i64 (-(u : Int)), .bool false]) (by simp [results, Tryz.results54, go_sem]) rfl ⟨-(u : Int), (by rw [HN.out]; rfl), fun x hx => (by rw [HN.out] at hx; cases hx), K4.out⟩
    · have HA : Hid (atS l = 0) := by show _ = _; unfold atS; rw [if_neg (fun h => h45 (by rw [← hh]; exact h.2))]
      have hne : ((c0.toNat : Int) == 45) = false := by simpa using u8_ne (k := 45) (by omega) h45
      clear hh h45
      go_enter Tryz.func54, Tryz.ntmps54
      by_cases hbad : l.length = 0 ∨ 10 < l.length - 0
      · have HN : Hid (numS l = none) := by show _ = _; unfold numS; rw [HA.out, if_pos hbad]
        have hb2 : ((l.length : Int) = 0) ∨ (10 < (l.length : Int) - 0) := by omega
        rcases hb2 with hb2 | hb2
        · go_wp2
          exact bodyPost_ret (v := .tuple #[.int .i64 0, .bool false]) (by simp [results, Tryz.results54, go_sem]) rfl ⟨0, (by rw [HN.out]; rfl), fun x hx => (by rw [HN.out] at hx; cases hx), Below.refl _ _⟩
        · have hb3 : ((l.length : Int) == 0) = false := by rw [beq_eq_false_iff_ne]; omega
          go_wp2
          exact bodyPost_ret (v := .tuple #[.int .i64 0, .bool false]) (by simp [results, Tryz.results54, go_sem]) rfl ⟨0, (by rw [HN.out]; rfl), fun x hx => (by rw [HN.out] at hx; cases hx), Below.refl _ _⟩
      · have hl1 : 0 < l.length := by omega
        have hl2 : l.length ≤ 0 + 10 := by omega
        have HK : Hid (numS l = numKS l 0 (dvA 0 (l.drop 0))) := by show _ = _; unfold numS; rw [HA.out, if_neg hbad]
        have hb3 : ((l.length : Int) == 0) = false := by rw [beq_eq_false_iff_ne]; omega
        have hb4 : ¬ (10 < (l.length : Int) - 0) := by omega
        clear hbad
        go_wp2
        go_loop [5, 6] (fun x i => ∃ (k u : Nat), 0 ≤ k ∧ k ≤ l.length ∧ i = .int .i64 k ∧ x = .int .i64 (u : Int) ∧ u < 10 ^ (k - 0) ∧ Hid (dvA u (l.drop k) = dvA 0 (l.drop 0))) (fun _ i => l.length - (intOf i).toNat)
        case atStart => exact ⟨0, 0, Nat.le_refl _, by omega, rfl, rfl, by simp, rfl⟩
        case round =>
          obtain ⟨k, u, ha, hk, rfl, rfl, hu, HD⟩ := hrel
          have hu10 : u ≤ 10000000000 := by
            have : 10 ^ (k - 0) ≤ 10 ^ 10 := Nat.pow_le_pow_right (by omega) (by omega)
            omega
          by_cases hlt : k < l.length
          · obtain ⟨c, hc⟩ : ∃ c, l[k] = c := ⟨_, rfl⟩
            have hdr : l.drop k = c :: l.drop (k + 1) := by rw [List.drop_eq_getElem_cons hlt, hc]
            have HR : Hid (l.drop k = c :: l.drop (k + 1)) := hdr
            clear hdr
            have hp : k < (⟨l.toArray⟩ : ByteArray).size := by simpa [ByteArray.size] using hlt
            have hgk : (⟨l.toArray⟩ : ByteArray)[k]'hp = c := hc
            have hc256 := c.toNat_lt
            clear hc
            have i0 : (0 : Int) ≤ (k : Int) := by omega
            have i1 : (k : Int) < (l.length : Int) := by omega
            by_cases hd : 48 ≤ c.toNat ∧ c.toNat ≤ 57
            · obtain ⟨d0, d1⟩ := hd
              have DG : Hid (isDig c = true) := by show _ = _; unfold isDig; simp; omega
              have e0 : ¬ ((c.toNat : Int) < 48) := by omega
              have e1 : ¬ ((57 : Int) < (c.toNat : Int)) := by omega
              have q0 : (0 : Int) ≤ (u : Int) := by omega
              have q1 : (u : Int) ≤ 10000000000 := by omega
              have q2 : (48 : Int) ≤ (c.toNat : Int) := by omega
              have q3 : (c.toNat : Int) ≤ 57 := by omega
              have w1 : IntKind.i64.wrap (10 * (u : Int)) = 10 * (u : Int) := by rw [IntKind.wrap_i64]; omega
              have w2 : IntKind.i64.wrap (10 * (u : Int) + (c.toNat : Int)) = 10 * (u : Int) + (c.toNat : Int) := by rw [IntKind.wrap_i64]; omega
              have w3 : IntKind.i64.wrap (10 * (u : Int) + (c.toNat : Int) - 48) = 10 * (u : Int) + (c.toNat : Int) - 48 := by rw [IntKind.wrap_i64]; omega
              have PW : Hid (10 * u + (c.toNat - 48) < 10 ^ (k + 1 - 0)) := by
                have e : k + 1 - 0 = (k - 0) + 1 := by omega
                show _ < _
                rw [e, Nat.pow_succ]
                omega
              go_wp2
              go_round
              case rel => exact ⟨k + 1, 10 * u + (c.toNat - 48), by omega, by omega, by go_num, num_eq d0, PW.out, by show _ = _; rw [← HD.out, HR.out]; simp only [dvA, DG.out, if_true]⟩
              case measure => (simp [intOf] <;> omega)
            · have DG : Hid (isDig c = false) := by show _ = _; unfold isDig; simp; omega
              have HN : Hid (numS l = none) := by show _ = _; rw [HK.out, ← HD.out, HR.out]; simp [dvA, DG.out, numKS]
              by_cases e0 : (c.toNat : Int) < 48
              · go_wp2
                exact bodyPost_ret (v := .tuple #[.int .i64 0, .bool false]) (by simp [results, Tryz.results54, go_sem]) rfl ⟨0, (by rw [HN.out]; rfl), fun x hx => (by rw [HN.out] at hx; cases hx), Below.refl _ _⟩
              · have e1 : (57 : Int) < (c.toNat : Int) := by omega
                go_wp2
                exact bodyPost_ret (v := .tuple #[.int .i64 0, .bool false]) (by simp [results, Tryz.results54, go_sem]) rfl ⟨0, (by rw [HN.out]; rfl), fun x hx => (by rw [HN.out] at hx; cases hx), Below.refl _ _⟩
          · have HU : Hid (dvA 0 (l.drop 0) = some u) := by
              show _ = _
              rw [← HD.out, List.drop_eq_nil_of_le (by omega)]
              rfl
            have HS : Hid (numS l = if Lib.itoa ((u : Int)) = l then some ((u : Int)) else none) := by show _ = _; rw [HK.out, HU.out]; rfl
            have i1 : ¬ (k : Int) < (l.length : Int) := by omega
            have q1 : (u : Int) ≤ 10000000000 := by omega
            skip
            by_cases hV : Lib.itoa ((u : Int)) = l
            · have hb : (Lib.itoa ((u : Int)) == l) = true := by simpa using hV
              have HN : Hid (numS l = some ((u : Int))) := by show _ = _; rw [HS.out, if_pos hV]
              clear hV
              go_wp2_with (go_at_call 19; refine (l2Digits_any ((u : Int)) (by omega) (by omega) _).mono ?_; rintro e w4 ⟨rfl, hb4⟩; have K4 := (show Hid _ from hb4); clear hb4)
              exact bodyPost_ret (v := .tuple #[.int .i64 ((u : Int)), .bool true]) (by simp [results, Tryz.results54, go_sem]) rfl ⟨(u : Int), (by rw [HN.out]; rfl), fun x hx => (by rw [HN.out] at hx; injection hx), K4.out⟩
            · have hb : (Lib.itoa ((u : Int)) == l) = false := by simpa using hV
              have HN : Hid (numS l = none) := by show _ = _; rw [HS.out, if_neg hV]
              clear hV
              go_wp2_with (go_at_call 19; refine (l2Digits_any ((u : Int)) (by omega) (by omega) _).mono ?_; rintro e w4 ⟨rfl, hb4⟩; have K4 := (show Hid _ from hb4); clear hb4)
              exact bodyPost_ret (v := .tuple #[.int .i64 ((u : Int)), .bool false]) (by simp [results, Tryz.results54, go_sem]) rfl ⟨(u : Int), (by rw [HN.out]; rfl), fun x hx => (by rw [HN.out] at hx; cases hx), K4.out⟩
  · have HA : Hid (atS l = 0) := by show _ = _; unfold atS; rw [if_neg (fun h => h1 h.1)]
    have h1i : ¬ (1 : Int) < (l.length : Int) := by omega
    go_enter Tryz.func54, Tryz.ntmps54
    by_cases hbad : l.length = 0 ∨ 10 < l.length - 0
    · have HN : Hid (numS l = none) := by show _ = _; unfold numS; rw [HA.out, if_pos hbad]
      have hb2 : ((l.length : Int) = 0) ∨ (10 < (l.length : Int) - 0) := by omega
      rcases hb2 with hb2 | hb2
      · go_wp2
        exact bodyPost_ret (v := .tuple #[.int .i64 0, .bool false]) (by simp [results, Tryz.results54, go_sem]) rfl ⟨0, (by rw [HN.out]; rfl), fun x hx => (by rw [HN.out] at hx; cases hx), Below.refl _ _⟩
      · omega
    · have hl1 : 0 < l.length := by omega
      have hl2 : l.length ≤ 0 + 10 := by omega
      have HK : Hid (numS l = numKS l 0 (dvA 0 (l.drop 0))) := by show _ = _; unfold numS; rw [HA.out, if_neg hbad]
      have hb3 : ((l.length : Int) == 0) = false := by rw [beq_eq_false_iff_ne]; omega
      have hb4 : ¬ (10 < (l.length : Int) - 0) := by omega
      clear hbad
      go_wp2
      go_loop [5, 6] (fun x i => ∃ (k u : Nat), 0 ≤ k ∧ k ≤ l.length ∧ i = .int .i64 k ∧ x = .int .i64 (u : Int) ∧ u < 10 ^ (k - 0) ∧ Hid (dvA u (l.drop k) = dvA 0 (l.drop 0))) (fun _ i => l.length - (intOf i).toNat)
      case atStart => exact ⟨0, 0, Nat.le_refl _, by omega, rfl, rfl, by simp, rfl⟩
      case round =>
        obtain ⟨k, u, ha, hk, rfl, rfl, hu, HD⟩ := hrel
        have hu10 : u ≤ 10000000000 := by
          have : 10 ^ (k - 0) ≤ 10 ^ 10 := Nat.pow_le_pow_right (by omega) (by omega)
          omega
        by_cases hlt : k < l.length
        · obtain ⟨c, hc⟩ : ∃ c, l[k] = c := ⟨_, rfl⟩
          have hdr : l.drop k = c :: l.drop (k + 1) := by rw [List.drop_eq_getElem_cons hlt, hc]
          have HR : Hid (l.drop k = c :: l.drop (k + 1)) := hdr
          clear hdr
          have hp : k < (⟨l.toArray⟩ : ByteArray).size := by simpa [ByteArray.size] using hlt
          have hgk : (⟨l.toArray⟩ : ByteArray)[k]'hp = c := hc
          have hc256 := c.toNat_lt
          clear hc
          have i0 : (0 : Int) ≤ (k : Int) := by omega
          have i1 : (k : Int) < (l.length : Int) := by omega
          by_cases hd : 48 ≤ c.toNat ∧ c.toNat ≤ 57
          · obtain ⟨d0, d1⟩ := hd
            have DG : Hid (isDig c = true) := by show _ = _; unfold isDig; simp; omega
            have e0 : ¬ ((c.toNat : Int) < 48) := by omega
            have e1 : ¬ ((57 : Int) < (c.toNat : Int)) := by omega
            have q0 : (0 : Int) ≤ (u : Int) := by omega
            have q1 : (u : Int) ≤ 10000000000 := by omega
            have q2 : (48 : Int) ≤ (c.toNat : Int) := by omega
            have q3 : (c.toNat : Int) ≤ 57 := by omega
            have w1 : IntKind.i64.wrap (10 * (u : Int)) = 10 * (u : Int) := by rw [IntKind.wrap_i64]; omega
            have w2 : IntKind.i64.wrap (10 * (u : Int) + (c.toNat : Int)) = 10 * (u : Int) + (c.toNat : Int) := by rw [IntKind.wrap_i64]; omega
            have w3 : IntKind.i64.wrap (10 * (u : Int) + (c.toNat : Int) - 48) = 10 * (u : Int) + (c.toNat : Int) - 48 := by rw [IntKind.wrap_i64]; omega
            have PW : Hid (10 * u + (c.toNat - 48) < 10 ^ (k + 1 - 0)) := by
              have e : k + 1 - 0 = (k - 0) + 1 := by omega
              show _ < _
              rw [e, Nat.pow_succ]
              omega
            go_wp2
            go_round
            case rel => exact ⟨k + 1, 10 * u + (c.toNat - 48), by omega, by omega, by go_num, num_eq d0, PW.out, by show _ = _; rw [← HD.out, HR.out]; simp only [dvA, DG.out, if_true]⟩
            case measure => (simp [intOf] <;> omega)
          · have DG : Hid (isDig c = false) := by show _ = _; unfold isDig; simp; omega
            have HN : Hid (numS l = none) := by show _ = _; rw [HK.out, ← HD.out, HR.out]; simp [dvA, DG.out, numKS]
            by_cases e0 : (c.toNat : Int) < 48
            · go_wp2
              exact bodyPost_ret (v := .tuple #[.int .i64 0, .bool false]) (by simp [results, Tryz.results54, go_sem]) rfl ⟨0, (by rw [HN.out]; rfl), fun x hx => (by rw [HN.out] at hx; cases hx), Below.refl _ _⟩
            · have e1 : (57 : Int) < (c.toNat : Int) := by omega
              go_wp2
              exact bodyPost_ret (v := .tuple #[.int .i64 0, .bool false]) (by simp [results, Tryz.results54, go_sem]) rfl ⟨0, (by rw [HN.out]; rfl), fun x hx => (by rw [HN.out] at hx; cases hx), Below.refl _ _⟩
        · have HU : Hid (dvA 0 (l.drop 0) = some u) := by
            show _ = _
            rw [← HD.out, List.drop_eq_nil_of_le (by omega)]
            rfl
          have HS : Hid (numS l = if Lib.itoa ((u : Int)) = l then some ((u : Int)) else none) := by show _ = _; rw [HK.out, HU.out]; rfl
          have i1 : ¬ (k : Int) < (l.length : Int) := by omega
          have q1 : (u : Int) ≤ 10000000000 := by omega
          skip
          by_cases hV : Lib.itoa ((u : Int)) = l
          · have hb : (Lib.itoa ((u : Int)) == l) = true := by simpa using hV
            have HN : Hid (numS l = some ((u : Int))) := by show _ = _; rw [HS.out, if_pos hV]
            clear hV
            go_wp2_with (go_at_call 19; refine (l2Digits_any ((u : Int)) (by omega) (by omega) _).mono ?_; rintro e w4 ⟨rfl, hb4⟩; have K4 := (show Hid _ from hb4); clear hb4)
            exact bodyPost_ret (v := .tuple #[.int .i64 ((u : Int)), .bool true]) (by simp [results, Tryz.results54, go_sem]) rfl ⟨(u : Int), (by rw [HN.out]; rfl), fun x hx => (by rw [HN.out] at hx; injection hx), K4.out⟩
          · have hb : (Lib.itoa ((u : Int)) == l) = false := by simpa using hV
            have HN : Hid (numS l = none) := by show _ = _; rw [HS.out, if_neg hV]
            clear hV
            go_wp2_with (go_at_call 19; refine (l2Digits_any ((u : Int)) (by omega) (by omega) _).mono ?_; rintro e w4 ⟨rfl, hb4⟩; have K4 := (show Hid _ from hb4); clear hb4)
            exact bodyPost_ret (v := .tuple #[.int .i64 ((u : Int)), .bool false]) (by simp [results, Tryz.results54, go_sem]) rfl ⟨(u : Int), (by rw [HN.out]; rfl), fun x hx => (by rw [HN.out] at hx; cases hx), K4.out⟩

end Go.Proofs.YtajblippcnidiaaGreatDoor
