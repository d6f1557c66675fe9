/- Reading numbers: readDigits and readNumber of the program, at every word. Conditions: the word is no longer than 2^40 bytes; for readNumber the tables hold what their initialisers lay (Env). -/
import Derived.Test.YtajblippcnidiaaGreatDoorEnvT
namespace Go.Proofs.YtajblippcnidiaaGreatDoor
set_option linter.unusedSimpArgs false
set_option linter.unusedVariables false
set_option maxRecDepth 100000
open Go.RowKit

def isDig (c : UInt8) : Bool := decide (48 ≤ c.toNat ∧ c.toNat ≤ 57)
def dvA : Nat → List UInt8 → Option Nat
  | u, [] => some u
  | u, c :: r => if isDig c = true then dvA (10 * u + (c.toNat - 48)) r else none
def wr64 (u : Nat) : Int := wrap64 (u : Int)
def numV (b : Bool) (u : Nat) : Int := if b = true then wrap64 (-(wr64 u)) else wr64 u
theorem numV_f (u : Nat) : numV false u = wr64 u := if_neg (by decide)
theorem numV_t (u : Nat) : numV true u = wrap64 (-(wr64 u)) := if_pos rfl
def numK (wd : List UInt8) (b : Bool) (x : Option Nat) : Option Int :=
  match x with
  | none => none
  | some u => if Lib.itoa (numV b u) = wd then some (numV b u) else none
def numI (wd : List UInt8) : Option Int := numK wd (Lib.hasPrefix wd [45]) (dvA 0 (Lib.trimPrefix wd [45]))
theorem numK_none (wd : List UInt8) (b : Bool) : numK wd b none = none := rfl
theorem numK_some (wd : List UInt8) (b : Bool) (u : Nat) : numK wd b (some u) = if Lib.itoa (numV b u) = wd then some (numV b u) else none := rfl
theorem wrap_in (x : Int) : -9223372036854775808 ≤ wrap64 x ∧ wrap64 x ≤ 9223372036854775807 := by unfold wrap64; omega
theorem numV_in (b : Bool) (u : Nat) : -9223372036854775808 ≤ numV b u ∧ numV b u ≤ 9223372036854775807 := by
  cases b
  · rw [numV_f]; exact wrap_in _
  · rw [numV_t]; exact wrap_in _
def noT : Value := .iface 9 (.string ⟨#[110, 111, 32, 116, 101, 120, 116, 32, 111, 102, 32, 97, 32, 112, 114, 111, 103, 114, 97, 109]⟩)
def numPost (x : Option Int) (e : Ending) : Prop :=
  match x with
  | some v => e = .returned (.int .i64 v)
  | none => e = .panicked [{ v := noT, recovered := false }]

theorem dvA_append : ∀ (xs ys : List UInt8) (u : Nat), dvA u (xs ++ ys) = (dvA u xs).bind fun v => dvA v ys
  | [], ys, u => rfl
  | c :: xs, ys, u => by
    simp only [List.cons_append, dvA]
    split
    · exact dvA_append xs ys _
    · rfl
theorem dvA_dec (u : Nat) : dvA 0 (Lib.decDigits u) = some u := by
  induction u using Nat.strongRecOn with
  | _ u ih =>
    by_cases h : u < 10
    · rw [Lib.decDigits_one h]
      have e : (UInt8.ofNat (48 + u)).toNat = 48 + u := by simp; omega
      have d : isDig (UInt8.ofNat (48 + u)) = true := by unfold isDig; rw [e]; simp; omega
      simp only [dvA, d, if_true, e]
      congr 1; omega
    · rw [Lib.decDigits, dif_neg h, dvA_append, ih (u / 10) (by omega)]
      have e : (UInt8.ofNat (48 + u % 10)).toNat = 48 + u % 10 := by simp; omega
      have d : isDig (UInt8.ofNat (48 + u % 10)) = true := by unfold isDig; rw [e]; simp; omega
      simp only [Option.bind_some, dvA, d, if_true, e]
      congr 1; omega
theorem dec_head : ∀ u : Nat, ∃ c r, Lib.decDigits u = c :: r ∧ isDig c = true := by
  intro u
  induction u using Nat.strongRecOn with
  | _ u ih =>
    by_cases h : u < 10
    · refine ⟨_, _, Lib.decDigits_one h, ?_⟩
      have e : (UInt8.ofNat (48 + u)).toNat = 48 + u := by simp; omega
      unfold isDig; rw [e]; simp; omega
    · obtain ⟨c, r, h1, h2⟩ := ih (u / 10) (by omega)
      refine ⟨c, r ++ [UInt8.ofNat (48 + u % 10)], ?_, h2⟩
      rw [Lib.decDigits, dif_neg h, h1]; rfl
theorem numI_itoa {v : Int} (h0 : -9223372036854775808 ≤ v) (h1 : v ≤ 9223372036854775807) : numI (Lib.itoa v) = some v := by
  by_cases hv : v < 0
  · obtain ⟨u, rfl⟩ : ∃ u : Nat, v = -(u : Int) := ⟨v.natAbs, by omega⟩
    have e : Lib.itoa (-(u : Int)) = 45 :: Lib.decDigits u := by unfold Lib.itoa; rw [if_pos hv]; congr 2; omega
    have hp : Lib.hasPrefix (45 :: Lib.decDigits u) [45] = true := by simp [Lib.hasPrefix, List.isPrefixOf]
    have ht : Lib.trimPrefix (45 :: Lib.decDigits u) [45] = Lib.decDigits u := by unfold Lib.trimPrefix; rw [hp]; rfl
    have w1 : numV true u = -(u : Int) := by rw [numV_t]; unfold wr64 wrap64; omega
    unfold numI
    rw [e, ht, dvA_dec, hp, numK_some, w1, e, if_pos rfl]
  · obtain ⟨u, rfl⟩ : ∃ u : Nat, v = (u : Int) := ⟨v.toNat, by omega⟩
    have e : Lib.itoa (u : Int) = Lib.decDigits u := by unfold Lib.itoa; rw [if_neg hv]; simp
    obtain ⟨c, r, hc, hd⟩ := dec_head u
    have hc45 : c ≠ 45 := by rintro rfl; revert hd; decide
    have hp : Lib.hasPrefix (Lib.decDigits u) [45] = false := by rw [hc]; simp [Lib.hasPrefix, List.isPrefixOf]; exact fun h => hc45 h.symm
    have ht : Lib.trimPrefix (Lib.decDigits u) [45] = Lib.decDigits u := by unfold Lib.trimPrefix; rw [hp]; rfl
    have w1 : numV false u = (u : Int) := by rw [numV_f]; unfold wr64 wrap64; omega
    unfold numI
    rw [e, ht, dvA_dec, hp, numK_some, w1, e, if_pos rfl]
theorem numI_some {wd : List UInt8} {v : Int} (h : numI wd = some v) : Lib.itoa v = wd ∧ -9223372036854775808 ≤ v ∧ v ≤ 9223372036854775807 := by
  unfold numI at h
  cases hd : dvA 0 (Lib.trimPrefix wd [45]) with
  | none => rw [hd] at h; cases h
  | some u =>
    rw [hd, numK_some] at h
    by_cases hV : Lib.itoa (numV (Lib.hasPrefix wd [45]) u) = wd
    · rw [if_pos hV] at h
      injection h with h
      rw [← h]
      exact ⟨hV, numV_in _ _⟩
    · rw [if_neg hV] at h
      cases h

theorem wrap_shift (x k : Int) : wrap64 (x + k * 18446744073709551616) = wrap64 x := by
  unfold wrap64
  have : x + k * 18446744073709551616 + 9223372036854775808 = (x + 9223372036854775808) + k * 18446744073709551616 := by omega
  first
    | (rw [this, Int.add_mul_emod_self_right])
    | omega
theorem wrap_form (x : Int) : ∃ k : Int, wrap64 x = x + k * 18446744073709551616 := by
  refine ⟨-((x + 9223372036854775808) / 18446744073709551616), ?_⟩
  unfold wrap64
  omega
theorem wrap_digit (u : Nat) (d : Int) : wrap64 (wrap64 (10 * wrap64 (u : Int)) + d) = wrap64 (10 * (u : Int) + d) := by
  obtain ⟨k1, e1⟩ := wrap_form (u : Int)
  obtain ⟨k2, e2⟩ := wrap_form (10 * wrap64 (u : Int))
  rw [e2, e1]
  have : 10 * ((u : Int) + k1 * 18446744073709551616) + k2 * 18446744073709551616 + d = (10 * (u : Int) + d) + (10 * k1 + k2) * 18446744073709551616 := by omega
  rw [this, wrap_shift]
theorem drop_cons {l : List UInt8} {k : Nat} (h : k < l.length) : l.drop k = l[k] :: l.drop (k + 1) := List.drop_eq_getElem_cons h

set_option maxHeartbeats 2000000 in
theorem readDigits_any (l : List UInt8) (hl : l.length ≤ 1099511627776) (w : World) : Calls Tryz.prog 76 #[.string ⟨l.toArray⟩] w fun e w' => numPost (Option.map wr64 (dvA 0 l)) e ∧ Below w.heap.size w w' := by
  go_enter Tryz.func76, Tryz.ntmps76
  go_wp2
  go_loopw [3] (fun t wr => ∃ (pos u : Nat), pos ≤ l.length ∧ t = .int .i64 (wrap64 (u : Int)) ∧ wr.heap[w.heap.size]? = some (.stringIter ⟨l.toArray⟩ pos) ∧ Below w.heap.size w wr ∧ Hid (dvA u (l.drop pos) = dvA 0 l)) (fun _ wr => l.length - wr.iterPos w.heap.size)
  case atStart =>
    refine ⟨0, 0, Nat.zero_le _, by simp [wrap64], World.iter_heap w _ 0, (Below.refl _ _).alloc (Nat.le_refl _) _, ?_⟩
    show _ = _
    rfl
  case round =>
    obtain ⟨pos, u, hk, rfl, hit, hbr, HD⟩ := hrel
    have KR : Hid (Below w.heap.size w wr) := hbr
    clear hbr
    by_cases hlt : pos < l.length
    · obtain ⟨c, hc⟩ : ∃ c, l[pos] = c := ⟨_, rfl⟩
      have hdr := drop_cons hlt
      rw [hc] at hdr
      have HR : Hid (l.drop pos = c :: l.drop (pos + 1)) := hdr
      clear hdr
      have hp : pos < (⟨l.toArray⟩ : ByteArray).size := by simpa [ByteArray.size] using hlt
      have hsc : ((⟨l.toArray⟩ : ByteArray)[pos]'hp).toNat = c.toNat := by show (l[pos]).toNat = _; rw [hc]
      have hc256 := c.toNat_lt
      by_cases ha : c.toNat < 128
      · have hnx : ∀ ty, (Instr.next (.pointer (some ⟨w.heap.size, 0, none⟩)) true ty).run Tryz.prog wr = .ok (.tuple #[.bool true, .int .i64 pos, .int .i32 c.toNat]) (wr.iterAt w.heap.size ⟨l.toArray⟩ (pos + 1)) := fun ty => by
          have h1 := Lib.run_next_ascii_at (P := Tryz.prog) wr w.heap.size ⟨l.toArray⟩ pos ty hit hp (by rw [hsc]; exact ha)
          rw [h1, hsc]
        have hbi : Below w.heap.size w (wr.iterAt w.heap.size ⟨l.toArray⟩ (pos + 1)) := Lib.below_iterAt KR.out (Nat.le_refl _) _ _
        have hii := Lib.iterAt_heap wr w.heap.size ⟨l.toArray⟩ pos (pos + 1) hit
        have hp0 : wr.iterPos w.heap.size = pos := by simp only [World.iterPos, hit]
        generalize wr.iterAt w.heap.size ⟨l.toArray⟩ (pos + 1) = wi at hnx hbi hii
        have KI : Hid (Below w.heap.size w wi) := hbi
        have HII : Hid (wi.heap[w.heap.size]? = some (.stringIter ⟨l.toArray⟩ (pos + 1))) := hii
        have HP0 : Hid (wr.iterPos w.heap.size = pos) := hp0
        clear hit hbi hii hp0 hsc hc
        by_cases hd : 48 ≤ c.toNat ∧ c.toNat ≤ 57
        · obtain ⟨d0, d1⟩ := hd
          have DG : Hid (isDig c = true) := by show _ = _; unfold isDig; simp; omega
          have e0 : ¬ ((c.toNat : Int) < 48) := by omega
          have e1 : ¬ ((57 : Int) < (c.toNat : Int)) := by omega
          have e2 : IntKind.i32.wrap ((c.toNat : Int) - 48) = (c.toNat : Int) - 48 := by rw [IntKind.wrap_i32]; omega
          have HV : Hid (wrap64 (wrap64 (10 * wrap64 (u : Int)) + ((c.toNat : Int) - 48)) = wrap64 ((10 * u + (c.toNat - 48) : Nat) : Int)) := by show _ = _; rw [wrap_digit]; congr 1; omega
          go_wp2
          go_roundw
          case rel => exact ⟨pos + 1, 10 * u + (c.toNat - 48), by omega, by rw [HV.out], HII.out, KI.out, by show _ = _; rw [← HD.out, HR.out]; simp only [dvA, DG.out, if_true]⟩
          case measure =>
            have e4 : wi.iterPos w.heap.size = pos + 1 := by simp only [World.iterPos, HII.out]
            rw [e4, HP0.out]
            omega
        · have DG : Hid (isDig c = false) := by show _ = _; unfold isDig; simp; omega
          have HN : Hid (dvA 0 l = none) := by show _ = _; rw [← HD.out, HR.out]; simp [dvA, DG.out]
          by_cases e0 : (c.toNat : Int) < 48
          · go_wp2
            refine ⟨rfl, ?_, KI.out⟩
            rw [HN.out]
            rfl
          · have e1 : (57 : Int) < (c.toNat : Int) := by omega
            go_wp2
            refine ⟨rfl, ?_, KI.out⟩
            rw [HN.out]
            rfl
      · have hnx : ∀ ty, (Instr.next (.pointer (some ⟨w.heap.size, 0, none⟩)) true ty).run Tryz.prog wr = .ok (.tuple #[.bool true, .int .i64 pos, .int .i32 (Utf8.decode ⟨l.toArray⟩ pos).1]) (wr.iterAt w.heap.size ⟨l.toArray⟩ (pos + (Utf8.decode ⟨l.toArray⟩ pos).2)) := fun ty => Lib.run_next_any_at (P := Tryz.prog) wr w.heap.size ⟨l.toArray⟩ pos ty hit hp
        have hhi := (decode_high ⟨l.toArray⟩ pos hp (by rw [hsc]; omega)).1
        have hbi : Below w.heap.size w (wr.iterAt w.heap.size ⟨l.toArray⟩ (pos + (Utf8.decode ⟨l.toArray⟩ pos).2)) := Lib.below_iterAt KR.out (Nat.le_refl _) _ _
        generalize wr.iterAt w.heap.size ⟨l.toArray⟩ (pos + (Utf8.decode ⟨l.toArray⟩ pos).2) = wi at hnx hbi
        generalize (Utf8.decode ⟨l.toArray⟩ pos).1 = rn at hnx hhi
        have KI : Hid (Below w.heap.size w wi) := hbi
        have DG : Hid (isDig c = false) := by show _ = _; unfold isDig; simp; omega
        have HN : Hid (dvA 0 l = none) := by show _ = _; rw [← HD.out, HR.out]; simp [dvA, DG.out]
        have e0 : ¬ ((rn : Int) < 48) := by omega
        have e1 : (57 : Int) < (rn : Int) := by omega
        clear hit hbi hsc hc
        go_wp2
        refine ⟨rfl, ?_, KI.out⟩
        rw [HN.out]
        rfl
    · have hnx : ∀ ty, (Instr.next (.pointer (some ⟨w.heap.size, 0, none⟩)) true ty).run Tryz.prog wr = .ok (.tuple #[.bool false]) wr := fun ty => Lib.run_next_end_at (P := Tryz.prog) wr w.heap.size ⟨l.toArray⟩ pos ty hit (by simpa [ByteArray.size] using hlt)
      go_wp2
      go_ret
      refine ⟨?_, KR.out⟩
      have e : l.drop pos = [] := List.drop_eq_nil_of_le (by omega)
      rw [← HD.out, e]
      rfl


set_option maxHeartbeats 2000000 in
theorem readNumber_any (l : List UInt8) (hl : l.length ≤ 1099511627776) (w : World) (hE : Env w w.heap.size) : Calls Tryz.prog 63 #[.string ⟨l.toArray⟩] w fun e w' => numPost (numI l) e ∧ Below w.heap.size w w' := by
  have HE : Hid (Env w w.heap.size) := hE
  clear hE
  have htl : (Lib.trimPrefix l [45]).length ≤ 1099511627776 := by
    unfold Lib.trimPrefix
    split
    · simp; omega
    · exact hl
  have HC : Hid (Calls Tryz.prog 75 #[.string ⟨l.toArray⟩, .string ⟨#[45]⟩] w fun e w' => e = .returned (.tuple #[.string ⟨(Lib.trimPrefix l [45]).toArray⟩, .bool (Lib.hasPrefix l [45])]) ∧ w' = w) := Tryz.strings_CutPrefix ⟨l.toArray⟩ ⟨#[45]⟩ w
  have HR : Hid (Calls Tryz.prog 76 #[.string ⟨(Lib.trimPrefix l [45]).toArray⟩] w fun e w' => numPost (Option.map wr64 (dvA 0 (Lib.trimPrefix l [45]))) e ∧ Below w.heap.size w w') := readDigits_any _ htl w
  have HN : Hid (numI l = numK l (Lib.hasPrefix l [45]) (dvA 0 (Lib.trimPrefix l [45]))) := rfl
  generalize Lib.trimPrefix l [45] = ds at HC HR HN
  cases hd : dvA 0 ds with
  | none =>
    rw [hd] at HR HN
    go_enter Tryz.func63, Tryz.ntmps63
    go_wp2_with (first
      | (go_at_call 75; refine (Hid.out HC).mono ?_; rintro e w' ⟨rfl, hw'⟩; have hw2 := hw'.symm; clear hw'; subst hw2)
      | (go_at_call 76; refine (Hid.out HR).mono ?_; rintro e w1 ⟨he, hb1⟩; have he' : e = .panicked [{ v := noT, recovered := false }] := he; clear he; subst he'; have K1 : Hid (Below w.heap.size w w1) := hb1; clear hb1))
    refine ⟨rfl, ?_, K1.out⟩
    rw [HN.out]
    rfl
  | some u =>
    rw [hd] at HR HN
    cases hb : Lib.hasPrefix l [45]
    · rw [hb] at HC HN
      have HR' : Hid (Calls Tryz.prog 76 #[.string ⟨ds.toArray⟩] w fun e w' => e = .returned (.int .i64 (wr64 u)) ∧ Below w.heap.size w w') := HR.out
      obtain ⟨y, hy⟩ : ∃ y, y = wr64 u := ⟨_, rfl⟩
      have b1 : -9223372036854775808 ≤ y ∧ y ≤ 9223372036854775807 := by rw [hy]; exact wrap_in _
      have HN' : Hid (numI l = if Lib.itoa (y) = l then some (y) else none) := by show _ = _; rw [HN.out, numK_some, numV_f, hy]
      rw [← hy] at HR'
      clear HN hb HR hy
      have b0 : -9223372036854775808 ≤ y ∧ y ≤ 9223372036854775807 := by exact b1
      obtain ⟨x, hx⟩ : ∃ x, x = y := ⟨_, rfl⟩
      rw [← hx] at HN' b0
      subst hx
      skip
      skip
      by_cases hV : Lib.itoa x = l
      · have HS : Hid (numI l = some x) := by show _ = _; rw [HN'.out, if_pos hV]
        rw [hV] at HN'
        have HV : Hid (Lib.itoa x = l) := hV
        clear hV HN'
        go_enter Tryz.func63, Tryz.ntmps63
        go_wp2_with (first
          | (go_at_call 75; refine (Hid.out HC).mono ?_; rintro e w' ⟨rfl, hw'⟩; have hw2 := hw'.symm; clear hw'; subst hw2)
          | (go_at_call 76; refine (Hid.out HR').mono ?_; rintro e w1 ⟨rfl, hb1⟩; have K1 : Hid (Below w.heap.size w w1) := hb1; clear hb1)
          | (go_at_call 33; refine (Tryz.strconv_Itoa x b0.1 b0.2 _ (HE.out.keep K1.out).tab).mono ?_; rintro e w4 ⟨rfl, hg⟩; have hb4 : Hid (Below w1.heap.size w1 w4) := (by obtain ⟨k4, os4, h4⟩ := hg; rw [h4]; exact below_grow _ _ _); clear hg; rw [HV.out]))
        go_ret
        refine ⟨?_, K1.out.trans (hb4.out.mono K1.out.size)⟩
        rw [HS.out]
        rfl
      · have HS : Hid (numI l = none) := by show _ = _; rw [HN'.out, if_neg hV]
        have hne : (Lib.itoa x == l) = false := by simpa using hV
        clear hV HN'
        go_enter Tryz.func63, Tryz.ntmps63
        go_wp2_with (first
          | (go_at_call 75; refine (Hid.out HC).mono ?_; rintro e w' ⟨rfl, hw'⟩; have hw2 := hw'.symm; clear hw'; subst hw2)
          | (go_at_call 76; refine (Hid.out HR').mono ?_; rintro e w1 ⟨rfl, hb1⟩; have K1 : Hid (Below w.heap.size w w1) := hb1; clear hb1)
          | (go_at_call 33; refine (Tryz.strconv_Itoa x b0.1 b0.2 _ (HE.out.keep K1.out).tab).mono ?_; rintro e w4 ⟨rfl, hg⟩; have hb4 : Hid (Below w1.heap.size w1 w4) := (by obtain ⟨k4, os4, h4⟩ := hg; rw [h4]; exact below_grow _ _ _); clear hg))
        refine ⟨rfl, ?_, K1.out.trans (hb4.out.mono K1.out.size)⟩
        rw [HS.out]
        rfl
    · rw [hb] at HC HN
      have HR' : Hid (Calls Tryz.prog 76 #[.string ⟨ds.toArray⟩] w fun e w' => e = .returned (.int .i64 (wr64 u)) ∧ Below w.heap.size w w') := HR.out
      obtain ⟨y, hy⟩ : ∃ y, y = wr64 u := ⟨_, rfl⟩
      have b1 : -9223372036854775808 ≤ y ∧ y ≤ 9223372036854775807 := by rw [hy]; exact wrap_in _
      have HN' : Hid (numI l = if Lib.itoa (wrap64 (-(y))) = l then some (wrap64 (-(y))) else none) := by show _ = _; rw [HN.out, numK_some, numV_t, hy]
      rw [← hy] at HR'
      clear HN hb HR hy
      have b0 : -9223372036854775808 ≤ wrap64 (-(y)) ∧ wrap64 (-(y)) ≤ 9223372036854775807 := wrap_in _
      obtain ⟨x, hx⟩ : ∃ x, x = wrap64 (-(y)) := ⟨_, rfl⟩
      rw [← hx] at HN' b0
      have HX : Hid (x = wrap64 (-(y))) := hx
      have hx' := hx.symm
      clear hx
      by_cases hV : Lib.itoa x = l
      · have HS : Hid (numI l = some x) := by show _ = _; rw [HN'.out, if_pos hV]
        rw [hV] at HN'
        have HV : Hid (Lib.itoa x = l) := hV
        clear hV HN'
        go_enter Tryz.func63, Tryz.ntmps63
        go_wp2_with (first
          | (go_at_call 75; refine (Hid.out HC).mono ?_; rintro e w' ⟨rfl, hw'⟩; have hw2 := hw'.symm; clear hw'; subst hw2)
          | (go_at_call 76; refine (Hid.out HR').mono ?_; rintro e w1 ⟨rfl, hb1⟩; have K1 : Hid (Below w.heap.size w w1) := hb1; clear hb1)
          | (go_at_call 33; refine (Tryz.strconv_Itoa x b0.1 b0.2 _ (HE.out.keep K1.out).tab).mono ?_; rintro e w4 ⟨rfl, hg⟩; have hb4 : Hid (Below w1.heap.size w1 w4) := (by obtain ⟨k4, os4, h4⟩ := hg; rw [h4]; exact below_grow _ _ _); clear hg; rw [HV.out]))
        go_ret
        refine ⟨?_, K1.out.trans (hb4.out.mono K1.out.size)⟩
        rw [HS.out]
        rfl
      · have HS : Hid (numI l = none) := by show _ = _; rw [HN'.out, if_neg hV]
        have hne : (Lib.itoa x == l) = false := by simpa using hV
        clear hV HN'
        go_enter Tryz.func63, Tryz.ntmps63
        go_wp2_with (first
          | (go_at_call 75; refine (Hid.out HC).mono ?_; rintro e w' ⟨rfl, hw'⟩; have hw2 := hw'.symm; clear hw'; subst hw2)
          | (go_at_call 76; refine (Hid.out HR').mono ?_; rintro e w1 ⟨rfl, hb1⟩; have K1 : Hid (Below w.heap.size w w1) := hb1; clear hb1)
          | (go_at_call 33; refine (Tryz.strconv_Itoa x b0.1 b0.2 _ (HE.out.keep K1.out).tab).mono ?_; rintro e w4 ⟨rfl, hg⟩; have hb4 : Hid (Below w1.heap.size w1 w4) := (by obtain ⟨k4, os4, h4⟩ := hg; rw [h4]; exact below_grow _ _ _); clear hg))
        refine ⟨rfl, ?_, K1.out.trans (hb4.out.mono K1.out.size)⟩
        rw [HS.out]
        rfl

end Go.Proofs.YtajblippcnidiaaGreatDoor
