/- Said of the program and of the specification: a row of its own with what a thread printed. Conditions: at most 1048576 notes. -/
import Derived.Test.YtknffngbdakblaaJG00
import Derived.Test.YtknffngbdakblaaJG01
namespace Go.Proofs.Ytknffngbdakblaa
set_option linter.unusedSimpArgs false
set_option linter.unusedVariables false
set_option maxRecDepth 100000
open Go.RowKit
def said (who : Int) (l : List ND) : List Int := (l.filter fun n => n.who == who).map ND.v
theorem said_yes {who : Int} {l : List ND} {k : Nat} {t : ND} (h : l[k]? = some t) (e : t.who = who) : said who (l.take (k + 1)) = said who (l.take k) ++ [t.v] := by
 unfold said
 rw [List.take_add_one, h, Option.toList_some, List.filter_append, List.map_append]
 simp [e]
theorem said_no {who : Int} {l : List ND} {k : Nat} {t : ND} (h : l[k]? = some t) (e : t.who ≠ who) : said who (l.take (k + 1)) = said who (l.take k) := by
 unfold said
 rw [List.take_add_one, h, Option.toList_some, List.filter_append, List.map_append]
 simp [e]
theorem said_len (who : Int) (l : List ND) : (said who l).length ≤ l.length := by
 unfold said
 rw [List.length_map]
 exact List.length_filter_le _ _
set_option maxHeartbeats 2000000 in
theorem implSaid_any (v1 v2 : Value) (s : Option Addr) (c lo hi : Nat) (l : List ND) (who : Int) (w : World) (h : NtsR w lo hi s l) (hB : hi ≤ w.heap.size) (hl : l.length ≤ 1048576) :
  Calls Try.prog 6 #[.agg #[v1, v2, .slice s l.length c], .int .i64 who] w fun e w' => ∃ v, e = .returned v ∧ OwnN w' w.heap.size v (said who l) ∧ Below w.heap.size w w' := by
 have HC : Hid (NtsR w lo hi s l) := h
 clear h
 go_enter Try.func6, Try.ntmps6
 go_wp2
 go_loopw [5, 11] (fun u i wr => ∃ k : Nat, k ≤ l.length ∧ i = .int .i64 k ∧ OwnN wr (w.heap.size + 1) u (said who (l.take k)) ∧ Below w.heap.size w wr ∧ w.heap.size + 1 ≤ wr.heap.size ∧ wr.cell? ⟨w.heap.size, 2, none⟩ = some (.slice s l.length c)) (fun _ i _ => l.length - (intOf i).toNat)
 case atStart => exact ⟨0, Nat.zero_le _, rfl, World.ownsRow_nil _ _ _ _, (Below.refl _ _).alloc (Nat.le_refl _) _, by simp, by simp [go_sem]⟩
 case round =>
  obtain ⟨k, hk, rfl, ho, hb, hsz, hc2⟩ := hrel
  have HB : Hid (Below w.heap.size w wr) := hb
  have HO : Hid (OwnN wr (w.heap.size + 1) u5 (said who (l.take k))) := ho
  clear hb ho
  by_cases hlt : k < l.length
  ·obtain ⟨t, ht⟩ : ∃ t, l[k]? = some t := ⟨_, List.getElem?_eq_getElem hlt⟩
   obtain ⟨g, off, hs, hg, hc⟩ : ∃ g off, s = some ⟨g, off, none⟩ ∧ g < w.heap.size ∧ NtR w g (off + k * 2) t := by
    rcases HC.out with h | ⟨g, off, a, b, d, e⟩
    ·rw [h] at hlt; simp at hlt
    ·exact ⟨g, off, a, by omega, e k t ht⟩
   subst hs
   have f0 := (HB.out.cell (p := ⟨g, off + k * 2, none⟩) hg).trans hc.1
   have f1 := (HB.out.cell (p := ⟨g, off + k * 2 + 1, none⟩) hg).trans hc.2
   have HT : Hid (l[k]? = some t) := ht
   clear ht hc
   obtain ⟨ta, tb⟩ := t
   simp only at f0 f1
   have b0 : (0 : Int) ≤ (k : Int) := by omega
   have b1 : (k : Int) < (l.length : Int) := by omega
   have hsl : (said who (l.take k)).length ≤ 1099511627776 := by have := said_len who (l.take k); simp at this; omega
   have HSL := (show Hid _ from hsl)
   clear hsl
   by_cases he : ta = who
   ·subst he
    have HY : Hid (said ta (l.take (k + 1)) = said ta (l.take k) ++ [tb]) := said_yes HT.out rfl
    go_wp2_with (at_builtin; refine app_int rfl _ _ rfl (wr.alloc (.cells #[.int .i64 ta, .int .i64 tb] 35)) tb (w.heap.size + 1) u5 (said ta (l.take k)) rfl (HO.out.alloc _) (by rw [World.size_alloc]; rfl) HSL.out (by first | omega | (simp <;> omega)) ?_; intro g5 cap5 w5 ho5 hb5 hs5; have O5 := (show Hid _ from ho5); have B5 := (show Hid _ from hb5); clear ho5 hb5)
    go_roundw
    case rel => exact ⟨k + 1, by omega, by go_num, by rw [HY.out]; exact O5.out, (HB.out.alloc (by omega) _).trans (B5.out.mono (by omega)), by have := B5.out.size; first | omega | (simp at this; omega), (B5.out.cell (p := ⟨w.heap.size, 2, none⟩) (by show w.heap.size < _; omega)).trans (((Below.refl _ _).alloc (Nat.le_refl _) _).cell (p := ⟨w.heap.size, 2, none⟩) (by show w.heap.size < _; omega) |>.trans hc2)⟩
    case measure => simp [intOf]; omega
   ·have HY : Hid (said who (l.take (k + 1)) = said who (l.take k)) := said_no HT.out he
    go_wp2
    go_roundw
    case rel => exact ⟨k + 1, by omega, by go_num, by rw [HY.out]; exact HO.out.alloc _, HB.out.alloc (by omega) _, by simp; omega, (((Below.refl _ _).alloc (Nat.le_refl _) _).cell (p := ⟨w.heap.size, 2, none⟩) (by show w.heap.size < _; omega)).trans hc2⟩
    case measure => simp [intOf]; omega
  ·go_wp2
   go_ret
   have : k = l.length := by omega
   subst this
   have h1 := HO.out
   rw [List.take_length] at h1
   exact ⟨_, rfl, ownLow' h1 (by omega), HB.out⟩
set_option maxHeartbeats 2000000 in
theorem specSaid_any (v1 v2 : Value) (s : Option Addr) (c lo hi : Nat) (l : List ND) (who : Int) (w : World) (h : NtsR w lo hi s l) (hB : hi ≤ w.heap.size) (hl : l.length ≤ 1048576) :
  Calls Try.prog 8 #[.agg #[v1, v2, .slice s l.length c], .int .i64 who] w fun e w' => ∃ v, e = .returned v ∧ OwnN w' w.heap.size v (said who l) ∧ Below w.heap.size w w' := by
 have HC : Hid (NtsR w lo hi s l) := h
 clear h
 go_enter Try.func8, Try.ntmps8
 go_wp2
 go_loopw [5, 6] (fun u i wr => ∃ k : Nat, k ≤ l.length ∧ i = .int .i64 k ∧ OwnN wr (w.heap.size + 1) u (said who (l.take k)) ∧ Below w.heap.size w wr ∧ w.heap.size + 1 ≤ wr.heap.size ∧ wr.cell? ⟨w.heap.size, 2, none⟩ = some (.slice s l.length c)) (fun _ i _ => l.length - (intOf i).toNat)
 case atStart => exact ⟨0, Nat.zero_le _, rfl, by have h := ownN_empty (w := w.alloc (.cells #[v1, v2, .slice s l.length c] 28)) (base := w.heap.size + 1) (by simp); simp at h; rw [List.take_zero]; exact h, ((Below.refl _ _).alloc (Nat.le_refl _) _).alloc (by simp) _, by simp, by simp [go_sem]⟩
 case round =>
  obtain ⟨k, hk, rfl, ho, hb, hsz, hc2⟩ := hrel
  have HB : Hid (Below w.heap.size w wr) := hb
  have HO : Hid (OwnN wr (w.heap.size + 1) u5 (said who (l.take k))) := ho
  clear hb ho
  by_cases hlt : k < l.length
  ·obtain ⟨t, ht⟩ : ∃ t, l[k]? = some t := ⟨_, List.getElem?_eq_getElem hlt⟩
   obtain ⟨g, off, hs, hg, hc⟩ : ∃ g off, s = some ⟨g, off, none⟩ ∧ g < w.heap.size ∧ NtR w g (off + k * 2) t := by
    rcases HC.out with h | ⟨g, off, a, b, d, e⟩
    ·rw [h] at hlt; simp at hlt
    ·exact ⟨g, off, a, by omega, e k t ht⟩
   subst hs
   have f0 := (HB.out.cell (p := ⟨g, off + k * 2, none⟩) hg).trans hc.1
   have f1 := (HB.out.cell (p := ⟨g, off + k * 2 + 1, none⟩) hg).trans hc.2
   have HT : Hid (l[k]? = some t) := ht
   clear ht hc
   obtain ⟨ta, tb⟩ := t
   simp only at f0 f1
   have b0 : (0 : Int) ≤ (k : Int) := by omega
   have b1 : (k : Int) < (l.length : Int) := by omega
   have hsl : (said who (l.take k)).length ≤ 1099511627776 := by have := said_len who (l.take k); simp at this; omega
   have HSL := (show Hid _ from hsl)
   clear hsl
   by_cases he : ta = who
   ·subst he
    have HY : Hid (said ta (l.take (k + 1)) = said ta (l.take k) ++ [tb]) := said_yes HT.out rfl
    go_wp2_with (at_builtin; refine app_int rfl _ _ rfl wr tb (w.heap.size + 1) u5 (said ta (l.take k)) rfl (HO.out) rfl HSL.out (by first | omega | (simp <;> omega)) ?_; intro g5 cap5 w5 ho5 hb5 hs5; have O5 := (show Hid _ from ho5); have B5 := (show Hid _ from hb5); clear ho5 hb5)
    go_roundw
    case rel => exact ⟨k + 1, by omega, by go_num, by rw [HY.out]; exact O5.out, HB.out.trans (B5.out.mono (by omega)), by have := B5.out.size; first | omega | (simp at this; omega), (B5.out.cell (p := ⟨w.heap.size, 2, none⟩) (by show w.heap.size < _; omega)).trans (hc2)⟩
    case measure => simp [intOf]; omega
   ·have HY : Hid (said who (l.take (k + 1)) = said who (l.take k)) := said_no HT.out he
    go_wp2
    go_roundw
    case rel => exact ⟨k + 1, by omega, by go_num, by rw [HY.out]; exact HO.out, HB.out, hsz, hc2⟩
    case measure => simp [intOf]; omega
  ·go_wp2
   go_ret
   have : k = l.length := by omega
   subst this
   have h1 := HO.out
   rw [List.take_length] at h1
   exact ⟨_, rfl, ownLow' h1 (by omega), HB.out⟩
end Go.Proofs.Ytknffngbdakblaa
