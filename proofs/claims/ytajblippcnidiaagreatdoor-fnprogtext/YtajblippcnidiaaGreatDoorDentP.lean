/- The draws of programs' texts: l1Pick of texts, l2Dent, DrawProgRead: whatever is drawn is a text of at most 6010 bytes. Conditions: the bytes lie in memory as the reading says. -/
import Derived.Test.YtajblippcnidiaaGreatDoorDrawAll
import Derived.Test.YtajblippcnidiaaGreatDoorPText3
import Derived.Test.YtajblippcnidiaaGreatDoorText2
import Derived.Test.YtajblippcnidiaaGreatDoorRead2
import Derived.Deep.RegionWith
namespace Go.Proofs.YtajblippcnidiaaGreatDoor
set_option linter.unusedSimpArgs false
set_option linter.unusedVariables false
set_option maxRecDepth 100000
open Go.RowKit

theorem progT_le (p : PD) : (progT p).length ≤ 6000 := by
  unfold progT
  split
  · rename_i h
    obtain ⟨n1, n2, n3, n4, n5⟩ := prog_parts h
    have h1 := caps_46 h
    have h2 := bodsT_le (bods_short n5)
    simp
    omega
  · simp

set_option maxHeartbeats 1000000 in
theorem pickT_cb (p : Nat) (s : Option Addr) (n c : Nat) (g m : Nat) (l : List (List UInt8)) (w : World) (h : CB w p s n c) (hm : m = l.length) (hl0 : 0 < l.length) (hl : l.length ≤ 256) (hg : g < w.heap.size) (hgp : g ≠ p) (hcell : ∀ i, i < l.length → w.cell? ⟨g, i, none⟩ = some (.string ⟨(l.getD i []).toArray⟩)) :
    Calls Tryz.prog 51 #[.pointer (some ⟨p, 0, none⟩), .slice (some ⟨g, 0, none⟩) m m] w fun e w' => ∃ x : List UInt8, e = .returned (.string ⟨x.toArray⟩) ∧ x ∈ l ∧ CB w' p s n c ∧ But p w w' := by
  subst hm
  have H : Hid (CB w p s n c) := h
  have HC : Hid (∀ i, i < l.length → w.cell? ⟨g, i, none⟩ = some (.string ⟨(l.getD i []).toArray⟩)) := hcell
  clear h hcell
  go_enter Tryz.func51, Tryz.ntmps51
  go_wp2_with fail
  refine (below_cb p s n c (l.length : Int) w H.out (by omega) (by omega)).mono ?_
  rintro e w1 ⟨x, rfl, x0, x1, hc, hb⟩
  obtain ⟨k, rfl⟩ := Int.eq_ofNat_of_zero_le x0
  have hk : k < l.length := by omega
  have f0 := (hb.cell (p := ⟨g, k, none⟩) hg hgp).trans (HC.out k hk)
  have HM : Hid (l.getD k [] ∈ l) := by
    show _ ∈ _
    rw [List.getD_eq_getElem?_getD, List.getElem?_eq_getElem hk]
    exact List.getElem_mem hk
  generalize l.getD k [] = y at f0 HM
  have HC1 : Hid (CB w1 p s n c) := hc
  have HB1 : Hid (But p w w1) := hb
  clear hc hb
  go_wp2
  go_ret
  exact ⟨y, rfl, HM.out, HC1.out, HB1.out⟩

set_option maxHeartbeats 2000000 in
theorem dent_cb (p : Nat) (s : Option Addr) (n c : Nat) (g m : Nat) (l : List UInt8) (ls : List (List UInt8)) (w : World) (h : CB w p s n c) (hlen : l.length ≤ 6000) (hm : m = ls.length) (hl0 : 0 < ls.length) (hl : ls.length ≤ 256) (hg : g < w.heap.size) (hgp : g ≠ p) (hcell : ∀ i, i < ls.length → w.cell? ⟨g, i, none⟩ = some (.string ⟨(ls.getD i []).toArray⟩)) (h2 : ∀ x ∈ ls, x.length ≤ 7) :
    Calls Tryz.prog 27 #[.pointer (some ⟨p, 0, none⟩), .string ⟨l.toArray⟩, .slice (some ⟨g, 0, none⟩) m m] w fun e w' => ∃ x : List UInt8, e = .returned (.string ⟨x.toArray⟩) ∧ x.length ≤ 6010 ∧ CB w' p s n c ∧ But p w w' := by
  subst hm
  have H : Hid (CB w p s n c) := h
  have HC : Hid (∀ i, i < ls.length → w.cell? ⟨g, i, none⟩ = some (.string ⟨(ls.getD i []).toArray⟩)) := hcell
  have H2 : Hid (∀ x ∈ ls, x.length ≤ 7) := h2
  clear h hcell h2
  go_enter Tryz.func27, Tryz.ntmps27
  go_wp2_with fail
  refine (below_all p s n c _ w H.out (by omega) (by omega)).mono ?_
  rintro e w1 ⟨x, rfl, x0, x1, hc1, hb1⟩
  obtain ⟨k, rfl⟩ := Int.eq_ofNat_of_zero_le x0
  have hk : k ≤ l.length := by omega
  have C1 : Hid (CB w1 p s n c) := hc1
  have B1 : Hid (But p w w1) := hb1
  clear hc1 hb1
  go_wp2_with fail
  refine (below_cb p s n c 5 w1 C1.out (by omega) (by omega)).mono ?_
  rintro e w2 ⟨t, rfl, t0, t1, hc2, hb2⟩
  have C2 : Hid (CB w2 p s n c) := hc2
  have B2 : Hid (But p w w2) := B1.out.trans hb2
  have hs2 := B2.out.size
  clear hc2 hb2 B1 C1
  have e1 : (⟨l.toArray⟩ : ByteArray).extract 0 k = ⟨(accL l 0 k).toArray⟩ := extract_acc l 0 k
  have e2 : (⟨l.toArray⟩ : ByteArray).extract k l.length = ⟨(accL l k l.length).toArray⟩ := extract_acc l k l.length
  have n1 : (accL l 0 k).length ≤ 6000 := by simp [accL]; omega
  have n2 : (accL l k l.length).length ≤ 6000 := by simp [accL]; omega
  have n3 : (accL l 0 k).length + (accL l k l.length).length = l.length := by simp [accL]; omega
  have k0 : (0 : Int) ≤ (k : Int) := by omega
  have k1 : (k : Int) ≤ (l.length : Int) := by omega
  by_cases h0 : t = 0
  · subst h0
    go_wp2
    go_ret
    exact ⟨accL l 0 k, rfl, by omega, C2.out, B2.out⟩
  by_cases h1 : t = 1
  · subst h1
    have HCD : Hid (CB w2.drew p s n c) := C2.out.keep (Below.refl _ _).drew
    have hcd : ∀ i, i < ls.length → w2.drew.cell? ⟨g, i, none⟩ = some (.string ⟨(ls.getD i []).toArray⟩) := fun i hi => (B2.out.cell (p := ⟨g, i, none⟩) hg hgp).trans (HC.out i hi)
    have HCC := (show Hid (∀ i, i < ls.length → w2.drew.cell? ⟨g, i, none⟩ = some (.string ⟨(ls.getD i []).toArray⟩)) from hcd)
    have a1 := fun (y : List UInt8) (hy : y.length ≤ 7) => addL (accL l 0 k) y (by omega) (by omega)
    have a2 := fun (y : List UInt8) (hy : y.length ≤ 7) => addL (accL l 0 k ++ y) (accL l k l.length) (by simp; omega) (by omega)
    have A1 := (show Hid _ from a1)
    have A2 := (show Hid _ from a2)
    have hg2 : g < w2.drew.heap.size := by show g < w2.heap.size; omega
    clear hcd a1 a2
    go_wp2_with fail
    go_region_with (go_at_call 51; refine (pickT_cb p s n c g ls.length ls w2.drew HCD.out rfl hl0 hl hg2 hgp HCC.out).mono ?_; rintro e w3 ⟨y, rfl, hy, hc3, hb3⟩; have hy2 := H2.out y hy; have b1 := A1.out y hy2; have b2 := A2.out y hy2)
    all_goals
      go_wp2
      go_ret
      exact ⟨accL l 0 k ++ (y ++ accL l k l.length), rfl, by simp; omega, hc3, B2.out.trans ⟨hb3.os, hb3.tape, hb3.output, hb3.size, hb3.block⟩⟩
  · go_wp2
    go_ret
    exact ⟨l, rfl, by omega, C2.out, B2.out⟩


def bits7 : List (List UInt8) := [[32], [48], [10], [120], [98, 111, 100, 121, 10], [101, 110, 100, 10], [99, 97, 112, 115, 32, 49, 10]]
set_option maxHeartbeats 2000000 in
theorem drawProgRead_any (s : Option Addr) (n c : Nat) (w : World) (hb : Bytes w w.heap.size s n) (hn : n ≤ maxLen) :
    Calls Tryz.prog 11 #[.slice s n c] w fun e w' => ∃ l : List UInt8, e = .returned (.string ⟨l.toArray⟩) ∧ l.length ≤ 6010 ∧ Below w.heap.size w w' := by
  have HB : Hid (Bytes w w.heap.size s n) := hb
  clear hb
  go_enter Tryz.func11, Tryz.ntmps11
  go_wp2_with fail
  refine (new_cb s n c w HB.out hn).mono ?_
  rintro e w1 ⟨rfl, hc1, hb1, hs1⟩
  have C1 : Hid (CB w1 w.heap.size s n c) := hc1
  have K1 : Hid (Below w.heap.size w w1) := hb1
  have z1 : w.heap.size < w1.heap.size := by omega
  clear hc1 hb1 hs1
  go_wp2_with fail
  refine (drawRight_cb w.heap.size s n c w1 C1.out).mono ?_
  rintro e w2 ⟨v0, v1, na, nb, rfl, hC, hS, ha1, ha2, hb1, hb2, hc2, hbt⟩
  obtain ⟨s0, d0, caps, rfl, hca, hIC⟩ := hC.ints
  obtain ⟨s1, d1, bods, rfl, hbo, hbl, hIS⟩ := hS.bods
  have P2 : Hid (ProgR w2 w1.heap.size w2.heap.size s0 s1 ⟨caps, bods⟩) := ⟨hIC, hIS⟩
  have F2 : Hid (Fits ⟨caps, bods⟩) := ⟨by show caps.length ≤ _; omega, by show bods.length ≤ _; omega, fun i hi => by have := hbl i hi; show (bods.getD i []).length ≤ _; omega⟩
  have C2 : Hid (CB w2 w.heap.size s n c) := hc2
  have K2 : Hid (Below w.heap.size w w2) := K1.out.trans (hbt.below (Nat.le_refl _) (by omega))
  have z2 : w1.heap.size ≤ w2.heap.size := hbt.size
  clear hc2 hbt hC hS hIC hIS hbl hca hbo ha1 ha2 hb1 hb2
  go_wp2_with fail
  refine (specProgText_any s0 s1 d0 d1 w1.heap.size w2.heap.size ⟨caps, bods⟩ w2 P2.out (Nat.le_refl _) F2.out).mono ?_
  rintro e w3 ⟨rfl, hb3⟩
  have C3 : Hid (CB w3 w.heap.size s n c) := C2.out.keep hb3
  have K3 : Hid (Below w.heap.size w w3) := K2.out.trans (hb3.mono (by omega))
  have z3 : w2.heap.size ≤ w3.heap.size := hb3.size
  have hl := progT_le ⟨caps, bods⟩
  clear hb3
  generalize progT ⟨caps, bods⟩ = tx at hl
  have C4 : Hid (CB (w3.alloc (.cells #[.string ⟨#[32]⟩, .string ⟨#[48]⟩, .string ⟨#[10]⟩, .string ⟨#[120]⟩, .string ⟨#[98, 111, 100, 121, 10]⟩, .string ⟨#[101, 110, 100, 10]⟩, .string ⟨#[99, 97, 112, 115, 32, 49, 10]⟩] 9)) w.heap.size s n c) := C3.out.alloc _
  have K4 : Hid (Below w.heap.size w (w3.alloc (.cells #[.string ⟨#[32]⟩, .string ⟨#[48]⟩, .string ⟨#[10]⟩, .string ⟨#[120]⟩, .string ⟨#[98, 111, 100, 121, 10]⟩, .string ⟨#[101, 110, 100, 10]⟩, .string ⟨#[99, 97, 112, 115, 32, 49, 10]⟩] 9))) := K3.out.alloc (by omega) _
  have HC : Hid (∀ i, i < bits7.length → (w3.alloc (.cells #[.string ⟨#[32]⟩, .string ⟨#[48]⟩, .string ⟨#[10]⟩, .string ⟨#[120]⟩, .string ⟨#[98, 111, 100, 121, 10]⟩, .string ⟨#[101, 110, 100, 10]⟩, .string ⟨#[99, 97, 112, 115, 32, 49, 10]⟩] 9)).cell? ⟨w3.heap.size, i, none⟩ = some (.string ⟨(bits7.getD i []).toArray⟩)) := by
    intro i hi
    rw [World.cell?_alloc_mark]
    match i, hi with
    | 0, _ => rfl
    | 1, _ => rfl
    | 2, _ => rfl
    | 3, _ => rfl
    | 4, _ => rfl
    | 5, _ => rfl
    | 6, _ => rfl
  go_wp2_with fail
  refine (dent_cb w.heap.size s n c w3.heap.size 7 tx bits7 _ C4.out hl rfl (by decide) (by decide) (by simp) (by omega) HC.out (by decide)).mono ?_
  rintro e w5 ⟨x, rfl, hx, -, hb5⟩
  have K5 : Hid (Below w.heap.size w w5) := K4.out.trans (hb5.below (Nat.le_refl _) (by simp; omega))
  clear hb5
  go_wp2
  go_ret
  exact ⟨x, rfl, hx, K5.out⟩

end Go.Proofs.YtajblippcnidiaaGreatDoor
