/- How great sources are counted. No condition but the lists' own bounds. -/
import Derived.Test.YtfokbjkgdiploaaGreatJG00
import Derived.Test.YtfokbjkgdiploaaGreatJG03
namespace Go.Proofs.YtfokbjkgdiploaaGreat
set_option linter.unusedSimpArgs false
set_option linter.unusedVariables false
set_option maxRecDepth 100000
open Go.RowKit
set_option maxHeartbeats 400000 in
theorem szThread_all (pc : Int) (st : Int) (s : Option Addr) (n c : Nat) (q : Int) (w : World) (hn : n ≤ maxLen) (hq : 0 ≤ q) (hq' : q ≤ 1048576) :
  Calls Tryz.prog 59 #[.agg #[.int .i64 pc, .slice s n c, .int .i64 st], .int .i64 q] w fun e w' => e = .returned (.int .i64 (if q < n then -1 else q - (n : Int))) ∧ Below w.heap.size w w' := by
 by_cases h : q < n
 ·rw [if_pos h]
  go_enter Tryz.func59, Tryz.ntmps59
  go_wp2_with (go_at_call 28; refine (szIntS_any _ _ _ _ _ hn hq hq').mono ?_; rintro e w' ⟨rfl, hw⟩; have hw' := hw.symm; clear hw; subst hw'; rw [if_pos h])
  go_ret
  exact ⟨rfl, (Below.refl _ _).alloc (Nat.le_refl _) _⟩
 ·rw [if_neg h]
  have hnn : ¬ q - (n : Int) < 0 := by omega
  go_enter Tryz.func59, Tryz.ntmps59
  go_wp2_with (go_at_call 28; refine (szIntS_any _ _ _ _ _ hn hq hq').mono ?_; rintro e w' ⟨rfl, hw⟩; have hw' := hw.symm; clear hw; subst hw'; rw [if_neg h])
  go_ret
  exact ⟨rfl, (Below.refl _ _).alloc (Nat.le_refl _) _⟩
set_option maxHeartbeats 1000000 in
theorem szThreadS_any (s : Option Addr) (c lo hi : Nat) (l : List TD) (q : Int) (w : World) (h : RecsR w lo hi s (l.map TD.rec3)) (hB : hi ≤ w.heap.size) (hn : l.length ≤ maxLen) (hls : ∀ (i : Nat) (t : TD), l[i]? = some t → t.regs.length ≤ maxLen) (hq : 0 ≤ q) (hq' : q ≤ 1048576) :
  Calls Tryz.prog 30 #[.slice s l.length c, .int .i64 q] w fun e w' => (∃ v : Int, e = .returned (.int .i64 v) ∧ (v < 0 ∨ (0 ≤ v ∧ v ≤ 1048576 ∧ l.length ≤ 1048576 ∧ ∀ (i : Nat) (t : TD), l[i]? = some t → t.regs.length ≤ 1048576))) ∧ Below w.heap.size w w' := by
 unfold maxLen at hn
 have HLS : Hid (∀ (i : Nat) (t : TD), l[i]? = some t → t.regs.length ≤ maxLen) := hls
 have HC : Hid (RecsR w lo hi s (l.map TD.rec3)) := h
 clear hls h
 by_cases hb : q < (l.length : Int)
 ·have h1 : q - (l.length : Int) < 0 := by omega
  go_enter Tryz.func30, Tryz.ntmps30
  go_wp2
  go_ret
  exact ⟨⟨-1, rfl, .inl (by omega)⟩, Below.refl _ _⟩
 ·have h1 : ¬ q - (l.length : Int) < 0 := by omega
  go_enter Tryz.func30, Tryz.ntmps30
  go_wp2
  go_loopw [1, 5] (fun a i wr => ∃ (k : Nat) (v : Int), k ≤ l.length ∧ i = .int .i64 k ∧ a = .int .i64 v ∧ 0 ≤ v ∧ v ≤ 1048576 ∧ Below w.heap.size w wr ∧ (∀ (i : Nat) (t : TD), i < k → l[i]? = some t → t.regs.length ≤ 1048576)) (fun _ i _ => l.length - (intOf i).toNat)
  case atStart => exact ⟨0, _, Nat.zero_le _, rfl, rfl, by omega, by omega, Below.refl _ _, fun i t hi => absurd hi (Nat.not_lt_zero _)⟩
  case round =>
   obtain ⟨k, v, hk, rfl, rfl, hv, hv', hbl, hd⟩ := hrel
   have HD : Hid (∀ (i : Nat) (t : TD), i < k → l[i]? = some t → t.regs.length ≤ 1048576) := hd
   have HB : Hid (Below w.heap.size w wr) := hbl
   clear hd hbl
   by_cases hlt : k < l.length
   ·obtain ⟨t, ht⟩ : ∃ t, l[k]? = some t := ⟨_, List.getElem?_eq_getElem hlt⟩
    obtain ⟨g, off, hs, hg, hc⟩ : ∃ g off, s = some ⟨g, off, none⟩ ∧ g < w.heap.size ∧ RecR wr lo hi g (off + k * 3) t.rec3 := by
     rcases HC.out with h | ⟨g, off, a, b, d, e⟩
     ·have : l = [] := by simpa using h
      rw [this] at hlt; simp at hlt
     ·exact ⟨g, off, a, by omega, (e k t.rec3 (by rw [List.getElem?_map, ht]; rfl)).keep (Keep.of_below HB.out hB) (fun j => HB.out.cell (p := ⟨g, j, none⟩) (by show g < _; omega))⟩
    subst hs
    have hm := HLS.out k t ht
    have HT : Hid (l[k]? = some t) := ht
    obtain ⟨s1, c1, f0, f1, f2, -⟩ := hc
    obtain ⟨pc, rg, st⟩ := t
    simp only [TD.rec3] at f0 f1 f2 hm
    have HX : Hid (∃ n, rg.length = n) := ⟨_, rfl⟩
    generalize hx : rg.length = n at f1 hm
    have HXn : Hid (rg.length = n) := hx
    clear hx ht HX
    have b0 : (0 : Int) ≤ (k : Int) := by omega
    have b1 : (k : Int) < (l.length : Int) := by omega
    by_cases hvn : v < (n : Int)
    ·go_wp2_with (go_at_call 59; refine (szThread_all _ _ _ _ _ _ _ hm hv hv').mono ?_; rintro e w' ⟨rfl, hw⟩; rw [if_pos hvn])
     go_ret
     exact ⟨⟨-1, rfl, .inl (by omega)⟩, HB.out.trans (hw.mono HB.out.size)⟩
    ·have hnn : ¬ v - (n : Int) < 0 := by omega
     go_wp2_with (go_at_call 59; refine (szThread_all _ _ _ _ _ _ _ hm hv hv').mono ?_; rintro e w' ⟨rfl, hw⟩; have HW : Hid (Below wr.heap.size wr w') := hw; clear hw; rw [if_neg hvn])
     go_roundw
     case rel =>
      refine ⟨k + 1, _, by omega, by go_num, rfl, by omega, by omega, HB.out.trans (HW.out.mono HB.out.size), ?_⟩
      intro i t hi ht
      by_cases e : i = k
      ·subst e
       rw [HT.out] at ht
       injection ht with ht
       subst ht
       have := HXn.out
       simp only
       omega
      ·exact HD.out i t (by omega) ht
     case measure => simp [intOf]; omega
   ·go_wp2
    go_ret
    have : k = l.length := by omega
    subst this
    exact ⟨⟨v, rfl, .inr ⟨hv, hv', by omega, fun i t ht => HD.out i t (List.getElem?_eq_some_iff.1 ht).1 ht⟩⟩, HB.out⟩
set_option maxHeartbeats 400000 in
theorem szChan_all (pc : Int) (st : Bool) (s : Option Addr) (n c : Nat) (q : Int) (w : World) (hn : n ≤ maxLen) (hq : 0 ≤ q) (hq' : q ≤ 1048576) :
  Calls Tryz.prog 60 #[.agg #[.int .i64 pc, .slice s n c, .bool st], .int .i64 q] w fun e w' => e = .returned (.int .i64 (if q < n then -1 else q - (n : Int))) ∧ Below w.heap.size w w' := by
 by_cases h : q < n
 ·rw [if_pos h]
  go_enter Tryz.func60, Tryz.ntmps60
  go_wp2_with (go_at_call 28; refine (szIntS_any _ _ _ _ _ hn hq hq').mono ?_; rintro e w' ⟨rfl, hw⟩; have hw' := hw.symm; clear hw; subst hw'; rw [if_pos h])
  go_ret
  exact ⟨rfl, (Below.refl _ _).alloc (Nat.le_refl _) _⟩
 ·rw [if_neg h]
  have hnn : ¬ q - (n : Int) < 0 := by omega
  go_enter Tryz.func60, Tryz.ntmps60
  go_wp2_with (go_at_call 28; refine (szIntS_any _ _ _ _ _ hn hq hq').mono ?_; rintro e w' ⟨rfl, hw⟩; have hw' := hw.symm; clear hw; subst hw'; rw [if_neg h])
  go_ret
  exact ⟨rfl, (Below.refl _ _).alloc (Nat.le_refl _) _⟩
set_option maxHeartbeats 1000000 in
theorem szChanS_any (s : Option Addr) (c lo hi : Nat) (l : List CD) (q : Int) (w : World) (h : RecsR w lo hi s (l.map CD.rec3)) (hB : hi ≤ w.heap.size) (hn : l.length ≤ maxLen) (hls : ∀ (i : Nat) (t : CD), l[i]? = some t → t.list.length ≤ maxLen) (hq : 0 ≤ q) (hq' : q ≤ 1048576) :
  Calls Tryz.prog 31 #[.slice s l.length c, .int .i64 q] w fun e w' => (∃ v : Int, e = .returned (.int .i64 v) ∧ (v < 0 ∨ (0 ≤ v ∧ v ≤ 1048576 ∧ l.length ≤ 1048576 ∧ ∀ (i : Nat) (t : CD), l[i]? = some t → t.list.length ≤ 1048576))) ∧ Below w.heap.size w w' := by
 unfold maxLen at hn
 have HLS : Hid (∀ (i : Nat) (t : CD), l[i]? = some t → t.list.length ≤ maxLen) := hls
 have HC : Hid (RecsR w lo hi s (l.map CD.rec3)) := h
 clear hls h
 by_cases hb : q < (l.length : Int)
 ·have h1 : q - (l.length : Int) < 0 := by omega
  go_enter Tryz.func31, Tryz.ntmps31
  go_wp2
  go_ret
  exact ⟨⟨-1, rfl, .inl (by omega)⟩, Below.refl _ _⟩
 ·have h1 : ¬ q - (l.length : Int) < 0 := by omega
  go_enter Tryz.func31, Tryz.ntmps31
  go_wp2
  go_loopw [1, 5] (fun a i wr => ∃ (k : Nat) (v : Int), k ≤ l.length ∧ i = .int .i64 k ∧ a = .int .i64 v ∧ 0 ≤ v ∧ v ≤ 1048576 ∧ Below w.heap.size w wr ∧ (∀ (i : Nat) (t : CD), i < k → l[i]? = some t → t.list.length ≤ 1048576)) (fun _ i _ => l.length - (intOf i).toNat)
  case atStart => exact ⟨0, _, Nat.zero_le _, rfl, rfl, by omega, by omega, Below.refl _ _, fun i t hi => absurd hi (Nat.not_lt_zero _)⟩
  case round =>
   obtain ⟨k, v, hk, rfl, rfl, hv, hv', hbl, hd⟩ := hrel
   have HD : Hid (∀ (i : Nat) (t : CD), i < k → l[i]? = some t → t.list.length ≤ 1048576) := hd
   have HB : Hid (Below w.heap.size w wr) := hbl
   clear hd hbl
   by_cases hlt : k < l.length
   ·obtain ⟨t, ht⟩ : ∃ t, l[k]? = some t := ⟨_, List.getElem?_eq_getElem hlt⟩
    obtain ⟨g, off, hs, hg, hc⟩ : ∃ g off, s = some ⟨g, off, none⟩ ∧ g < w.heap.size ∧ RecR wr lo hi g (off + k * 3) t.rec3 := by
     rcases HC.out with h | ⟨g, off, a, b, d, e⟩
     ·have : l = [] := by simpa using h
      rw [this] at hlt; simp at hlt
     ·exact ⟨g, off, a, by omega, (e k t.rec3 (by rw [List.getElem?_map, ht]; rfl)).keep (Keep.of_below HB.out hB) (fun j => HB.out.cell (p := ⟨g, j, none⟩) (by show g < _; omega))⟩
    subst hs
    have hm := HLS.out k t ht
    have HT : Hid (l[k]? = some t) := ht
    obtain ⟨s1, c1, f0, f1, f2, -⟩ := hc
    obtain ⟨pc, rg, st⟩ := t
    simp only [CD.rec3] at f0 f1 f2 hm
    have HX : Hid (∃ n, rg.length = n) := ⟨_, rfl⟩
    generalize hx : rg.length = n at f1 hm
    have HXn : Hid (rg.length = n) := hx
    clear hx ht HX
    have b0 : (0 : Int) ≤ (k : Int) := by omega
    have b1 : (k : Int) < (l.length : Int) := by omega
    by_cases hvn : v < (n : Int)
    ·go_wp2_with (go_at_call 60; refine (szChan_all _ _ _ _ _ _ _ hm hv hv').mono ?_; rintro e w' ⟨rfl, hw⟩; rw [if_pos hvn])
     go_ret
     exact ⟨⟨-1, rfl, .inl (by omega)⟩, HB.out.trans (hw.mono HB.out.size)⟩
    ·have hnn : ¬ v - (n : Int) < 0 := by omega
     go_wp2_with (go_at_call 60; refine (szChan_all _ _ _ _ _ _ _ hm hv hv').mono ?_; rintro e w' ⟨rfl, hw⟩; have HW : Hid (Below wr.heap.size wr w') := hw; clear hw; rw [if_neg hvn])
     go_roundw
     case rel =>
      refine ⟨k + 1, _, by omega, by go_num, rfl, by omega, by omega, HB.out.trans (HW.out.mono HB.out.size), ?_⟩
      intro i t hi ht
      by_cases e : i = k
      ·subst e
       rw [HT.out] at ht
       injection ht with ht
       subst ht
       have := HXn.out
       simp only
       omega
      ·exact HD.out i t (by omega) ht
     case measure => simp [intOf]; omega
   ·go_wp2
    go_ret
    have : k = l.length := by omega
    subst this
    exact ⟨⟨v, rfl, .inr ⟨hv, hv', by omega, fun i t ht => HD.out i t (List.getElem?_eq_some_iff.1 ht).1 ht⟩⟩, HB.out⟩
theorem szNoteS_all (s : Option Addr) (n c : Nat) (q : Int) (w : World) (hn : n ≤ maxLen) (hq : 0 ≤ q) (hq' : q ≤ 1048576) : Calls Tryz.prog 32 #[.slice s n c, .int .i64 q] w fun e w' => e = .returned (.int .i64 (if q < n then -1 else q - (n : Int))) ∧ w' = w := by
 unfold maxLen at hn
 by_cases h : q < n
 ·rw [if_pos h]
  have h1 : q - (n : Int) < 0 := by omega
  go_enter Tryz.func32, Tryz.ntmps32
  go_wp2
  go_ret
  exact ⟨rfl, rfl⟩
 ·rw [if_neg h]
  have h1 : ¬ q - (n : Int) < 0 := by omega
  go_enter Tryz.func32, Tryz.ntmps32
  go_wp2
  go_ret
  exact ⟨rfl, rfl⟩
def SLens (d : SD) : Prop := (d.ths.length ≤ maxLen ∧ ∀ (i : Nat) (t : TD), d.ths[i]? = some t → t.regs.length ≤ maxLen) ∧ (d.chs.length ≤ maxLen ∧ ∀ (i : Nat) (t : CD), d.chs[i]? = some t → t.list.length ≤ maxLen) ∧ d.tr.length ≤ maxLen
theorem tri {w W : World} {v0 v1 v2 : Value} {T : TypeId} (hb : Below (w.alloc (.cells #[v0, v1, v2] T)).heap.size (w.alloc (.cells #[v0, v1, v2] T)) W) : W.cell? ⟨w.heap.size, 0, none⟩ = some v0 ∧ W.cell? ⟨w.heap.size, 1, none⟩ = some v1 ∧ W.cell? ⟨w.heap.size, 2, none⟩ = some v2 ∧ w.heap.size < W.heap.size := by
 refine ⟨?_, ?_, ?_, ?_⟩
 iterate 3 (· rw [hb.cell (by simp)]; simp [go_sem])
 ·have := hb.size; simp at this; omega
theorem tri.carry {w1 w2 : World} {B K : Nat} {v0 v1 v2 : Value} (hb : Below K w1 w2) (hz : B < K) (c : w1.cell? ⟨B, 0, none⟩ = some v0 ∧ w1.cell? ⟨B, 1, none⟩ = some v1 ∧ w1.cell? ⟨B, 2, none⟩ = some v2) : w2.cell? ⟨B, 0, none⟩ = some v0 ∧ w2.cell? ⟨B, 1, none⟩ = some v1 ∧ w2.cell? ⟨B, 2, none⟩ = some v2 :=
 ⟨(hb.cell hz).trans c.1, (hb.cell hz).trans c.2.1, (hb.cell hz).trans c.2.2⟩
set_option maxHeartbeats 2000000 in
theorem szSource_any (s1 s2 s3 : Option Addr) (c1 c2 c3 lo hi : Nat) (d : SD) (q : Int) (w : World) (h : SrcR w lo hi s1 s2 s3 d) (hB : hi ≤ w.heap.size) (hn : SLens d) (hq : 0 ≤ q) (hq' : q ≤ 1048576) :
  Calls Tryz.prog 8 #[.agg #[.slice s1 d.ths.length c1, .slice s2 d.chs.length c2, .slice s3 d.tr.length c3], .int .i64 q] w fun e w' => (∃ v : Int, e = .returned (.int .i64 v) ∧ (v < 0 ∨ (0 ≤ v ∧ SFits d))) ∧ Below w.heap.size w w' := by
 obtain ⟨h1, h2, h3⟩ := h
 obtain ⟨⟨n1, n1'⟩, ⟨n2, n2'⟩, n3⟩ := hn
 have H1 : Hid (RecsR w lo hi s1 (d.ths.map TD.rec3)) := h1
 have H2 : Hid (RecsR w lo hi s2 (d.chs.map CD.rec3)) := h2
 have Q1 : Hid (∀ (i : Nat) (t : TD), d.ths[i]? = some t → t.regs.length ≤ maxLen) := n1'
 have Q2 : Hid (∀ (i : Nat) (t : CD), d.chs[i]? = some t → t.list.length ≤ maxLen) := n2'
 clear h1 h2 h3 n1' n2'
 have ka : Hid (Below w.heap.size w (w.alloc (.cells #[.slice s1 d.ths.length c1, .slice s2 d.chs.length c2, .slice s3 d.tr.length c3] 30))) := (Below.refl _ _).alloc (Nat.le_refl _) _
 go_enter Tryz.func8, Tryz.ntmps8
 go_wp2_with fail
 refine (szThreadS_any s1 c1 lo hi d.ths q _ (H1.out.keep (Keep.of_below ka.out hB)) (by simp; omega) n1 Q1.out hq hq').mono ?_
 rintro e w1 ⟨⟨v, rfl, hv⟩, hb1⟩
 obtain ⟨a0, a1, a2, z1⟩ := tri hb1
 have K1 : Hid (Below w.heap.size w w1) := ka.out.trans (hb1.mono (by simp))
 clear hb1 ka
 rcases hv with hv | ⟨hv, hv2, f1, f1'⟩
 ·go_wp2
  go_ret
  exact ⟨⟨-1, rfl, .inl (by omega)⟩, K1.out⟩
 ·have hv' : ¬ v < 0 := by omega
  have F1 : Hid (∀ (i : Nat) (t : TD), d.ths[i]? = some t → t.regs.length ≤ 1048576) := f1'
  clear f1'
  go_wp2_with fail
  refine (szChanS_any s2 c2 lo hi d.chs v _ (H2.out.keep (Keep.of_below K1.out hB)) (by omega) n2 Q2.out hv hv2).mono ?_
  rintro e w2 ⟨⟨u, rfl, hu⟩, hb2⟩
  obtain ⟨b0, b1, b2⟩ := tri.carry hb2 z1 ⟨a0, a1, a2⟩
  have K2 : Hid (Below w.heap.size w w2) := K1.out.trans (hb2.mono (by omega))
  have z2 := hb2.size
  clear hb2 a0 a1 a2
  rcases hu with hu | ⟨hu, hu2, f2, f2'⟩
  ·go_wp2
   go_ret
   exact ⟨⟨-1, rfl, .inl (by omega)⟩, K2.out⟩
  ·have hu' : ¬ u < 0 := by omega
   have F2 : Hid (∀ (i : Nat) (t : CD), d.chs[i]? = some t → t.list.length ≤ 1048576) := f2'
   clear f2'
   have z3 : w.heap.size < w2.heap.size := by omega
   by_cases hb : u < (d.tr.length : Int)
   ·go_wp2_with (go_at_call 32; refine (szNoteS_all _ _ _ _ _ n3 hu hu2).mono ?_; rintro e w' ⟨rfl, hw⟩; have hw' := hw.symm; clear hw; subst hw'; rw [if_pos hb])
    go_ret
    exact ⟨⟨-1, rfl, .inl (by omega)⟩, K2.out⟩
   ·have hnn : ¬ u - (d.tr.length : Int) < 0 := by omega
    go_wp2_with (go_at_call 32; refine (szNoteS_all _ _ _ _ _ n3 hu hu2).mono ?_; rintro e w' ⟨rfl, hw⟩; have hw' := hw.symm; clear hw; subst hw'; rw [if_neg (show ¬ u < (d.tr.length : Int) by omega)])
    go_ret
    exact ⟨⟨_, rfl, .inr ⟨by omega, ⟨f1, F1.out⟩, ⟨f2, F2.out⟩, by omega⟩⟩, K2.out⟩
end Go.Proofs.YtfokbjkgdiploaaGreat
