/- How the laws hold two sources against each other. Conditions: lists of at most 1048576. -/
import Derived.Test.YtfokbjkgdiploaaGreatJG00
import Derived.Test.YtfokbjkgdiploaaGreatJG03
import Derived.Deep.RegionWith
namespace Go.Proofs.YtfokbjkgdiploaaGreat
set_option linter.unusedSimpArgs false
set_option linter.unusedVariables false
set_option maxRecDepth 100000
open Go.RowKit
set_option maxHeartbeats 1000000 in
theorem eqThread_alike (pc : Int) (st : Int) (s s' : Option Addr) (l : List Int) (c c' lo hi lo' hi' : Nat) (w : World) (h : IntsR w lo hi s l) (h' : IntsR w lo' hi' s' l) (hB : hi ≤ w.heap.size) (hB' : hi' ≤ w.heap.size) (hl : l.length ≤ 1000000000) :
  Calls Tryz.prog 79 #[.agg #[.int .i64 pc, .slice s l.length c, .int .i64 st], .agg #[.int .i64 pc, .slice s' l.length c', .int .i64 st]] w fun e w' => e = .returned (.bool true) ∧ Below w.heap.size w w' := by
 have HR : Hid (IntsR w lo hi s l) := h
 have HR' : Hid (IntsR w lo' hi' s' l) := h'
 clear h h'
 have hd : (st != st) = false := by simp
 go_enter Tryz.func79, Tryz.ntmps79
 go_wp2_with fail
 refine (eqIntS_any s s' l l c c' _ ((HR.out.keep (Keep.of_below (((Below.refl w.heap.size w).alloc (Nat.le_refl _) _).alloc (by simp) _) hB)).ints (by simp; omega)) ((HR'.out.keep (Keep.of_below (((Below.refl w.heap.size w).alloc (Nat.le_refl _) _).alloc (by simp) _) hB')).ints (by simp; omega)) (by omega)).mono ?_
 rintro e w1 ⟨rfl, m1, rfl⟩
 rw [decide_eq_true (rfl : l = l)]
 go_wp2
 go_ret
 exact ⟨rfl, (((Below.refl w.heap.size w).alloc (Nat.le_refl _) _).alloc (by simp) _).trans ⟨rfl, rfl, rfl, Nat.le_refl _, fun _ _ => rfl⟩⟩
set_option maxHeartbeats 2000000 in
theorem eqThreadS_alike (s s' : Option Addr) (c c' lo hi lo' hi' : Nat) (l : List TD) (w : World) (h : RecsR w lo hi s (l.map TD.rec3)) (h' : RecsR w lo' hi' s' (l.map TD.rec3)) (hB : hi ≤ w.heap.size) (hB' : hi' ≤ w.heap.size) (hl : l.length ≤ 1048576) (hls : ∀ (i : Nat) (t : TD), l[i]? = some t → t.regs.length ≤ 1048576) :
  Calls Tryz.prog 43 #[.slice s l.length c, .slice s' l.length c'] w fun e w' => e = .returned (.bool true) ∧ Below w.heap.size w w' := by
 have H1 : Hid (RecsR w lo hi s (l.map TD.rec3)) := h
 have H2 : Hid (RecsR w lo' hi' s' (l.map TD.rec3)) := h'
 have Q3 : Hid (∀ (i : Nat) (t : TD), l[i]? = some t → t.regs.length ≤ 1048576) := hls
 clear h h' hls
 have hne : ((l.length : Int) != (l.length : Int)) = false := by simp
 go_enter Tryz.func43, Tryz.ntmps43
 go_wp2
 go_loopw [5] (fun i wr => ∃ k : Nat, k ≤ l.length ∧ i = .int .i64 k ∧ Below w.heap.size w wr) (fun i _ => l.length - (intOf i).toNat)
 case atStart => exact ⟨0, Nat.zero_le _, rfl, Below.refl _ _⟩
 case round =>
  obtain ⟨k, hk, rfl, hb⟩ := hrel
  have HB : Hid (Below w.heap.size w wr) := hb
  have hsz := hb.size
  clear hb
  by_cases hlt : k < l.length
  ·obtain ⟨t, ht⟩ : ∃ t, l[k]? = some t := ⟨_, List.getElem?_eq_getElem hlt⟩
   have hm : (l.map TD.rec3)[k]? = some t.rec3 := by rw [List.getElem?_map, ht]; rfl
   have hn : ¬ l.map TD.rec3 = [] := by intro e; rw [e] at hm; simp at hm
   obtain ⟨g, off, hs, hg, hc⟩ : ∃ g off, s = some ⟨g, off, none⟩ ∧ g < w.heap.size ∧ RecR wr lo hi g (off + k * 3) t.rec3 := by
    rcases H1.out with h | ⟨g, off, a, b, d, e⟩
    ·exact absurd h hn
    ·exact ⟨g, off, a, by omega, (e k _ hm).keep (Keep.of_below HB.out hB) (fun j => HB.out.cell (p := ⟨g, j, none⟩) (by show g < _; omega))⟩
   obtain ⟨g', off', hs', hg', hc'⟩ : ∃ g off, s' = some ⟨g, off, none⟩ ∧ g < w.heap.size ∧ RecR wr lo' hi' g (off + k * 3) t.rec3 := by
    rcases H2.out with h | ⟨g, off, a, b, d, e⟩
    ·exact absurd h hn
    ·exact ⟨g, off, a, by omega, (e k _ hm).keep (Keep.of_below HB.out hB') (fun j => HB.out.cell (p := ⟨g, j, none⟩) (by show g < _; omega))⟩
   subst hs
   subst hs'
   have hlen := Q3.out k t ht
   obtain ⟨s1, c1, f0, f1, f2, hin⟩ := hc
   obtain ⟨s2, c2, f0', f1', f2', hin'⟩ := hc'
   obtain ⟨pc, rg, st⟩ := t
   simp only [TD.rec3] at f0 f1 f2 f0' f1' f2' hin hin' hlen
   have HI1 : Hid (IntsR wr lo hi s1 rg) := hin
   have HI2 : Hid (IntsR wr lo' hi' s2 rg) := hin'
   clear hin hin' ht hm hn
   have b0 : (0 : Int) ≤ (k : Int) := by omega
   have b1 : (k : Int) < (l.length : Int) := by omega
   go_wp2_with fail
   first | go_region_with (go_at_call 79; refine (eqThread_alike pc st s1 s2 rg c1 c2 lo hi lo' hi' _ ?_ ?_ ?_ ?_ (by omega)).mono ?_; (exact HI1.out); (exact HI2.out); (first | omega | (simp; omega)); (first | omega | (simp; omega)); rintro e w1 ⟨rfl, hb1⟩) | fail
   all_goals
    have HB1 : Hid (Below wr.heap.size wr w1) := ⟨hb1.os, hb1.tape, hb1.output, hb1.size, hb1.block⟩
    clear hb1
    go_wp2
    go_roundw
    case rel => exact ⟨k + 1, by omega, by go_num, HB.out.trans (HB1.out.mono hsz)⟩
    case measure => simp [intOf]; omega
  ·go_wp2
   go_ret
   exact ⟨rfl, HB.out⟩
set_option maxHeartbeats 1000000 in
theorem eqChan_alike (pc : Int) (st : Bool) (s s' : Option Addr) (l : List Int) (c c' lo hi lo' hi' : Nat) (w : World) (h : IntsR w lo hi s l) (h' : IntsR w lo' hi' s' l) (hB : hi ≤ w.heap.size) (hB' : hi' ≤ w.heap.size) (hl : l.length ≤ 1000000000) :
  Calls Tryz.prog 80 #[.agg #[.int .i64 pc, .slice s l.length c, .bool st], .agg #[.int .i64 pc, .slice s' l.length c', .bool st]] w fun e w' => e = .returned (.bool true) ∧ Below w.heap.size w w' := by
 have HR : Hid (IntsR w lo hi s l) := h
 have HR' : Hid (IntsR w lo' hi' s' l) := h'
 clear h h'
 have hd : (st != st) = false := by simp
 go_enter Tryz.func80, Tryz.ntmps80
 go_wp2_with fail
 refine (eqIntS_any s s' l l c c' _ ((HR.out.keep (Keep.of_below (((Below.refl w.heap.size w).alloc (Nat.le_refl _) _).alloc (by simp) _) hB)).ints (by simp; omega)) ((HR'.out.keep (Keep.of_below (((Below.refl w.heap.size w).alloc (Nat.le_refl _) _).alloc (by simp) _) hB')).ints (by simp; omega)) (by omega)).mono ?_
 rintro e w1 ⟨rfl, m1, rfl⟩
 rw [decide_eq_true (rfl : l = l)]
 go_wp2
 go_ret
 exact ⟨rfl, (((Below.refl w.heap.size w).alloc (Nat.le_refl _) _).alloc (by simp) _).trans ⟨rfl, rfl, rfl, Nat.le_refl _, fun _ _ => rfl⟩⟩
set_option maxHeartbeats 2000000 in
theorem eqChanS_alike (s s' : Option Addr) (c c' lo hi lo' hi' : Nat) (l : List CD) (w : World) (h : RecsR w lo hi s (l.map CD.rec3)) (h' : RecsR w lo' hi' s' (l.map CD.rec3)) (hB : hi ≤ w.heap.size) (hB' : hi' ≤ w.heap.size) (hl : l.length ≤ 1048576) (hls : ∀ (i : Nat) (t : CD), l[i]? = some t → t.list.length ≤ 1048576) :
  Calls Tryz.prog 44 #[.slice s l.length c, .slice s' l.length c'] w fun e w' => e = .returned (.bool true) ∧ Below w.heap.size w w' := by
 have H1 : Hid (RecsR w lo hi s (l.map CD.rec3)) := h
 have H2 : Hid (RecsR w lo' hi' s' (l.map CD.rec3)) := h'
 have Q3 : Hid (∀ (i : Nat) (t : CD), l[i]? = some t → t.list.length ≤ 1048576) := hls
 clear h h' hls
 have hne : ((l.length : Int) != (l.length : Int)) = false := by simp
 go_enter Tryz.func44, Tryz.ntmps44
 go_wp2
 go_loopw [5] (fun i wr => ∃ k : Nat, k ≤ l.length ∧ i = .int .i64 k ∧ Below w.heap.size w wr) (fun i _ => l.length - (intOf i).toNat)
 case atStart => exact ⟨0, Nat.zero_le _, rfl, Below.refl _ _⟩
 case round =>
  obtain ⟨k, hk, rfl, hb⟩ := hrel
  have HB : Hid (Below w.heap.size w wr) := hb
  have hsz := hb.size
  clear hb
  by_cases hlt : k < l.length
  ·obtain ⟨t, ht⟩ : ∃ t, l[k]? = some t := ⟨_, List.getElem?_eq_getElem hlt⟩
   have hm : (l.map CD.rec3)[k]? = some t.rec3 := by rw [List.getElem?_map, ht]; rfl
   have hn : ¬ l.map CD.rec3 = [] := by intro e; rw [e] at hm; simp at hm
   obtain ⟨g, off, hs, hg, hc⟩ : ∃ g off, s = some ⟨g, off, none⟩ ∧ g < w.heap.size ∧ RecR wr lo hi g (off + k * 3) t.rec3 := by
    rcases H1.out with h | ⟨g, off, a, b, d, e⟩
    ·exact absurd h hn
    ·exact ⟨g, off, a, by omega, (e k _ hm).keep (Keep.of_below HB.out hB) (fun j => HB.out.cell (p := ⟨g, j, none⟩) (by show g < _; omega))⟩
   obtain ⟨g', off', hs', hg', hc'⟩ : ∃ g off, s' = some ⟨g, off, none⟩ ∧ g < w.heap.size ∧ RecR wr lo' hi' g (off + k * 3) t.rec3 := by
    rcases H2.out with h | ⟨g, off, a, b, d, e⟩
    ·exact absurd h hn
    ·exact ⟨g, off, a, by omega, (e k _ hm).keep (Keep.of_below HB.out hB') (fun j => HB.out.cell (p := ⟨g, j, none⟩) (by show g < _; omega))⟩
   subst hs
   subst hs'
   have hlen := Q3.out k t ht
   obtain ⟨s1, c1, f0, f1, f2, hin⟩ := hc
   obtain ⟨s2, c2, f0', f1', f2', hin'⟩ := hc'
   obtain ⟨pc, rg, st⟩ := t
   simp only [CD.rec3] at f0 f1 f2 f0' f1' f2' hin hin' hlen
   have HI1 : Hid (IntsR wr lo hi s1 rg) := hin
   have HI2 : Hid (IntsR wr lo' hi' s2 rg) := hin'
   clear hin hin' ht hm hn
   have b0 : (0 : Int) ≤ (k : Int) := by omega
   have b1 : (k : Int) < (l.length : Int) := by omega
   go_wp2_with fail
   first | go_region_with (go_at_call 80; refine (eqChan_alike pc st s1 s2 rg c1 c2 lo hi lo' hi' _ ?_ ?_ ?_ ?_ (by omega)).mono ?_; (exact HI1.out); (exact HI2.out); (first | omega | (simp; omega)); (first | omega | (simp; omega)); rintro e w1 ⟨rfl, hb1⟩) | fail
   all_goals
    have HB1 : Hid (Below wr.heap.size wr w1) := ⟨hb1.os, hb1.tape, hb1.output, hb1.size, hb1.block⟩
    clear hb1
    go_wp2
    go_roundw
    case rel => exact ⟨k + 1, by omega, by go_num, HB.out.trans (HB1.out.mono hsz)⟩
    case measure => simp [intOf]; omega
  ·go_wp2
   go_ret
   exact ⟨rfl, HB.out⟩
theorem eqNote_alike (a b : Int) (w : World) : Calls Tryz.prog 81 #[.agg #[.int .i64 a, .int .i64 b], .agg #[.int .i64 a, .int .i64 b]] w fun e w' => e = .returned (.bool true) ∧ Below w.heap.size w w' := by
 go_enter Tryz.func81, Tryz.ntmps81
 go_wp2
 go_ret
 exact ⟨rfl, ((Below.refl _ _).alloc (Nat.le_refl _) _).alloc (by simp) _⟩
set_option maxHeartbeats 2000000 in
theorem eqNoteS_alike (s s' : Option Addr) (c c' lo hi lo' hi' : Nat) (l : List ND) (w : World) (h : NtsR w lo hi s l) (h' : NtsR w lo' hi' s' l) (hB : hi ≤ w.heap.size) (hB' : hi' ≤ w.heap.size) (hl : l.length ≤ 1048576) :
  Calls Tryz.prog 45 #[.slice s l.length c, .slice s' l.length c'] w fun e w' => e = .returned (.bool true) ∧ Below w.heap.size w w' := by
 have H1 : Hid (NtsR w lo hi s l) := h
 have H2 : Hid (NtsR w lo' hi' s' l) := h'
 clear h h'
 have hne : ((l.length : Int) != (l.length : Int)) = false := by simp
 go_enter Tryz.func45, Tryz.ntmps45
 go_wp2
 go_loopw [5] (fun i wr => ∃ k : Nat, k ≤ l.length ∧ i = .int .i64 k ∧ Below w.heap.size w wr) (fun i _ => l.length - (intOf i).toNat)
 case atStart => exact ⟨0, Nat.zero_le _, rfl, Below.refl _ _⟩
 case round =>
  obtain ⟨k, hk, rfl, hb⟩ := hrel
  have HB : Hid (Below w.heap.size w wr) := hb
  have hsz := hb.size
  clear hb
  by_cases hlt : k < l.length
  ·obtain ⟨t, ht⟩ : ∃ t, l[k]? = some t := ⟨_, List.getElem?_eq_getElem hlt⟩
   obtain ⟨g, off, hs, hg, f0, f1⟩ : ∃ g off, s = some ⟨g, off, none⟩ ∧ g < w.heap.size ∧ NtR wr g (off + k * 2) t := by
    rcases H1.out with h | ⟨g, off, a, b, d, e⟩
    ·rw [h] at hlt; simp at hlt
    ·exact ⟨g, off, a, by omega, (HB.out.cell (p := ⟨g, _, none⟩) (by show g < _; omega)).trans (e k t ht).1, (HB.out.cell (p := ⟨g, _, none⟩) (by show g < _; omega)).trans (e k t ht).2⟩
   obtain ⟨g', off', hs', hg', f0', f1'⟩ : ∃ g off, s' = some ⟨g, off, none⟩ ∧ g < w.heap.size ∧ NtR wr g (off + k * 2) t := by
    rcases H2.out with h | ⟨g, off, a, b, d, e⟩
    ·rw [h] at hlt; simp at hlt
    ·exact ⟨g, off, a, by omega, (HB.out.cell (p := ⟨g, _, none⟩) (by show g < _; omega)).trans (e k t ht).1, (HB.out.cell (p := ⟨g, _, none⟩) (by show g < _; omega)).trans (e k t ht).2⟩
   subst hs
   subst hs'
   obtain ⟨ta, tb⟩ := t
   simp only at f0 f1 f0' f1'
   clear ht
   have b0 : (0 : Int) ≤ (k : Int) := by omega
   have b1 : (k : Int) < (l.length : Int) := by omega
   go_wp2_with fail
   first | go_region_with (go_at_call 81; refine (eqNote_alike ta tb _).mono ?_; rintro e w1 ⟨rfl, hb1⟩) | fail
   all_goals
    have HB1 : Hid (Below wr.heap.size wr w1) := ⟨hb1.os, hb1.tape, hb1.output, hb1.size, hb1.block⟩
    clear hb1
    go_wp2
    go_roundw
    case rel => exact ⟨k + 1, by omega, by go_num, HB.out.trans (HB1.out.mono hsz)⟩
    case measure => simp [intOf]; omega
  ·go_wp2
   go_ret
   exact ⟨rfl, HB.out⟩
theorem six {w W : World} {a b c a' b' c' : Value} {T T' : TypeId} (hW : (w.alloc (.cells #[a, b, c] T)).alloc (.cells #[a', b', c'] T') = W) : Below w.heap.size w W ∧ w.heap.size < W.heap.size ∧ w.heap.size + 1 < W.heap.size ∧ (W.cell? ⟨w.heap.size, 1, none⟩ = some b ∧ W.cell? ⟨w.heap.size, 2, none⟩ = some c) ∧ W.cell? ⟨w.heap.size + 1, 1, none⟩ = some b' ∧ W.cell? ⟨w.heap.size + 1, 2, none⟩ = some c' := by
 subst hW
 exact ⟨((Below.refl _ _).alloc (Nat.le_refl _) _).alloc (by simp) _, by simp; omega, by simp, ⟨by simp [go_sem], by simp [go_sem]⟩, by simp [go_sem], by simp [go_sem]⟩
set_option maxHeartbeats 2000000 in
theorem eqSource_alike (s1 s2 s3 t1 t2 t3 : Option Addr) (c1 c2 c3 e1 e2 e3 lo hi lo' hi' : Nat) (d : SD) (w : World) (h : SrcR w lo hi s1 s2 s3 d) (h' : SrcR w lo' hi' t1 t2 t3 d) (hB : hi ≤ w.heap.size) (hB' : hi' ≤ w.heap.size) (hf : SFits d) :
  Calls Tryz.prog 14 #[.agg #[.slice s1 d.ths.length c1, .slice s2 d.chs.length c2, .slice s3 d.tr.length c3], .agg #[.slice t1 d.ths.length e1, .slice t2 d.chs.length e2, .slice t3 d.tr.length e3]] w fun e w' => e = .returned (.bool true) ∧ Below w.heap.size w w' := by
 obtain ⟨⟨q1, q1'⟩, ⟨q2, q2'⟩, q3⟩ := hf
 have H : Hid (SrcR w lo hi s1 s2 s3 d) := h
 have H' : Hid (SrcR w lo' hi' t1 t2 t3 d) := h'
 have Q1 : Hid (∀ (i : Nat) (t : TD), d.ths[i]? = some t → t.regs.length ≤ 1048576) := q1'
 have Q2 : Hid (∀ (i : Nat) (t : CD), d.chs[i]? = some t → t.list.length ≤ 1048576) := q2'
 clear h h' q1' q2'
 go_enter Tryz.func14, Tryz.ntmps14
 go_wp2_with fail
 obtain ⟨W, hW⟩ : ∃ W, (w.alloc (.cells #[.slice s1 d.ths.length c1, .slice s2 d.chs.length c2, .slice s3 d.tr.length c3] 37)).alloc (.cells #[.slice t1 d.ths.length e1, .slice t2 d.chs.length e2, .slice t3 d.tr.length e3] 37) = W := ⟨_, rfl⟩
 obtain ⟨ka, z0, z1, ⟨a1, a2⟩, b1, b2⟩ := six hW
 rw [hW]
 clear hW
 have K : Hid (Below w.heap.size w W) := ka
 clear ka
 refine (eqThreadS_alike s1 t1 c1 e1 lo hi lo' hi' d.ths W (H.out.keep (Keep.of_below K.out hB)).1 (H'.out.keep (Keep.of_below K.out hB')).1 (by omega) (by omega) q1 Q1.out).mono ?_
 rintro e w1 ⟨rfl, hb1⟩
 have K1 : Hid (Below w.heap.size w w1) := K.out.trans (hb1.mono (by omega))
 have a1' := (hb1.cell (p := ⟨w.heap.size, 1, none⟩) z0).trans a1
 have a2' := (hb1.cell (p := ⟨w.heap.size, 2, none⟩) z0).trans a2
 have b1' := (hb1.cell (p := ⟨w.heap.size + 1, 1, none⟩) z1).trans b1
 have b2' := (hb1.cell (p := ⟨w.heap.size + 1, 2, none⟩) z1).trans b2
 have zs := hb1.size
 have z0' : w.heap.size < w1.heap.size := by omega
 have z1' : w.heap.size + 1 < w1.heap.size := by omega
 clear a1 a2 b1 b2 hb1 K z0 z1 zs
 go_wp2_with fail
 refine (eqChanS_alike s2 t2 c2 e2 lo hi lo' hi' d.chs w1 (H.out.keep (Keep.of_below K1.out hB)).2.1 (H'.out.keep (Keep.of_below K1.out hB')).2.1 (by omega) (by omega) q2 Q2.out).mono ?_
 rintro e w2 ⟨rfl, hb2⟩
 have K2 : Hid (Below w.heap.size w w2) := K1.out.trans (hb2.mono (by omega))
 have a2 := (hb2.cell (p := ⟨w.heap.size, 2, none⟩) z0').trans a2'
 have b2 := (hb2.cell (p := ⟨w.heap.size + 1, 2, none⟩) z1').trans b2'
 have zs := hb2.size
 have z0 : w.heap.size < w2.heap.size := by omega
 have z1 : w.heap.size + 1 < w2.heap.size := by omega
 clear a1' a2' b1' b2' hb2 K1 z0' z1' zs
 go_wp2_with fail
 refine (eqNoteS_alike s3 t3 c3 e3 lo hi lo' hi' d.tr w2 (H.out.keep (Keep.of_below K2.out hB)).2.2 (H'.out.keep (Keep.of_below K2.out hB')).2.2 (by omega) (by omega) q3).mono ?_
 rintro e w3 ⟨rfl, hb3⟩
 have K3 : Hid (Below w.heap.size w w3) := K2.out.trans (hb3.mono (by omega))
 clear a2 b2 hb3
 go_wp2
 go_ret
 exact ⟨rfl, K3.out⟩
end Go.Proofs.YtfokbjkgdiploaaGreat
