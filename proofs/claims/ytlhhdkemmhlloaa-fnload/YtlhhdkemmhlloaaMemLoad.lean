/- Load of the program and of the specification. Conditions: memories that are counted, views of at most 2^20. -/
import Derived.Test.YtlhhdkemmhlloaaMemLd
namespace Go.Proofs.Ytlhhdkemmhlloaa
set_option linter.unusedSimpArgs false
set_option linter.unusedVariables false
set_option maxRecDepth 100000
open Go.RowKit

set_option maxHeartbeats 2000000 in
theorem implLoad_any (s s' : Option Addr) (c c' lo hi lo' hi' : Nat) (m : List (List WD)) (l : List Int) (cell late : Int) (hold : Bool) (w : World) (h : MemR w lo hi s m) (h' : IntsR w lo' hi' s' l) (hB : hi ≤ w.heap.size) (hB' : hi' ≤ w.heap.size) (hl : l.length ≤ 1048577) (hm : m.length + szR m ≤ 1048676) (hlate : late ≤ 9223372036854775807) :
    Calls Try.prog 11 #[.agg #[.slice s m.length c], .slice s' l.length c', .int .i64 cell, .int .i64 late, .bool hold] w fun e w' => ∃ v, e = .returned (.tuple #[.int .i64 (loadV m l cell late), v]) ∧ OwnN w' w.heap.size v (loadW m l cell late hold) ∧ Below w.heap.size w w' := by
  have H : Hid (MemR w lo hi s m) := h
  have H' : Hid (IntsR w lo' hi' s' l) := h'
  have HM : Hid (m.length + szR m ≤ 1048676) := hm
  clear h h' hm
  go_enter Try.func11, Try.ntmps11
  go_wp2_with fail
  obtain ⟨W, hW, bx, kb, zb⟩ := Bo1.new w (.slice s m.length c) 26
  rw [hW]
  clear hW
  have c0 := bx.c0
  have HKB : Hid (Below w.heap.size w W) := kb
  have z0 : w.heap.size < W.heap.size := by omega
  have z9 : hi ≤ W.heap.size := by omega
  have z8 : hi' ≤ W.heap.size := by omega
  have HW : Hid (MemR W lo hi s m) := H.out.keep (Keep.of_below kb hB)
  have HW' : Hid (IntsR W lo' hi' s' l) := H'.out.keep (Keep.of_below kb hB')
  clear bx kb zb
  refine (copied_any s' c' lo' hi' l W HW'.out z8 hl).mono ?_
  rintro e w1 ⟨rfl, ho1, hb1⟩
  obtain ⟨G, hG, hG1⟩ : ∃ G, W.heap.size = G ∧ W.heap.size ≤ G := ⟨_, rfl, Nat.le_refl _⟩
  have HO1 : Hid (OwnN w1 W.heap.size (.slice (some ⟨G, 0, none⟩) l.length l.length) l) := by rw [← hG]; exact ho1
  have HB1 : Hid (Below W.heap.size W w1) := hb1
  have d0 := (hb1.cell (p := ⟨w.heap.size, 0, none⟩) z0).trans c0
  have z1 := hb1.size
  have z2 : w.heap.size < w1.heap.size := by omega
  have z3 := (World.ownsRow.lt ho1 W.heap.size rfl).2
  have z4 : G < w1.heap.size := by omega
  rw [hG]
  clear hG ho1 hb1
  go_wp2_with fail
  refine (reaches_any s s' c c' lo hi lo' hi' m l cell w1 (HW.out.keep (Keep.of_below HB1.out z9)) (HW'.out.keep (Keep.of_below HB1.out z8)) (by omega) (by omega) (by omega) HM.out).mono ?_
  rintro e w2 ⟨rfl, hb2⟩
  have HB2 : Hid (Below w1.heap.size w1 w2) := hb2
  have d1 := (hb2.cell (p := ⟨w.heap.size, 0, none⟩) z2).trans d0
  have z5 := hb2.size
  have z6 : w.heap.size < w2.heap.size := by omega
  clear hb2
  by_cases hb : rightB m l cell = true
  · obtain ⟨k, r, rfl, hr⟩ := right_of hb
    obtain ⟨j, x, e1, e2, e3, e4, e5⟩ := hr.at' late
    have EV : Hid (loadV m l k late = x.v) := loadV_yes (j := j) hb e4
    have EW : Hid (loadW m l k late hold = if hold = true then joinL (l.set k j) x.vw else l.set k j) := loadW_yes hb e1 e4
    rw [hb]
    clear hb
    have OW2 : Hid (OwnN w2 W.heap.size (.slice (some ⟨G, 0, none⟩) l.length l.length) l) := HO1.out.below HB2.out
    have ld := load_any s c lo hi W.heap.size G l.length m l k r late hold j x w2 ((HW.out.keep (Keep.of_below HB1.out z9)).keep (Keep.of_below HB2.out (by omega))) OW2.out (by omega) hr hlate e5 e3
    clear e1 e2 e3 e4 e5 hr
    go_wp2_with fail
    refine ld.mono ?_
    rintro e w3 ⟨rfl, ho3, hx3⟩
    have HO3 := (show Hid _ from ho3)
    have HX3 : Hid (Exc G (G + 1) w2 w3) := hx3
    clear ho3 hx3 ld
    go_wp2
    go_ret2
    refine ⟨_, by rw [EV.out]; rfl, ?_, ?_⟩
    · rw [EW.out]
      exact ownLow' (by have := HO3.out; cases hold <;> simpa [OwnN, joinL] using this) (by omega)
    · exact (HKB.out.trans (HB1.out.mono (by omega))).trans ((HB2.out.mono (by omega)).trans (HX3.out.below (by omega) (by omega)))
  · have hf : rightB m l cell = false := by simpa using hb
    have EV : Hid (loadV m l cell late = 0) := by show loadV m l cell late = 0; unfold loadV; rw [if_neg hb]
    have EW : Hid (loadW m l cell late hold = l) := by show loadW m l cell late hold = l; unfold loadW; rw [if_neg hb]
    rw [hf]
    clear hb hf
    go_wp2
    go_ret2
    refine ⟨_, by rw [EV.out]; rfl, ?_, ?_⟩
    · rw [EW.out]
      exact ownLow' (HO1.out.below HB2.out) (by omega)
    · exact (HKB.out.trans (HB1.out.mono (by omega))).trans (HB2.out.mono (by omega))

set_option maxHeartbeats 2000000 in
theorem specLoad_any (s s' : Option Addr) (c c' lo hi lo' hi' : Nat) (m : List (List WD)) (l : List Int) (cell late : Int) (hold : Bool) (w : World) (h : MemR w lo hi s m) (h' : IntsR w lo' hi' s' l) (hB : hi ≤ w.heap.size) (hB' : hi' ≤ w.heap.size) (hl : l.length ≤ 1048577) (hm : m.length + szR m ≤ 1048676) (hlate : late ≤ 9223372036854775807) :
    Calls Try.prog 12 #[.agg #[.slice s m.length c], .slice s' l.length c', .int .i64 cell, .int .i64 late, .bool hold] w fun e w' => ∃ v, e = .returned (.tuple #[.int .i64 (loadV m l cell late), v]) ∧ OwnN w' w.heap.size v (loadW m l cell late hold) ∧ Below w.heap.size w w' := by
  have H : Hid (MemR w lo hi s m) := h
  have H' : Hid (IntsR w lo' hi' s' l) := h'
  have HM : Hid (m.length + szR m ≤ 1048676) := hm
  clear h h' hm
  go_enter Try.func12, Try.ntmps12
  go_wp2_with fail
  obtain ⟨W, hW, bx, kb, zb⟩ := Bo1.new w (.slice s m.length c) 26
  rw [hW]
  clear hW
  have c0 := bx.c0
  have HKB : Hid (Below w.heap.size w W) := kb
  have z0 : w.heap.size < W.heap.size := by omega
  have z9 : hi ≤ W.heap.size := by omega
  have z8 : hi' ≤ W.heap.size := by omega
  have HW : Hid (MemR W lo hi s m) := H.out.keep (Keep.of_below kb hB)
  have HW' : Hid (IntsR W lo' hi' s' l) := H'.out.keep (Keep.of_below kb hB')
  clear bx kb zb
  refine (l6Right_any s s' c c' lo hi lo' hi' m l cell W HW.out HW'.out (by omega) (by omega) (by omega) HM.out).mono ?_
  rintro e w1 ⟨rfl, hb1⟩
  have HB1 : Hid (Below W.heap.size W w1) := hb1
  have d0 := (hb1.cell (p := ⟨w.heap.size, 0, none⟩) z0).trans c0
  have z1 := hb1.size
  have z2 : w.heap.size < w1.heap.size := by omega
  have L1 : Hid (IntsR w1 lo' hi' s' l) := HW'.out.keep (Keep.of_below hb1 z8)
  clear hb1
  by_cases hb : rightB m l cell = true
  · obtain ⟨k, r, rfl, hr⟩ := right_of hb
    obtain ⟨j, x, e1, e2, e3, e4, e5⟩ := hr.at' late
    have EV : Hid (loadV m l k late = x.v) := loadV_yes (j := j) hb e4
    have EW : Hid (loadW m l k late hold = if hold = true then joinL (l.set k j) x.vw else l.set k j) := loadW_yes hb e1 e4
    rw [hb]
    clear hb
    have ld := l6Load_any s s' c c' lo hi lo' hi' m l k r late hold j x w1 (HW.out.keep (Keep.of_below HB1.out z9)) L1.out (by omega) (by omega) hr hlate e5 e3
    clear e1 e2 e3 e4 e5 hr
    go_wp2_with fail
    refine ld.mono ?_
    rintro e w3 ⟨v3, rfl, ho3, hb3⟩
    have HO3 := (show Hid _ from ho3)
    have HB3 : Hid (Below w1.heap.size w1 w3) := hb3
    clear ho3 hb3 ld
    go_wp2
    go_ret2
    refine ⟨_, by rw [EV.out]; rfl, ?_, ?_⟩
    · rw [EW.out]
      exact ownLow' HO3.out (by omega)
    · exact (HKB.out.trans (HB1.out.mono (by omega))).trans (HB3.out.mono (by omega))
  · have hf : rightB m l cell = false := by simpa using hb
    have EV : Hid (loadV m l cell late = 0) := by show loadV m l cell late = 0; unfold loadV; rw [if_neg hb]
    have EW : Hid (loadW m l cell late hold = l) := by show loadW m l cell late hold = l; unfold loadW; rw [if_neg hb]
    rw [hf]
    clear hb hf
    have L2 : Hid (IntsR (w1.alloc (.cells #[] 3)) lo' hi' s' l) := L1.out.keep (Keep.of_below ((Below.refl w1.heap.size w1).alloc (Nat.le_refl _) _) (by omega))
    go_wp2_with (at_builtin; refine app_copyI rfl _ _ rfl rfl _ w1.heap.size (some ⟨w1.heap.size, 0, none⟩) 0 rfl (ownN_empty (Nat.le_refl _)) s' c' l rfl L2.out (by omega) (by simp) ?_; intro s5 c5 w5 ho5 hc5; have HO5 := (show Hid _ from ho5); have HB5 : Hid (Below w1.heap.size w1 w5) := ((Below.refl _ _).alloc (Nat.le_refl _) _).trans hc5.low; clear ho5 hc5)
    go_ret2
    refine ⟨_, by rw [EV.out]; rfl, ?_, ?_⟩
    · rw [EW.out]
      exact ownLow' HO5.out (by omega)
    · exact (HKB.out.trans (HB1.out.mono (by omega))).trans (HB5.out.mono (by omega))

end Go.Proofs.Ytlhhdkemmhlloaa
