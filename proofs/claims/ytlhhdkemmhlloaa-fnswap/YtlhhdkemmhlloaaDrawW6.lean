/- DrawSwap: a memory, a view, a cell and a number are drawn. Conditions: the bytes of the draw lie in memory as the reading says. -/
import Derived.Test.YtlhhdkemmhlloaaDrawS6
namespace Go.Proofs.Ytlhhdkemmhlloaa
set_option linter.unusedSimpArgs false
set_option linter.unusedVariables false
set_option maxRecDepth 100000
open Go.RowKit

set_option maxRecDepth 100000 in
set_option maxHeartbeats 8000000 in
theorem drawSwap_any (s : Option Addr) (n c : Nat) (w : World) (hb : Bytes w w.heap.size s n) (hn : n ≤ maxLen) :
    Calls Try.prog 22 #[.slice s n c] w fun e w' => ∃ (sm : Option Addr) (cm : Nat) (m : List (List WD)) (sv : Option Addr) (cv : Nat) (l : List Int) (cell z : Int), e = .returned (.tuple #[.agg #[.slice sm m.length cm], .slice sv l.length cv, .int .i64 cell, .int .i64 z]) ∧ Mw w' sm m ∧ Rw w' sv l ∧ Fit6 m ∧ l.length ≤ 24 ∧ -1 ≤ cell ∧ cell ≤ 24 ∧ Below w.heap.size w w' := by
  have HB : Hid (Bytes w w.heap.size s n) := hb
  have HN : Hid (n ≤ maxLen) := hn
  clear hb hn
  go_enter Try.func22, Try.ntmps22
  go_wp2_with fail
  obtain ⟨W, hW⟩ : ∃ W, w.alloc (.cells #[.slice none 0 0] 26) = W := ⟨_, rfl⟩
  have R0 : BM W w.heap.size (.slice none 0 0) := by rw [← hW]; exact BM.new
  have K0 : Below w.heap.size w W := by rw [← hW]; exact (Below.refl _ _).alloc (Nat.le_refl _) _
  have S0 : W.heap.size = w.heap.size + 1 := by rw [← hW]; simp
  rw [hW]
  have HS0 : Hid (W.heap.size = w.heap.size + 1) := S0
  clear hW S0
  refine (new_cb s n c W (HB.out.up K0) HN.out).mono ?_
  rintro e w1 ⟨rfl, hc1, hb1, hs1⟩
  have HS1 : Hid (w1.heap.size = W.heap.size + 1) := hs1
  clear hs1
  go_wp2_with fail
  refine (draw6_cb W.heap.size s n c w1 hc1).mono ?_
  rintro e w2 ⟨sm, cm, m, sv, cv, l, rfl, hm, hr, hf, hl, hc2, hb2⟩
  have F : Hid (J6 w (w2.alloc (.cells #[.slice sm m.length cm] 26)) W.heap.size s n c w.heap.size w2.heap.size w1.heap.size sm cm m sv l) := by
    have z2 := hb2.size
    have S0 := HS0.out
    have hs1 := HS1.out
    have a1 : Below w2.heap.size w2 (w2.alloc (.cells #[.slice sm m.length cm] 26)) := (Below.refl w2.heap.size w2).alloc (Nat.le_refl _) _
    refine ⟨hc2.keep a1, BM.new, R0.kept ((a1.block _ (by omega)).trans ((hb2.block _ (by omega) (by omega)).trans (hb1.block _ R0.lt))), (hm.keep (Keep.of_below a1 (Nat.le_refl _))).mono (Nat.le_refl _) (by simp), (hr.keep (Keep.of_below a1 (Nat.le_refl _))).mono (Nat.le_refl _) (by simp), ((K0.trans (hb1.mono (by omega))).trans (hb2.below (by omega) (by omega))).alloc (by omega) _, rfl, by omega, by omega, z2⟩
  have HF : Hid (Fit6 m) := hf
  have HL : Hid (l.length ≤ 24) := hl
  clear hm hr hf hl hc2 hb2 hc1 hb1 HS1 HS0 R0 K0
  go_wp2_with fail
  generalize w2.alloc (.cells #[.slice sm m.length cm] 26) = U at F ⊢
  generalize w2.heap.size = X at F ⊢
  generalize W.heap.size = P at F ⊢
  generalize w1.heap.size = lo at F
  refine (drawCell_cb P s n c U F.out.cb).mono ?_
  rintro e w3 ⟨cell, rfl, q0, q1, hc3, hb3⟩
  have G3 : Hid (J6 w w3 P s n c w.heap.size X lo sm cm m sv l) := F.out.step hc3 hb3
  clear hc3 hb3 F
  have x0 := G3.out.bx.c0
  have xl := G3.out.bx.lt
  have GD : Hid (J6 w w3.drew P s n c w.heap.size X lo sm cm m sv l) := G3.out.grow (Below.drew (Below.refl _ _))
  go_wp2_with fail
  go_region_law (first | (refine step_call 42 #[.pointer (some ⟨P, 0, none⟩), .int .i64 90] (by rfl) _ _ (by rfl) (by simp [go_sem]) entBelow ?_; refine (GD.out.belowC 90 w3.drew (by omega) (by omega)).mono ?_; rintro e w4 ⟨z, rfl, za, zb, hg⟩; refine ⟨_, rfl, ?_⟩; have GB := (show Hid (J6 w w4 P s n c w.heap.size X lo sm cm m sv l) from hg); clear hg; have v0 := GB.out.bx.c0; have vl := GB.out.bx.lt; have z0 := GB.out.rb.c0; have zf := GB.out.rb.fz 0; have zl := GB.out.rb.lt))
  all_goals
    go_wp2
    obtain ⟨f1, f2, f3⟩ := GB.out.fin (u := .slice sm m.length cm)
    exact bodyPost_ret (v := .tuple #[.agg #[.slice sm m.length cm], .slice sv l.length cv, .int .i64 cell, .int .i64 z]) (by simp [results, Try.results22, go_sem, z0]) rfl ⟨sm, cm, m, sv, cv, l, cell, z, rfl, f1, f2, HF.out, HL.out, q0, q1, f3⟩

end Go.Proofs.Ytlhhdkemmhlloaa
