/- DrawLoad: a memory, a view, a cell, how late, and whether to get hold are drawn. Conditions: the bytes of the draw lie in memory as the reading says. -/
import Derived.Test.YtlhhdkemmhlloaaDrawS6
namespace Go.Proofs.Ytlhhdkemmhlloaa
set_option linter.unusedSimpArgs false
set_option linter.unusedVariables false
set_option maxRecDepth 100000
open Go.RowKit

theorem J6.pick {w0 : World} {p n c R X lo cm : Nat} {s sm sv : Option Addr} {m : List (List WD)} {l : List Int} {w : World} (g k : Nat) (li : List Int) (o : Obj) (h : J6 w0 w p s n c R X lo sm cm m sv l) (hm : k = li.length) (hl0 : 0 < li.length) (hl : li.length ≤ 256) (hcell : ∀ i, i < li.length → (w.alloc o).cell? ⟨w.heap.size, 0 + i, none⟩ = some (.int .i64 (li.getD i 0))) (hg : g = w.heap.size) :
    Calls Try.prog 37 #[.pointer (some ⟨p, 0, none⟩), .slice (some ⟨g, 0, none⟩) k k] (w.alloc o) fun e w' => ∃ x : Int, e = .returned (.int .i64 x) ∧ x ∈ li ∧ J6 w0 w' p s n c R X lo sm cm m sv l := by
  subst hg
  have h1 := h.cb.lt
  have hA := h.grow (w' := w.alloc o) ((Below.refl _ _).alloc (Nat.le_refl _) _)
  refine (pick_cb p s n c w.heap.size k li (w.alloc o) hA.cb hm hl0 hl (by simp) (by omega) hcell).mono ?_
  rintro e w' ⟨x, rfl, x0, hc, hb⟩
  exact ⟨x, rfl, x0, hA.step hc hb⟩

set_option maxRecDepth 100000 in
set_option maxHeartbeats 8000000 in
theorem drawLoad_any (s : Option Addr) (n c : Nat) (w : World) (hb : Bytes w w.heap.size s n) (hn : n ≤ maxLen) :
    Calls Try.prog 14 #[.slice s n c] w fun e w' => ∃ (sm : Option Addr) (cm : Nat) (m : List (List WD)) (sv : Option Addr) (cv : Nat) (l : List Int) (cell z : Int) (b : Bool), e = .returned (.tuple #[.agg #[.slice sm m.length cm], .slice sv l.length cv, .int .i64 cell, .int .i64 z, .bool b]) ∧ Mw w' sm m ∧ Rw w' sv l ∧ Fit6 m ∧ l.length ≤ 24 ∧ -1 ≤ cell ∧ cell ≤ 24 ∧ z ≤ 9223372036854775807 ∧ Below w.heap.size w w' := by
  have HB : Hid (Bytes w w.heap.size s n) := hb
  have HN : Hid (n ≤ maxLen) := hn
  clear hb hn
  go_enter Try.func14, Try.ntmps14
  go_wp2_with fail
  obtain ⟨W, hW⟩ : ∃ W, w.alloc (.cells #[.slice none 0 0] 26) = W := ⟨_, rfl⟩
  have R0 : BM W w.heap.size (.slice none 0 0) := by rw [← hW]; exact BM.new
  have K0 : Below w.heap.size w W := by rw [← hW]; exact (Below.refl _ _).alloc (Nat.le_refl _) _
  have S0 : W.heap.size = w.heap.size + 1 := by rw [← hW]; simp
  rw [hW]
  have HS0 : Hid (W.heap.size = w.heap.size + 1) := S0
  clear hW S0
  refine (new_cb s n c W (HB.out.up K0) HN.out).mono ?_
  rintro e w1 ⟨rfl, hc1, hb1, hs1⟩
  have HS1 : Hid (w1.heap.size = W.heap.size + 1) := hs1
  clear hs1
  go_wp2_with fail
  refine (draw6_cb W.heap.size s n c w1 hc1).mono ?_
  rintro e w2 ⟨sm, cm, m, sv, cv, l, rfl, hm, hr, hf, hl, hc2, hb2⟩
  have F : Hid (J6 w (w2.alloc (.cells #[.slice sm m.length cm] 26)) W.heap.size s n c w.heap.size w2.heap.size w1.heap.size sm cm m sv l) := by
    have z2 := hb2.size
    have S0 := HS0.out
    have hs1 := HS1.out
    have a1 : Below w2.heap.size w2 (w2.alloc (.cells #[.slice sm m.length cm] 26)) := (Below.refl w2.heap.size w2).alloc (Nat.le_refl _) _
    refine ⟨hc2.keep a1, BM.new, R0.kept ((a1.block _ (by omega)).trans ((hb2.block _ (by omega) (by omega)).trans (hb1.block _ R0.lt))), (hm.keep (Keep.of_below a1 (Nat.le_refl _))).mono (Nat.le_refl _) (by simp), (hr.keep (Keep.of_below a1 (Nat.le_refl _))).mono (Nat.le_refl _) (by simp), ((K0.trans (hb1.mono (by omega))).trans (hb2.below (by omega) (by omega))).alloc (by omega) _, rfl, by omega, by omega, z2⟩
  have HF : Hid (Fit6 m) := hf
  have HL : Hid (l.length ≤ 24) := hl
  clear hm hr hf hl hc2 hb2 hc1 hb1 HS1 HS0 R0 K0
  go_wp2_with fail
  generalize w2.alloc (.cells #[.slice sm m.length cm] 26) = U at F ⊢
  generalize w2.heap.size = X at F ⊢
  generalize W.heap.size = P at F ⊢
  generalize w1.heap.size = lo at F
  refine (drawCell_cb P s n c U F.out.cb).mono ?_
  rintro e w3 ⟨cell, rfl, q0, q1, hc3, hb3⟩
  have G3 : Hid (J6 w w3 P s n c w.heap.size X lo sm cm m sv l) := F.out.step hc3 hb3
  clear hc3 hb3 F
  have hz3 := G3.out.bx.lt
  go_wp2_with fail
  refine (J6.pick w3.heap.size 7 [0, 1, 2, 3, 9, -1, 9223372036854775807] _ G3.out rfl (by simp) (by simp) (fun i hi => by match i, hi with | 0, _ => simp [go_sem] | 1, _ => simp [go_sem] | 2, _ => simp [go_sem] | 3, _ => simp [go_sem] | 4, _ => simp [go_sem] | 5, _ => simp [go_sem] | 6, _ => simp [go_sem]) rfl).mono ?_
  rintro e w4 ⟨z, rfl, hz, hg⟩
  have hz2 : z ≤ 9223372036854775807 := by simp at hz; omega
  have G4 : Hid (J6 w w4 P s n c w.heap.size X lo sm cm m sv l) := hg
  clear hg G3 hz3 hz
  have x0 := G4.out.bx.c0
  have xl := G4.out.bx.lt
  have GD : Hid (J6 w w4.drew P s n c w.heap.size X lo sm cm m sv l) := G4.out.grow (Below.drew (Below.refl _ _))
  go_wp2_with fail
  go_region_law (first | (refine step_call 38 #[.pointer (some ⟨P, 0, none⟩), .int .i64 2] (by rfl) _ _ (by rfl) (by simp [go_sem]) entOnce ?_; refine (GD.out.once 2 w4.drew (by omega) (by omega)).mono ?_; rintro e w5 ⟨x, rfl, hg⟩; refine ⟨_, rfl, ?_⟩; have GO := (show Hid (J6 w w5 P s n c w.heap.size X lo sm cm m sv l) from hg); clear hg; have y0 := GO.out.bx.c0; have yl := GO.out.bx.lt; have z0 := GO.out.rb.c0; have zf := GO.out.rb.fz 0; have zl := GO.out.rb.lt))
  all_goals
    go_wp2
    obtain ⟨f1, f2, f3⟩ := GO.out.fin (u := .slice sm m.length cm)
    exact bodyPost_ret (v := .tuple #[.agg #[.slice sm m.length cm], .slice sv l.length cv, .int .i64 cell, .int .i64 z, .bool x]) (by simp [results, Try.results14, go_sem, z0]) rfl ⟨sm, cm, m, sv, cv, l, cell, z, x, rfl, f1, f2, HF.out, HL.out, q0, q1, hz2, f3⟩

end Go.Proofs.Ytlhhdkemmhlloaa
