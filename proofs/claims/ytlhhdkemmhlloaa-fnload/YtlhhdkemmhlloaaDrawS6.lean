/- DrawStore, DrawSwap: a memory, a view, a cell and a number are drawn. Conditions: the bytes of the draw lie in memory as the reading says. -/
import Derived.Test.YtlhhdkemmhlloaaDraw6
namespace Go.Proofs.Ytlhhdkemmhlloaa
set_option linter.unusedSimpArgs false
set_option linter.unusedVariables false
set_option maxRecDepth 100000
open Go.RowKit

structure J6 (w0 w : World) (p : Nat) (s : Option Addr) (n c R X lo : Nat) (sm : Option Addr) (cm : Nat) (m : List (List WD)) (sv : Option Addr) (l : List Int) : Prop where
  cb : CB w p s n c
  bx : BM w X (.slice sm m.length cm)
  rb : BM w R (.slice none 0 0)
  mem : MemR w lo w.heap.size sm m
  row : IntsR w lo w.heap.size sv l
  low : Below w0.heap.size w0 w
  r0 : w0.heap.size = R
  rp : R < p
  pl : p < lo
  lx : lo ≤ X
theorem J6.step {w0 w w' : World} {p n c R X lo cm : Nat} {s sm sv : Option Addr} {m : List (List WD)} {l : List Int} (h : J6 w0 w p s n c R X lo sm cm m sv l) (hc : CB w' p s n c) (hb : But p w w') : J6 w0 w' p s n c R X lo sm cm m sv l := by
  have h1 := h.r0
  have h2 := h.rp
  have h3 := h.pl
  have h4 := h.lx
  have h5 := h.bx.lt
  have hs := hb.size
  have hk : Keep lo w.heap.size w w' := fun b b1 b2 => hb.block b b2 (by omega)
  exact ⟨hc, h.bx.kept (hb.block X h5 (by omega)), h.rb.kept (hb.block R (by omega) (by omega)), (h.mem.keep hk).mono (Nat.le_refl _) hs, (h.row.keep hk).mono (Nat.le_refl _) hs, h.low.trans (hb.below (by omega) (by omega)), h1, h2, h3, h4⟩
theorem J6.grow {w0 w w' : World} {p n c R X lo cm : Nat} {s sm sv : Option Addr} {m : List (List WD)} {l : List Int} (h : J6 w0 w p s n c R X lo sm cm m sv l) (hb : Below w.heap.size w w') : J6 w0 w' p s n c R X lo sm cm m sv l := h.step (h.cb.keep hb) (But.of_below hb)
theorem J6.belowC {w0 : World} {p n c R X lo cm : Nat} {s sm sv : Option Addr} {m : List (List WD)} {l : List Int} (q : Int) (w : World) (h : J6 w0 w p s n c R X lo sm cm m sv l) (hq0 : 0 < q) (hq : q ≤ 256) :
    Calls Try.prog 42 #[.pointer (some ⟨p, 0, none⟩), .int .i64 q] w fun e w' => ∃ x : Int, e = .returned (.int .i64 x) ∧ 0 ≤ x ∧ x < q ∧ J6 w0 w' p s n c R X lo sm cm m sv l := by
  refine (below_cb p s n c q w h.cb hq0 hq).mono ?_
  rintro e w' ⟨x, rfl, x0, x1, hc, hb⟩
  exact ⟨x, rfl, x0, x1, h.step hc hb⟩
theorem J6.once {w0 : World} {p n c R X lo cm : Nat} {s sm sv : Option Addr} {m : List (List WD)} {l : List Int} (q : Int) (w : World) (h : J6 w0 w p s n c R X lo sm cm m sv l) (hq0 : 0 < q) (hq : q ≤ 256) :
    Calls Try.prog 38 #[.pointer (some ⟨p, 0, none⟩), .int .i64 q] w fun e w' => ∃ x : Bool, e = .returned (.bool x) ∧ J6 w0 w' p s n c R X lo sm cm m sv l := by
  refine (once_cb p s n c q w h.cb hq0 hq).mono ?_
  rintro e w' ⟨x, rfl, hc, hb⟩
  exact ⟨x, rfl, h.step hc hb⟩
theorem J6.fin {w0 w : World} {p n c R X lo cm : Nat} {s sm sv : Option Addr} {m : List (List WD)} {l : List Int} {u : Value} (h : J6 w0 w p s n c R X lo sm cm m sv l) : Mw (w.setCell ⟨R, 0, none⟩ u) sm m ∧ Rw (w.setCell ⟨R, 0, none⟩ u) sv l ∧ Below w0.heap.size w0 (w.setCell ⟨R, 0, none⟩ u) := by
  have h1 := h.r0
  have h2 := h.rp
  have h3 := h.pl
  exact ⟨(h.mem.keep (Keep.of_set (show R < lo by omega))).mono (Nat.zero_le _) (by simp), (h.row.keep (Keep.of_set (show R < lo by omega))).mono (Nat.zero_le _) (by simp), h.low.setCell (p := ⟨R, 0, none⟩) (by show _ ≤ R; omega) _⟩

theorem drawCell_cb (p : Nat) (s : Option Addr) (n c : Nat) (w : World) (h : CB w p s n c) :
    Calls Try.prog 36 #[.pointer (some ⟨p, 0, none⟩)] w fun e w' => ∃ x : Int, e = .returned (.int .i64 x) ∧ -1 ≤ x ∧ x ≤ 24 ∧ CB w' p s n c ∧ But p w w' := by
  have hp := h.lt
  have H0 : Hid (CB w p s n c) := h
  clear h
  go_enter Try.func36, Try.ntmps36
  go_wp2_with fail
  refine (pick_cb p s n c w.heap.size 10 [0, 1, 2, 5, 23, 0, 1, 2, 24, -1] _ (H0.out.alloc _) rfl (by simp) (by simp) (by simp) (by omega) (fun i hi => by match i, hi with | 0, _ => simp [go_sem] | 1, _ => simp [go_sem] | 2, _ => simp [go_sem] | 3, _ => simp [go_sem] | 4, _ => simp [go_sem] | 5, _ => simp [go_sem] | 6, _ => simp [go_sem] | 7, _ => simp [go_sem] | 8, _ => simp [go_sem] | 9, _ => simp [go_sem])).mono ?_
  rintro e w1 ⟨x, rfl, hx, hc, hb⟩
  have hx2 : -1 ≤ x ∧ x ≤ 24 := by simp at hx; omega
  have HC : Hid (CB w1 p s n c) := hc
  have HB : Hid (But p w w1) := ((But.refl _ _).alloc _).trans hb
  clear hc hb hx
  go_wp2
  go_ret
  exact ⟨x, rfl, hx2.1, hx2.2, HC.out, HB.out⟩

set_option maxRecDepth 100000 in
set_option maxHeartbeats 8000000 in
theorem drawStore_any (s : Option Addr) (n c : Nat) (w : World) (hb : Bytes w w.heap.size s n) (hn : n ≤ maxLen) :
    Calls Try.prog 20 #[.slice s n c] w fun e w' => ∃ (sm : Option Addr) (cm : Nat) (m : List (List WD)) (sv : Option Addr) (cv : Nat) (l : List Int) (cell z : Int) (b : Bool), e = .returned (.tuple #[.agg #[.slice sm m.length cm], .slice sv l.length cv, .int .i64 cell, .int .i64 z, .bool b]) ∧ Mw w' sm m ∧ Rw w' sv l ∧ Fit6 m ∧ l.length ≤ 24 ∧ -1 ≤ cell ∧ cell ≤ 24 ∧ Below w.heap.size w w' := by
  have HB : Hid (Bytes w w.heap.size s n) := hb
  have HN : Hid (n ≤ maxLen) := hn
  clear hb hn
  go_enter Try.func20, Try.ntmps20
  go_wp2_with fail
  obtain ⟨W, hW⟩ : ∃ W, w.alloc (.cells #[.slice none 0 0] 26) = W := ⟨_, rfl⟩
  have R0 : BM W w.heap.size (.slice none 0 0) := by rw [← hW]; exact BM.new
  have K0 : Below w.heap.size w W := by rw [← hW]; exact (Below.refl _ _).alloc (Nat.le_refl _) _
  have S0 : W.heap.size = w.heap.size + 1 := by rw [← hW]; simp
  rw [hW]
  have HS0 : Hid (W.heap.size = w.heap.size + 1) := S0
  clear hW S0
  refine (new_cb s n c W (HB.out.up K0) HN.out).mono ?_
  rintro e w1 ⟨rfl, hc1, hb1, hs1⟩
  have HS1 : Hid (w1.heap.size = W.heap.size + 1) := hs1
  clear hs1
  go_wp2_with fail
  refine (draw6_cb W.heap.size s n c w1 hc1).mono ?_
  rintro e w2 ⟨sm, cm, m, sv, cv, l, rfl, hm, hr, hf, hl, hc2, hb2⟩
  have F : Hid (J6 w (w2.alloc (.cells #[.slice sm m.length cm] 26)) W.heap.size s n c w.heap.size w2.heap.size w1.heap.size sm cm m sv l) := by
    have z2 := hb2.size
    have S0 := HS0.out
    have hs1 := HS1.out
    have a1 : Below w2.heap.size w2 (w2.alloc (.cells #[.slice sm m.length cm] 26)) := (Below.refl w2.heap.size w2).alloc (Nat.le_refl _) _
    refine ⟨hc2.keep a1, BM.new, R0.kept ((a1.block _ (by omega)).trans ((hb2.block _ (by omega) (by omega)).trans (hb1.block _ R0.lt))), (hm.keep (Keep.of_below a1 (Nat.le_refl _))).mono (Nat.le_refl _) (by simp), (hr.keep (Keep.of_below a1 (Nat.le_refl _))).mono (Nat.le_refl _) (by simp), ((K0.trans (hb1.mono (by omega))).trans (hb2.below (by omega) (by omega))).alloc (by omega) _, rfl, by omega, by omega, z2⟩
  have HF : Hid (Fit6 m) := hf
  have HL : Hid (l.length ≤ 24) := hl
  clear hm hr hf hl hc2 hb2 hc1 hb1 HS1 HS0 R0 K0
  go_wp2_with fail
  generalize w2.alloc (.cells #[.slice sm m.length cm] 26) = U at F ⊢
  generalize w2.heap.size = X at F ⊢
  generalize W.heap.size = P at F ⊢
  generalize w1.heap.size = lo at F
  refine (drawCell_cb P s n c U F.out.cb).mono ?_
  rintro e w3 ⟨cell, rfl, q0, q1, hc3, hb3⟩
  have G3 : Hid (J6 w w3 P s n c w.heap.size X lo sm cm m sv l) := F.out.step hc3 hb3
  clear hc3 hb3 F
  have x0 := G3.out.bx.c0
  have xl := G3.out.bx.lt
  have GD : Hid (J6 w w3.drew P s n c w.heap.size X lo sm cm m sv l) := G3.out.grow (Below.drew (Below.refl _ _))
  go_wp2_with fail
  go_region_law (first | (refine step_call 42 #[.pointer (some ⟨P, 0, none⟩), .int .i64 90] (by rfl) _ _ (by rfl) (by simp [go_sem]) entBelow ?_; refine (GD.out.belowC 90 w3.drew (by omega) (by omega)).mono ?_; rintro e w4 ⟨z, rfl, za, zb, hg⟩; refine ⟨_, rfl, ?_⟩; have GB := (show Hid (J6 w w4 P s n c w.heap.size X lo sm cm m sv l) from hg); clear hg; have v0 := GB.out.bx.c0; have vl := GB.out.bx.lt) | (refine step_call 38 #[.pointer (some ⟨P, 0, none⟩), .int .i64 2] (by rfl) _ _ (by rfl) (by simp [go_sem]) entOnce ?_; refine (GB.out.once 2 w4 (by omega) (by omega)).mono ?_; rintro e w5 ⟨x, rfl, hg⟩; refine ⟨_, rfl, ?_⟩; have GO := (show Hid (J6 w w5 P s n c w.heap.size X lo sm cm m sv l) from hg); clear hg; have y0 := GO.out.bx.c0; have yl := GO.out.bx.lt; have z0 := GO.out.rb.c0; have zf := GO.out.rb.fz 0; have zl := GO.out.rb.lt))
  all_goals
    go_wp2
    obtain ⟨f1, f2, f3⟩ := GO.out.fin (u := .slice sm m.length cm)
    exact bodyPost_ret (v := .tuple #[.agg #[.slice sm m.length cm], .slice sv l.length cv, .int .i64 cell, .int .i64 z, .bool x]) (by simp [results, Try.results20, go_sem, z0]) rfl ⟨sm, cm, m, sv, cv, l, cell, z, x, rfl, f1, f2, HF.out, HL.out, q0, q1, f3⟩

end Go.Proofs.Ytlhhdkemmhlloaa
