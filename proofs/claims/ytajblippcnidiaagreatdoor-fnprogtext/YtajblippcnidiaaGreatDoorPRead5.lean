/- readProg of the program, at every text of at most 2^20 bytes. Condition: the tables hold what their initialisers lay (Env). -/
import Derived.Test.YtajblippcnidiaaGreatDoorPRead4
import Derived.Test.YtajblippcnidiaaGreatDoorPRead2
import Derived.Test.YtajblippcnidiaaGreatDoorProgOk2a
import Derived.Deep.DeepCutAuto
namespace Go.Proofs.YtajblippcnidiaaGreatDoor
set_option linter.unusedSimpArgs false
set_option linter.unusedVariables false
set_option maxRecDepth 100000
open Go.RowKit

def progPost (base : Nat) (r : Option PD) (e : Ending) (w' : World) : Prop :=
  match r with
  | none => e = .panicked [{ v := noT, recovered := false }]
  | some p => ∃ v v', e = .returned (.agg #[v, v']) ∧ OwnN w' base v p.caps ∧ OwnB w' base v' p.bods ∧ Fits p

theorem OwnP.insR {w : World} {base : Nat} {s : Option Addr} {n c : Nat} {b : List I5} (h : OwnP w base (.slice s n c) b) : InsR w base w.heap.size s b := by
  by_cases h0 : b.length = 0
  · exact .inl (List.length_eq_zero_iff.1 h0)
  · obtain ⟨g, cap, hv, hb, hlt⟩ := World.ownsRow.form h (by omega)
    injection hv with e1 e2 e3
    subst e1 e2 e3
    refine .inr ⟨g, 0, rfl, hb, hlt, fun i hi => ?_⟩
    have hc : ∀ j, j < 5 → w.cell? ⟨g, 0 + i * 5 + j, none⟩ = (cellsP (b.getD i z5))[j]? := fun j hj => by
      rw [show 0 + i * 5 + j = i * 5 + j by omega, World.ownsRow.cellAt h (i * 5 + j) (by omega), flatP_at b i j hi hj]
    exact ⟨hc 0 (by omega), hc 1 (by omega), hc 2 (by omega), hc 3 (by omega), hc 4 (by omega)⟩
theorem OwnP.sl {w : World} {base : Nat} {v : Value} {b : List I5} (h : OwnP w base v b) : ∃ s c, v = .slice s b.length c := by
  rcases h.2 with ⟨h1, h2⟩ | ⟨g, cap, cur, a, -⟩
  · exact ⟨none, 0, by rw [h1, h2]⟩
  · exact ⟨_, _, a⟩
theorem OwnB.bodsR {w : World} {base : Nat} {s : Option Addr} {n c : Nat} {bs : List (List I5)} (h : OwnB w base (.slice s n c) bs) : BodsR w base w.heap.size s bs := by
  obtain ⟨xs, h1, h2, h3⟩ := h
  by_cases h0 : bs.length = 0
  · exact .inl (List.length_eq_zero_iff.1 h0)
  · obtain ⟨g, cap, hv, hb, hlt⟩ := World.ownsRow.form h1 (by omega)
    injection hv with e1 e2 e3
    subst e1 e2 e3
    refine .inr ⟨g, 0, rfl, hb, hlt, fun i hi => ?_⟩
    have hxl : xs.length = bs.length := by have := h1.1; omega
    obtain ⟨s', c', hs'⟩ := (h2 i hi).sl
    have hp := h2 i hi
    rw [hs'] at hp
    refine ⟨s', c', ?_, hp.insR⟩
    rw [Nat.zero_add, World.ownsRow.cellAt h1 i (by omega), List.getElem?_eq_getElem (by omega), ← hs', List.getD_eq_getElem?_getD, List.getElem?_eq_getElem (by omega)]
    rfl
theorem OwnN.intsR {w : World} {base : Nat} {s : Option Addr} {n c : Nat} {l : List Int} (h : OwnN w base (.slice s n c) l) : IntsR w base w.heap.size s l := by
  by_cases h0 : l.length = 0
  · exact .inl (List.length_eq_zero_iff.1 h0)
  · obtain ⟨g, cap, hv, hb, hlt⟩ := World.ownsRow.form h (by omega)
    injection hv with e1 e2 e3
    subst e1 e2 e3
    exact .inr ⟨g, 0, rfl, hb, hlt, fun i hi => by rw [Nat.zero_add]; exact OwnN.cell h hi⟩

theorem fin_set {w1 w5 : World} {P b5 m : Nat} {s4 s5 : Option Addr} {k4 k5 : Nat} {caps : List Int} {bods : List (List I5)} {x y : Value} (hP : w1.heap.size ≤ P) (hz : P < w5.heap.size) (c0 : w5.cell? ⟨P, 0, none⟩ = some x) (c1 : w5.cell? ⟨P, 1, none⟩ = some y)
    (O5 : OwnN w5 w1.heap.size (.slice s4 caps.length k4) caps) (hne : ∀ k, (Value.slice s4 caps.length k4).ownBlock = some k → k ≠ P) (Q5 : OwnB w5 b5 (.slice s5 bods.length k5) bods) (hb : P < b5) (hb' : w1.heap.size ≤ b5) (B5 : Below w1.heap.size w1 w5) (hn : bods.length ≤ m) (hi : ∀ b ∈ bods, b.length ≤ m) :
    ∃ (P' : Nat) (sv sv' : Option Addr) (cv cv' : Nat), Value.pointer (some ⟨P, 0, none⟩) = .pointer (some ⟨P', 0, none⟩) ∧ w1.heap.size ≤ P' ∧ P' < ((w5.setCell ⟨P, 0, none⟩ (.slice s4 caps.length k4)).setCell ⟨P, 1, none⟩ (.slice s5 bods.length k5)).heap.size ∧ ((w5.setCell ⟨P, 0, none⟩ (.slice s4 caps.length k4)).setCell ⟨P, 1, none⟩ (.slice s5 bods.length k5)).cell? ⟨P', 0, none⟩ = some (.slice sv caps.length cv) ∧ ((w5.setCell ⟨P, 0, none⟩ (.slice s4 caps.length k4)).setCell ⟨P, 1, none⟩ (.slice s5 bods.length k5)).cell? ⟨P', 1, none⟩ = some (.slice sv' bods.length cv') ∧ OwnN ((w5.setCell ⟨P, 0, none⟩ (.slice s4 caps.length k4)).setCell ⟨P, 1, none⟩ (.slice s5 bods.length k5)) w1.heap.size (.slice sv caps.length cv) caps ∧ OwnB ((w5.setCell ⟨P, 0, none⟩ (.slice s4 caps.length k4)).setCell ⟨P, 1, none⟩ (.slice s5 bods.length k5)) w1.heap.size (.slice sv' bods.length cv') bods ∧ bods.length ≤ m ∧ (∀ b ∈ bods, b.length ≤ m) ∧ Below w1.heap.size w1 ((w5.setCell ⟨P, 0, none⟩ (.slice s4 caps.length k4)).setCell ⟨P, 1, none⟩ (.slice s5 bods.length k5)) := by
  have far : ∀ k, k ≠ P → ((w5.setCell ⟨P, 0, none⟩ (.slice s4 caps.length k4)).setCell ⟨P, 1, none⟩ (.slice s5 bods.length k5)).heap[k]? = w5.heap[k]? := fun k h => (Below.heap_setCell _ ⟨P, 1, none⟩ _ k h).trans (Below.heap_setCell _ ⟨P, 0, none⟩ _ k h)
  have o01 : ∀ (w : World) (i j : Nat) (v : Value), ¬ i = j → (w.setCell ⟨P, i, none⟩ v).cell? ⟨P, j, none⟩ = w.cell? ⟨P, j, none⟩ := fun w i j v h => by
    apply World.cell?_setCell_other
    intro e
    injection e with e1 e2
    exact h e2
  refine ⟨P, s4, s5, k4, k5, rfl, hP, by simpa using hz, ?_, ?_, ?_, ?_, hn, hi, ?_⟩
  · rw [o01 _ 1 0 _ (by decide)]
    apply World.cell?_setCell_same
    exact c0
  · apply World.cell?_setCell_same
    rw [o01 _ 0 1 _ (by decide)]
    exact c1
  · exact ownKeep O5 (fun k hk => far k (hne k hk))
  · exact OwnB.low (Q5.keep (fun k h1 _ => far k (by omega))) hb'
  · exact (B5.setCell (p := ⟨P, 0, none⟩) hP _).setCell (p := ⟨P, 1, none⟩) hP _
theorem ltR {W w1 : World} (hb : Below W.heap.size W w1) : ∀ b, b < W.heap.size → b < w1.heap.size := fun b h => Nat.lt_of_lt_of_le h hb.size
theorem bcellP {W w1 : World} (hb : Below W.heap.size W w1) : (∀ b o, b < W.heap.size → w1.cell? ⟨b, o, none⟩ = W.cell? ⟨b, o, none⟩) ∧ (∀ b o, b < W.heap.size → w1.frozen? ⟨b, o, none⟩ = W.frozen? ⟨b, o, none⟩) :=
  ⟨fun b o h => hb.cell (p := ⟨b, o, none⟩) h, fun b o h => hb.frozen (p := ⟨b, o, none⟩) h⟩
theorem caps_len {l : List UInt8} {vs : List Int} (h : capsR l = some vs) : vs.length ≤ l.length := by
  unfold capsR at h
  split at h
  · cases h
  · have := nums_len h
    have := (splitA_len 32 l []).2
    simp at *
    omega
theorem tail_at (ls : List (List UInt8)) (m : Nat) (hm : ls.length = m + 2) : ls.dropLast.tail.length = m ∧ (∀ k, k < m → ls.dropLast.tail.getD k [] = ls.getD (1 + k) []) ∧ ls.dropLast.headD [] = ls.getD 0 [] := by
  match ls, hm with
  | a :: b :: r, hm =>
    simp at hm
    refine ⟨by simp [hm], ?_, rfl⟩
    intro k hk
    rw [Nat.add_comm 1 k]
    simp [List.getD_eq_getElem?_getD, List.getElem?_dropLast, hm, hk]
    rw [List.getElem?_eq_getElem (by simp; omega)]
    rfl

set_option maxHeartbeats 4000000 in
theorem readProg_any (l : List UInt8) (hl : l.length ≤ 1048576) (w : World) (hE : Env w w.heap.size) : Calls Tryz.prog 24 #[.string ⟨l.toArray⟩] w fun e w' => progPost w.heap.size (readP l) e w' ∧ Below w.heap.size w w' := by
  have HE : Hid (∀ W, Below w.heap.size w W → Env W W.heap.size) := fun W hW => (hE.keep hW).mono (by have := hW.size; omega)
  have HWL : Hid (∀ x ∈ splitA 10 [] l, x.length ≤ 1048576) := fun x hx => by have := split_word_le 10 l [] x hx; simp at this; omega
  have HRP : Hid (readP l = if (splitA 10 [] l).length < 2 ∨ (splitA 10 [] l).getLastD [] ≠ [] then none else readPL (splitA 10 [] l).dropLast) := rfl
  have hln := (splitA_len 10 l []).2
  clear hE
  go_enter Tryz.func24, Tryz.ntmps24
  go_wp2_with fail
  obtain ⟨A, hA, KA, zA, r0, r1, rf⟩ : ∃ A, w.alloc (.cells #[.slice none 0 0, .slice none 0 0] 27) = A ∧ Below w.heap.size w A ∧ w.heap.size < A.heap.size ∧ A.cell? ⟨w.heap.size, 0, none⟩ = some (.slice none 0 0) ∧ A.cell? ⟨w.heap.size, 1, none⟩ = some (.slice none 0 0) ∧ (∀ j, A.frozen? ⟨w.heap.size, j, none⟩ = false) := ⟨_, rfl, (Below.refl _ _).alloc (Nat.le_refl _) _, by simp, by simp [go_sem], by simp [go_sem], fun j => by simp [go_sem]⟩
  rw [hA]
  clear hA
  refine (readLines_any l (by omega) A).mono ?_
  rintro e w1 ⟨hp1, hb1⟩
  have K1 : Hid (Below w.heap.size w w1) := KA.trans (hb1.mono (Nat.le_of_lt zA))
  have z1 : w.heap.size < w1.heap.size := Nat.lt_of_lt_of_le zA hb1.size
  unfold linesPost at hp1
  by_cases hC : (splitA 10 [] l).length < 2 ∨ (splitA 10 [] l).getLastD [] ≠ []
  · rw [if_pos hC] at hp1
    subst hp1
    refine ⟨rfl, ?_, K1.out⟩
    rw [HRP.out, if_pos hC]
    rfl
  · rw [if_neg hC] at hp1
    obtain ⟨g, cap, rfl, ho1⟩ := hp1
    have HRP2 : Hid (readP l = readPL (splitA 10 [] l).dropLast) := by show _ = _; rw [HRP.out, if_neg hC]
    clear HRP
    generalize splitA 10 [] l = ls at hC ho1 HRP2 HWL hln
    obtain ⟨m, hm⟩ : ∃ m, ls.length = m + 2 := ⟨ls.length - 2, by have := fun h => hC (.inl h); omega⟩
    obtain ⟨t1, t2, t3⟩ := tail_at ls m hm
    have hcap := ho1.cap
    have hg1 : g < w1.heap.size := by obtain ⟨g', cap', hv, -, hlt⟩ := ho1.form (by omega); cases hv; exact hlt
    have HC : Hid (∀ k, k < ls.length → w1.cell? ⟨g, k, none⟩ = some (.string ⟨(ls.getD k []).toArray⟩)) := fun k hk => ho1.cell hk
    have c0 := HC.out 0 (by omega)
    rw [hm] at hcap
    rw [show ls.length - 1 = m + 1 by omega]
    have hmem : ∀ k, k < ls.length → ls.getD k [] ∈ ls := fun k hk => by rw [List.getD_eq_getElem?_getD, List.getElem?_eq_getElem hk]; exact List.getElem_mem _
    have hl0 := HWL.out _ (hmem 0 (by omega))
    have HTX : Hid (∀ W, Below w1.heap.size w1 W → Calls Tryz.prog 50 #[.slice (some ⟨g, 1, none⟩) m (cap - 1)] W fun e w' => bodsPost W.heap.size m (bodsR [] ls.dropLast.tail) e w' ∧ Below W.heap.size W w') := by
      intro W hW
      have h := readBodies_any (some ⟨g, 1, none⟩) (cap - 1) ls.dropLast.tail W (.inr ⟨g, 1, rfl, by have := hW.size; omega, fun k hk => by rw [hW.cell (p := ⟨g, 1 + k, none⟩) hg1, HC.out (1 + k) (by omega), t2 k (by omega)]⟩) (by omega) (fun x hx => by
        have hx2 : x ∈ ls := List.dropLast_subset _ (List.mem_of_mem_tail hx)
        have := HWL.out x hx2; omega) (HE.out W (K1.out.trans (hW.mono (Nat.le_of_lt z1))))
      rw [t1] at h
      exact h
    have HPL : Hid (readPL ls.dropLast = match capsR (ls.getD 0 []) with
      | none => none
      | some caps => match bodsR [] ls.dropLast.tail with
        | none => none
        | some bods => if progB ⟨caps, bods⟩ = true then some ⟨caps, bods⟩ else none) := by show _ = _; rw [← t3]; rfl
    have R1 : Hid (w1.cell? ⟨w.heap.size, 0, none⟩ = some (.slice none 0 0) ∧ w1.cell? ⟨w.heap.size, 1, none⟩ = some (.slice none 0 0) ∧ ∀ j, w1.frozen? ⟨w.heap.size, j, none⟩ = false) := ⟨(hb1.cell (p := ⟨w.heap.size, 0, none⟩) zA).trans r0, (hb1.cell (p := ⟨w.heap.size, 1, none⟩) zA).trans r1, fun j => (hb1.frozen (p := ⟨w.heap.size, j, none⟩) zA).trans (rf j)⟩
    have hm20 : m + 2 ≤ 1048577 := by omega
    clear ho1 HC hmem t1 t2 t3 hC hm hln r0 r1 rf KA hb1
    generalize ls.getD 0 [] = h0 at c0 hl0 HPL
    generalize bodsR [] ls.dropLast.tail = br at HTX HPL
    have cz : ¬ cap = 1 := by omega
    have cz1 : ¬ cap - 1 = 0 := by omega
    have b1 : (1 : Int) ≤ (m : Int) + 1 := by omega
    have b2 : (m : Int) + 1 ≤ (cap : Int) := by omega
    cases hcr : capsR h0 with
    | none =>
      have HN : Hid (readP l = none) := by show _ = _; rw [HRP2.out, HPL.out, hcr]
      have HCR : Hid (capsR h0 = none) := hcr
      clear hcr
      go_wp2_with fail
      go_region_with (first | (go_at_call 49; refine (readCaps_any h0 (by omega) _ (HE.out _ (by first | exact Below.drew K1.out | exact Below.drew (K1.out.alloc (Nat.le_of_lt z1) _)))).mono ?_; rintro e w4 ⟨he, hb4⟩; rw [HCR.out] at he; have he' : e = .panicked [{ v := noT, recovered := false }] := he; clear he; subst he'; refine (fun (_ : wpAny Tryz.prog Region.Mode.any #[] (fun _ _ _ => True) 1 #[] { tmps := #[], defers := [] } w1) => ⟨rfl, (by rw [HN.out]; rfl), (by first | exact (Below.drew K1.out).trans (hb4.mono (Nat.le_of_lt z1)) | exact (Below.drew (K1.out.alloc (Nat.le_of_lt z1) _)).trans (hb4.mono (by simp; omega)))⟩) ?_))
      all_goals trivial
    | some caps =>
      cases hbr : br with
      | none =>
        have HN : Hid (readP l = none) := by show _ = _; rw [HRP2.out, HPL.out, hcr, hbr]
        have HCR : Hid (capsR h0 = some caps) := hcr
        subst hbr
        clear hcr
        go_wp2_with fail
        go_region_with (first
          | (go_at_call 49; refine (readCaps_any h0 (by omega) _ (HE.out _ (by first | exact Below.drew K1.out | exact Below.drew (K1.out.alloc (Nat.le_of_lt z1) _)))).mono ?_; rintro e w4 ⟨he, hb4⟩; rw [HCR.out] at he; obtain ⟨v4, rfl, ho4⟩ := he; have B4 : Below w1.heap.size w1 w4 := (by first | exact (Below.drew (Below.refl _ _)).trans hb4 | exact (Below.drew ((Below.refl _ _).alloc (Nat.le_refl _) _)).trans (hb4.mono (by simp))); obtain ⟨s4, k4, rfl⟩ := ho4.sl)
          | (go_at_call 50; refine (HTX.out _ (by first | exact B4 | exact B4.alloc B4.size _)).mono ?_; rintro e w5 ⟨he, hb5⟩; have he' : e = .panicked [{ v := noT, recovered := false }] := he; clear he; subst he'; refine (fun (_ : wpAny Tryz.prog Region.Mode.any #[] (fun _ _ _ => True) 1 #[] { tmps := #[], defers := [] } w1) => ⟨rfl, (by rw [HN.out]; rfl), (by have z4 := B4.size; first | exact (K1.out.trans (B4.mono (Nat.le_of_lt z1))).trans (hb5.mono (by omega)) | exact ((K1.out.trans (B4.mono (Nat.le_of_lt z1))).alloc (by omega) _).trans (hb5.mono (by simp; omega)))⟩) ?_))
        all_goals trivial
      | some bods =>
        have HF : Hid (readP l = if progB ⟨caps, bods⟩ = true then some ⟨caps, bods⟩ else none) := by show _ = _; rw [HRP2.out, HPL.out, hcr, hbr]
        have HCR : Hid (capsR h0 = some caps) := hcr
        have hcl := caps_len hcr
        subst hbr
        clear hcr HPL HRP2
        go_upto_region 2 with fail
        go_cut [4] (fun s4 wx => ∃ (P : Nat) (sv sv' : Option Addr) (cv cv' : Nat), s4 = .pointer (some ⟨P, 0, none⟩) ∧ w1.heap.size ≤ P ∧ P < wx.heap.size ∧ wx.cell? ⟨P, 0, none⟩ = some (.slice sv caps.length cv) ∧ wx.cell? ⟨P, 1, none⟩ = some (.slice sv' bods.length cv') ∧ OwnN wx w1.heap.size (.slice sv caps.length cv) caps ∧ OwnB wx w1.heap.size (.slice sv' bods.length cv') bods ∧ bods.length ≤ m ∧ (∀ b ∈ bods, b.length ≤ m) ∧ Below w1.heap.size w1 wx)
        case first =>
          go_region_with (first
            | (go_at_call 49; refine (readCaps_any h0 (by omega) _ (HE.out _ (by first | exact Below.drew K1.out | exact Below.drew (K1.out.alloc (Nat.le_of_lt z1) _)))).mono ?_; rintro e w4 ⟨he, hb4⟩; rw [HCR.out] at he; obtain ⟨v4, rfl, ho4⟩ := he; have B4 : Below w1.heap.size w1 w4 := (by first | exact (Below.drew (Below.refl _ _)).trans hb4 | exact (Below.drew ((Below.refl _ _).alloc (Nat.le_refl _) _)).trans (hb4.mono (by simp))); obtain ⟨s4, k4, rfl⟩ := ho4.sl; have O4 : OwnN w4 w1.heap.size (.slice s4 caps.length k4) caps := OwnN.mono ho4 (by simp); obtain ⟨hc4, hf4⟩ := bcellP hb4; have z4 := hb4.size; have z4' := B4.size; try simp at z4; have z4r := ltR hb4)
            | (go_at_call 50; refine (HTX.out _ (by first | exact B4 | exact B4.alloc B4.size _)).mono ?_; rintro e w5 ⟨he, hb5⟩; obtain ⟨v5, rfl, ho5, hn5, hi5⟩ := he; obtain ⟨s5, k5, rfl⟩ := ho5.sl; have B5 : Below w1.heap.size w1 w5 := (by first | exact B4.trans (hb5.mono z4') | exact (B4.alloc z4' _).trans (hb5.mono (by simp; omega))); have O5 : OwnN w5 w1.heap.size (.slice s4 caps.length k4) caps := (by first | exact O4.below hb5 | exact (O4.alloc _).below hb5); have Q5 : OwnB w5 w1.heap.size (.slice s5 bods.length k5) bods := ho5.low (by first | exact z4' | (simp; omega)); obtain ⟨hc5, hf5⟩ := bcellP hb5; have z5 := hb5.size; have z5' := B5.size; try simp at z5; have z5r := ltR hb5))
          all_goals
            have fa : ∀ k, (Value.slice s4 caps.length k4).ownBlock = some k → _ ≤ k := fun k hk => (World.ownsRow.lt ho4 _ hk).1
            have fb : ∀ k, (Value.slice s4 caps.length k4).ownBlock = some k → k < w4.heap.size := fun k hk => (World.ownsRow.lt ho4 _ hk).2
            go_wp2_with fail
            go_meet
            first
              | exact ⟨w5.heap.size, s4, s5, k4, k5, rfl, z5', by simp, by simp [go_sem], by simp [go_sem], O5.alloc _, Q5.keep (fun k _ hk => Below.heap_alloc _ _ _ hk), hn5, hi5, B5.alloc z5' _⟩
              | exact fin_set (P := w4.heap.size) (x := .slice none 0 0) (y := .slice none 0 0) z4' (Nat.lt_of_lt_of_le (by simp : w4.heap.size < (w4.alloc (.cells #[.slice none 0 0, .slice none 0 0] 27)).heap.size) hb5.size) ((hc5 w4.heap.size 0 (by simp)).trans (by simp [go_sem])) ((hc5 w4.heap.size 1 (by simp)).trans (by simp [go_sem])) O5 (fun k hk e => by have := fb k hk; omega) ho5 (by simp) (by simp; omega) B5 hn5 hi5
              | exact fin_set (P := w1.heap.size) (x := .slice none 0 0) (y := .slice none 0 0) (Nat.le_refl _) (Nat.lt_of_lt_of_le (z4r w1.heap.size (by simp)) hb5.size) ((hc5 w1.heap.size 0 (z4r w1.heap.size (by simp))).trans ((hc4 w1.heap.size 0 (by simp)).trans (by simp [go_sem]))) ((hc5 w1.heap.size 1 (z4r w1.heap.size (by simp))).trans ((hc4 w1.heap.size 1 (by simp)).trans (by simp [go_sem]))) O5 (fun k hk e => by have := fa k hk; simp at this; omega) ho5 (z4r w1.heap.size (by simp)) z4' B5 hn5 hi5
        case rest =>
          obtain ⟨P, sv, sv', cv, cv', rfl, hP, hPz, p0, p1, ho, hbd, hbn, hbi, hbl⟩ := hcut
          have O : Hid (OwnN wc w1.heap.size (.slice sv caps.length cv) caps) := ho
          have Q : Hid (OwnB wc w1.heap.size (.slice sv' bods.length cv') bods) := hbd
          have K : Hid (Below w.heap.size w wc) := K1.out.trans (hbl.mono (Nat.le_of_lt z1))
          have FT : Hid (Fits ⟨caps, bods⟩) := ⟨by show caps.length ≤ _; omega, by show bods.length ≤ _; omega, fun i hi => by
            have hi' : i < bods.length := hi
            have := hbi (bods.getD i []) (by rw [List.getD_eq_getElem?_getD, List.getElem?_eq_getElem hi']; exact List.getElem_mem _)
            show (bods.getD i []).length ≤ _
            omega⟩
          have r0 := (hbl.cell (p := ⟨w.heap.size, 0, none⟩) z1).trans R1.out.1
          have r1 := (hbl.cell (p := ⟨w.heap.size, 1, none⟩) z1).trans R1.out.2.1
          have rf : ∀ j, wc.frozen? ⟨w.heap.size, j, none⟩ = false := fun j => (hbl.frozen (p := ⟨w.heap.size, j, none⟩) z1).trans (R1.out.2.2 j)
          have zc : w.heap.size < wc.heap.size := Nat.lt_of_lt_of_le z1 hbl.size
          have nP : ¬ w.heap.size = P := by omega
          have nP' : ¬ P = w.heap.size := by omega
          clear ho hbd hbl hbn hbi HTX R1
          go_wp2_with fail
          refine (implProg_any sv sv' cv cv' w1.heap.size wc.heap.size ⟨caps, bods⟩ wc ⟨O.out.intsR, Q.out.bodsR⟩ (Nat.le_refl _) FT.out).mono ?_
          rintro e w6 ⟨rfl, hb6⟩
          have p0' := (hb6.cell (p := ⟨P, 0, none⟩) hPz).trans p0
          have p1' := (hb6.cell (p := ⟨P, 1, none⟩) hPz).trans p1
          have r0' := (hb6.cell (p := ⟨w.heap.size, 0, none⟩) zc).trans r0
          have r1' := (hb6.cell (p := ⟨w.heap.size, 1, none⟩) zc).trans r1
          have rf' : ∀ j, w6.frozen? ⟨w.heap.size, j, none⟩ = false := fun j => (hb6.frozen (p := ⟨w.heap.size, j, none⟩) zc).trans (rf j)
          have O6 : Hid (OwnN w6 w1.heap.size (.slice sv caps.length cv) caps) := O.out.below hb6
          have Q6 : Hid (OwnB w6 w1.heap.size (.slice sv' bods.length cv') bods) := Q.out.below hb6
          have K6 : Hid (Below w.heap.size w w6) := K.out.trans (hb6.mono (Nat.le_of_lt zc))
          clear hb6 p0 p1 r0 r1 rf O Q K
          cases hpb : progB ⟨caps, bods⟩ with
          | false =>
            have HN : Hid (readP l = none) := by show _ = _; rw [HF.out, if_neg (by rw [hpb]; decide)]
            clear hpb
            go_wp2
            refine ⟨rfl, ?_, K6.out⟩
            rw [HN.out]
            rfl
          | true =>
            have HN : Hid (readP l = some ⟨caps, bods⟩) := by show _ = _; rw [HF.out, if_pos hpb]
            clear hpb
            go_wp2
            refine bodyPost_ret (v := .agg #[.slice sv caps.length cv, .slice sv' bods.length cv']) (by simp [results, Tryz.results24, go_sem, r0', r1']) rfl ⟨?_, (K6.out.setCell (p := ⟨w.heap.size, 0, none⟩) (Nat.le_refl _) _).setCell (p := ⟨w.heap.size, 1, none⟩) (Nat.le_refl _) _⟩
            rw [HN.out]
            refine ⟨_, _, rfl, ?_, ?_, FT.out⟩
            · exact OwnN.mono (OwnN.keep O6.out (fun k h1 _ => (Below.heap_setCell _ ⟨w.heap.size, 1, none⟩ _ k (by simp; omega)).trans (Below.heap_setCell _ ⟨w.heap.size, 0, none⟩ _ k (by simp; omega)))) (Nat.le_of_lt z1)
            · exact OwnB.low (OwnB.keep Q6.out (fun k h1 _ => (Below.heap_setCell _ ⟨w.heap.size, 1, none⟩ _ k (by simp; omega)).trans (Below.heap_setCell _ ⟨w.heap.size, 0, none⟩ _ k (by simp; omega)))) (Nat.le_of_lt z1)

end Go.Proofs.YtajblippcnidiaaGreatDoor
