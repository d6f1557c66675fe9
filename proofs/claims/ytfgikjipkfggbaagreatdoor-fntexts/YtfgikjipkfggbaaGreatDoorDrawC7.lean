/- l7DrawCode, DrawCodeOk: code is drawn into new memory; the cursor's own block alone is turned. Conditions: the cursor and its bytes lie in memory as the reading says. -/
import Derived.Test.YtfgikjipkfggbaaGreatDoorQuietC
import Derived.Test.YtfgikjipkfggbaaGreatDoorStepLists
import Derived.Test.YtfgikjipkfggbaaGreatDoorSpoil7
import Derived.Test.YtfgikjipkfggbaaGreatDoorDraw7
import Derived.Test.YtfgikjipkfggbaaGreatDoorDraw1c
import Derived.Test.YtfgikjipkfggbaaGreatDoorCursor
import Derived.Test.YtfgikjipkfggbaaGreatDoorOwn7
namespace Go.Proofs.YtfgikjipkfggbaaGreatDoor
set_option linter.unusedSimpArgs false
set_option linter.unusedVariables false
set_option maxRecDepth 100000
open Go.RowKit Go.Deep

theorem info25 : ∃ i, Tryz.prog.info? 25 = some i ∧ i.zero = some (.agg #[.int .i64 0, .int .i64 0, .int .i64 0, .int .i64 0, .int .i64 0]) ∧ i.size = 5 ∧ i.bytes = 40 := ⟨_, rfl, rfl, rfl, rfl⟩
theorem allInt_nil : AllInt [] := fun u hu => by cases hu
theorem allInt_cons (z : Int) {xs : List Value} (h : AllInt xs) : AllInt (.int .i64 z :: xs) := by
  intro u hu
  rcases List.mem_cons.1 hu with h1 | h1
  · exact ⟨z, h1⟩
  · exact h u h1
theorem own_lit {w : World} {base : Nat} (C : Array Value) (n : Nat) (hb : base ≤ w.heap.size) (hn : n ≤ 1000) (hC : C.size = n * 5) (hI : AllInt C.toList) : OwnI (w.alloc (.cells C 25)) base (.slice (some ⟨w.heap.size, 0, none⟩) n n) n :=
  ⟨_, World.ownsRow_lit w C n hb (by unfold maxLen; omega) hC, hI⟩
theorem new5 (w : World) (z0 z1 z2 z3 z4 : Int) : ∀ j u, [Value.int .i64 z0, .int .i64 z1, .int .i64 z2, .int .i64 z3, .int .i64 z4][j]? = some u → (w.alloc (.cells #[.int .i64 z0, .int .i64 z1, .int .i64 z2, .int .i64 z3, .int .i64 z4] 25)).cell? (Addr.add ⟨w.heap.size, 0, none⟩ j) = some u := by
  intro j u h
  match j, h with
  | 0, h => simpa [Addr.add, go_sem] using h
  | 1, h => simpa [Addr.add, go_sem] using h
  | 2, h => simpa [Addr.add, go_sem] using h
  | 3, h => simpa [Addr.add, go_sem] using h
  | 4, h => simpa [Addr.add, go_sem] using h

theorem app_step {ops : Array Oper} {rest : List Oper} {o : Oper} {a : Act} {Q : Exit → Act → World → Prop} (hgd : o.guard = none) (s x : Operand) (ho : o.op = .call { callee := .builtin .append, args := #[s, x], argTypes := #[27, 27] })
    (w : World) (z0 z1 z2 z3 z4 : Int) (base n : Nat) (v : Value) (hs : a.eval s = v) (hown : OwnI w base v n) (hx : a.eval x = .slice (some ⟨w.heap.size, 0, none⟩) 1 1) (hn : n ≤ 1000) (hbase : base ≤ w.heap.size)
    (h : ∀ g cap w', OwnI w' base (.slice (some ⟨g, 0, none⟩) (n + 1) cap) (n + 1) → (w.alloc (.cells #[.int .i64 z0, .int .i64 z1, .int .i64 z2, .int .i64 z3, .int .i64 z4] 25)).grownBy w' v.ownBlock → (∀ k, v.ownBlock = some k → base ≤ k) → wpList Tryz.prog ops Q rest (a.put o.dst (.slice (some ⟨g, 0, none⟩) (n + 1) cap)) w') :
    wpList Tryz.prog ops Q (o :: rest) a (w.alloc (.cells #[.int .i64 z0, .int .i64 z1, .int .i64 z2, .int .i64 z3, .int .i64 z4] 25)) := by
  obtain ⟨i0, hi, hz0, hz1, hz2⟩ := info25
  obtain ⟨xs, h1, h2⟩ := hown
  have h1' := own_block (w' := w.alloc (.cells #[.int .i64 z0, .int .i64 z1, .int .i64 z2, .int .i64 z3, .int .i64 z4] 25)) h1 (fun k _ hk => Below.heap_alloc _ _ _ hk)
  refine wpList_append_lies _ hgd s x 27 ho base 25 i0 _ 5 40 Tryz.underlying27 hi hz0 hz1 hz2 rfl (by decide) v n xs hs h1' ⟨w.heap.size, 0, none⟩ 1 1 [.int .i64 z0, .int .i64 z1, .int .i64 z2, .int .i64 z3, .int .i64 z4] hx rfl (new5 w z0 z1 z2 z3 z4) (fun u hu => by simp at hu; rcases hu with rfl | rfl | rfl | rfl | rfl <;> rfl) (by decide) (by unfold maxLen; omega) (by omega) (by simp; omega) _ rfl ?_
  intro g cap w' q1 q2 q3 q4
  exact h g cap w' ⟨_, q1, h2.append (allInt_cons _ (allInt_cons _ (allInt_cons _ (allInt_cons _ (allInt_cons _ allInt_nil)))))⟩ q2 (own_row h1)

theorem OwnI.form {w : World} {base n : Nat} {v : Value} (h : OwnI w base v n) (hn : 0 < n) : ∃ g cap, v = .slice (some ⟨g, 0, none⟩) n cap ∧ base ≤ g ∧ g < w.heap.size := by
  obtain ⟨xs, h1, -⟩ := h
  exact h1.form hn
theorem OwnI.mono {w : World} {base base' n : Nat} {v : Value} (h : OwnI w base v n) (hb : base' ≤ base) : OwnI w base' v n := by
  obtain ⟨xs, ⟨h1, h2⟩, h3⟩ := h
  refine ⟨xs, ⟨h1, ?_⟩, h3⟩
  rcases h2 with h2 | ⟨g, cap, cur, hv, hb', hr⟩
  · exact .inl h2
  · exact .inr ⟨g, cap, cur, hv, by omega, hr⟩
def set5o (w : World) (g k : Nat) (z0 z1 z2 z3 z4 : Int) : World := ((((w.setCell ⟨g, k, none⟩ (.int .i64 z0)).setCell ⟨g, k + 1, none⟩ (.int .i64 z1)).setCell ⟨g, k + 2, none⟩ (.int .i64 z2)).setCell ⟨g, k + 3, none⟩ (.int .i64 z3)).setCell ⟨g, k + 4, none⟩ (.int .i64 z4)
theorem OwnI.set5o {w : World} {base n g k : Nat} {v : Value} (h : OwnI w base v n) (z0 z1 z2 z3 z4 : Int) : OwnI (set5o w g k z0 z1 z2 z3 z4) base v n := ((((h.set z0).set z1).set z2).set z3).set z4
theorem CB.set5o {w : World} {p n c g k : Nat} {s : Option Addr} (h : CB w p s n c) (hg : p < g) (z0 z1 z2 z3 z4 : Int) : CB (set5o w g k z0 z1 z2 z3 z4) p s n c := ((((h.set hg).set hg).set hg).set hg).set hg
theorem but_set5o {w0 w : World} {p g k : Nat} (h : But p w0 w) (hg : w0.heap.size ≤ g) (z0 z1 z2 z3 z4 : Int) : But p w0 (set5o w g k z0 z1 z2 z3 z4) := by
  have b : Below w0.heap.size w (set5o w g k z0 z1 z2 z3 z4) := (((((Below.refl _ _).setCell (p := ⟨g, k, none⟩) hg _).setCell (p := ⟨g, k + 1, none⟩) hg _).setCell (p := ⟨g, k + 2, none⟩) hg _).setCell (p := ⟨g, k + 3, none⟩) hg _).setCell (p := ⟨g, k + 4, none⟩) hg _
  exact ⟨b.os.trans h.os, b.tape.trans h.tape, b.output.trans h.output, Nat.le_trans h.size b.size, fun k hk hp => (b.block k hk).trans (h.block k hk hp)⟩
theorem OwnI.at {w : World} {base n g cap k : Nat} (h : OwnI w base (.slice (some ⟨g, 0, none⟩) n cap) n) (hk : k < n) : ∃ z0 z1 z2 z3 z4 : Int, w.cell? ⟨g, k * 5, none⟩ = some (.int .i64 z0) ∧ w.cell? ⟨g, k * 5 + 1, none⟩ = some (.int .i64 z1) ∧ w.cell? ⟨g, k * 5 + 2, none⟩ = some (.int .i64 z2) ∧ w.cell? ⟨g, k * 5 + 3, none⟩ = some (.int .i64 z3) ∧ w.cell? ⟨g, k * 5 + 4, none⟩ = some (.int .i64 z4) ∧ (∀ j, j < 5 → w.frozen? ⟨g, k * 5 + j, none⟩ = false) := by
  obtain ⟨xs, h1, h2⟩ := h
  have C : ∀ j, j < 5 → ∃ z : Int, w.cell? ⟨g, k * 5 + j, none⟩ = some (.int .i64 z) := fun j hj => by
    obtain ⟨u, h3, h4, -⟩ := own_cell (k := k * 5 + j) h1 (by omega)
    obtain ⟨z, rfl⟩ := h2 u h4
    exact ⟨z, h3⟩
  obtain ⟨z0, c0⟩ := C 0 (by omega)
  obtain ⟨z1, c1⟩ := C 1 (by omega)
  obtain ⟨z2, c2⟩ := C 2 (by omega)
  obtain ⟨z3, c3⟩ := C 3 (by omega)
  obtain ⟨z4, c4⟩ := C 4 (by omega)
  exact ⟨z0, z1, z2, z3, z4, c0, c1, c2, c3, c4, fun j hj => (own_cell (k := k * 5 + j) h1 (by omega)).choose_spec.2.2.1⟩

set_option maxRecDepth 100000 in
set_option maxHeartbeats 4000000 in
theorem drawCode_cb (p : Nat) (s : Option Addr) (n c : Nat) (w : World) (h : CB w p s n c) :
    Calls Tryz.prog 48 #[.pointer (some ⟨p, 0, none⟩)] w fun e w' => ∃ (v : Value) (m : Nat), e = .returned v ∧ OwnI w' w.heap.size v m ∧ 1 ≤ m ∧ m ≤ 15 ∧ CB w' p s n c ∧ But p w w' := by
  have hp := h.lt
  have H0 : Hid (CB w p s n c) := h
  clear h
  go_enter Tryz.func48, Tryz.ntmps48
  go_wp2_with fail
  refine (below_cb p s n c 14 w H0.out (by omega) (by omega)).mono ?_
  rintro e w4 ⟨q, rfl, q0, q1, hc4, hb4⟩
  have H4 : Hid (CB w4 p s n c) := hc4
  have B4 : Hid (But p w w4) := hb4
  have hz4 : w.heap.size ≤ w4.heap.size := B4.out.size
  clear hc4 hb4
  go_wp2
  go_loopw [4, 5] (fun v i wr => ∃ j : Nat, (j : Int) ≤ 1 + q ∧ i = .int .i64 j ∧ OwnI wr w.heap.size v j ∧ CB wr p s n c ∧ But p w wr) (fun _ i _ => 15 - (intOf i).toNat)
  case atStart => exact ⟨0, by omega, rfl, own_lit #[] 0 hz4 (by omega) rfl allInt_nil, H4.out.alloc _, B4.out.alloc _⟩
  case round =>
    obtain ⟨j, hj, rfl, ho, hcb, hbt⟩ := hrel
    have HO : Hid (OwnI wr w.heap.size u4 j) := ho
    have HC : Hid (CB wr p s n c) := hcb
    have HT : Hid (But p w wr) := hbt
    clear ho hcb hbt
    have hzr := HT.out.size
    by_cases hlt : (j : Int) < 1 + q
    · go_wp2_with fail
      refine (drawStep_cb p s n c (2 + q) wr HC.out (by omega) (by omega)).mono ?_
      rintro e w5 ⟨o, r, a, b, m, rfl, hc5, hb5⟩
      have HO5 : Hid (OwnI w5 w.heap.size u4 j) := HO.out.but hb5 hp
      have HC5 : Hid (CB w5 p s n c) := hc5
      have HT5 : Hid (But p w w5) := HT.out.trans hb5
      have hz5 := HT5.out.size
      clear hc5 hb5 HO HC HT
      go_wp2_with (at_builtin; refine app_step rfl _ _ rfl w5 o r a b m w.heap.size j u4 rfl HO5.out rfl (by omega) hz5 ?_; intro g cap w6 ho6 hg6 hr6)
      go_roundw
      case rel =>
        exact ⟨j + 1, by omega, by go_num, ho6, (HC5.out.alloc _).grown hg6 (fun k hk => by have := hr6 k hk; omega), (HT5.out.alloc _).grown hg6 hr6⟩
      case measure => simp [intOf]; omega
    · have hjq : (j : Int) = 1 + q := by omega
      have kl : Below wr.heap.size wr (wr.alloc (.cells #[.int .i64 12, .int .i64 10] 3)) := (Below.refl _ _).alloc (Nat.le_refl _) _
      have KL : Hid (Below wr.heap.size wr (wr.alloc (.cells #[.int .i64 12, .int .i64 10] 3))) := kl
      have HJ : Hid ((j : Int) = 1 + q) := hjq
      clear kl hjq
      go_wp2_with fail
      refine (pick_cb p s n c wr.heap.size 2 [12, 10] _ (HC.out.keep KL.out) rfl (by simp) (by simp) (by simp) (by omega) (fun i hi => by match i, hi with | 0, _ => simp [go_sem] | 1, _ => simp [go_sem])).mono ?_
      rintro e w5 ⟨z, rfl, -, hc5, hb5⟩
      have HO5 : Hid (OwnI w5 w.heap.size u4 j) := (HO.out.keep KL.out).but hb5 hp
      have HC5 : Hid (CB w5 p s n c) := hc5
      have HT5 : Hid (But p w w5) := (HT.out.trans (But.of_below KL.out)).trans hb5
      have hz5 := HT5.out.size
      clear hc5 hb5 HO HC HT KL
      go_wp2_with (at_builtin; refine app_step rfl _ _ rfl w5 z 0 0 0 0 w.heap.size j u4 rfl HO5.out rfl (by omega) hz5 ?_; intro g cap w6 ho6 hg6 hr6)
      go_ret
      have hj2 := HJ.out
      exact ⟨_, j + 1, rfl, ho6, by omega, by omega, (HC5.out.alloc _).grown hg6 (fun k hk => by have := hr6 k hk; omega), (HT5.out.alloc _).grown hg6 hr6⟩

theorem OwnI.ins' {w : World} {base n g cap : Nat} (h : OwnI w base (.slice (some ⟨g, 0, none⟩) n cap) n) : ∃ l : List I5, l.length = n ∧ InsB w w.heap.size (some ⟨g, 0, none⟩) l := by
  obtain ⟨s, c, l, hv, hl, hi⟩ := h.ins
  injection hv with e1
  subst e1
  exact ⟨l, hl, hi⟩
theorem InsB.take {w : World} {B : Nat} {s : Option Addr} {l : List I5} (h : InsB w B s l) (k : Nat) : InsB w B s (l.take k) := by
  rcases h with h | ⟨g, o, hs, hg, hc⟩
  · left; rw [h]; simp
  · refine .inr ⟨g, o, hs, hg, fun i hi => ?_⟩
    have hi' : i < l.length ∧ i < k := by simp at hi; omega
    have e : (l.take k).getD i z5 = l.getD i z5 := by simp [List.getD, List.getElem?_take, hi'.2]
    rw [e]
    exact hc i hi'.1

set_option maxRecDepth 100000 in
set_option maxHeartbeats 4000000 in
theorem drawCodeOk_any (s : Option Addr) (n c : Nat) (w : World) (hb : Bytes w w.heap.size s n) (hn : n ≤ maxLen) :
    Calls Tryz.prog 21 #[.slice s n c] w fun e w' => ∃ (s' : Option Addr) (c' : Nat) (l : List I5), e = .returned (.slice s' l.length c') ∧ InsB w' w'.heap.size s' l ∧ l.length ≤ 15 ∧ Below w.heap.size w w' := by
  go_enter Tryz.func21, Tryz.ntmps21
  go_wp2_with fail
  refine (new_cb s n c w hb hn).mono ?_
  rintro e w1 ⟨rfl, hc1, hb1, hz1⟩
  have K1 : Hid (Below w.heap.size w w1) := hb1
  clear hb1
  go_wp2_with fail
  refine (drawCode_cb w.heap.size s n c w1 hc1).mono ?_
  rintro e w2 ⟨v, m, rfl, ho2, hm1, hm2, hc2, hb2⟩
  obtain ⟨g, cap, rfl, hg, hg'⟩ := ho2.form (by omega)
  have hz2 := hb2.size
  have hcap : m ≤ cap := by
    obtain ⟨xs, h1, -⟩ := ho2
    rcases h1.2 with ⟨h2, -⟩ | ⟨g, cap, cur, hv, -, -, h3, -⟩
    · cases h2
    · injection hv with e1 e2 e3
      omega
  clear hc1
  go_wp2_with fail
  refine (below_cb w.heap.size s n c (m : Int) w2 hc2 (by omega) (by omega)).mono ?_
  rintro e w3 ⟨i, rfl, i0, i1, hc3, hb3⟩
  obtain ⟨k, rfl⟩ := Int.eq_ofNat_of_zero_le i0
  have hk : k < m := by omega
  have HO3 : Hid (OwnI w3 (w.heap.size + 1) (.slice (some ⟨g, 0, none⟩) m cap) m) := (ho2.mono (by omega)).but hb3 (by omega)
  have HC3 : Hid (CB w3 w.heap.size s n c) := hc3
  have HT3 : Hid (But w.heap.size w1 w3) := hb2.trans hb3
  have hz3 := HT3.out.size
  clear ho2 hc2 hb2 hc3 hb3
  go_wp2_with fail
  refine (once_cb w.heap.size s n c 4 w3 HC3.out (by omega) (by omega)).mono ?_
  rintro e w4 ⟨x, rfl, hc4, hb4⟩
  have HO4 : Hid (OwnI w4 (w.heap.size + 1) (.slice (some ⟨g, 0, none⟩) m cap) m) := HO3.out.but hb4 (by omega)
  have HC4 : Hid (CB w4 w.heap.size s n c) := hc4
  have HT4 : Hid (But w.heap.size w1 w4) := HT3.out.trans hb4
  have hz4 := HT4.out.size
  clear hc4 hb4 HO3 HC3 HT3
  cases x
  · go_wp2_with fail
    refine (once_cb w.heap.size s n c 9 _ HC4.out (by omega) (by omega)).mono ?_
    rintro e w7 ⟨y, rfl, hc7, hb7⟩
    have HO7 : Hid (OwnI w7 (w.heap.size + 1) (.slice (some ⟨g, 0, none⟩) m cap) m) := HO4.out.but hb7 (by omega)
    have HT7 : Hid (But w.heap.size w1 w7) := HT4.out.trans hb7
    have hz7 := HT7.out.size
    clear hc7 hb7 HO4 HC4 HT4
    obtain ⟨l, hl, hi⟩ := HO7.out.ins'
    have HI : Hid (InsB w7 w7.heap.size (some ⟨g, 0, none⟩) l) := hi
    have HL : Hid (l.length = m) := hl
    clear hi hl
    cases y
    · go_wp2
      go_ret
      have hl := HL.out
      exact ⟨some ⟨g, 0, none⟩, cap, l, by rw [hl]; rfl, HI.out, by omega, K1.out.trans (HT7.out.below (Nat.le_refl _) (by omega))⟩
    · go_wp2
      go_ret
      have hl := HL.out
      exact ⟨some ⟨g, 0, none⟩, cap, l.take k, by rw [List.length_take, hl, Nat.min_eq_left (by omega)]; rfl, HI.out.take k, by rw [List.length_take]; omega, K1.out.trans (HT7.out.below (Nat.le_refl _) (by omega))⟩
  · obtain ⟨z0, z1, z2, z3, z4, c0, c1, c2, c3, c4, -⟩ := HO4.out.at hk
    go_wp2_with fail
    refine (spoil_cb w.heap.size s n c z0 z1 z2 z3 z4 w4 HC4.out).mono ?_
    rintro e w5 ⟨y0, y1, y2, y3, y4, rfl, hc5, hb5⟩
    have HO5 : Hid (OwnI w5 (w.heap.size + 1) (.slice (some ⟨g, 0, none⟩) m cap) m) := HO4.out.but hb5 (by omega)
    have HC5 : Hid (CB w5 w.heap.size s n c) := hc5
    have HT5 : Hid (But w.heap.size w1 w5) := HT4.out.trans hb5
    have hz5 := HT5.out.size
    clear hc5 hb5 HO4 HC4 HT4 c0 c1 c2 c3 c4
    obtain ⟨z0, z1, z2, z3, z4, c0, c1, c2, c3, c4, hfz⟩ := HO5.out.at hk
    have f0 := hfz 0 (by omega)
    have f1 := hfz 1 (by omega)
    have f2 := hfz 2 (by omega)
    have f3 := hfz 3 (by omega)
    have f4 := hfz 4 (by omega)
    rw [Nat.add_zero] at f0
    have b0 : (0 : Int) ≤ (k : Int) := by omega
    have b1 : (k : Int) < (m : Int) := by omega
    clear hfz
    go_wp2_with fail
    have HO6 : Hid (OwnI (set5o w5 g (k * 5) y0 y1 y2 y3 y4) (w.heap.size + 1) (.slice (some ⟨g, 0, none⟩) m cap) m) := HO5.out.set5o y0 y1 y2 y3 y4
    have HC6 : Hid (CB (set5o w5 g (k * 5) y0 y1 y2 y3 y4) w.heap.size s n c) := HC5.out.set5o (by omega) y0 y1 y2 y3 y4
    have HT6 : Hid (But w.heap.size w1 (set5o w5 g (k * 5) y0 y1 y2 y3 y4)) := but_set5o HT5.out (by omega) y0 y1 y2 y3 y4
    have hz6 : w1.heap.size ≤ (set5o w5 g (k * 5) y0 y1 y2 y3 y4).heap.size := HT6.out.size
    change Calls Tryz.prog _ _ (set5o w5 g (k * 5) y0 y1 y2 y3 y4) _
    generalize set5o w5 g (k * 5) y0 y1 y2 y3 y4 = w6 at HO6 HC6 HT6 hz6 ⊢
    refine (once_cb w.heap.size s n c 9 _ HC6.out (by omega) (by omega)).mono ?_
    rintro e w7 ⟨y, rfl, hc7, hb7⟩
    have HO7 : Hid (OwnI w7 (w.heap.size + 1) (.slice (some ⟨g, 0, none⟩) m cap) m) := HO6.out.but hb7 (by omega)
    have HT7 : Hid (But w.heap.size w1 w7) := HT6.out.trans hb7
    have hz7 := HT7.out.size
    clear hc7 hb7 HO6 HC6 HT6
    obtain ⟨l, hl, hi⟩ := HO7.out.ins'
    have HI : Hid (InsB w7 w7.heap.size (some ⟨g, 0, none⟩) l) := hi
    have HL : Hid (l.length = m) := hl
    clear hi hl
    cases y
    · go_wp2
      go_ret
      have hl := HL.out
      exact ⟨some ⟨g, 0, none⟩, cap, l, by rw [hl]; rfl, HI.out, by omega, K1.out.trans (HT7.out.below (Nat.le_refl _) (by omega))⟩
    · go_wp2
      go_ret
      have hl := HL.out
      exact ⟨some ⟨g, 0, none⟩, cap, l.take k, by rw [List.length_take, hl, Nat.min_eq_left (by omega)]; rfl, HI.out.take k, by rw [List.length_take]; omega, K1.out.trans (HT7.out.below (Nat.le_refl _) (by omega))⟩


end Go.Proofs.YtfgikjipkfggbaaGreatDoor
