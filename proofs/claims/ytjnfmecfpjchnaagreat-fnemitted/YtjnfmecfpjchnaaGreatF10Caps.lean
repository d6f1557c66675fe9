/- A row of rooms is drawn. Conditions: the cursor lies in memory. -/
import Derived.Test.YtjnfmecfpjchnaaGreatDraw3
import Derived.Test.YtjnfmecfpjchnaaGreatAppN
namespace Go.Proofs.YtjnfmecfpjchnaaGreat
set_option linter.unusedSimpArgs false
set_option linter.unusedVariables false
set_option maxRecDepth 100000
open Go.RowKit


theorem OwnN.but {w w' : World} {base p : Nat} {v : Value} {l : List Int} (h : OwnN w base v l) (hb : But p w w') (hp : p < base) : OwnN w' base v l := ownKeep' h (fun k e => hb.block k (World.ownsRow.lt h _ e).2 (by have := (World.ownsRow.lt h _ e).1; omega))
theorem CB.keepB {w w' : World} {B p n c : Nat} {s : Option Addr} (h : CB w p s n c) (hb : Below B w w') (hp : p < B) : CB w' p s n c := by
  refine ⟨?_, h.2.1.below hb (by omega), h.2.2⟩
  obtain ⟨i, h', c0, c1, c2, hf, hi, hi', hp'⟩ := h.1
  exact ⟨i, h', (hb.cell (p := ⟨p, 0, none⟩) hp).trans c0, (hb.cell (p := ⟨p, 1, none⟩) hp).trans c1, (hb.cell (p := ⟨p, 2, none⟩) hp).trans c2, fun j => (hb.frozen (p := ⟨p, j, none⟩) hp).trans (hf j), hi, hi', by have := hb.size; omega⟩
theorem hid2 {p : Prop} (h : p) : Hid p := h
theorem but_low {p : Nat} {w a b : World} (h : But p w a) (hb : Below w.heap.size a b) : But p w b := ⟨hb.os.trans h.os, hb.tape.trans h.tape, hb.output.trans h.output, Nat.le_trans h.size hb.size, fun k hk hp => (hb.block k hk).trans (h.block k hk hp)⟩
structure DC (w wr : World) (p : Nat) (s : Option Addr) (n c : Nat) (v : Value) (l : List Int) : Prop where
  o : OwnN wr w.heap.size v l
  b : CB wr p s n c
  t : But p w wr
theorem DC.but {w wr w2 : World} {p n c : Nat} {s : Option Addr} {v : Value} {l : List Int} (h : DC w wr p s n c v l) (hp : p < w.heap.size) (hc : CB w2 p s n c) (hb : But p wr w2) : DC w w2 p s n c v l := ⟨h.o.but hb hp, hc, h.t.trans hb⟩
theorem DC.low {w wr w2 : World} {p n c : Nat} {s : Option Addr} {v v' : Value} {l l' : List Int} (h : DC w wr p s n c v l) (hp : p < w.heap.size) (ho : OwnN w2 w.heap.size v' l') (hb : Below w.heap.size wr w2) : DC w w2 p s n c v' l' := ⟨ho, h.b.keepB hb hp, but_low h.t hb⟩
set_option maxHeartbeats 4000000 in
theorem drawCaps_cb (p : Nat) (s : Option Addr) (n c : Nat) (w : World) (h : CB w p s n c) :
    Calls Tryz.prog 15 #[.pointer (some ⟨p, 0, none⟩)] w fun e w' => ∃ v l, e = .returned v ∧ l.length ≤ 9 ∧ DC w w' p s n c v l := by
  have hp := h.lt
  have k0 : Below w.heap.size w (w.alloc (.cells #[] 3)) := (Below.refl _ _).alloc (Nat.le_refl _) _
  have D0 := hid2 (show DC w (w.alloc (.cells #[] 3)) p s n c (.slice (some ⟨w.heap.size, 0, none⟩) 0 0) [] from ⟨ownN_empty (Nat.le_refl _), h.keepB k0 hp, but_low (But.refl _ _) k0⟩)
  clear h k0
  go_enter Tryz.func15, Tryz.ntmps15
  go_wp2
  go_loopw [3, 4] (fun v i wr => ∃ (k : Nat) (l : List Int), k ≤ 3 ∧ i = .int .i64 k ∧ l.length = k ∧ DC w wr p s n c v l) (fun _ i _ => 3 - (intOf i).toNat)
  case atStart => exact ⟨0, [], by omega, rfl, rfl, D0.out⟩
  case round =>
    obtain ⟨k, l, hk, rfl, hl, hd⟩ := hrel
    obtain ⟨s3, c3, rfl⟩ := hd.o.sl
    have HD := hid2 hd
    have HL := hid2 hl
    clear hd hl D0
    have hwr : w.heap.size ≤ wr.heap.size := HD.out.t.size
    go_wp2_with fail
    refine (below_cb p s n c 3 wr HD.out.b (by omega) (by omega)).mono ?_
    rintro e w2 ⟨x, rfl, x0, x1, hc2, hb2⟩
    have HD2 := hid2 (HD.out.but hp hc2 hb2)
    clear hc2 hb2 HD
    have hw2 : w.heap.size ≤ w2.heap.size := HD2.out.t.size
    by_cases hlt : (k : Int) < 1 + x
    · go_wp2_with fail
      refine (below_cb p s n c 4 w2 HD2.out.b (by omega) (by omega)).mono ?_
      rintro e w3 ⟨y, rfl, y0, y1, hc3, hb3⟩
      have HD3 := hid2 (HD2.out.but hp hc3 hb3)
      clear hc3 hb3 HD2
      have hw3 : w.heap.size ≤ w3.heap.size := HD3.out.t.size
      have HLN : Hid (l.length ≤ 1099511627776) := by show _ ≤ _; have := HL.out; omega
      go_wp2_with (at_builtin; refine app_int rfl _ _ rfl w3 (1 + y) w.heap.size (.slice s3 l.length c3) l rfl HD3.out.o rfl HLN.out hw3 ?_; intro g4 c4 w4 ho4 hb4 hz4; have HD4 := hid2 (HD3.out.low hp ho4 hb4); clear ho4 hb4 hz4)
      go_roundw
      case rel => exact ⟨k + 1, l ++ [1 + y], by omega, by go_num, by have := HL.out; simp; omega, HD4.out⟩
      case measure => simp [intOf]; omega
    · have hk1 : 1 ≤ k := by omega
      go_wp2_with fail
      refine (below_cb p s n c 15 w2 HD2.out.b (by omega) (by omega)).mono ?_
      rintro e w3 ⟨y, rfl, y0, y1, hc3, hb3⟩
      have HD3 := hid2 (HD2.out.but hp hc3 hb3)
      clear hc3 hb3 HD2
      have hw3 : w.heap.size ≤ w3.heap.size := HD3.out.t.size
      by_cases h0 : y = 0
      · subst h0
        have HLN : Hid (l.length + [4, 4, (4 : Int)].length ≤ 1099511627776) := by show _ ≤ _; have := HL.out; simp; omega
        go_wp2_with (at_builtin; refine app_row rfl _ _ rfl (w3.alloc (.cells #[.int .i64 4, .int .i64 4, .int .i64 4] 3)) w.heap.size (.slice s3 l.length c3) l rfl (HD3.out.o.alloc _) w3.heap.size 0 3 [4, 4, 4] rfl (fun i hi => by match i, hi with | 0, _ => simp [go_sem] | 1, _ => simp [go_sem] | 2, _ => simp [go_sem]) (by simp) HLN.out (by simp; omega) ?_; intro g4 c4 w4 ho4 hb4 hz4 hy4; have HD4 := hid2 (HD3.out.low hp ho4 (((Below.refl _ _).alloc hw3 _).trans hb4)); clear ho4 hb4 hz4 hy4)
        go_ret
        exact ⟨_, _, rfl, by have := HL.out; simp; omega, HD4.out⟩
      · have e0 : (y == 0) = false := by simpa using h0
        by_cases h1 : y = 1
        · subst h1
          obtain ⟨g, cap, ev, hg1, hg2⟩ := World.ownsRow.form HD3.out.o (by have := HL.out; omega)
          injection ev with e1 e2 e3
          subst e1 e3
          have ka : Below w3.heap.size w3 (w3.alloc (.cells #[.int .i64 0, .int .i64 5] 3)) := (Below.refl _ _).alloc (Nat.le_refl _) _
          have PK := pick_cb p s n c w3.heap.size 2 [0, 5] (w3.alloc (.cells #[.int .i64 0, .int .i64 5] 3)) (HD3.out.b.alloc _) rfl (by simp) (by simp) (by simp) (by omega) (fun i hi => by match i, hi with | 0, _ => simp [go_sem] | 1, _ => simp [go_sem])
          have HDa := hid2 (show DC w (w3.alloc (.cells #[.int .i64 0, .int .i64 5] 3)) p s n c (.slice (some ⟨g, 0, none⟩) l.length c3) l from ⟨HD3.out.o.alloc _, HD3.out.b.alloc _, but_low HD3.out.t (ka.mono hw3)⟩)
          clear ka
          have hll : 0 < l.length := by have := HL.out; omega
          go_wp2_with (go_at_call 39; refine PK.mono ?_; rintro e w4 ⟨z, rfl, -, hc4, hb4⟩; have HD4 := hid2 (HDa.out.but hp hc4 hb4); clear hc4 hb4; have u0 := World.ownsRow.cellAt HD4.out.o 0 (by omega); have uf := World.ownsRow.frozenAt HD4.out.o 0; obtain ⟨u, hu⟩ : ∃ u, w4.cell? ⟨g, 0, none⟩ = some u := (by rw [u0]; exact ⟨_, List.getElem?_eq_getElem (by simp; omega)⟩); clear u0)
          go_ret
          have st := (World.ownsRow.stored HD4.out.o 0 (.int .i64 z)).1
          refine ⟨_, l.set 0 z, rfl, by have := HL.out; simp; omega, ⟨?_, HD4.out.b.set (by show p < g; omega), ?_⟩⟩
          · show World.ownsRow _ _ _ _ _ (l.set 0 z).length _
            rw [List.length_set, List.map_set]
            exact st
          · exact but_low HD4.out.t ((Below.refl _ _).setCell (p := ⟨g, 0, none⟩) (by show _ ≤ g; omega) _)
        · have e1 : (y == 1) = false := by simpa using h1
          go_wp2
          go_ret
          exact ⟨_, _, rfl, by have := HL.out; omega, HD3.out⟩

end Go.Proofs.YtjnfmecfpjchnaaGreat
