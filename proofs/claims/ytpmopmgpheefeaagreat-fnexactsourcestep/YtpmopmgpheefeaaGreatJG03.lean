/- How programs read as arguments of a law, in a cut that has no sources among them. No condition. How great a program is counted, and that the count is no more than it was. No condition but the lists' own bounds. Rows of numbers that a call has made: how they lie, what keeps them, and append of one number, and of three noughts. Conditions: fewer than 2^40 numbers. -/
import Derived.Test.YtpmopmgpheefeaaGreatJG00
import Derived.Test.YtpmopmgpheefeaaGreatJG02
import Derived.Test.YtpmopmgpheefeaaGreatJG01
import Derived.Test.YtpmopmgpheefeaaGreatJProgCopy
import Derived.Test.YtpmopmgpheefeaaGreatChecked
import Derived.WalkKit
import Derived.KernelRfl
import Derived.WalkSpells
import Derived.WalkLawsBesides
import Derived.Below
import Derived.Laws.OwnMore
import Derived.Deep.AppendLies
namespace Go.Proofs.YtpmopmgpheefeaaGreat
section
set_option linter.unusedSimpArgs false
set_option linter.unusedVariables false
set_option maxRecDepth 100000
open Go.ChangeShapes Go.WideShapes Go.ChangeAt Go.RowKit Go.Deep
theorem list2 {α : Type} {cs : List α} (h : cs.length = 2) : ∃ c0 c1, cs = [c0, c1] := by
 match cs, h with
 | [c0, c1], _ => exact ⟨c0, c1, rfl⟩
theorem list3 {α : Type} {cs : List α} (h : cs.length = 3) : ∃ c0 c1 c2, cs = [c0, c1, c2] := by
 match cs, h with
 | [c0, c1, c2], _ => exact ⟨c0, c1, c2, rfl⟩
theorem cellsBo : Tryz.prog.cellsOf 4 = 1 := by kernel_rfl
theorem ownP : ownKnob Tryz.prog.godebug = none := by kernel_rfl
theorem laidOutP : laidOutB Tryz.prog = true := by kernel_rfl
theorem cellsSl : Tryz.prog.cellsOf 77 = 1 := by kernel_rfl
theorem cellsSi : Tryz.prog.cellsOf 22 = 1 := by kernel_rfl
theorem cellsSS : Tryz.prog.cellsOf 23 = 1 := by kernel_rfl
theorem cellsPr : Tryz.prog.cellsOf 25 = 2 := by kernel_rfl
theorem ints_read {H : Type} {enc : TypeId × Value → H} {w : World} {base : Nat} {held : Bool} {fuel : Nat} {v : Value} {x : DataW H × List MemPlace}
  (hf : DataW.trod enc Tryz.prog w base (fun _ => true) held fuel 22 [v] = some x) :
  ∃ (s : Option Addr) (c : Nat) (l : List Int), v = .slice s l.length c ∧ l.length ≤ maxLen ∧ IntsR w 0 w.heap.size s l := by
 rcases open_ints Tryz.underlying22 Tryz.underlying3 cellsInt hf with ⟨hcs, _⟩ | ⟨a, len, cap, zs, hcs, _, hl, hm, hz, _, hcell, _⟩
 ·simp at hcs
  exact ⟨none, 0, [], hcs, Nat.zero_le _, .inl rfl⟩
 ·simp at hcs hz
  by_cases h0 : len = 0
  ·subst h0
   exact ⟨some a, cap, [], hcs, Nat.zero_le _, .inl rfl⟩
  ·have c0 := hcell 0 (by omega)
   have c0' : w.cell? a = some (.int .i64 (zs.getD 0 0)) := by simpa [Addr.add] using c0
   have hs := World.cell?_spot c0'
   have hg := cell_lt c0'
   obtain ⟨g, off, spot⟩ := a
   simp at hs
   subst hs
   refine ⟨some ⟨g, off, none⟩, cap, zs.take len, ?_, ?_, .inr ⟨g, off, rfl, Nat.zero_le _, hg, ?_⟩⟩
   ·rw [hcs]
    congr 1
    simp
    omega
   ·simp
    omega
   ·intro i hi
    have hi' : i < len := by simp at hi; omega
    have := hcell i (by omega)
    rw [add_plain] at this
    rw [this]
    simp [List.getD_eq_getElem?_getD, List.getElem?_take, hi']
theorem insS_read {H : Type} {enc : TypeId × Value → H} {w : World} {base : Nat} {held : Bool} {fuel : Nat} {v : Value} {x : DataW H × List MemPlace}
  (hf : DataW.trod enc Tryz.prog w base (fun _ => true) held fuel 77 [v] = some x) :
  ∃ (s : Option Addr) (c : Nat) (l : List I5), v = .slice s l.length c ∧ l.length ≤ maxLen ∧ InsR w 0 w.heap.size s l := by
 rcases open_slice Tryz.underlying77 hf with ⟨hcs, -⟩ | ⟨a, len, cap, m, n, D, Pl, hcs, -, hl, hm, hmm, -, hel⟩
 ·simp at hcs
  exact ⟨none, 0, [], hcs, Nat.zero_le _, .inl rfl⟩
 ·simp at hcs
  rw [cellsIns] at hel
  have hle : len ≤ m := by rw [hmm]; split <;> omega
  by_cases h0 : len = 0
  ·subst h0
   exact ⟨some a, cap, [], hcs, Nat.zero_le _, .inl rfl⟩
  ·obtain ⟨cs0, h1, h2⟩ := hel 0 (by omega)
   obtain ⟨hs, hg⟩ := insS_spot h1 h2
   obtain ⟨g, off, spot⟩ := a
   simp at hs
   subst hs
   obtain ⟨V, hV⟩ := @choose_lt I5 ⟨z5⟩ len (fun i y => At5 w g (off + i * 5) y) (fun i hi => by
    obtain ⟨cs', h1, h2⟩ := hel i (by omega)
    exact insS_at h1 h2)
   refine ⟨some ⟨g, off, none⟩, cap, (List.range len).map V, by simp [hcs], by simp; omega, .inr ⟨g, off, rfl, Nat.zero_le _, hg, ?_⟩⟩
   intro i hi
   simp at hi
   have e : ((List.range len).map V).getD i z5 = V i := by simp [hi]
   rw [e]
   exact hV i hi
theorem bods_read {H : Type} {enc : TypeId × Value → H} {w : World} {base : Nat} {held : Bool} {fuel : Nat} {v : Value} {x : DataW H × List MemPlace}
  (hf : DataW.trod enc Tryz.prog w base (fun _ => true) held fuel 23 [v] = some x) :
  ∃ (s : Option Addr) (c : Nat) (l : List (List I5)), v = .slice s l.length c ∧ l.length ≤ maxLen ∧ (∀ i, i < l.length → (l.getD i []).length ≤ maxLen) ∧ BodsR w 0 w.heap.size s l := by
 rcases open_slice1 Tryz.underlying23 cellsSl hf with ⟨hcs, -⟩ | ⟨a, len, cap, m, n, V, D, Pl, hcs, -, hl, hm, hmm, -, hel⟩
 ·simp at hcs
  exact ⟨none, 0, [], hcs, Nat.zero_le _, fun i hi => absurd hi (Nat.not_lt_zero _), .inl rfl⟩
 ·simp at hcs
  have hle : len ≤ m := by rw [hmm]; split <;> omega
  by_cases h0 : len = 0
  ·subst h0
   exact ⟨some a, cap, [], hcs, Nat.zero_le _, fun i hi => absurd hi (Nat.not_lt_zero _), .inl rfl⟩
  ·obtain ⟨c0, -⟩ := hel 0 (by omega)
   have c0' : w.cell? a = some (V 0) := by simpa [Addr.add] using c0
   have hs := World.cell?_spot c0'
   have hg := cell_lt c0'
   obtain ⟨g, off, spot⟩ := a
   simp at hs
   subst hs
   obtain ⟨L, hL⟩ := @choose_lt (List I5) ⟨[]⟩ len (fun i l => BodR w 0 w.heap.size g (off + i) l ∧ l.length ≤ maxLen) (fun i hi => by
    obtain ⟨h1, h2⟩ := hel i (by omega)
    obtain ⟨s, c, l, hv, hlm, hin⟩ := insS_read h2
    rw [add_plain, hv] at h1
    exact ⟨l, ⟨s, c, h1, hin⟩, hlm⟩)
   have e : ∀ i, i < len → ((List.range len).map L).getD i [] = L i := fun i hi => by simp [hi]
   refine ⟨some ⟨g, off, none⟩, cap, (List.range len).map L, by simp [hcs], by simp; omega, ?_, .inr ⟨g, off, rfl, Nat.zero_le _, hg, ?_⟩⟩
   ·intro i hi
    simp at hi
    rw [e i hi]
    exact (hL i hi).2
   ·intro i hi
    simp at hi
    rw [e i hi]
    exact (hL i hi).1
theorem open_prog {H : Type} {enc : TypeId × Value → H} {w : World} {base b0 : Nat} {held : Bool} {k : Reach} {v : Value} {d : DataW H} {q : List MemPlace}
  (hv : Value.okWide Tryz.prog w k b0 25 v) (h : DataW.Trod enc Tryz.prog w base (fun _ => true) held 25 v d q) :
  ∃ (s s' : Option Addr) (c c' : Nat) (p : PD), v = .agg #[.slice s p.caps.length c, .slice s' p.bods.length c'] ∧ p.caps.length ≤ maxLen ∧ p.bods.length ≤ maxLen ∧ (∀ i, i < p.bods.length → (p.bods.getD i []).length ≤ maxLen) ∧ ProgR w 0 w.heap.size s s' p := by
 obtain ⟨cs, rfl, hsz⟩ := okWide_struct Tryz.underlying25 hv
 obtain ⟨fuel, hf⟩ := h
 obtain ⟨xs, n, _, _, hl, hlen, hfs⟩ := DataW.trod_struct Tryz.underlying25 hf
 rw [cellsPr] at hl
 obtain ⟨l⟩ := cs
 have hl' : l.length = 2 := by simpa [Value.cells] using hl
 obtain ⟨c0, c1, rfl⟩ := list2 hl'
 obtain ⟨y0, y1, rfl⟩ := list2 (hlen.trans rfl)
 have g0 := hfs 0 _ rfl
 have g1 := hfs 1 _ rfl
 simp [cellsSi, cellsSS, Value.cells] at g0 g1
 obtain ⟨s, c, a, rfl, ha, hA⟩ := ints_read g0
 obtain ⟨s', c', b, rfl, hb, hb', hB⟩ := bods_read g1
 exact ⟨s, s', c, c', ⟨a, b⟩, rfl, ha, hb, hb', hA, hB⟩
end
section
set_option linter.unusedSimpArgs false
set_option linter.unusedVariables false
set_option maxRecDepth 100000
open Go.RowKit
set_option maxHeartbeats 400000 in
theorem szInsSS_le (s : Option Addr) (c lo hi : Nat) (l : List (List I5)) (q : Int) (w : World) (h : BodsR w lo hi s l) (hn : l.length ≤ maxLen) (hls : ∀ i, i < l.length → (l.getD i []).length ≤ maxLen) (hq : 0 ≤ q) (hq' : q ≤ 1048576) :
  Calls Tryz.prog 16 #[.slice s l.length c, .int .i64 q] w fun e w' => (∃ v : Int, e = .returned (.int .i64 v) ∧ (v < 0 ∨ (0 ≤ v ∧ v ≤ 1048576 ∧ l.length ≤ 1048576 ∧ ∀ i, i < l.length → (l.getD i []).length ≤ 1048576))) ∧ w' = w := by
 unfold maxLen at hn
 have HLS : Hid (∀ i, i < l.length → (l.getD i []).length ≤ maxLen) := hls
 clear hls
 by_cases hb : q < (l.length : Int)
 ·have h1 : q - (l.length : Int) < 0 := by omega
  go_enter Tryz.func16, Tryz.ntmps16
  go_wp2
  go_ret
  exact ⟨⟨-1, rfl, .inl (by omega)⟩, rfl⟩
 ·have h1 : ¬ q - (l.length : Int) < 0 := by omega
  rcases h with rfl | ⟨g, off, rfl, -, -, hc⟩
  ·have h2 : ¬ q < 0 := by omega
   simp at h1
   go_enter Tryz.func16, Tryz.ntmps16
   go_wp2
   go_loop [1, 5] (fun a i => i = .int .i64 0 ∧ a = .int .i64 q) (fun _ _ => 0)
   case atStart => exact ⟨rfl, by simp⟩
   case round =>
    obtain ⟨rfl, rfl⟩ := hrel
    go_wp2
    go_ret
    exact ⟨⟨q, rfl, by first | exact .inr ⟨hq, hq'⟩ | exact .inr ⟨hq, hq', by simp, by simp⟩⟩, rfl⟩
  ·have HC : Hid (∀ i, i < l.length → BodR w lo hi g (off + i) (l.getD i [])) := hc
   clear hc
   go_enter Tryz.func16, Tryz.ntmps16
   go_wp2
   go_loop [1, 5] (fun a i => ∃ (k : Nat) (v : Int), k ≤ l.length ∧ i = .int .i64 k ∧ a = .int .i64 v ∧ 0 ≤ v ∧ v ≤ 1048576 ∧ (∀ i, i < k → (l.getD i []).length ≤ 1048576)) (fun _ i => l.length - (intOf i).toNat)
   case atStart => exact ⟨0, _, Nat.zero_le _, rfl, rfl, by omega, by omega, fun i hi => absurd hi (Nat.not_lt_zero _)⟩
   case round =>
    obtain ⟨k, v, hk, rfl, rfl, hv, hv', hd⟩ := hrel
    have HD : Hid (∀ i, i < k → (l.getD i []).length ≤ 1048576) := hd
    clear hd
    by_cases hlt : k < l.length
    ·obtain ⟨s, cc, f0, -⟩ := HC.out k hlt
     have hm := HLS.out k hlt
     generalize hx : (l.getD k []).length = n at f0 hm
     have HX : Hid ((l.getD k []).length = n) := hx
     clear hx
     have b0 : (0 : Int) ≤ (k : Int) := by omega
     have b1 : (k : Int) < (l.length : Int) := by omega
     by_cases hvn : v < (n : Int)
     ·go_wp2_with (go_at_call 45; refine (szInsS_all _ _ _ _ _ hm hv hv').mono ?_; rintro e w' ⟨rfl, hw⟩; have hw' := hw.symm; clear hw; subst hw'; rw [if_pos hvn])
      go_ret
      exact ⟨⟨-1, rfl, .inl (by omega)⟩, rfl⟩
     ·have hnn : ¬ v - (n : Int) < 0 := by omega
      go_wp2_with (go_at_call 45; refine (szInsS_all _ _ _ _ _ hm hv hv').mono ?_; rintro e w' ⟨rfl, hw⟩; have hw' := hw.symm; clear hw; subst hw'; rw [if_neg hvn])
      go_round
      case rel =>
       refine ⟨k + 1, _, by omega, by go_num, rfl, by omega, by omega, ?_⟩
       intro i hi
       by_cases e : i = k
       ·subst e; rw [HX.out]; omega
       ·exact HD.out i (by omega)
      case measure => simp [intOf]; omega
    ·go_wp2
     go_ret
     have : k = l.length := by omega
     subst this
     exact ⟨⟨v, rfl, .inr ⟨hv, hv', by omega, HD.out⟩⟩, rfl⟩
set_option maxHeartbeats 400000 in
theorem szProg_le (s s' : Option Addr) (c c' lo hi : Nat) (p : PD) (w : World) (h : ProgR w lo hi s s' p) (hB : hi ≤ w.heap.size) (hn : p.caps.length ≤ maxLen) (hn' : p.bods.length ≤ maxLen) (hls : ∀ i, i < p.bods.length → (p.bods.getD i []).length ≤ maxLen) :
  Calls Tryz.prog 4 #[.agg #[.slice s p.caps.length c, .slice s' p.bods.length c'], .int .i64 1048576] w fun e w' => (∃ v : Int, e = .returned (.int .i64 v) ∧ (v < 0 ∨ (0 ≤ v ∧ v ≤ 1048576 ∧ Fits p))) ∧ Below w.heap.size w w' := by
 obtain ⟨-, h2⟩ := h
 by_cases hb : (1048576 : Int) < p.caps.length
 ·go_enter Tryz.func4, Tryz.ntmps4
  go_wp2_with (go_at_call 15; refine (szIntS_any _ _ _ _ _ hn (by omega) (by omega)).mono ?_; rintro e w' ⟨rfl, hw⟩; have hw' := hw.symm; clear hw; subst hw'; rw [if_pos hb])
  go_ret
  exact ⟨⟨-1, rfl, .inl (by omega)⟩, (Below.refl _ _).alloc (Nat.le_refl _) _⟩
 ·have hnn : ¬ (1048576 : Int) - (p.caps.length : Int) < 0 := by omega
  have H2 : Hid (BodsR w lo hi s' p.bods) := h2
  clear h2
  go_enter Tryz.func4, Tryz.ntmps4
  go_wp2_with (go_at_call 15; refine (szIntS_any _ _ _ _ _ hn (by omega) (by omega)).mono ?_; rintro e w' ⟨rfl, hw⟩; have hw' := hw.symm; clear hw; subst hw'; rw [if_neg hb])
  refine (szInsSS_le s' c' lo hi p.bods _ _ (H2.out.keep (Keep.of_below ((Below.refl _ _).alloc (Nat.le_refl _) _) hB)) hn' hls (by omega) (by omega)).mono ?_
  rintro e w' ⟨⟨v, rfl, hv⟩, rfl⟩
  rcases hv with hv | ⟨hv, hv2, hf1, hf2⟩
  ·go_wp2
   go_ret
   exact ⟨⟨-1, rfl, .inl (by omega)⟩, (Below.refl _ _).alloc (Nat.le_refl _) _⟩
  ·have hv1 : ¬ v < 0 := by omega
   have HF : Hid (∀ i, i < p.bods.length → (p.bods.getD i []).length ≤ 1048576) := hf2
   clear hf2
   go_wp2
   go_ret
   exact ⟨⟨v, rfl, .inr ⟨hv, hv2, by omega, hf1, HF.out⟩⟩, (Below.refl _ _).alloc (Nat.le_refl _) _⟩
end
section
set_option linter.unusedSimpArgs false
set_option linter.unusedVariables false
set_option maxRecDepth 100000
open Go.RowKit
def OwnN (w : World) (base : Nat) (v : Value) (ls : List Int) : Prop := w.ownsRow base 3 1 v ls.length (ls.map (Value.int .i64))
theorem infoInt : ∃ i, Tryz.prog.info? 3 = some i ∧ i.zero = some (.int .i64 0) ∧ i.size = 1 ∧ i.bytes = 8 := ⟨_, rfl, rfl, rfl, rfl⟩
theorem ownN_empty {w : World} {base : Nat} (hb : base ≤ w.heap.size) : OwnN (w.alloc (.cells #[] 3)) base (.slice (some ⟨w.heap.size, 0, none⟩) 0 0) [] :=
 World.ownsRow_lit w #[] 0 hb (by unfold maxLen; omega) rfl
theorem OwnN.keep {w w' : World} {base : Nat} {v : Value} {ls : List Int} (h : OwnN w base v ls) (hb : ∀ k, base ≤ k → k < w.heap.size → w'.heap[k]? = w.heap[k]?) : OwnN w' base v ls := by
 obtain ⟨h1, h2⟩ := h
 refine ⟨h1, ?_⟩
 rcases h2 with h2 | ⟨g, cap, cur, a, b, c, d⟩
 ·exact .inl h2
 ·have hlt : g < w.heap.size := (Array.getElem?_eq_some_iff.1 c).1
  exact .inr ⟨g, cap, cur, a, b, (hb g b hlt).trans c, d⟩
theorem OwnN.below {w w' : World} {base : Nat} {v : Value} {ls : List Int} (h : OwnN w base v ls) (hb : Below w.heap.size w w') : OwnN w' base v ls := h.keep fun k _ hk => hb.block k hk
theorem OwnN.alloc {w : World} {base : Nat} {v : Value} {ls : List Int} (h : OwnN w base v ls) (o : Obj) : OwnN (w.alloc o) base v ls := h.keep fun k _ hk => Below.heap_alloc _ _ _ hk
theorem OwnN.cell {w : World} {base g cap : Nat} {ls : List Int} (h : OwnN w base (.slice (some ⟨g, 0, none⟩) ls.length cap) ls) {i : Nat} (hi : i < ls.length) : w.cell? ⟨g, i, none⟩ = some (.int .i64 (ls.getD i 0)) := by
 rw [World.ownsRow.cellAt h i (by omega)]
 simp [List.getD_eq_getElem?_getD, List.getElem?_eq_getElem hi]
theorem OwnN.sl {w : World} {base : Nat} {v : Value} {ls : List Int} (h : OwnN w base v ls) : ∃ s cap, v = .slice s ls.length cap := by
 rcases h.2 with ⟨h1, h2⟩ | ⟨g, cap, cur, a, -⟩
 ·exact ⟨none, 0, by rw [h1, h2]⟩
 ·exact ⟨_, _, a⟩
theorem newN1 (w : World) (u : Value) : ∀ j v, [u][j]? = some v → (w.alloc (.cells #[u] 3)).cell? (Addr.add ⟨w.heap.size, 0, none⟩ j) = some v := by
 intro j v h
 match j, h with
 | 0, h => simpa [Addr.add, go_sem] using h
 | j + 1, h => simp at h
end
end Go.Proofs.YtpmopmgpheefeaaGreat
