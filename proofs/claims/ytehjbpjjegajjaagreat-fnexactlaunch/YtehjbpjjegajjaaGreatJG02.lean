/- How programs read as arguments of a law, in a cut that has no sources among them. No condition. How great a program is counted, and that the count is no more than it was. No condition but the lists' own bounds. Rows of numbers that a call has made: how they lie, what keeps them, and append of one number, and of three noughts. Conditions: fewer than 2^40 numbers. Rows of integers that a call has made: kept, copied, written over, looked at again; boxes; what a call that writes over a row leaves. Conditions: at most 2^20 + 1 integers. Rows of rows of places that a call has made, with what they hold: each inner row has a block of its own. Conditions: fewer than 2^30 rows, fewer than 2^30 places in each. -/
import Derived.Test.YtehjbpjjegajjaaGreatJG00
import Derived.Test.YtehjbpjjegajjaaGreatJG01
import Derived.Test.YtehjbpjjegajjaaGreatChecked
import Derived.WalkKit
import Derived.KernelRfl
import Derived.WalkSpells
import Derived.WalkLawsBesides
import Derived.Below
import Derived.Laws.OwnMore
import Derived.Deep.AppendLies
namespace Go.Proofs.YtehjbpjjegajjaaGreat
section
set_option linter.unusedSimpArgs false
set_option linter.unusedVariables false
set_option maxRecDepth 100000
open Go.ChangeShapes Go.WideShapes Go.ChangeAt Go.RowKit Go.Deep
theorem list2 {α : Type} {cs : List α} (h : cs.length = 2) : ∃ c0 c1, cs = [c0, c1] := by
 match cs, h with
 | [c0, c1], _ => exact ⟨c0, c1, rfl⟩
theorem ownP : ownKnob Tryz.prog.godebug = none := by kernel_rfl
theorem laidOutP : laidOutB Tryz.prog = true := by kernel_rfl
theorem cellsSl : Tryz.prog.cellsOf 65 = 1 := by kernel_rfl
theorem cellsSi : Tryz.prog.cellsOf 22 = 1 := by kernel_rfl
theorem cellsSS : Tryz.prog.cellsOf 23 = 1 := by kernel_rfl
theorem cellsPr : Tryz.prog.cellsOf 25 = 2 := by kernel_rfl
theorem ints_read {H : Type} {enc : TypeId × Value → H} {w : World} {base : Nat} {held : Bool} {fuel : Nat} {v : Value} {x : DataW H × List MemPlace}
  (hf : DataW.trod enc Tryz.prog w base (fun _ => true) held fuel 22 [v] = some x) :
  ∃ (s : Option Addr) (c : Nat) (l : List Int), v = .slice s l.length c ∧ l.length ≤ maxLen ∧ IntsR w 0 w.heap.size s l := by
 rcases open_ints Tryz.underlying22 Tryz.underlying3 cellsInt hf with ⟨hcs, _⟩ | ⟨a, len, cap, zs, hcs, _, hl, hm, hz, _, hcell, _⟩
 ·simp at hcs
  exact ⟨none, 0, [], hcs, Nat.zero_le _, .inl rfl⟩
 ·simp at hcs hz
  by_cases h0 : len = 0
  ·subst h0
   exact ⟨some a, cap, [], hcs, Nat.zero_le _, .inl rfl⟩
  ·have c0 := hcell 0 (by omega)
   have c0' : w.cell? a = some (.int .i64 (zs.getD 0 0)) := by simpa [Addr.add] using c0
   have hs := World.cell?_spot c0'
   have hg := cell_lt c0'
   obtain ⟨g, off, spot⟩ := a
   simp at hs
   subst hs
   refine ⟨some ⟨g, off, none⟩, cap, zs.take len, ?_, ?_, .inr ⟨g, off, rfl, Nat.zero_le _, hg, ?_⟩⟩
   ·rw [hcs]
    congr 1
    simp
    omega
   ·simp
    omega
   ·intro i hi
    have hi' : i < len := by simp at hi; omega
    have := hcell i (by omega)
    rw [add_plain] at this
    rw [this]
    simp [List.getD_eq_getElem?_getD, List.getElem?_take, hi']
theorem insS_read {H : Type} {enc : TypeId × Value → H} {w : World} {base : Nat} {held : Bool} {fuel : Nat} {v : Value} {x : DataW H × List MemPlace}
  (hf : DataW.trod enc Tryz.prog w base (fun _ => true) held fuel 65 [v] = some x) :
  ∃ (s : Option Addr) (c : Nat) (l : List I5), v = .slice s l.length c ∧ l.length ≤ maxLen ∧ InsR w 0 w.heap.size s l := by
 rcases open_slice Tryz.underlying65 hf with ⟨hcs, -⟩ | ⟨a, len, cap, m, n, D, Pl, hcs, -, hl, hm, hmm, -, hel⟩
 ·simp at hcs
  exact ⟨none, 0, [], hcs, Nat.zero_le _, .inl rfl⟩
 ·simp at hcs
  rw [cellsIns] at hel
  have hle : len ≤ m := by rw [hmm]; split <;> omega
  by_cases h0 : len = 0
  ·subst h0
   exact ⟨some a, cap, [], hcs, Nat.zero_le _, .inl rfl⟩
  ·obtain ⟨cs0, h1, h2⟩ := hel 0 (by omega)
   obtain ⟨hs, hg⟩ := insS_spot h1 h2
   obtain ⟨g, off, spot⟩ := a
   simp at hs
   subst hs
   obtain ⟨V, hV⟩ := @choose_lt I5 ⟨z5⟩ len (fun i y => At5 w g (off + i * 5) y) (fun i hi => by
    obtain ⟨cs', h1, h2⟩ := hel i (by omega)
    exact insS_at h1 h2)
   refine ⟨some ⟨g, off, none⟩, cap, (List.range len).map V, by simp [hcs], by simp; omega, .inr ⟨g, off, rfl, Nat.zero_le _, hg, ?_⟩⟩
   intro i hi
   simp at hi
   have e : ((List.range len).map V).getD i z5 = V i := by simp [hi]
   rw [e]
   exact hV i hi
theorem bods_read {H : Type} {enc : TypeId × Value → H} {w : World} {base : Nat} {held : Bool} {fuel : Nat} {v : Value} {x : DataW H × List MemPlace}
  (hf : DataW.trod enc Tryz.prog w base (fun _ => true) held fuel 23 [v] = some x) :
  ∃ (s : Option Addr) (c : Nat) (l : List (List I5)), v = .slice s l.length c ∧ l.length ≤ maxLen ∧ (∀ i, i < l.length → (l.getD i []).length ≤ maxLen) ∧ BodsR w 0 w.heap.size s l := by
 rcases open_slice1 Tryz.underlying23 cellsSl hf with ⟨hcs, -⟩ | ⟨a, len, cap, m, n, V, D, Pl, hcs, -, hl, hm, hmm, -, hel⟩
 ·simp at hcs
  exact ⟨none, 0, [], hcs, Nat.zero_le _, fun i hi => absurd hi (Nat.not_lt_zero _), .inl rfl⟩
 ·simp at hcs
  have hle : len ≤ m := by rw [hmm]; split <;> omega
  by_cases h0 : len = 0
  ·subst h0
   exact ⟨some a, cap, [], hcs, Nat.zero_le _, fun i hi => absurd hi (Nat.not_lt_zero _), .inl rfl⟩
  ·obtain ⟨c0, -⟩ := hel 0 (by omega)
   have c0' : w.cell? a = some (V 0) := by simpa [Addr.add] using c0
   have hs := World.cell?_spot c0'
   have hg := cell_lt c0'
   obtain ⟨g, off, spot⟩ := a
   simp at hs
   subst hs
   obtain ⟨L, hL⟩ := @choose_lt (List I5) ⟨[]⟩ len (fun i l => BodR w 0 w.heap.size g (off + i) l ∧ l.length ≤ maxLen) (fun i hi => by
    obtain ⟨h1, h2⟩ := hel i (by omega)
    obtain ⟨s, c, l, hv, hlm, hin⟩ := insS_read h2
    rw [add_plain, hv] at h1
    exact ⟨l, ⟨s, c, h1, hin⟩, hlm⟩)
   have e : ∀ i, i < len → ((List.range len).map L).getD i [] = L i := fun i hi => by simp [hi]
   refine ⟨some ⟨g, off, none⟩, cap, (List.range len).map L, by simp [hcs], by simp; omega, ?_, .inr ⟨g, off, rfl, Nat.zero_le _, hg, ?_⟩⟩
   ·intro i hi
    simp at hi
    rw [e i hi]
    exact (hL i hi).2
   ·intro i hi
    simp at hi
    rw [e i hi]
    exact (hL i hi).1
theorem open_prog {H : Type} {enc : TypeId × Value → H} {w : World} {base b0 : Nat} {held : Bool} {k : Reach} {v : Value} {d : DataW H} {q : List MemPlace}
  (hv : Value.okWide Tryz.prog w k b0 25 v) (h : DataW.Trod enc Tryz.prog w base (fun _ => true) held 25 v d q) :
  ∃ (s s' : Option Addr) (c c' : Nat) (p : PD), v = .agg #[.slice s p.caps.length c, .slice s' p.bods.length c'] ∧ p.caps.length ≤ maxLen ∧ p.bods.length ≤ maxLen ∧ (∀ i, i < p.bods.length → (p.bods.getD i []).length ≤ maxLen) ∧ ProgR w 0 w.heap.size s s' p := by
 obtain ⟨cs, rfl, hsz⟩ := okWide_struct Tryz.underlying25 hv
 obtain ⟨fuel, hf⟩ := h
 obtain ⟨xs, n, _, _, hl, hlen, hfs⟩ := DataW.trod_struct Tryz.underlying25 hf
 rw [cellsPr] at hl
 obtain ⟨l⟩ := cs
 have hl' : l.length = 2 := by simpa [Value.cells] using hl
 obtain ⟨c0, c1, rfl⟩ := list2 hl'
 obtain ⟨y0, y1, rfl⟩ := list2 (hlen.trans rfl)
 have g0 := hfs 0 _ rfl
 have g1 := hfs 1 _ rfl
 simp [cellsSi, cellsSS, Value.cells] at g0 g1
 obtain ⟨s, c, a, rfl, ha, hA⟩ := ints_read g0
 obtain ⟨s', c', b, rfl, hb, hb', hB⟩ := bods_read g1
 exact ⟨s, s', c, c', ⟨a, b⟩, rfl, ha, hb, hb', hA, hB⟩
end
section
set_option linter.unusedSimpArgs false
set_option linter.unusedVariables false
set_option maxRecDepth 100000
open Go.RowKit
set_option maxHeartbeats 400000 in
theorem szInsSS_le (s : Option Addr) (c lo hi : Nat) (l : List (List I5)) (q : Int) (w : World) (h : BodsR w lo hi s l) (hn : l.length ≤ maxLen) (hls : ∀ i, i < l.length → (l.getD i []).length ≤ maxLen) (hq : 0 ≤ q) (hq' : q ≤ 1048576) :
  Calls Tryz.prog 14 #[.slice s l.length c, .int .i64 q] w fun e w' => (∃ v : Int, e = .returned (.int .i64 v) ∧ (v < 0 ∨ (0 ≤ v ∧ v ≤ 1048576 ∧ l.length ≤ 1048576 ∧ ∀ i, i < l.length → (l.getD i []).length ≤ 1048576))) ∧ w' = w := by
 unfold maxLen at hn
 have HLS : Hid (∀ i, i < l.length → (l.getD i []).length ≤ maxLen) := hls
 clear hls
 by_cases hb : q < (l.length : Int)
 ·have h1 : q - (l.length : Int) < 0 := by omega
  go_enter Tryz.func14, Tryz.ntmps14
  go_wp2
  go_ret
  exact ⟨⟨-1, rfl, .inl (by omega)⟩, rfl⟩
 ·have h1 : ¬ q - (l.length : Int) < 0 := by omega
  rcases h with rfl | ⟨g, off, rfl, -, -, hc⟩
  ·have h2 : ¬ q < 0 := by omega
   simp at h1
   go_enter Tryz.func14, Tryz.ntmps14
   go_wp2
   go_loop [1, 5] (fun a i => i = .int .i64 0 ∧ a = .int .i64 q) (fun _ _ => 0)
   case atStart => exact ⟨rfl, by simp⟩
   case round =>
    obtain ⟨rfl, rfl⟩ := hrel
    go_wp2
    go_ret
    exact ⟨⟨q, rfl, by first | exact .inr ⟨hq, hq'⟩ | exact .inr ⟨hq, hq', by simp, by simp⟩⟩, rfl⟩
  ·have HC : Hid (∀ i, i < l.length → BodR w lo hi g (off + i) (l.getD i [])) := hc
   clear hc
   go_enter Tryz.func14, Tryz.ntmps14
   go_wp2
   go_loop [1, 5] (fun a i => ∃ (k : Nat) (v : Int), k ≤ l.length ∧ i = .int .i64 k ∧ a = .int .i64 v ∧ 0 ≤ v ∧ v ≤ 1048576 ∧ (∀ i, i < k → (l.getD i []).length ≤ 1048576)) (fun _ i => l.length - (intOf i).toNat)
   case atStart => exact ⟨0, _, Nat.zero_le _, rfl, rfl, by omega, by omega, fun i hi => absurd hi (Nat.not_lt_zero _)⟩
   case round =>
    obtain ⟨k, v, hk, rfl, rfl, hv, hv', hd⟩ := hrel
    have HD : Hid (∀ i, i < k → (l.getD i []).length ≤ 1048576) := hd
    clear hd
    by_cases hlt : k < l.length
    ·obtain ⟨s, cc, f0, -⟩ := HC.out k hlt
     have hm := HLS.out k hlt
     generalize hx : (l.getD k []).length = n at f0 hm
     have HX : Hid ((l.getD k []).length = n) := hx
     clear hx
     have b0 : (0 : Int) ≤ (k : Int) := by omega
     have b1 : (k : Int) < (l.length : Int) := by omega
     by_cases hvn : v < (n : Int)
     ·go_wp2_with (go_at_call 37; refine (szInsS_all _ _ _ _ _ hm hv hv').mono ?_; rintro e w' ⟨rfl, hw⟩; have hw' := hw.symm; clear hw; subst hw'; rw [if_pos hvn])
      go_ret
      exact ⟨⟨-1, rfl, .inl (by omega)⟩, rfl⟩
     ·have hnn : ¬ v - (n : Int) < 0 := by omega
      go_wp2_with (go_at_call 37; refine (szInsS_all _ _ _ _ _ hm hv hv').mono ?_; rintro e w' ⟨rfl, hw⟩; have hw' := hw.symm; clear hw; subst hw'; rw [if_neg hvn])
      go_round
      case rel =>
       refine ⟨k + 1, _, by omega, by go_num, rfl, by omega, by omega, ?_⟩
       intro i hi
       by_cases e : i = k
       ·subst e; rw [HX.out]; omega
       ·exact HD.out i (by omega)
      case measure => simp [intOf]; omega
    ·go_wp2
     go_ret
     have : k = l.length := by omega
     subst this
     exact ⟨⟨v, rfl, .inr ⟨hv, hv', by omega, HD.out⟩⟩, rfl⟩
set_option maxHeartbeats 400000 in
theorem szProg_le (s s' : Option Addr) (c c' lo hi : Nat) (p : PD) (w : World) (h : ProgR w lo hi s s' p) (hB : hi ≤ w.heap.size) (hn : p.caps.length ≤ maxLen) (hn' : p.bods.length ≤ maxLen) (hls : ∀ i, i < p.bods.length → (p.bods.getD i []).length ≤ maxLen) :
  Calls Tryz.prog 4 #[.agg #[.slice s p.caps.length c, .slice s' p.bods.length c'], .int .i64 1048576] w fun e w' => (∃ v : Int, e = .returned (.int .i64 v) ∧ (v < 0 ∨ (0 ≤ v ∧ v ≤ 1048576 ∧ Fits p))) ∧ Below w.heap.size w w' := by
 obtain ⟨-, h2⟩ := h
 by_cases hb : (1048576 : Int) < p.caps.length
 ·go_enter Tryz.func4, Tryz.ntmps4
  go_wp2_with (go_at_call 13; refine (szIntS_any _ _ _ _ _ hn (by omega) (by omega)).mono ?_; rintro e w' ⟨rfl, hw⟩; have hw' := hw.symm; clear hw; subst hw'; rw [if_pos hb])
  go_ret
  exact ⟨⟨-1, rfl, .inl (by omega)⟩, (Below.refl _ _).alloc (Nat.le_refl _) _⟩
 ·have hnn : ¬ (1048576 : Int) - (p.caps.length : Int) < 0 := by omega
  have H2 : Hid (BodsR w lo hi s' p.bods) := h2
  clear h2
  go_enter Tryz.func4, Tryz.ntmps4
  go_wp2_with (go_at_call 13; refine (szIntS_any _ _ _ _ _ hn (by omega) (by omega)).mono ?_; rintro e w' ⟨rfl, hw⟩; have hw' := hw.symm; clear hw; subst hw'; rw [if_neg hb])
  refine (szInsSS_le s' c' lo hi p.bods _ _ (H2.out.keep (Keep.of_below ((Below.refl _ _).alloc (Nat.le_refl _) _) hB)) hn' hls (by omega) (by omega)).mono ?_
  rintro e w' ⟨⟨v, rfl, hv⟩, rfl⟩
  rcases hv with hv | ⟨hv, hv2, hf1, hf2⟩
  ·go_wp2
   go_ret
   exact ⟨⟨-1, rfl, .inl (by omega)⟩, (Below.refl _ _).alloc (Nat.le_refl _) _⟩
  ·have hv1 : ¬ v < 0 := by omega
   have HF : Hid (∀ i, i < p.bods.length → (p.bods.getD i []).length ≤ 1048576) := hf2
   clear hf2
   go_wp2
   go_ret
   exact ⟨⟨v, rfl, .inr ⟨hv, hv2, by omega, hf1, HF.out⟩⟩, (Below.refl _ _).alloc (Nat.le_refl _) _⟩
end
section
set_option linter.unusedSimpArgs false
set_option linter.unusedVariables false
set_option maxRecDepth 100000
open Go.RowKit
def OwnN (w : World) (base : Nat) (v : Value) (ls : List Int) : Prop := w.ownsRow base 3 1 v ls.length (ls.map (Value.int .i64))
theorem infoInt : ∃ i, Tryz.prog.info? 3 = some i ∧ i.zero = some (.int .i64 0) ∧ i.size = 1 ∧ i.bytes = 8 := ⟨_, rfl, rfl, rfl, rfl⟩
theorem ownN_empty {w : World} {base : Nat} (hb : base ≤ w.heap.size) : OwnN (w.alloc (.cells #[] 3)) base (.slice (some ⟨w.heap.size, 0, none⟩) 0 0) [] :=
 World.ownsRow_lit w #[] 0 hb (by unfold maxLen; omega) rfl
theorem OwnN.keep {w w' : World} {base : Nat} {v : Value} {ls : List Int} (h : OwnN w base v ls) (hb : ∀ k, base ≤ k → k < w.heap.size → w'.heap[k]? = w.heap[k]?) : OwnN w' base v ls := by
 obtain ⟨h1, h2⟩ := h
 refine ⟨h1, ?_⟩
 rcases h2 with h2 | ⟨g, cap, cur, a, b, c, d⟩
 ·exact .inl h2
 ·have hlt : g < w.heap.size := (Array.getElem?_eq_some_iff.1 c).1
  exact .inr ⟨g, cap, cur, a, b, (hb g b hlt).trans c, d⟩
theorem OwnN.alloc {w : World} {base : Nat} {v : Value} {ls : List Int} (h : OwnN w base v ls) (o : Obj) : OwnN (w.alloc o) base v ls := h.keep fun k _ hk => Below.heap_alloc _ _ _ hk
theorem OwnN.cell {w : World} {base g cap : Nat} {ls : List Int} (h : OwnN w base (.slice (some ⟨g, 0, none⟩) ls.length cap) ls) {i : Nat} (hi : i < ls.length) : w.cell? ⟨g, i, none⟩ = some (.int .i64 (ls.getD i 0)) := by
 rw [World.ownsRow.cellAt h i (by omega)]
 simp [List.getD_eq_getElem?_getD, List.getElem?_eq_getElem hi]
theorem newN1 (w : World) (u : Value) : ∀ j v, [u][j]? = some v → (w.alloc (.cells #[u] 3)).cell? (Addr.add ⟨w.heap.size, 0, none⟩ j) = some v := by
 intro j v h
 match j, h with
 | 0, h => simpa [Addr.add, go_sem] using h
 | j + 1, h => simp at h
end
section
set_option linter.unusedSimpArgs false
set_option linter.unusedVariables false
set_option maxRecDepth 100000
open Go.RowKit
theorem ownKeep' {w w' : World} {base : Nat} {e : TypeId} {size n : Nat} {v : Value} {xs : List Value} (h : w.ownsRow base e size v n xs) (hb : ∀ k, v.ownBlock = some k → w'.heap[k]? = w.heap[k]?) : w'.ownsRow base e size v n xs := by
 obtain ⟨h1, h2⟩ := h
 refine ⟨h1, ?_⟩
 rcases h2 with h2 | ⟨g, cap, cur, rfl, b0, c, d⟩
 ·exact .inl h2
 ·exact .inr ⟨g, cap, cur, rfl, b0, (hb g rfl).trans c, d⟩
theorem ownLow' {w : World} {b b' : Nat} {e : TypeId} {size n : Nat} {v : Value} {xs : List Value} (h : w.ownsRow b e size v n xs) (hb : b' ≤ b) : w.ownsRow b' e size v n xs := by
 obtain ⟨h1, h2⟩ := h
 refine ⟨h1, ?_⟩
 rcases h2 with h2 | ⟨g, cap, cur, a, b0, c, d⟩
 ·exact .inl h2
 ·exact .inr ⟨g, cap, cur, a, Nat.le_trans hb b0, c, d⟩
theorem ownType' {w : World} {base base' : Nat} {e e' : TypeId} {size size' n n' : Nat} {v v' : Value} {xs xs' : List Value} (h : w.ownsRow base e size v n xs) (h' : w.ownsRow base' e' size' v' n' xs') (hne : e ≠ e') {k : Nat} (hk : v.ownBlock = some k) : v'.ownBlock ≠ some k := by
 intro hk'
 rcases h.2 with ⟨rfl, -⟩ | ⟨g, cap, cur, rfl, -, c, -⟩
 ·cases hk
 rcases h'.2 with ⟨rfl, -⟩ | ⟨g', cap', cur', rfl, -, c', -⟩
 ·cases hk'
 ·simp only [Value.ownBlock, Option.some.injEq] at hk hk'
  subst hk
  subst hk'
  rw [c] at c'
  injection c' with c'
  injection c' with c1 c2
  exact hne c2
theorem ownSl {w : World} {base : Nat} {e : TypeId} {size n : Nat} {v : Value} {xs : List Value} (h : w.ownsRow base e size v n xs) : ∃ s c, v = .slice s n c := by
 rcases h.2 with ⟨h1, h2⟩ | ⟨g, cap, cur, a, -⟩
 ·exact ⟨none, 0, by rw [h1, h2]⟩
 ·exact ⟨_, _, a⟩
theorem ownN_ints {w : World} {base : Nat} {v : Value} {l : List Int} (h : OwnN w base v l) : ∃ s c, v = .slice s l.length c ∧ IntsR w base w.heap.size s l := by
 rcases Nat.eq_zero_or_pos l.length with h0 | hpos
 ·obtain ⟨s, c, e⟩ := ownSl h
  exact ⟨s, c, e, .inl (List.length_eq_zero_iff.1 h0)⟩
 ·obtain ⟨g, cap, rfl, -⟩ := World.ownsRow.form h hpos
  have hlt := World.ownsRow.lt h g rfl
  refine ⟨_, _, rfl, .inr ⟨g, 0, rfl, hlt.1, hlt.2, fun i hi => ?_⟩⟩
  rw [Nat.zero_add, World.ownsRow.cellAt h i (by omega), List.getElem?_map, List.getD_eq_getElem?_getD, List.getElem?_eq_getElem hi]
  rfl
theorem setApp {α : Type} (b : List α) (i : Nat) (x : α) : ∀ a : List α, (a ++ b).set (a.length + i) x = a ++ b.set i x
 | [] => by simp
 | y :: r => by
  have e : (y :: r).length + i = (r.length + i) + 1 := by simp; omega
  rw [e]
  simp [setApp b i x r]
set_option maxHeartbeats 1000000 in
theorem toIntS_own (s : Option Addr) (c lo hi : Nat) (l : List Int) (w : World) (h : IntsR w lo hi s l) (hB : hi ≤ w.heap.size) (hl : l.length ≤ 1048576) :
  Calls Tryz.prog 17 #[.slice s l.length c] w fun e w' => e = .returned (.slice (some ⟨w.heap.size, 0, none⟩) l.length l.length) ∧ OwnN w' w.heap.size (.slice (some ⟨w.heap.size, 0, none⟩) l.length l.length) l ∧ Below w.heap.size w w' ∧ w.heap.size < w'.heap.size := by
 have hmk := mkInt l.length hl
 have HC : Hid (IntsR w lo hi s l) := h
 clear h
 go_enter Tryz.func17, Tryz.ntmps17
 go_wp2
 clear hmk
 go_loopw [4] (fun i wr => ∃ k : Nat, k ≤ l.length ∧ i = .int .i64 k ∧ Below w.heap.size w wr ∧ w.heap.size < wr.heap.size ∧ wr.ownsRow w.heap.size 3 1 (.slice (some ⟨w.heap.size, 0, none⟩) l.length l.length) l.length ((l.take k ++ List.replicate (l.length - k) 0).map (Value.int .i64))) (fun i _ => l.length - (intOf i).toNat)
 case atStart =>
  refine ⟨0, Nat.zero_le _, rfl, (Below.refl _ _).alloc (Nat.le_refl _) _, by simp, ?_⟩
  have h0 := World.ownsRow_lit (base := w.heap.size) (e := 3) (size := 1) w (madeCells #[.int .i64 0] (l.length * 1)) l.length (Nat.le_refl _) (by unfold maxLen; omega) (size_madeCells _ _)
  rw [toList_madeCells_one] at h0
  simpa using h0
 case round =>
  obtain ⟨k, hk, rfl, hb, hsz, ho⟩ := hrel
  have HB : Hid (Below w.heap.size w wr) := hb
  have HO := (show Hid _ from ho)
  clear hb ho
  by_cases hlt : k < l.length
  ·obtain ⟨g, off, hs, hg, hc⟩ : ∃ g off, s = some ⟨g, off, none⟩ ∧ g < w.heap.size ∧ w.cell? ⟨g, off + k, none⟩ = some (.int .i64 (l.getD k 0)) := by
    rcases HC.out with h | ⟨g, off, a, b, d, e⟩
    ·rw [h] at hlt; simp at hlt
    ·exact ⟨g, off, a, by omega, e k hlt⟩
   subst hs
   have f0 := (HB.out.cell (p := ⟨g, off + k, none⟩) hg).trans hc
   generalize hx : l.getD k 0 = x at f0
   have HX : Hid (l.getD k 0 = x) := hx
   clear hx hc
   obtain ⟨u, hu⟩ : ∃ u, wr.cell? ⟨w.heap.size, k, none⟩ = some u := by
    rw [World.ownsRow.cellAt HO.out k (by omega)]
    exact ⟨_, List.getElem?_eq_getElem (by simp; omega)⟩
   have hz : wr.frozen? ⟨w.heap.size, k, none⟩ = false := World.ownsRow.frozenAt HO.out k
   have b0 : (0 : Int) ≤ (k : Int) := by omega
   have b1 : (k : Int) < (l.length : Int) := by omega
   go_wp2
   go_roundw
   case rel =>
    refine ⟨k + 1, by omega, by go_num, HB.out.setCell (p := ⟨w.heap.size, k, none⟩) (Nat.le_refl _) _, by simpa using hsz, ?_⟩
    have p := (World.ownsRow.stored HO.out k (.int .i64 x)).1
    have e1 : ((l.take k ++ List.replicate (l.length - k) 0).map (Value.int .i64)).set k (.int .i64 x) = (l.take (k + 1) ++ List.replicate (l.length - (k + 1)) 0).map (Value.int .i64) := by
     have e2 := setApp (List.replicate (l.length - k) (0 : Int)) 0 x (l.take k)
     rw [List.length_take, Nat.min_eq_left (by omega), Nat.add_zero] at e2
     have e3 : l.length - k = (l.length - (k + 1)) + 1 := by omega
     have e4 : l.take (k + 1) = l.take k ++ [x] := by
      rw [List.take_add_one, List.getElem?_eq_getElem hlt, ← HX.out, List.getD_eq_getElem?_getD, List.getElem?_eq_getElem hlt]; rfl
     rw [← List.map_set, e2, e3, List.replicate_succ, List.set_cons_zero, e4, List.append_assoc]
     rfl
    rw [e1] at p
    exact p
   case measure => simp [intOf]; omega
  ·go_wp2
   go_ret
   have : k = l.length := by omega
   subst this
   have h1 := HO.out
   simp only [List.take_length, Nat.sub_self, List.replicate_zero, List.append_nil] at h1
   exact ⟨rfl, h1, HB.out, hsz⟩
def relN (q : Int) : Nat → List Int
 | 0 => []
 | n + 1 => relN q n ++ [q + n]
theorem relN_len (q : Int) : ∀ n, (relN q n).length = n
 | 0 => rfl
 | n + 1 => by simp [relN, relN_len q n]
/- blocks below hi and not from lo on are as they were -/
structure Exc (lo hi : Nat) (w w' : World) : Prop where
 os : w'.os = w.os
 tape : w'.tape = w.tape
 out : w'.output = w.output
 size : w.heap.size ≤ w'.heap.size
 blk : ∀ k, k < w.heap.size → (k < lo ∨ hi ≤ k) → w'.heap[k]? = w.heap[k]?
theorem Exc.below {lo hi B : Nat} {w w' : World} (h : Exc lo hi w w') (h1 : B ≤ lo) (h2 : B ≤ w.heap.size) : Below B w w' := ⟨h.os, h.tape, h.out, h.size, fun k hk => h.blk k (by omega) (.inl (by omega))⟩
theorem Keep.of_exc {lo hi lo' hi' : Nat} {w w' : World} (h : Exc lo' hi' w w') (h1 : hi ≤ w.heap.size) (h2 : hi ≤ lo' ∨ hi' ≤ lo) : Keep lo hi w w' := fun k a b => h.blk k (by omega) (by omega)
structure Bo2 (G : Nat) (W : World) (a b : Value) : Prop where
 c0 : W.cell? ⟨G, 0, none⟩ = some a
 c1 : W.cell? ⟨G, 1, none⟩ = some b
theorem Bo2.new (w : World) (a b : Value) (T : TypeId) : ∃ W, w.alloc (.cells #[a, b] T) = W ∧ Bo2 w.heap.size W a b ∧ Below w.heap.size w W ∧ W.heap.size = w.heap.size + 1 :=
 ⟨_, rfl, ⟨by simp [go_sem], by simp [go_sem]⟩, (Below.refl _ _).alloc (Nat.le_refl _) _, by simp⟩
theorem Bo2.keep {G : Nat} {W W' : World} {a b : Value} (h : Bo2 G W a b) (hk : Keep G (G + 1) W W') : Bo2 G W' a b := ⟨(hk.cell (p := ⟨G, 0, none⟩) (Nat.le_refl _) (Nat.lt_succ_self _)).trans h.c0, (hk.cell (p := ⟨G, 1, none⟩) (Nat.le_refl _) (Nat.lt_succ_self _)).trans h.c1⟩
theorem ownN_intsR {w : World} {base g c : Nat} {l : List Int} (h : OwnN w base (.slice (some ⟨g, 0, none⟩) l.length c) l) : IntsR w base w.heap.size (some ⟨g, 0, none⟩) l := by
 obtain ⟨s, c', e, hi⟩ := ownN_ints h
 injection e with e1 e2 e3
 rw [e1]
 exact hi
structure Bo1 (G : Nat) (W : World) (a : Value) : Prop where
 c0 : W.cell? ⟨G, 0, none⟩ = some a
theorem Bo1.new (w : World) (a : Value) (T : TypeId) : ∃ W, w.alloc (.cells #[a] T) = W ∧ Bo1 w.heap.size W a ∧ Below w.heap.size w W ∧ W.heap.size = w.heap.size + 1 :=
 ⟨_, rfl, ⟨by simp [go_sem]⟩, (Below.refl _ _).alloc (Nat.le_refl _) _, by simp⟩
end
section
set_option linter.unusedSimpArgs false
set_option linter.unusedVariables false
set_option maxRecDepth 100000
open Go.RowKit
def cellsP (x : I5) : List Value := [.int .i64 x.o, .int .i64 x.r, .int .i64 x.a, .int .i64 x.b, .int .i64 x.n]
def flatP : List I5 → List Value
 | [] => []
 | x :: r => cellsP x ++ flatP r
theorem flatP_len : ∀ l : List I5, (flatP l).length = l.length * 5
 | [] => rfl
 | x :: r => by simp [flatP, cellsP, flatP_len r]; omega
theorem flatP_at : ∀ (l : List I5) (i j : Nat) (hi : i < l.length) (hj : j < 5), (flatP l)[i * 5 + j]? = (cellsP (l.getD i z5))[j]?
 | [], i, j, hi, hj => absurd hi (Nat.not_lt_zero _)
 | x :: r, 0, j, hi, hj => by
  simp only [flatP, Nat.zero_mul, Nat.zero_add]
  rw [List.getElem?_append_left (by simp [cellsP]; omega)]
  simp
 | x :: r, i + 1, j, hi, hj => by
  have h5 : (cellsP x).length = 5 := rfl
  simp only [flatP]
  rw [List.getElem?_append_right (by rw [h5]; omega), h5, show (i + 1) * 5 + j - 5 = i * 5 + j by omega, flatP_at r i j (by simp at hi; omega) hj]
  simp
def OwnP (w : World) (base : Nat) (v : Value) (b : List I5) : Prop := w.ownsRow base 73 5 v b.length (flatP b)
def OwnB (w : World) (base : Nat) (v : Value) (bs : List (List I5)) : Prop :=
 ∃ xs : List Value, w.ownsRow base 70 1 v bs.length xs ∧ (∀ i, i < bs.length → OwnP w base (xs.getD i undef) (bs.getD i [])) ∧ ∀ i j k, i < bs.length → j < bs.length → i ≠ j → (xs.getD i undef).ownBlock = some k → (xs.getD j undef).ownBlock ≠ some k
theorem ownKeep {w w' : World} {base : Nat} {e : TypeId} {size n : Nat} {v : Value} {xs : List Value} (h : w.ownsRow base e size v n xs) (hb : ∀ k, v.ownBlock = some k → w'.heap[k]? = w.heap[k]?) : w'.ownsRow base e size v n xs := by
 obtain ⟨h1, h2⟩ := h
 refine ⟨h1, ?_⟩
 rcases h2 with h2 | ⟨g, cap, cur, rfl, b0, c, d⟩
 ·exact .inl h2
 ·exact .inr ⟨g, cap, cur, rfl, b0, (hb g rfl).trans c, d⟩
theorem ownLow {w : World} {b b' : Nat} {e : TypeId} {size n : Nat} {v : Value} {xs : List Value} (h : w.ownsRow b e size v n xs) (hb : b' ≤ b) : w.ownsRow b' e size v n xs := by
 obtain ⟨h1, h2⟩ := h
 refine ⟨h1, ?_⟩
 rcases h2 with h2 | ⟨g, cap, cur, a, b0, c, d⟩
 ·exact .inl h2
 ·exact .inr ⟨g, cap, cur, a, Nat.le_trans hb b0, c, d⟩
theorem ownType {w : World} {base base' : Nat} {e e' : TypeId} {size size' n n' : Nat} {v v' : Value} {xs xs' : List Value} (h : w.ownsRow base e size v n xs) (h' : w.ownsRow base' e' size' v' n' xs') (hne : e ≠ e') {k : Nat} (hk : v.ownBlock = some k) : v'.ownBlock ≠ some k := by
 intro hk'
 rcases h.2 with ⟨rfl, -⟩ | ⟨g, cap, cur, rfl, -, c, -⟩
 ·cases hk
 rcases h'.2 with ⟨rfl, -⟩ | ⟨g', cap', cur', rfl, -, c', -⟩
 ·cases hk'
 ·simp only [Value.ownBlock, Option.some.injEq] at hk hk'
  subst hk
  subst hk'
  rw [c] at c'
  injection c' with c'
  injection c' with c1 c2
  exact hne c2
theorem getD_snoc {α : Type} (xs : List α) (y d : α) (i : Nat) : (xs ++ [y]).getD i d = if i < xs.length then xs.getD i d else if i = xs.length then y else d := by
 by_cases h : i < xs.length
 ·rw [if_pos h]; simp [List.getD_eq_getElem?_getD, List.getElem?_append_left h]
 ·rw [if_neg h]
  by_cases h2 : i = xs.length
  ·subst h2; simp [List.getD_eq_getElem?_getD]
  ·rw [if_neg h2, List.getD_eq_getElem?_getD, List.getElem?_eq_none (by simp; omega)]; rfl
theorem getD_set' {α : Type} (xs : List α) (y d : α) (i j : Nat) (hi : i < xs.length) : (xs.set i y).getD j d = if j = i then y else xs.getD j d := by
 by_cases h : j = i
 ·subst h; rw [if_pos rfl]; simp [List.getD_eq_getElem?_getD, hi]
 ·rw [if_neg h]; simp [List.getD_eq_getElem?_getD, List.getElem?_set, Ne.symm h]
end
end Go.Proofs.YtehjbpjjegajjaaGreat
