/- laws.eqStep says yes of a step and itself; it makes memory, and turns none. No condition. Rows of steps that a call has made: how they lie, what keeps them, append of one behind another. Conditions: at most a thousand steps. Single steps as the small functions of both sides make them. No condition. -/
import Derived.Test.YtehjbpjjegajjaaGreatJG00
import Derived.Test.YtehjbpjjegajjaaGreatJC7Leaf
import Derived.Test.YtehjbpjjegajjaaGreatJG01
import Derived.Test.YtehjbpjjegajjaaGreatJG02
import Derived.Laws.AppendOwnNone
import Derived.Deep.AppendLies
import Derived.OwnWalk
import Derived.Deep.RegionHeld3
namespace Go.Proofs.YtehjbpjjegajjaaGreat
section
set_option linter.unusedSimpArgs false
set_option linter.unusedVariables false
set_option maxRecDepth 100000
open Go.RowKit
theorem eqStep_same (o r a b n : Int) (w : World) : Calls Tryz.prog 89 #[.agg #[.int .i64 o, .int .i64 r, .int .i64 a, .int .i64 b, .int .i64 n], .agg #[.int .i64 o, .int .i64 r, .int .i64 a, .int .i64 b, .int .i64 n]] w fun e w' => e = .returned (.bool true) ∧ Below w.heap.size w w' := by
 go_enter Tryz.func89, Tryz.ntmps89
 go_wp2
 go_ret
 exact ⟨rfl, ((Below.refl _ _).alloc (Nat.le_refl _) _).alloc (by simp) _⟩
end
section
set_option linter.unusedSimpArgs false
set_option linter.unusedVariables false
set_option maxRecDepth 100000
open Go.RowKit
def fl5 : List I5 → List Int
 | [] => []
 | x :: r => [x.o, x.r, x.a, x.b, x.n] ++ fl5 r
theorem fl5_len : ∀ l : List I5, (fl5 l).length = l.length * 5
 | [] => rfl
 | x :: r => by simp [fl5, fl5_len r]; omega
theorem fl5_at : ∀ (l : List I5) (i : Nat) (x : I5), l[i]? = some x → (fl5 l)[i * 5]? = some x.o ∧ (fl5 l)[i * 5 + 1]? = some x.r ∧ (fl5 l)[i * 5 + 2]? = some x.a ∧ (fl5 l)[i * 5 + 3]? = some x.b ∧ (fl5 l)[i * 5 + 4]? = some x.n
 | [], i, x, h => by simp at h
 | y :: r, 0, x, h => by
  simp at h
  subst h
  exact ⟨rfl, rfl, rfl, rfl, rfl⟩
 | y :: r, i + 1, x, h => by
  have h' : r[i]? = some x := by simpa using h
  have e := fl5_at r i x h'
  have e0 : (i + 1) * 5 = i * 5 + 5 := by omega
  rw [e0]
  exact e
def OwnT5 (w : World) (base : Nat) (v : Value) (l : List I5) : Prop := w.ownsRow base 97 5 v l.length ((fl5 l).map (Value.int .i64))
theorem fl5_app : ∀ (a b : List I5), fl5 (a ++ b) = fl5 a ++ fl5 b
 | [], b => rfl
 | x :: r, b => by simp [fl5, fl5_app r b]
theorem steps_cell {w : World} {g off : Nat} {l : List I5} (hc : ∀ i, i < l.length → At5 w g (off + i * 5) (l.getD i z5)) (i : Nat) (hi : i < l.length * 5) : w.cell? ⟨g, off + i, none⟩ = some (.int .i64 ((fl5 l).getD i 0)) := by
 have hk : i / 5 < l.length := by omega
 have hx : l[i / 5]? = some (l.getD (i / 5) z5) := by rw [List.getD_eq_getElem?_getD, List.getElem?_eq_getElem hk]; rfl
 obtain ⟨c0, c1, c2, c3, c4⟩ := hc (i / 5) hk
 obtain ⟨e0, e1, e2, e3, e4⟩ := fl5_at l (i / 5) _ hx
 rw [List.getD_eq_getElem?_getD]
 rcases (show i % 5 = 0 ∨ i % 5 = 1 ∨ i % 5 = 2 ∨ i % 5 = 3 ∨ i % 5 = 4 by omega) with h | h | h | h | h
 ·have e : i = i / 5 * 5 := by omega
  rw [e]; rw [e0]; exact c0
 ·have e : i = i / 5 * 5 + 1 := by omega
  rw [e, ← Nat.add_assoc]; rw [e1]; exact c1
 ·have e : i = i / 5 * 5 + 2 := by omega
  rw [e, ← Nat.add_assoc]; rw [e2]; exact c2
 ·have e : i = i / 5 * 5 + 3 := by omega
  rw [e, ← Nat.add_assoc]; rw [e3]; exact c3
 ·have e : i = i / 5 * 5 + 4 := by omega
  rw [e, ← Nat.add_assoc]; rw [e4]; exact c4
theorem infoSt : ∃ i, Tryz.prog.info? 97 = some i ∧ i.zero = some (.agg #[.int .i64 0, .int .i64 0, .int .i64 0, .int .i64 0, .int .i64 0]) ∧ i.size = 5 ∧ i.bytes = 40 := ⟨_, rfl, rfl, rfl, rfl⟩
theorem own5_new {w : World} {base : Nat} (L : List I5) (C : Array Value) (hC : C.toList = (fl5 L).map (Value.int .i64)) (hb : base ≤ w.heap.size) (hn : L.length ≤ 1000) : OwnT5 (w.alloc (.cells C 97)) base (.slice (some ⟨w.heap.size, 0, none⟩) L.length L.length) L := by
 have hs : C.size = L.length * 5 := by rw [← Array.length_toList, hC, List.length_map, fl5_len]
 have h := World.ownsRow_lit (base := base) (e := 97) (size := 5) w C L.length hb (by unfold maxLen; omega) hs
 rw [hC] at h
 exact h
theorem OwnT5.keep {w w' : World} {base : Nat} {v : Value} {L : List I5} (h : OwnT5 w base v L) (hb : Below w.heap.size w w') : OwnT5 w' base v L := ownKeep' h (fun k hk => hb.block k (World.ownsRow.lt h _ hk).2)
theorem OwnT5.low {w : World} {b b' : Nat} {v : Value} {L : List I5} (h : OwnT5 w b v L) (hb : b' ≤ b) : OwnT5 w b' v L := ownLow' h hb
theorem OwnT5.lt {w : World} {base g n c : Nat} {L : List I5} (h : OwnT5 w base (.slice (some ⟨g, 0, none⟩) n c) L) : base ≤ g ∧ g < w.heap.size := World.ownsRow.lt h g rfl
theorem OwnT5.len {w : World} {base g n c : Nat} {L : List I5} (h : OwnT5 w base (.slice (some ⟨g, 0, none⟩) n c) L) : n = L.length := by
 rcases h.2 with ⟨h1, h2⟩ | ⟨g', cap, cur, e, -⟩
 ·cases h1
 ·injection e
theorem OwnT5.cellAt {w : World} {base g n c : Nat} {L : List I5} (h : OwnT5 w base (.slice (some ⟨g, 0, none⟩) n c) L) {j : Nat} {z : Int} (hz : (fl5 L)[j]? = some z) : w.cell? ⟨g, j, none⟩ = some (.int .i64 z) := by
 have hj := (List.getElem?_eq_some_iff.1 hz).1
 rw [fl5_len] at hj
 have e := h.len
 subst e
 rw [World.ownsRow.cellAt h j (by omega), List.getElem?_map, hz]
 rfl
theorem OwnT5.insR {w : World} {base g n c : Nat} {L : List I5} (h : OwnT5 w base (.slice (some ⟨g, 0, none⟩) n c) L) : InsR w base w.heap.size (some ⟨g, 0, none⟩) L := by
 refine .inr ⟨g, 0, rfl, h.lt.1, h.lt.2, fun i hi => ?_⟩
 have hx : L[i]? = some (L.getD i z5) := by rw [List.getD_eq_getElem?_getD, List.getElem?_eq_getElem hi]; rfl
 obtain ⟨e0, e1, e2, e3, e4⟩ := fl5_at L i _ hx
 rw [Nat.zero_add]
 exact ⟨h.cellAt e0, h.cellAt e1, h.cellAt e2, h.cellAt e3, h.cellAt e4⟩
theorem wp5 {o : Oper} {a : Act} {K : Act → World → Prop} {Q : Exit → Act → World → Prop} (s x : Operand) (ho : o.op = .call { callee := .builtin .append, args := #[s, x], argTypes := #[69, 69] })
  (w : World) (base : Nat) (v : Value) (L1 : List I5) (hs : a.eval s = v) (hown : OwnT5 w base v L1) (base2 g2 n2 c2 : Nat) (L2 : List I5) (hx : a.eval x = .slice (some ⟨g2, 0, none⟩) n2 c2) (h2 : OwnT5 w base2 (.slice (some ⟨g2, 0, none⟩) n2 c2) L2) (hl2 : L2.length = n2)
  (hl : 0 < n2) (hn : L1.length + n2 ≤ 1000) (N : Nat) (hN : L1.length + n2 = N) (hbase : base ≤ w.heap.size)
  (h : ∀ g c w', OwnT5 w' base (.slice (some ⟨g, 0, none⟩) N c) (L1 ++ L2) → Below base w w' → K (a.put o.dst (.slice (some ⟨g, 0, none⟩) N c)) w') : Oper.wp Tryz.prog o a w K Q := by
 obtain ⟨i0, hi0, hz0, hz1, hz2⟩ := infoSt
 subst hN hl2
 refine wp_append_lies w s x 69 ho base 97 i0 _ 5 40 Tryz.underlying69 hi0 hz0 hz1 hz2 rfl (by decide) v L1.length _ hs hown ⟨g2, 0, none⟩ L2.length c2 ((fl5 L2).map (Value.int .i64)) hx (by rw [List.length_map, fl5_len]) (fun j u hj => ?_) (fun u hu => by obtain ⟨z, -, rfl⟩ := List.mem_map.1 hu; rfl) hl (by unfold maxLen; omega) (by omega) hbase _ rfl ?_
 ·rw [List.getElem?_map] at hj
  obtain ⟨z, hz, rfl⟩ := Option.map_eq_some_iff.1 hj
  have ea : Addr.add ⟨g2, 0, none⟩ j = ⟨g2, j, none⟩ := by
   by_cases h : j = 0
   ·subst h; rfl
   ·simp [Addr.add, h]
  rw [ea]
  exact h2.cellAt hz
 intro g cap w' q1 q2 q3 q4
 refine h g cap w' ?_ (Below.grown (Below.refl _ _) q2 hbase (fun j hj => (World.ownsRow.lt hown _ hj).1))
 show w'.ownsRow base 97 5 _ (L1 ++ L2).length ((fl5 (L1 ++ L2)).map (Value.int .i64))
 rw [fl5_app, List.map_append, List.length_append]
 exact q1
theorem app5 {ops : Array Oper} {rest : List Oper} {o : Oper} {a : Act} {Q : Exit → Act → World → Prop} (hgd : o.guard = none) (s x : Operand) (ho : o.op = .call { callee := .builtin .append, args := #[s, x], argTypes := #[69, 69] })
  (w : World) (base : Nat) (v : Value) (L1 : List I5) (hs : a.eval s = v) (hown : OwnT5 w base v L1) (base2 g2 n2 c2 : Nat) (L2 : List I5) (hx : a.eval x = .slice (some ⟨g2, 0, none⟩) n2 c2) (h2 : OwnT5 w base2 (.slice (some ⟨g2, 0, none⟩) n2 c2) L2) (hl2 : L2.length = n2)
  (hl : 0 < n2) (hn : L1.length + n2 ≤ 1000) (N : Nat) (hN : L1.length + n2 = N) (hbase : base ≤ w.heap.size)
  (h : ∀ g c w', OwnT5 w' base (.slice (some ⟨g, 0, none⟩) N c) (L1 ++ L2) → Below base w w' → wpList Tryz.prog ops Q rest (a.put o.dst (.slice (some ⟨g, 0, none⟩) N c)) w') : wpList Tryz.prog ops Q (o :: rest) a w :=
 wpList_plain hgd fun _ hK => wp5 s x ho w base v L1 hs hown base2 g2 n2 c2 L2 hx h2 hl2 hl hn N hN hbase fun g c w' h1 h2 => hK _ _ (h g c w' h1 h2)
theorem step5 {ops : Array Oper} {o : Oper} {a : Act} {K : Act → World → Prop} {Q : Exit → Act → World → Prop} {E : Prop} (hgd : o.guard = none) (s x : Operand) (ho : o.op = .call { callee := .builtin .append, args := #[s, x], argTypes := #[69, 69] })
  (w : World) (base : Nat) (v : Value) (L1 : List I5) (hs : a.eval s = v) (hown : OwnT5 w base v L1) (base2 g2 n2 c2 : Nat) (L2 : List I5) (hx : a.eval x = .slice (some ⟨g2, 0, none⟩) n2 c2) (h2 : OwnT5 w base2 (.slice (some ⟨g2, 0, none⟩) n2 c2) L2) (hl2 : L2.length = n2)
  (hl : 0 < n2) (hn : L1.length + n2 ≤ 1000) (N : Nat) (hN : L1.length + n2 = N) (hbase : base ≤ w.heap.size)
  (h : ∀ g c w', OwnT5 w' base (.slice (some ⟨g, 0, none⟩) N c) (L1 ++ L2) → Below base w w' → K (a.put o.dst (.slice (some ⟨g, 0, none⟩) N c)) w') : if Region.wanted o (yielded ops a.tmps) = true then Oper.wp Tryz.prog o a w K Q else E := by
 have hw : Region.wanted o (yielded ops a.tmps) = true := by simp [Region.wanted, hgd]
 rw [if_pos hw]
 exact wp5 s x ho w base v L1 hs hown base2 g2 n2 c2 L2 hx h2 hl2 hl hn N hN hbase h
def ad (f k : Int) : Int := wrap64 (f + k)
end
section
set_option linter.unusedSimpArgs false
set_option linter.unusedVariables false
set_option maxRecDepth 100000
open Go.RowKit
theorem sLoad (r c : Int) (w : World) : Calls Tryz.prog 98 #[.int .i64 r, .int .i64 c] w fun e w' => e = .returned (.agg #[.int .i64 5, .int .i64 r, .int .i64 (-1), .int .i64 0, .int .i64 c]) ∧ Below w.heap.size w w' := by
 go_enter Tryz.func98, Tryz.ntmps98
 go_wp2
 exact bodyPost_ret (v := .agg #[.int .i64 5, .int .i64 r, .int .i64 (-1), .int .i64 0, .int .i64 c]) (by simp [results, Tryz.results98, go_sem]) rfl ⟨rfl, (Below.refl _ _).alloc (Nat.le_refl _) _⟩
theorem sStore (c b : Int) (w : World) : Calls Tryz.prog 99 #[.int .i64 c, .int .i64 b] w fun e w' => e = .returned (.agg #[.int .i64 6, .int .i64 0, .int .i64 (-1), .int .i64 b, .int .i64 c]) ∧ Below w.heap.size w w' := by
 go_enter Tryz.func99, Tryz.ntmps99
 go_wp2
 exact bodyPost_ret (v := .agg #[.int .i64 6, .int .i64 0, .int .i64 (-1), .int .i64 b, .int .i64 c]) (by simp [results, Tryz.results99, go_sem]) rfl ⟨rfl, (Below.refl _ _).alloc (Nat.le_refl _) _⟩
theorem sSet (r n : Int) (w : World) : Calls Tryz.prog 70 #[.int .i64 r, .int .i64 n] w fun e w' => e = .returned (.agg #[.int .i64 1, .int .i64 r, .int .i64 0, .int .i64 0, .int .i64 n]) ∧ Below w.heap.size w w' := by
 go_enter Tryz.func70, Tryz.ntmps70
 go_wp2
 exact bodyPost_ret (v := .agg #[.int .i64 1, .int .i64 r, .int .i64 0, .int .i64 0, .int .i64 n]) (by simp [results, Tryz.results70, go_sem]) rfl ⟨rfl, (Below.refl _ _).alloc (Nat.le_refl _) _⟩
theorem sZero (a t : Int) (w : World) : Calls Tryz.prog 73 #[.int .i64 a, .int .i64 t] w fun e w' => e = .returned (.agg #[.int .i64 11, .int .i64 0, .int .i64 a, .int .i64 0, .int .i64 t]) ∧ Below w.heap.size w w' := by
 go_enter Tryz.func73, Tryz.ntmps73
 go_wp2
 exact bodyPost_ret (v := .agg #[.int .i64 11, .int .i64 0, .int .i64 a, .int .i64 0, .int .i64 t]) (by simp [results, Tryz.results73, go_sem]) rfl ⟨rfl, (Below.refl _ _).alloc (Nat.le_refl _) _⟩
theorem sJump (t : Int) (w : World) : Calls Tryz.prog 72 #[.int .i64 t] w fun e w' => e = .returned (.agg #[.int .i64 10, .int .i64 0, .int .i64 0, .int .i64 0, .int .i64 t]) ∧ Below w.heap.size w w' := by
 go_enter Tryz.func72, Tryz.ntmps72
 go_wp2
 exact bodyPost_ret (v := .agg #[.int .i64 10, .int .i64 0, .int .i64 0, .int .i64 0, .int .i64 t]) (by simp [results, Tryz.results72, go_sem]) rfl ⟨rfl, (Below.refl _ _).alloc (Nat.le_refl _) _⟩
theorem sThree (o r a b : Int) (w : World) : Calls Tryz.prog 71 #[.int .i64 o, .int .i64 r, .int .i64 a, .int .i64 b] w fun e w' => e = .returned (.agg #[.int .i64 o, .int .i64 r, .int .i64 a, .int .i64 b, .int .i64 0]) ∧ Below w.heap.size w w' := by
 go_enter Tryz.func71, Tryz.ntmps71
 go_wp2
 exact bodyPost_ret (v := .agg #[.int .i64 o, .int .i64 r, .int .i64 a, .int .i64 b, .int .i64 0]) (by simp [results, Tryz.results71, go_sem]) rfl ⟨rfl, (Below.refl _ _).alloc (Nat.le_refl _) _⟩
theorem iSet (r n : Int) (w : World) : Calls Tryz.prog 159 #[.int .i64 r, .int .i64 n] w fun e w' => e = .returned (.agg #[.int .i64 1, .int .i64 r, .int .i64 0, .int .i64 0, .int .i64 n]) ∧ Below w.heap.size w w' := by
 go_enter Tryz.func159, Tryz.ntmps159
 go_wp2
 exact bodyPost_ret (v := .agg #[.int .i64 1, .int .i64 r, .int .i64 0, .int .i64 0, .int .i64 n]) (by simp [results, Tryz.results159, go_sem]) rfl ⟨rfl, (Below.refl _ _).alloc (Nat.le_refl _) _⟩
theorem iAdd (r y : Int) (w : World) : Calls Tryz.prog 174 #[.int .i64 r, .int .i64 y] w fun e w' => e = .returned (.agg #[.int .i64 2, .int .i64 r, .int .i64 r, .int .i64 y, .int .i64 0]) ∧ Below w.heap.size w w' := by
 go_enter Tryz.func174, Tryz.ntmps174
 go_wp2
 exact bodyPost_ret (v := .agg #[.int .i64 2, .int .i64 r, .int .i64 r, .int .i64 y, .int .i64 0]) (by simp [results, Tryz.results174, go_sem]) rfl ⟨rfl, (Below.refl _ _).alloc (Nat.le_refl _) _⟩
theorem iSub (r y : Int) (w : World) : Calls Tryz.prog 175 #[.int .i64 r, .int .i64 y] w fun e w' => e = .returned (.agg #[.int .i64 3, .int .i64 r, .int .i64 r, .int .i64 y, .int .i64 0]) ∧ Below w.heap.size w w' := by
 go_enter Tryz.func175, Tryz.ntmps175
 go_wp2
 exact bodyPost_ret (v := .agg #[.int .i64 3, .int .i64 r, .int .i64 r, .int .i64 y, .int .i64 0]) (by simp [results, Tryz.results175, go_sem]) rfl ⟨rfl, (Below.refl _ _).alloc (Nat.le_refl _) _⟩
theorem iLess (r a b : Int) (w : World) : Calls Tryz.prog 160 #[.int .i64 r, .int .i64 a, .int .i64 b] w fun e w' => e = .returned (.agg #[.int .i64 4, .int .i64 r, .int .i64 a, .int .i64 b, .int .i64 0]) ∧ Below w.heap.size w w' := by
 go_enter Tryz.func160, Tryz.ntmps160
 go_wp2
 exact bodyPost_ret (v := .agg #[.int .i64 4, .int .i64 r, .int .i64 a, .int .i64 b, .int .i64 0]) (by simp [results, Tryz.results160, go_sem]) rfl ⟨rfl, (Below.refl _ _).alloc (Nat.le_refl _) _⟩
theorem iJump (t : Int) (w : World) : Calls Tryz.prog 162 #[.int .i64 t] w fun e w' => e = .returned (.agg #[.int .i64 10, .int .i64 0, .int .i64 0, .int .i64 0, .int .i64 t]) ∧ Below w.heap.size w w' := by
 go_enter Tryz.func162, Tryz.ntmps162
 go_wp2
 exact bodyPost_ret (v := .agg #[.int .i64 10, .int .i64 0, .int .i64 0, .int .i64 0, .int .i64 t]) (by simp [results, Tryz.results162, go_sem]) rfl ⟨rfl, (Below.refl _ _).alloc (Nat.le_refl _) _⟩
theorem iZero (a t : Int) (w : World) : Calls Tryz.prog 171 #[.int .i64 a, .int .i64 t] w fun e w' => e = .returned (.agg #[.int .i64 11, .int .i64 0, .int .i64 a, .int .i64 0, .int .i64 t]) ∧ Below w.heap.size w w' := by
 go_enter Tryz.func171, Tryz.ntmps171
 go_wp2
 exact bodyPost_ret (v := .agg #[.int .i64 11, .int .i64 0, .int .i64 a, .int .i64 0, .int .i64 t]) (by simp [results, Tryz.results171, go_sem]) rfl ⟨rfl, (Below.refl _ _).alloc (Nat.le_refl _) _⟩
end
end Go.Proofs.YtehjbpjjegajjaaGreat
