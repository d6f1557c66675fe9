/- The table of emitters, and which one an op has. No condition. A row of integers that is not empty lies somewhere. No condition. Rows of numbers that a call has made: how they lie, what keeps them, and append of one number, and of three noughts. Conditions: fewer than 2^40 numbers. Rows of integers that a call has made: kept, copied, written over, looked at again; boxes; what a call that writes over a row leaves. Conditions: at most 2^20 + 1 integers. Whether a number is within, answered with a draw. -/
import Derived.Test.YthkpkdehicoikaaGreatChecked
import Derived.WalkKit
import Derived.KernelRfl
import Derived.Laws.EntriesVeiled
import Derived.Deep.WholeRow
import Derived.Test.YthkpkdehicoikaaGreatJ01
import Derived.WalkSpells
import Derived.WalkLawsBesides
import Derived.Below
import Derived.Laws.OwnMore
import Derived.Deep.AppendLies
import Derived.Deep.QuietTactic
import Derived.BigQuiet
namespace Go.Proofs.YthkpkdehicoikaaGreat
section
set_option linter.unusedSimpArgs false
set_option linter.unusedVariables false
set_option maxRecDepth 100000
open Go.RowKit

def emF (n : Nat) : Value := .func (.func n) #[] #[]
def emTab : Array Value := #[.int .i64 0, .bool false, .nilFunc, .int .i64 1, .bool false, emF 106, .int .i64 1, .bool false, emF 107, .int .i64 1, .bool false, emF 108, .int .i64 1, .bool false, emF 109,
  .int .i64 29, .bool true, emF 110, .int .i64 30, .bool true, emF 111, .int .i64 31, .bool true, emF 112, .int .i64 32, .bool true, emF 113, .int .i64 13, .bool true, emF 114,
  .int .i64 1, .bool false, emF 115, .int .i64 1, .bool false, emF 116, .int .i64 1, .bool false, emF 117, .int .i64 1, .bool false, emF 118]
theorem wp_storeRow {ops : Array Oper} {rest : List Oper} {o : Oper} {a : Act} {Q : Exit → Act → World → Prop} {P : Program} (hgd : o.guard = none) (t : TypeId) (p v : Operand) (ho : o.op = .store t p v) (hd : o.dst = none) (w : World) (c c' : Array Value)
    (hp : a.eval p = .pointer (some ⟨w.heap.size, 0, none⟩)) (hv : a.eval v = .agg c') (hi : (P.info? t).map (·.size) = some c'.size) (hs : c.size = c'.size) (h1 : c'.all (·.oneCell') = true)
    (h : wpList P ops Q rest a (w.alloc (.cells c' t))) : wpList P ops Q (o :: rest) a (w.alloc (.cells c t)) := by
  refine wpList_plain hgd fun K hK => ?_
  have hrun := run_storeAt_new (P := P) w t c c' hi hs h1
  unfold Oper.wp
  simp [execOp, ho, hp, hv, hrun, Result.andThen, hd]
  have e : a.put o.dst undef = a := by rw [hd]; rfl
  have q := hK _ _ h
  rw [← e] at q
  exact q
theorem emTab_one : emTab.all (·.oneCell') = true := by kernel_rfl
theorem emTab_size : emTab.size = 42 := by kernel_rfl
theorem emitters_is (w : World) : Calls Tryz.prog 86 #[] w fun e w' => e = .returned (.agg emTab) ∧ w' = w.alloc (.cells emTab 105) := by
  go_enter Tryz.func86, Tryz.ntmps86
  go_wp2_with (refine wp_storeRow (by rfl) 105 (.tmp 0) (.tmp 14) (by rfl) (by rfl) _ _ emTab (by rfl) (by rfl) (by kernel_rfl) (by rfl) emTab_one ?_)
  have hld := run_loadVar_new (P := Tryz.prog) w 105 emTab 14 92 rfl (by kernel_rfl)
  refine bodyPost_ret (v := .agg emTab) ?_ rfl ⟨rfl, rfl⟩
  simp [results, Tryz.results86, asAddr, Result.andThen, hld]
end

section
set_option linter.unusedSimpArgs false
set_option linter.unusedVariables false
set_option maxRecDepth 100000
open Go.RowKit

theorem IntsR.pos {w : World} {lo hi : Nat} {s : Option Addr} {l : List Int} (h : IntsR w lo hi s l) (hl : 0 < l.length) : ∃ g off, s = some ⟨g, off, none⟩ ∧ lo ≤ g ∧ g < hi ∧ ∀ i, i < l.length → w.cell? ⟨g, off + i, none⟩ = some (.int .i64 (l.getD i 0)) := by
  rcases h with rfl | h
  · simp at hl
  · exact h
end

section
set_option linter.unusedSimpArgs false
set_option linter.unusedVariables false
set_option maxRecDepth 100000
open Go.RowKit

def OwnN (w : World) (base : Nat) (v : Value) (ls : List Int) : Prop := w.ownsRow base 3 1 v ls.length (ls.map (Value.int .i64))

theorem infoInt : ∃ i, Tryz.prog.info? 3 = some i ∧ i.zero = some (.int .i64 0) ∧ i.size = 1 ∧ i.bytes = 8 := ⟨_, rfl, rfl, rfl, rfl⟩
theorem ownN_empty {w : World} {base : Nat} (hb : base ≤ w.heap.size) : OwnN (w.alloc (.cells #[] 3)) base (.slice (some ⟨w.heap.size, 0, none⟩) 0 0) [] :=
  World.ownsRow_lit w #[] 0 hb (by unfold maxLen; omega) rfl
theorem OwnN.keep {w w' : World} {base : Nat} {v : Value} {ls : List Int} (h : OwnN w base v ls) (hb : ∀ k, base ≤ k → k < w.heap.size → w'.heap[k]? = w.heap[k]?) : OwnN w' base v ls := by
  obtain ⟨h1, h2⟩ := h
  refine ⟨h1, ?_⟩
  rcases h2 with h2 | ⟨g, cap, cur, a, b, c, d⟩
  · exact .inl h2
  · have hlt : g < w.heap.size := (Array.getElem?_eq_some_iff.1 c).1
    exact .inr ⟨g, cap, cur, a, b, (hb g b hlt).trans c, d⟩
theorem OwnN.below {w w' : World} {base : Nat} {v : Value} {ls : List Int} (h : OwnN w base v ls) (hb : Below w.heap.size w w') : OwnN w' base v ls := h.keep fun k _ hk => hb.block k hk
theorem OwnN.alloc {w : World} {base : Nat} {v : Value} {ls : List Int} (h : OwnN w base v ls) (o : Obj) : OwnN (w.alloc o) base v ls := h.keep fun k _ hk => Below.heap_alloc _ _ _ hk
theorem OwnN.cell {w : World} {base g cap : Nat} {ls : List Int} (h : OwnN w base (.slice (some ⟨g, 0, none⟩) ls.length cap) ls) {i : Nat} (hi : i < ls.length) : w.cell? ⟨g, i, none⟩ = some (.int .i64 (ls.getD i 0)) := by
  rw [World.ownsRow.cellAt h i (by omega)]
  simp [List.getD_eq_getElem?_getD, List.getElem?_eq_getElem hi]
theorem OwnN.sl {w : World} {base : Nat} {v : Value} {ls : List Int} (h : OwnN w base v ls) : ∃ s cap, v = .slice s ls.length cap := by
  rcases h.2 with ⟨h1, h2⟩ | ⟨g, cap, cur, a, -⟩
  · exact ⟨none, 0, by rw [h1, h2]⟩
  · exact ⟨_, _, a⟩
theorem newN1 (w : World) (u : Value) : ∀ j v, [u][j]? = some v → (w.alloc (.cells #[u] 3)).cell? (Addr.add ⟨w.heap.size, 0, none⟩ j) = some v := by
  intro j v h
  match j, h with
  | 0, h => simpa [Addr.add, go_sem] using h
  | j + 1, h => simp at h
theorem newN3 (w : World) (u : Value) : ∀ j v, [u, u, u][j]? = some v → (w.alloc (.cells #[u, u, u] 3)).cell? (Addr.add ⟨w.heap.size, 0, none⟩ j) = some v := by
  intro j v h
  match j, h with
  | 0, h => simpa [Addr.add, go_sem] using h
  | 1, h => simpa [Addr.add, go_sem] using h
  | 2, h => simpa [Addr.add, go_sem] using h
  | j + 3, h => simp at h

theorem app_int {ops : Array Oper} {rest : List Oper} {o : Oper} {a : Act} {Q : Exit → Act → World → Prop} (hgd : o.guard = none) (s x : Operand) (ho : o.op = .call { callee := .builtin .append, args := #[s, x], argTypes := #[22, 22] })
    (w : World) (z : Int) (base : Nat) (v : Value) (ls : List Int) (hs : a.eval s = v) (hown : OwnN w base v ls) (hx : a.eval x = .slice (some ⟨w.heap.size, 0, none⟩) 1 1) (hn : ls.length ≤ 1099511627776) (hbase : base ≤ w.heap.size)
    (h : ∀ g cap w', OwnN w' base (.slice (some ⟨g, 0, none⟩) (ls.length + 1) cap) (ls ++ [z]) → Below base w w' → w.heap.size ≤ w'.heap.size → wpList Tryz.prog ops Q rest (a.put o.dst (.slice (some ⟨g, 0, none⟩) (ls.length + 1) cap)) w') :
    wpList Tryz.prog ops Q (o :: rest) a (w.alloc (.cells #[.int .i64 z] 3)) := by
  obtain ⟨i0, hi, hz0, hz1, hz2⟩ := infoInt
  have h1' := hown.alloc (.cells #[.int .i64 z] 3)
  refine wpList_append_lies _ hgd s x 22 ho base 3 i0 _ 1 8 Tryz.underlying22 hi hz0 hz1 hz2 rfl (by decide) v ls.length _ hs h1' ⟨w.heap.size, 0, none⟩ 1 1 [.int .i64 z] hx rfl (newN1 w _) (fun u hu => by simp at hu; subst hu; rfl) (by decide) (by unfold maxLen; omega) (by omega) (by simp; omega) _ rfl ?_
  intro g cap w' q1 q2 q3 q4
  have hb : Below base w w' := Below.grown (((Below.refl _ _).alloc hbase _)) q2 (by simp; omega) (fun j hj => (World.ownsRow.lt h1' _ hj).1)
  refine h g cap w' ?_ hb hb.size
  show w'.ownsRow base 3 1 _ (ls ++ [z]).length ((ls ++ [z]).map (Value.int .i64))
  rw [List.map_append, List.length_append]
  exact q1
theorem app_zeros {ops : Array Oper} {rest : List Oper} {o : Oper} {a : Act} {Q : Exit → Act → World → Prop} (hgd : o.guard = none) (s x : Operand) (ho : o.op = .call { callee := .builtin .append, args := #[s, x], argTypes := #[22, 22] })
    (w : World) (base : Nat) (v : Value) (ls : List Int) (hs : a.eval s = v) (hown : OwnN w base v ls) (hx : a.eval x = .slice (some ⟨w.heap.size, 0, none⟩) 3 3) (hn : ls.length ≤ 1099511627776) (hbase : base ≤ w.heap.size)
    (h : ∀ g cap w', OwnN w' base (.slice (some ⟨g, 0, none⟩) (ls.length + 3) cap) (ls ++ [0, 0, 0]) → Below base w w' → g < w'.heap.size → wpList Tryz.prog ops Q rest (a.put o.dst (.slice (some ⟨g, 0, none⟩) (ls.length + 3) cap)) w') :
    wpList Tryz.prog ops Q (o :: rest) a (w.alloc (.cells #[.int .i64 0, .int .i64 0, .int .i64 0] 3)) := by
  obtain ⟨i0, hi, hz0, hz1, hz2⟩ := infoInt
  have h1' := hown.alloc (.cells #[.int .i64 0, .int .i64 0, .int .i64 0] 3)
  refine wpList_append_lies _ hgd s x 22 ho base 3 i0 _ 1 8 Tryz.underlying22 hi hz0 hz1 hz2 rfl (by decide) v ls.length _ hs h1' ⟨w.heap.size, 0, none⟩ 3 3 [.int .i64 0, .int .i64 0, .int .i64 0] hx rfl (newN3 w _) (fun u hu => by simp at hu; subst hu; rfl) (by decide) (by unfold maxLen; omega) (by omega) (by simp; omega) _ rfl ?_
  intro g cap w' q1 q2 q3 q4
  have hb : Below base w w' := Below.grown (((Below.refl _ _).alloc hbase _)) q2 (by simp; omega) (fun j hj => (World.ownsRow.lt h1' _ hj).1)
  refine h g cap w' ?_ hb q4
  show w'.ownsRow base 3 1 _ (ls ++ [0, 0, 0]).length ((ls ++ [0, 0, 0]).map (Value.int .i64))
  rw [List.map_append, List.length_append]
  exact q1
end

section
set_option linter.unusedSimpArgs false
set_option linter.unusedVariables false
set_option maxRecDepth 100000
open Go.RowKit

theorem ownKeep' {w w' : World} {base : Nat} {e : TypeId} {size n : Nat} {v : Value} {xs : List Value} (h : w.ownsRow base e size v n xs) (hb : ∀ k, v.ownBlock = some k → w'.heap[k]? = w.heap[k]?) : w'.ownsRow base e size v n xs := by
  obtain ⟨h1, h2⟩ := h
  refine ⟨h1, ?_⟩
  rcases h2 with h2 | ⟨g, cap, cur, rfl, b0, c, d⟩
  · exact .inl h2
  · exact .inr ⟨g, cap, cur, rfl, b0, (hb g rfl).trans c, d⟩
theorem ownLow' {w : World} {b b' : Nat} {e : TypeId} {size n : Nat} {v : Value} {xs : List Value} (h : w.ownsRow b e size v n xs) (hb : b' ≤ b) : w.ownsRow b' e size v n xs := by
  obtain ⟨h1, h2⟩ := h
  refine ⟨h1, ?_⟩
  rcases h2 with h2 | ⟨g, cap, cur, a, b0, c, d⟩
  · exact .inl h2
  · exact .inr ⟨g, cap, cur, a, Nat.le_trans hb b0, c, d⟩
theorem ownType' {w : World} {base base' : Nat} {e e' : TypeId} {size size' n n' : Nat} {v v' : Value} {xs xs' : List Value} (h : w.ownsRow base e size v n xs) (h' : w.ownsRow base' e' size' v' n' xs') (hne : e ≠ e') {k : Nat} (hk : v.ownBlock = some k) : v'.ownBlock ≠ some k := by
  intro hk'
  rcases h.2 with ⟨rfl, -⟩ | ⟨g, cap, cur, rfl, -, c, -⟩
  · cases hk
  rcases h'.2 with ⟨rfl, -⟩ | ⟨g', cap', cur', rfl, -, c', -⟩
  · cases hk'
  · simp only [Value.ownBlock, Option.some.injEq] at hk hk'
    subst hk
    subst hk'
    rw [c] at c'
    injection c' with c'
    injection c' with c1 c2
    exact hne c2
theorem ownSl {w : World} {base : Nat} {e : TypeId} {size n : Nat} {v : Value} {xs : List Value} (h : w.ownsRow base e size v n xs) : ∃ s c, v = .slice s n c := by
  rcases h.2 with ⟨h1, h2⟩ | ⟨g, cap, cur, a, -⟩
  · exact ⟨none, 0, by rw [h1, h2]⟩
  · exact ⟨_, _, a⟩
theorem ownN_ints {w : World} {base : Nat} {v : Value} {l : List Int} (h : OwnN w base v l) : ∃ s c, v = .slice s l.length c ∧ IntsR w base w.heap.size s l := by
  rcases Nat.eq_zero_or_pos l.length with h0 | hpos
  · obtain ⟨s, c, e⟩ := ownSl h
    exact ⟨s, c, e, .inl (List.length_eq_zero_iff.1 h0)⟩
  · obtain ⟨g, cap, rfl, -⟩ := World.ownsRow.form h hpos
    have hlt := World.ownsRow.lt h g rfl
    refine ⟨_, _, rfl, .inr ⟨g, 0, rfl, hlt.1, hlt.2, fun i hi => ?_⟩⟩
    rw [Nat.zero_add, World.ownsRow.cellAt h i (by omega), List.getElem?_map, List.getD_eq_getElem?_getD, List.getElem?_eq_getElem hi]
    rfl
theorem setApp {α : Type} (b : List α) (i : Nat) (x : α) : ∀ a : List α, (a ++ b).set (a.length + i) x = a ++ b.set i x
  | [] => by simp
  | y :: r => by
    have e : (y :: r).length + i = (r.length + i) + 1 := by simp; omega
    rw [e]
    simp [setApp b i x r]
set_option maxHeartbeats 1000000 in
theorem toIntS_own (s : Option Addr) (c lo hi : Nat) (l : List Int) (w : World) (h : IntsR w lo hi s l) (hB : hi ≤ w.heap.size) (hl : l.length ≤ 1048576) :
    Calls Tryz.prog 20 #[.slice s l.length c] w fun e w' => e = .returned (.slice (some ⟨w.heap.size, 0, none⟩) l.length l.length) ∧ OwnN w' w.heap.size (.slice (some ⟨w.heap.size, 0, none⟩) l.length l.length) l ∧ Below w.heap.size w w' ∧ w.heap.size < w'.heap.size := by
  have hmk := mkInt l.length hl
  have HC : Hid (IntsR w lo hi s l) := h
  clear h
  go_enter Tryz.func20, Tryz.ntmps20
  go_wp2
  clear hmk
  go_loopw [4] (fun i wr => ∃ k : Nat, k ≤ l.length ∧ i = .int .i64 k ∧ Below w.heap.size w wr ∧ w.heap.size < wr.heap.size ∧ wr.ownsRow w.heap.size 3 1 (.slice (some ⟨w.heap.size, 0, none⟩) l.length l.length) l.length ((l.take k ++ List.replicate (l.length - k) 0).map (Value.int .i64))) (fun i _ => l.length - (intOf i).toNat)
  case atStart =>
    refine ⟨0, Nat.zero_le _, rfl, (Below.refl _ _).alloc (Nat.le_refl _) _, by simp, ?_⟩
    have h0 := World.ownsRow_lit (base := w.heap.size) (e := 3) (size := 1) w (madeCells #[.int .i64 0] (l.length * 1)) l.length (Nat.le_refl _) (by unfold maxLen; omega) (size_madeCells _ _)
    rw [toList_madeCells_one] at h0
    simpa using h0
  case round =>
    obtain ⟨k, hk, rfl, hb, hsz, ho⟩ := hrel
    have HB : Hid (Below w.heap.size w wr) := hb
    have HO := (show Hid _ from ho)
    clear hb ho
    by_cases hlt : k < l.length
    · obtain ⟨g, off, hs, hg, hc⟩ : ∃ g off, s = some ⟨g, off, none⟩ ∧ g < w.heap.size ∧ w.cell? ⟨g, off + k, none⟩ = some (.int .i64 (l.getD k 0)) := by
        rcases HC.out with h | ⟨g, off, a, b, d, e⟩
        · rw [h] at hlt; simp at hlt
        · exact ⟨g, off, a, by omega, e k hlt⟩
      subst hs
      have f0 := (HB.out.cell (p := ⟨g, off + k, none⟩) hg).trans hc
      generalize hx : l.getD k 0 = x at f0
      have HX : Hid (l.getD k 0 = x) := hx
      clear hx hc
      obtain ⟨u, hu⟩ : ∃ u, wr.cell? ⟨w.heap.size, k, none⟩ = some u := by
        rw [World.ownsRow.cellAt HO.out k (by omega)]
        exact ⟨_, List.getElem?_eq_getElem (by simp; omega)⟩
      have hz : wr.frozen? ⟨w.heap.size, k, none⟩ = false := World.ownsRow.frozenAt HO.out k
      have b0 : (0 : Int) ≤ (k : Int) := by omega
      have b1 : (k : Int) < (l.length : Int) := by omega
      go_wp2
      go_roundw
      case rel =>
        refine ⟨k + 1, by omega, by go_num, HB.out.setCell (p := ⟨w.heap.size, k, none⟩) (Nat.le_refl _) _, by simpa using hsz, ?_⟩
        have p := (World.ownsRow.stored HO.out k (.int .i64 x)).1
        have e1 : ((l.take k ++ List.replicate (l.length - k) 0).map (Value.int .i64)).set k (.int .i64 x) = (l.take (k + 1) ++ List.replicate (l.length - (k + 1)) 0).map (Value.int .i64) := by
          have e2 := setApp (List.replicate (l.length - k) (0 : Int)) 0 x (l.take k)
          rw [List.length_take, Nat.min_eq_left (by omega), Nat.add_zero] at e2
          have e3 : l.length - k = (l.length - (k + 1)) + 1 := by omega
          have e4 : l.take (k + 1) = l.take k ++ [x] := by
            rw [List.take_add_one, List.getElem?_eq_getElem hlt, ← HX.out, List.getD_eq_getElem?_getD, List.getElem?_eq_getElem hlt]; rfl
          rw [← List.map_set, e2, e3, List.replicate_succ, List.set_cons_zero, e4, List.append_assoc]
          rfl
        rw [e1] at p
        exact p
      case measure => simp [intOf]; omega
    · go_wp2
      go_ret
      have : k = l.length := by omega
      subst this
      have h1 := HO.out
      simp only [List.take_length, Nat.sub_self, List.replicate_zero, List.append_nil] at h1
      exact ⟨rfl, h1, HB.out, hsz⟩
/- blocks below hi and not from lo on are as they were -/
structure Exc (lo hi : Nat) (w w' : World) : Prop where
  os : w'.os = w.os
  tape : w'.tape = w.tape
  out : w'.output = w.output
  size : w.heap.size ≤ w'.heap.size
  blk : ∀ k, k < w.heap.size → (k < lo ∨ hi ≤ k) → w'.heap[k]? = w.heap[k]?
theorem Exc.below {lo hi B : Nat} {w w' : World} (h : Exc lo hi w w') (h1 : B ≤ lo) (h2 : B ≤ w.heap.size) : Below B w w' := ⟨h.os, h.tape, h.out, h.size, fun k hk => h.blk k (by omega) (.inl (by omega))⟩
theorem Keep.of_exc {lo hi lo' hi' : Nat} {w w' : World} (h : Exc lo' hi' w w') (h1 : hi ≤ w.heap.size) (h2 : hi ≤ lo' ∨ hi' ≤ lo) : Keep lo hi w w' := fun k a b => h.blk k (by omega) (by omega)
structure Bo2 (G : Nat) (W : World) (a b : Value) : Prop where
  c0 : W.cell? ⟨G, 0, none⟩ = some a
  c1 : W.cell? ⟨G, 1, none⟩ = some b
theorem Bo2.new (w : World) (a b : Value) (T : TypeId) : ∃ W, w.alloc (.cells #[a, b] T) = W ∧ Bo2 w.heap.size W a b ∧ Below w.heap.size w W ∧ W.heap.size = w.heap.size + 1 :=
  ⟨_, rfl, ⟨by simp [go_sem], by simp [go_sem]⟩, (Below.refl _ _).alloc (Nat.le_refl _) _, by simp⟩
theorem Bo2.keep {G : Nat} {W W' : World} {a b : Value} (h : Bo2 G W a b) (hk : Keep G (G + 1) W W') : Bo2 G W' a b := ⟨(hk.cell (p := ⟨G, 0, none⟩) (Nat.le_refl _) (Nat.lt_succ_self _)).trans h.c0, (hk.cell (p := ⟨G, 1, none⟩) (Nat.le_refl _) (Nat.lt_succ_self _)).trans h.c1⟩
/- a row of integers, its block between two -/
structure NB (w : World) (lo hi : Nat) (v : Value) (l : List Int) : Prop where
  o : OwnN w lo v l
  h : ∀ k, v.ownBlock = some k → k < hi
theorem NB.of {w : World} {lo : Nat} {v : Value} {l : List Int} (h : OwnN w lo v l) : NB w lo w.heap.size v l := ⟨h, fun _ hk => (World.ownsRow.lt h _ hk).2⟩
theorem NB.keep {w w' : World} {lo hi : Nat} {v : Value} {l : List Int} (h : NB w lo hi v l) (hk : Keep lo hi w w') : NB w' lo hi v l := ⟨ownKeep' h.o (fun k e => hk k (World.ownsRow.lt h.o _ e).1 (h.h k e)), h.h⟩
theorem eqN_true {lo hi lo' hi' : Nat} {s s' : Option Addr} (c c' : Nat) {l : List Int} {w : World} (h : IntsR w lo hi s l) (h' : IntsR w lo' hi' s' l) (hB : hi ≤ w.heap.size) (hB' : hi' ≤ w.heap.size) (hl : l.length ≤ 1048577) :
    Calls Tryz.prog 27 #[.slice s l.length c, .slice s' l.length c'] w fun e w' => e = .returned (.bool true) ∧ Below w.heap.size w w' := by
  refine (eqIntS_any s s' l l c c' w (h.ints hB) (h'.ints hB') (by omega)).mono ?_
  rintro e w' ⟨rfl, n, rfl⟩
  exact ⟨by simp, rfl, rfl, rfl, Nat.le_refl _, fun _ _ => rfl⟩
theorem NB.ints {w : World} {lo : Nat} {v : Value} {l : List Int} (h : OwnN w lo v l) : ∃ s c, v = .slice s l.length c ∧ IntsR w lo w.heap.size s l ∧ NB w lo w.heap.size v l := by
  obtain ⟨s, c, e, hi⟩ := ownN_ints h
  exact ⟨s, c, e, hi, NB.of h⟩
theorem toIntS_ex (s : Option Addr) (c lo hi : Nat) (l : List Int) (w : World) (h : IntsR w lo hi s l) (hB : hi ≤ w.heap.size) (hl : l.length ≤ 1048576) :
    Calls Tryz.prog 20 #[.slice s l.length c] w fun e w' => ∃ g, e = .returned (.slice (some ⟨g, 0, none⟩) l.length l.length) ∧ OwnN w' w.heap.size (.slice (some ⟨g, 0, none⟩) l.length l.length) l ∧ Below w.heap.size w w' ∧ w.heap.size < w'.heap.size :=
  (toIntS_own s c lo hi l w h hB hl).mono fun _ _ ⟨a, b, c, d⟩ => ⟨_, a, b, c, d⟩
theorem ownN_intsR {w : World} {base g c : Nat} {l : List Int} (h : OwnN w base (.slice (some ⟨g, 0, none⟩) l.length c) l) : IntsR w base w.heap.size (some ⟨g, 0, none⟩) l := by
  obtain ⟨s, c', e, hi⟩ := ownN_ints h
  injection e with e1 e2 e3
  rw [e1]
  exact hi
theorem below_drewN (w : World) (n : Nat) : Below w.heap.size w (w.drewN n) := ⟨rfl, rfl, rfl, Nat.le_refl _, fun _ _ => rfl⟩
structure Bo1 (G : Nat) (W : World) (a : Value) : Prop where
  c0 : W.cell? ⟨G, 0, none⟩ = some a
theorem Bo1.new (w : World) (a : Value) (T : TypeId) : ∃ W, w.alloc (.cells #[a] T) = W ∧ Bo1 w.heap.size W a ∧ Below w.heap.size w W ∧ W.heap.size = w.heap.size + 1 :=
  ⟨_, rfl, ⟨by simp [go_sem]⟩, (Below.refl _ _).alloc (Nat.le_refl _) _, by simp⟩
theorem Bo1.keep {G : Nat} {W W' : World} {a : Value} (h : Bo1 G W a) (hk : Keep G (G + 1) W W') : Bo1 G W' a := ⟨(hk.cell (p := ⟨G, 0, none⟩) (Nat.le_refl _) (Nat.lt_succ_self _)).trans h.c0⟩
end

section
set_option linter.unusedSimpArgs false
set_option linter.unusedVariables false
set_option maxRecDepth 100000
open Go.RowKit

theorem all_take {α : Type} {p : α → Bool} {l : List α} {k : Nat} {x : α} (h : l[k]? = some x) : (l.take (k + 1)).all p = ((l.take k).all p && p x) := by
  rw [List.take_add_one, h, Option.toList_some, List.all_append]
  simp
theorem all_no {α : Type} {p : α → Bool} {l : List α} {k : Nat} {x : α} (h : l[k]? = some x) (hx : p x = false) : l.all p = false := by
  rw [List.all_eq_false]
  exact ⟨x, List.mem_of_getElem? h, by simp [hx]⟩

theorem l1InD_any (x a b : Int) (w : World) : Calls Tryz.prog 34 #[.int .i64 x, .int .i64 a, .int .i64 b] w fun e w' => e = .returned (.bool (decide (a ≤ x ∧ x ≤ b))) ∧ w' = w := by
  by_cases h : x ≥ a
  · by_cases h2 : x ≤ b
    · rw [decide_eq_true ⟨h, h2⟩]
      go_enter Tryz.func34, Tryz.ntmps34
      go_wp2
      go_ret
      exact ⟨by simp, rfl⟩
    · rw [decide_eq_false (fun e => h2 e.2)]
      go_enter Tryz.func34, Tryz.ntmps34
      go_wp2
      go_ret
      exact ⟨by simp, rfl⟩
  · rw [decide_eq_false (fun e => h e.1)]
    go_enter Tryz.func34, Tryz.ntmps34
    go_wp2
    go_ret
    exact ⟨by simp, rfl⟩

theorem l1InD_is (x lo hi : Int) (b : Bool) (w : World) (h : decide (lo ≤ x ∧ x ≤ hi) = b) : Calls Tryz.prog 34 #[.int .i64 x, .int .i64 lo, .int .i64 hi] w fun e w' => e = .returned (.bool b) ∧ w' = w := by
  rw [← h]
  exact l1InD_any x lo hi w
end

end Go.Proofs.YthkpkdehicoikaaGreat
