/- The cursor over a draw's bytes: each function that draws a number turns the cursor's own block alone, and its number lies within its bounds. Conditions: the cursor and its bytes lie in memory as the reading says. The frame of a law over drawn bytes: they are a slice of bytes in memory; laws.big counts them. No condition. What the law of the lock reads and makes: its letters, its steps, its picks. No condition. -/
import Derived.Test.YtepfpbcjklaenaaChecked
import Derived.WalkKit
import Derived.KernelRfl
import Derived.WalkSpells
import Derived.WalkLawsBesides
import Derived.Deep.QuietTactic
import Derived.BigQuiet
import Derived.Test.YtepfpbcjklaenaaRows
import Derived.ProofKit
import Derived.OpenShut
import Derived.ShutString
import Derived.ChangeOld
import Derived.ChangeSlices
import Derived.Test.YtepfpbcjklaenaaKG17
import Derived.Test.YtepfpbcjklaenaaKKNewI
import Derived.Test.YtepfpbcjklaenaaKKNewS
namespace Go.Proofs.Ytepfpbcjklaenaa
section
set_option linter.unusedSimpArgs false
set_option linter.unusedVariables false
set_option maxRecDepth 100000
open Go.RowKit
/- the bytes of a draw lie below block p -/
def Bytes (w : World) (p : Nat) (s : Option Addr) (n : Nat) : Prop :=
 n = 0 ∨ ∃ g o, s = some ⟨g, o, none⟩ ∧ g < p ∧ ∀ k, k < n → ∃ b : Int, w.cell? ⟨g, o + k, none⟩ = some (.int .u8 b) ∧ 0 ≤ b ∧ b ≤ 255
end
section
set_option linter.unusedSimpArgs false
set_option linter.unusedVariables false
set_option maxRecDepth 100000
open Go.ChangeShapes Go.WideShapes Go.ChangeAt Go.RowKit
theorem retB {x y : Bool} (h : x = y) : Ending.returned (.bool x) = Ending.returned (.bool y) := by rw [h]
theorem big_any (s : Option Addr) (n c : Nat) (w : World) : Calls Try.prog 6 #[.slice s n c] w fun e w' => e = .returned (.bool (decide (1048576 < n))) ∧ w' = w := by
 go_enter Try.func6, Try.ntmps6
 go_wp2
 go_ret
 refine ⟨retB ?_, rfl⟩
 rw [Bool.eq_iff_iff]
 simp
 omega
theorem ownS : ownKnob Try.prog.godebug = none := by kernel_rfl
theorem laidOutS : laidOutB Try.prog = true := by kernel_rfl
theorem bytes_read {H : Type} {enc : TypeId × Value → H} {w : World} {base b0 : Nat} {held : Bool} {k : Reach} {v : Value} {d : DataW H} {p : List MemPlace}
  (hv : Value.okWide Try.prog w k b0 22 v) (h : DataW.Trod enc Try.prog w base (fun _ => true) held 22 v d p) :
  ∃ (s : Option Addr) (n c : Nat), v = .slice s n c ∧ n ≤ maxLen ∧ Bytes w w.heap.size s n := by
 obtain ⟨s, len, cap, rfl⟩ := okWide_slice Try.underlying22 hv
 obtain ⟨fuel, hf⟩ := h
 rcases open_ints Try.underlying22 Try.underlying5 (by kernel_rfl) hf with ⟨hcs, _⟩ | ⟨a, l, c, zs, hcs, _, hl, hm, hz, _, hcell, hwz⟩
 ·simp [Value.cells] at hcs
  obtain ⟨rfl, rfl, rfl⟩ := hcs
  exact ⟨none, 0, 0, rfl, Nat.zero_le _, .inl rfl⟩
 ·simp [Value.cells] at hcs
  obtain ⟨rfl, rfl, rfl⟩ := hcs
  simp at hz
  refine ⟨some a, len, cap, rfl, by omega, ?_⟩
  by_cases h0 : len = 0
  ·exact .inl h0
  ·have c0 := hcell 0 (by omega)
   have c0' : w.cell? a = some (.int .u8 (zs.getD 0 0)) := by simpa [Addr.add] using c0
   have hs := World.cell?_spot c0'
   have hg : a.block < w.heap.size := by
    apply Classical.byContradiction
    intro hn
    have : w.heap[a.block]? = none := by simp; omega
    simp [World.cell?, this] at c0'
   obtain ⟨g, off, spot⟩ := a
   simp at hs
   subst hs
   refine .inr ⟨g, off, rfl, hg, fun i hi => ?_⟩
   have ci := hcell i (by omega)
   have e : (Addr.add ⟨g, off, none⟩ i) = ⟨g, off + i, none⟩ := by
    by_cases h : i = 0
    ·subst h; rfl
    ·simp [Addr.add, h]
   rw [e] at ci
   have hmem : zs.getD i 0 ∈ zs := by
    rw [List.getD_eq_getElem?_getD, List.getElem?_eq_getElem (by omega)]
    exact List.getElem_mem (by omega)
   have hw := bounds_u8 (hwz _ hmem)
   exact ⟨_, ci, by omega, by omega⟩
theorem Bytes.up {w w' : World} {s : Option Addr} {n : Nat} (h : Bytes w w.heap.size s n) (hb : Below w.heap.size w w') : Bytes w' w'.heap.size s n := by
 have hz := hb.size
 rcases h with h | ⟨g, o, hs, hg, hc⟩
 ·exact .inl h
 ·refine .inr ⟨g, o, hs, by omega, fun k hk => ?_⟩
  obtain ⟨b, h1, h2⟩ := hc k hk
  exact ⟨b, (hb.cell (p := ⟨g, o + k, none⟩) hg).trans h1, h2⟩
end
section
set_option linter.unusedSimpArgs false
set_option linter.unusedVariables false
set_option maxRecDepth 100000
open Go.RowKit
theorem at_n (s : Option Addr) (n c k : Nat) (w : World) (hk : k ≤ 300) (h : Bytes w w.heap.size s n) (hn : n ≤ 1048576) : Calls Try.prog 9 #[.slice s n c, .int .i64 k] w fun e w' => ∃ x : Int, e = .returned (.int .i64 x) ∧ 0 ≤ x ∧ x ≤ 255 ∧ w' = w := by
 by_cases hlt : (k : Int) < (n : Int)
 ·rcases h with rfl | ⟨g, o, rfl, hg, hc⟩
  ·omega
  obtain ⟨b, h1, h2, h3⟩ := hc k (by omega)
  have b0 : (0 : Int) ≤ (k : Int) := by omega
  go_enter Try.func9, Try.ntmps9
  go_wp2
  go_ret
  exact ⟨b, rfl, h2, h3, rfl⟩
 ·clear h
  go_enter Try.func9, Try.ntmps9
  go_wp2
  go_ret
  exact ⟨_, rfl, by omega, by omega, rfl⟩
def OwnPk (w : World) (base : Nat) (v : Value) (l : List ND) : Prop := w.ownsRow base 40 2 v l.length (flatN l)
theorem OwnPk.nts {w : World} {base : Nat} {v : Value} {l : List ND} (h : OwnPk w base v l) : ∃ s c, v = .slice s l.length c ∧ NtsR w base w.heap.size s l := by
 rcases Nat.eq_zero_or_pos l.length with h0 | hpos
 ·obtain ⟨s, c, e⟩ := ownSl h
  exact ⟨s, c, e, .inl (List.length_eq_zero_iff.1 h0)⟩
 ·obtain ⟨g, cap, rfl, -⟩ := World.ownsRow.form h hpos
  have hlt := World.ownsRow.lt h g rfl
  refine ⟨_, _, rfl, .inr ⟨g, 0, rfl, hlt.1, hlt.2, fun i r hr => ?_⟩⟩
  have hi : i < l.length := (List.getElem?_eq_some_iff.1 hr).1
  obtain ⟨e0, e1⟩ := flatN_at l i r hr
  refine ⟨?_, ?_⟩
  ·rw [Nat.zero_add, World.ownsRow.cellAt h _ (by omega)]; exact e0
  ·rw [Nat.zero_add, World.ownsRow.cellAt h _ (by omega)]; exact e1
theorem infoPk : ∃ i, Try.prog.info? 40 = some i ∧ i.zero = some (.agg #[.int .i64 0, .int .i64 0]) ∧ i.size = 2 ∧ i.bytes = 16 := ⟨_, rfl, rfl, rfl, rfl⟩
theorem wp_pick {o : Oper} {a : Act} {w : World} {K : Act → World → Prop} {Q : Exit → Act → World → Prop} (s x : Operand) (ho : o.op = .call { callee := .builtin .append, args := #[s, x], argTypes := #[37, 37] })
  (base : Nat) (v : Value) (n : Nat) (xs : List Value) (hs : a.eval s = v) (hown : w.ownsRow base 40 2 v n xs) (g0 : Nat) (u0 u1 : Value) (hu0 : u0.oneCell' = true) (hu1 : u1.oneCell' = true) (hx : a.eval x = .slice (some ⟨g0, 0, none⟩) 1 1) (hc0 : w.cell? ⟨g0, 0, none⟩ = some u0) (hc1 : w.cell? ⟨g0, 1, none⟩ = some u1) (hn : n ≤ 1073741824) (hbase : base ≤ w.heap.size)
  (h : ∀ g cap w', w'.ownsRow base 40 2 (.slice (some ⟨g, 0, none⟩) (n + 1) cap) (n + 1) (xs ++ [u0, u1]) → w.grownBy w' v.ownBlock → (v.ownBlock = some g ∨ w.heap.size ≤ g) → g < w'.heap.size → K (a.put o.dst (.slice (some ⟨g, 0, none⟩) (n + 1) cap)) w') : Oper.wp Try.prog o a w K Q := by
 obtain ⟨i0, hi, hz0, hz1, hz2⟩ := infoPk
 refine wp_append_lies w s x 37 ho base 40 i0 _ 2 16 Try.underlying37 hi hz0 hz1 hz2 rfl (by decide) v n xs hs hown ⟨g0, 0, none⟩ 1 1 [u0, u1] hx rfl (fun j u' hj => ?_) (fun u' hu' => by simp at hu'; rcases hu' with rfl | rfl <;> assumption) (by decide) (by unfold maxLen; omega) (by omega) hbase _ rfl ?_
 ·match j, hj with
  | 0, hj => simp at hj; subst hj; simpa [Addr.add] using hc0
  | 1, hj => simp at hj; subst hj; simpa [Addr.add] using hc1
  | j + 2, hj => simp at hj
 ·intro g cap w' q1 q2 q3 q4
  exact h g cap w' q1 q2 (by rcases q3 with q3 | q3 <;> first | exact .inl q3 | exact .inr (by omega)) q4
theorem app_pick {ops : Array Oper} {rest : List Oper} {o : Oper} {a : Act} {Q : Exit → Act → World → Prop} (hgd : o.guard = none) (s x : Operand) (ho : o.op = .call { callee := .builtin .append, args := #[s, x], argTypes := #[37, 37] })
  (w : World) (base : Nat) (v : Value) (n : Nat) (xs : List Value) (hs : a.eval s = v) (hown : w.ownsRow base 40 2 v n xs) (g0 : Nat) (u0 u1 : Value) (hu0 : u0.oneCell' = true) (hu1 : u1.oneCell' = true) (hx : a.eval x = .slice (some ⟨g0, 0, none⟩) 1 1) (hc0 : w.cell? ⟨g0, 0, none⟩ = some u0) (hc1 : w.cell? ⟨g0, 1, none⟩ = some u1) (hn : n ≤ 1073741824) (hbase : base ≤ w.heap.size)
  (h : ∀ g cap w', w'.ownsRow base 40 2 (.slice (some ⟨g, 0, none⟩) (n + 1) cap) (n + 1) (xs ++ [u0, u1]) → w.grownBy w' v.ownBlock → (v.ownBlock = some g ∨ w.heap.size ≤ g) → g < w'.heap.size → wpList Try.prog ops Q rest (a.put o.dst (.slice (some ⟨g, 0, none⟩) (n + 1) cap)) w') : wpList Try.prog ops Q (o :: rest) a w :=
 wpList_plain hgd fun _ hK => wp_pick s x ho base v n xs hs hown g0 u0 u1 hu0 hu1 hx hc0 hc1 hn hbase fun g cap w' h1 h2 h3 h4 => hK _ _ (h g cap w' h1 h2 h3 h4)
/- the picks so far: n of them, the first 200 of any core, the further ones in turn -/
structure PkJ (z : World) (B : Nat) (v : Value) (l : List ND) (X : World) : Prop where
 o : OwnPk X B v l
 b : Below B z X
 v4 : ∀ x ∈ l, 0 ≤ x.v ∧ x.v ≤ 4
 a : ∀ (j : Nat) (x : ND), j < 200 → l[j]? = some x → 0 ≤ x.who ∧ x.who < 3
 r : ∀ (j : Nat) (x : ND), l[200 + j]? = some x → x.who = ((j % 3 : Nat) : Int)
theorem PkJ.lit (z X : World) (B : Nat) (v : Value) (h : OwnPk X B v []) (hb : Below B z X) : PkJ z B v [] X :=
 ⟨h, hb, fun x hx => by simp at hx, fun j x _ hx => by simp at hx, fun j x hx => by simp at hx⟩
theorem PkJ.add {z X Y : World} {B g cap : Nat} {v : Value} {l : List ND} (x : ND) (h : PkJ z B v l X) (hz : B ≤ z.heap.size) (ho : Y.ownsRow B 40 2 (.slice (some ⟨g, 0, none⟩) (l.length + 1) cap) (l.length + 1) (flatN l ++ [.int .i64 x.who, .int .i64 x.v])) (hg : Below B X Y) (h4 : 0 ≤ x.v ∧ x.v ≤ 4) (h1 : l.length < 200 → 0 ≤ x.who ∧ x.who < 3) (h2 : ∀ j, l.length = 200 + j → x.who = ((j % 3 : Nat) : Int)) : PkJ z B (.slice (some ⟨g, 0, none⟩) (l.length + 1) cap) (l ++ [x]) Y := by
 refine ⟨?_, h.b.trans hg, fun y hy => ?_, fun j y hj hy => ?_, fun j y hy => ?_⟩
 ·unfold OwnPk
  rw [flatN_app, List.length_append]
  exact ho
 ·rcases List.mem_append.1 hy with hy | hy
  ·exact h.v4 y hy
  ·simp at hy; subst hy; exact h4
 ·by_cases e : j < l.length
  ·rw [List.getElem?_append_left e] at hy
   exact h.a j y hj hy
  ·rw [List.getElem?_append_right (by omega)] at hy
   have e2 : j = l.length := by
    have := (List.getElem?_eq_some_iff.1 hy).1
    simp at this
    omega
   subst e2
   simp at hy
   subst hy
   exact h1 hj
 ·by_cases e : 200 + j < l.length
  ·rw [List.getElem?_append_left e] at hy
   exact h.r j y hy
  ·rw [List.getElem?_append_right (by omega)] at hy
   have e2 : 200 + j = l.length := by
    have := (List.getElem?_eq_some_iff.1 hy).1
    simp at this
    omega
   rw [e2] at hy
   simp at hy
   subst hy
   exact h2 j e2.symm
theorem lb_codes : codesB [LB, LB, LB] = true := by decide +kernel
theorem lb_new : newMa [LB, LB, LB] = newMd [LB, LB, LB] := by
 unfold newMa
 rw [lb_codes]
 rfl
theorem lb_sz : MaSz (newMd [LB, LB, LB]) ≤ 1048576 := by decide +kernel
theorem lb_ok : machB (newMd [LB, LB, LB]) = true := by rw [mach_new]; exact lb_codes
theorem lk_start : Lk (fun _ => 0) 0 (newMd [LB, LB, LB]) := by
 refine ⟨rfl, lb_ok, fun i k hk => ?_, by decide, by decide, fun i j _ _ c => absurd c (by decide), fun i _ c => absurd c (by decide), fun _ => by decide, by decide⟩
 have e : k = zKD := by
  have h : (List.replicate 3 zKD)[i]? = some k := hk
  rw [List.getElem?_replicate] at h
  split at h
  ·injection h with h; exact h.symm
  ·cases h
 subst e
 exact ⟨rfl, rfl, by decide, fun h => by omega, fun h => by omega, fun h => by omega, fun h => by omega, fun h => by omega, fun h => by omega, fun h => absurd h (by decide)⟩
/- the literals of a code and of three equal codes -/
theorem lockRow (w : World) : ∃ W, w.alloc (.cells (.int .i64 1 :: .int .i64 7 :: .int .i64 0 :: .int .i64 0 :: .int .i64 1 :: .int .i64 8 :: .int .i64 6 :: .int .i64 0 :: .int .i64 7 :: .int .i64 0 :: .int .i64 11 :: .int .i64 0 :: .int .i64 6 :: .int .i64 0 :: .int .i64 4 :: .int .i64 10 :: .int .i64 0 :: .int .i64 0 :: .int .i64 0 :: .int .i64 0 :: .int .i64 5 :: .int .i64 5 :: .int .i64 (-1) :: .int .i64 0 :: .int .i64 1 :: .int .i64 2 :: .int .i64 5 :: .int .i64 5 :: .int .i64 7 :: .int .i64 0 :: .int .i64 6 :: .int .i64 0 :: .int .i64 (-1) :: .int .i64 5 :: .int .i64 1 :: .int .i64 1 :: .int .i64 7 :: .int .i64 0 :: .int .i64 0 :: .int .i64 0 :: .int .i64 7 :: .int .i64 0 :: .int .i64 (-1) :: .int .i64 7 :: .int .i64 0 :: .int .i64 12 :: .int .i64 0 :: .int .i64 0 :: .int .i64 0 :: .int .i64 0 :: []).toArray 25) = W ∧ InsR W w.heap.size (w.heap.size + 1) (some ⟨w.heap.size, 0, none⟩) LB ∧ Below w.heap.size w W ∧ W.heap.size = w.heap.size + 1 := by
 refine ⟨_, rfl, .inr ⟨w.heap.size, 0, rfl, Nat.le_refl _, by omega, fun i hi => ?_⟩, (Below.refl _ _).alloc (Nat.le_refl _) _, by simp⟩
 have e : ∀ (cs : Array Value) (T : TypeId) (j : Nat), (w.alloc (.cells cs T)).cell? ⟨w.heap.size, j, none⟩ = cs[j]? := fun cs T j => by simp [go_sem]
 unfold At5
 rw [Nat.zero_add, e, e, e, e, e]
 have hi' : i < 10 := hi
 match i, hi' with
 | 0, _ => exact ⟨rfl, rfl, rfl, rfl, rfl⟩
 | 1, _ => exact ⟨rfl, rfl, rfl, rfl, rfl⟩
 | 2, _ => exact ⟨rfl, rfl, rfl, rfl, rfl⟩
 | 3, _ => exact ⟨rfl, rfl, rfl, rfl, rfl⟩
 | 4, _ => exact ⟨rfl, rfl, rfl, rfl, rfl⟩
 | 5, _ => exact ⟨rfl, rfl, rfl, rfl, rfl⟩
 | 6, _ => exact ⟨rfl, rfl, rfl, rfl, rfl⟩
 | 7, _ => exact ⟨rfl, rfl, rfl, rfl, rfl⟩
 | 8, _ => exact ⟨rfl, rfl, rfl, rfl, rfl⟩
 | 9, _ => exact ⟨rfl, rfl, rfl, rfl, rfl⟩
 | i + 10, h => omega
theorem csR3 {W : World} {lo hi : Nat} {s : Option Addr} (hr : InsR W lo hi s LB) (hB : hi ≤ W.heap.size) (hl : lo ≤ W.heap.size) : ∃ V, W.alloc (.cells #[.slice s 10 10, .slice s 10 10, .slice s 10 10] 26) = V ∧ CsR V lo V.heap.size (some ⟨W.heap.size, 0, none⟩) [LB, LB, LB] ∧ Below W.heap.size W V ∧ V.heap.size = W.heap.size + 1 := by
 obtain ⟨V, hV⟩ : ∃ V, W.alloc (.cells #[.slice s 10 10, .slice s 10 10, .slice s 10 10] 26) = V := ⟨_, rfl⟩
 have k2 : Below W.heap.size W V := by subst hV; exact (Below.refl _ _).alloc (Nat.le_refl _) _
 have z2 : V.heap.size = W.heap.size + 1 := by subst hV; simp
 have hr2 := (hr.keep (Keep.of_below k2 hB)).mono (Nat.le_refl _) (by omega : hi ≤ V.heap.size)
 have e2 : ∀ j, V.cell? ⟨W.heap.size, j, none⟩ = #[Value.slice s 10 10, .slice s 10 10, .slice s 10 10][j]? := fun j => by subst hV; simp [go_sem]
 refine ⟨V, hV, .inr ⟨W.heap.size, 0, rfl, by omega, by omega, fun i x hx => ?_⟩, k2, z2⟩
 rw [Nat.zero_add]
 match i, hx with
 | 0, hx => injection hx with hx; subst hx; exact ⟨_, 10, (e2 0).trans rfl, hr2⟩
 | 1, hx => injection hx with hx; subst hx; exact ⟨_, 10, (e2 1).trans rfl, hr2⟩
 | 2, hx => injection hx with hx; subst hx; exact ⟨_, 10, (e2 2).trans rfl, hr2⟩
 | i + 3, hx => simp at hx
theorem implLB {D : MD} (hD : newMd [LB, LB, LB] = D) (s : Option Addr) (lo hi : Nat) (w : World) (h : CsR w lo hi s [LB, LB, LB]) (hB : hi ≤ w.heap.size) : Calls Try.prog 7 #[.slice s 3 3] w fun e w' => ∃ p : MP, e = .returned (.tuple #[.agg #[.slice p.s1 D.codes.length p.c1, .slice p.s2 D.cores.length p.c2, .slice p.s3 D.mem.length p.c3, .slice p.s4 D.tr.length p.c4], .bool true]) ∧ MaO w' w.heap.size w'.heap.size p D ∧ Below w.heap.size w w' := by
 have q := implMachNew_any s 3 lo hi [LB, LB, LB] w h hB (by decide)
 rw [lb_new, lb_codes, hD] at q
 exact q
theorem specLB {D : MD} (hD : newMd [LB, LB, LB] = D) (s : Option Addr) (lo hi : Nat) (w : World) (h : CsR w lo hi s [LB, LB, LB]) (hB : hi ≤ w.heap.size) : Calls Try.prog 8 #[.slice s 3 3] w fun e w' => ∃ p : MP, e = .returned (.tuple #[.agg #[.slice p.s1 D.codes.length p.c1, .slice p.s2 D.cores.length p.c2, .slice p.s3 D.mem.length p.c3, .slice p.s4 D.tr.length p.c4], .bool true]) ∧ MaO w' w.heap.size w'.heap.size p D ∧ Below w.heap.size w w' := by
 have q := specMachNew_any s 3 lo hi [LB, LB, LB] w h hB (by decide)
 rw [lb_new, lb_codes, hD] at q
 exact q
/- the run of 410 picks -/
structure LkE (E : MD) (C : List Int) : Prop where
 n : C.length = 410
 c : E.cores.length = 3
 st : ∀ (i : Nat) (k : KD), E.cores[i]? = some k → k.st = 1
 v : (lst (E.mem.getD 1 [])).v = 3
 r : ∀ (i : Nat) (r : List WD), E.mem[i]? = some r → r.length ≤ 4000
theorem lockRun {D : MD} (hD : newMd [LB, LB, LB] = D) {z X : World} {B : Nat} {v : Value} {l : List ND} (h : PkJ z B v l X) (hl : l.length = 410) : LkE (runMb D l) (runMc D l) := by
 have ok : machB D = true := hD ▸ lb_ok
 have st : Lk (fun _ => 0) 0 D := hD ▸ lk_start
 have c : l.length ≤ 4000 ∧ machB D = true := ⟨by omega, ok⟩
 have e1 : runMb D l = rnM D l := by unfold runMb; rw [if_pos c]
 have e2 : runMc D l = rnC D l := by unfold runMc; rw [if_pos c]
 obtain ⟨q1, q2, q3⟩ := lock_end st hl h.a (fun j x _ hx => h.r j x hx)
 rw [e1, e2]
 refine ⟨by rw [rnC_len]; exact hl, q1, q2, q3, fun i r hr => ?_⟩
 have h1 := rnM_ok l ok
 unfold machB at h1
 simp only [Bool.and_eq_true] at h1
 have h2 := h1.2.2.2
 unfold memB at h2
 simp only [Bool.and_eq_true] at h2
 have h3 := List.all_eq_true.1 h2.2 r (List.mem_of_getElem? hr)
 unfold rowB at h3
 simp only [Bool.and_eq_true] at h3
 exact (of_decide_eq_true h3.1).2
theorem X4.put4 {V : World} {b lo hi : Nat} {v0 v1 v2 v3 : Value} {s1 s2 s3 s4 : Option Addr} {E : MD} (a b' c d : Value) (h : X4 V b v0 v1 v2 v3) (hm : MaR V lo hi s1 s2 s3 s4 E) (hb : b < lo) : ∃ Z, (((V.setCell ⟨b, 0, none⟩ a).setCell ⟨b, 1, none⟩ b').setCell ⟨b, 2, none⟩ c).setCell ⟨b, 3, none⟩ d = Z ∧ X4 Z b a b' c d ∧ MaR Z lo hi s1 s2 s3 s4 E ∧ Z.heap.size = V.heap.size ∧ (∀ q, q ≠ b → Z.heap[q]? = V.heap[q]?) ∧ ∀ (B : Nat) (A : World), Below B A V → B ≤ b → Below B A Z := by
 refine ⟨_, rfl, h.set0.set1.set2.set3, hm.keep ?_, by simp, fun q hq => ?_, fun B A k hB => ?_⟩
 ·exact fun q h1 _ => (Below.heap_setCell _ ⟨b, _, none⟩ _ q (by show q ≠ b; omega)).trans ((Below.heap_setCell _ ⟨b, _, none⟩ _ q (by show q ≠ b; omega)).trans ((Below.heap_setCell _ ⟨b, _, none⟩ _ q (by show q ≠ b; omega)).trans (Below.heap_setCell _ ⟨b, _, none⟩ _ q (by show q ≠ b; omega))))
 ·exact (Below.heap_setCell _ ⟨b, _, none⟩ _ q hq).trans ((Below.heap_setCell _ ⟨b, _, none⟩ _ q hq).trans ((Below.heap_setCell _ ⟨b, _, none⟩ _ q hq).trans (Below.heap_setCell _ ⟨b, _, none⟩ _ q hq)))
 ·exact (((k.setCell (p := ⟨b, _, none⟩) hB _).setCell (p := ⟨b, _, none⟩) hB _).setCell (p := ⟨b, _, none⟩) hB _).setCell (p := ⟨b, _, none⟩) hB _
structure LkR (Z : World) (s2 s3 : Option Addr) (E : MD) (g2 o2 g3 o3 g4 o4 m c4 : Nat) : Prop where
 e2 : s2 = some ⟨g2, o2, none⟩
 e3 : s3 = some ⟨g3, o3, none⟩
 ml : 1 < E.mem.length
 m4 : m ≤ 4000
 k0 : Z.cell? ⟨g2, o2 + 3, none⟩ = some (.int .i64 1)
 k1 : Z.cell? ⟨g2, o2 + 4 + 3, none⟩ = some (.int .i64 1)
 k2 : Z.cell? ⟨g2, o2 + 8 + 3, none⟩ = some (.int .i64 1)
 m1 : Z.cell? ⟨g3, o3 + 1, none⟩ = some (.slice (some ⟨g4, o4, none⟩) (m + 1) c4)
 v3 : Z.cell? ⟨g4, o4 + m * 2, none⟩ = some (.int .i64 3)
theorem lockRead {Z : World} {lo hi : Nat} {s1 s2 s3 s4 : Option Addr} {E : MD} {C : List Int} (h : MaR Z lo hi s1 s2 s3 s4 E) (e : LkE E C) : ∃ g2 o2 g3 o3 g4 o4 m c4, LkR Z s2 s3 E g2 o2 g3 o3 g4 o4 m c4 := by
 obtain ⟨-, hk, hm, -⟩ := h
 have hcl := e.c
 have at3 : ∀ i, i < 3 → ∃ k, E.cores[i]? = some k := fun i hi => ⟨_, List.getElem?_eq_getElem (by omega)⟩
 have hv := e.v
 rcases hk with hk | ⟨g2, o2, e2, -, -, hk⟩
 ·rw [hk] at hcl; cases hcl
 have cell : ∀ i, i < 3 → Z.cell? ⟨g2, o2 + i * 4 + 3, none⟩ = some (.int .i64 1) := fun i hi => by
  obtain ⟨k, hk1⟩ := at3 i hi
  obtain ⟨_, _, _, _, -, -, -, q, -⟩ := hk i k hk1
  rw [e.st i k hk1] at q
  exact q
 rw [List.getD_eq_getElem?_getD] at hv
 cases hr : E.mem[1]? with
 | none => rw [hr] at hv; exact absurd hv (by decide)
 | some r =>
  rw [hr] at hv
  have hv' : (lst r).v = 3 := hv
  have ml := (List.getElem?_eq_some_iff.1 hr).1
  obtain ⟨g3, o3, s', c', e3, -, -, m1, hw⟩ := hm.row hr
  cases r with
  | nil => exact absurd hv' (by decide)
  | cons x t =>
   have hx : (x :: t)[t.length]? = some (lst (x :: t)) := by
    unfold lst
    rw [List.getD_eq_getElem?_getD]
    simp
   obtain ⟨g4, o4, _, _, e4, -, -, v3, -⟩ := hw.at hx
   rw [hv'] at v3
   subst e4
   exact ⟨g2, o2, g3, o3, g4, o4, t.length, c', e2, e3, ml, by have := e.r 1 _ hr; simp at this; omega, by simpa using cell 0 (by omega), by simpa using cell 1 (by omega), by simpa using cell 2 (by omega), m1, v3⟩
end
end Go.Proofs.Ytepfpbcjklaenaa
