/- What the law of the lock reads and makes: its letters, its steps, its picks. No condition. How much a step adds to a machine. No condition. Drawn picks: a row of its own, of few. Conditions: the cursor and its bytes lie in memory as the reading says; at most 20 rounds. -/
import Derived.Test.YtepfpbcjklaenaaMG00
import Derived.Test.YtepfpbcjklaenaaMG01
import Derived.Test.YtepfpbcjklaenaaMG03
import Derived.Test.YtepfpbcjklaenaaMG02
import Derived.Test.YtepfpbcjklaenaaMG19
import Derived.Test.YtepfpbcjklaenaaMG18
import Derived.Test.YtepfpbcjklaenaaMKOkB
import Derived.Test.YtepfpbcjklaenaaMG07
import Derived.Test.YtepfpbcjklaenaaMG08
import Derived.Test.YtepfpbcjklaenaaMG20
import Derived.Test.YtepfpbcjklaenaaMG21
import Derived.Test.YtepfpbcjklaenaaMG22
import Derived.Test.YtepfpbcjklaenaaMMemStore
import Derived.Test.YtepfpbcjklaenaaMG09
import Derived.Test.YtepfpbcjklaenaaMG17
import Derived.Test.YtepfpbcjklaenaaMG11
import Derived.Test.YtepfpbcjklaenaaMDraw7
namespace Go.Proofs.Ytepfpbcjklaenaa
section
set_option linter.unusedSimpArgs false
set_option linter.unusedVariables false
set_option maxRecDepth 100000
open Go.RowKit
def OwnPk (w : World) (base : Nat) (v : Value) (l : List ND) : Prop := w.ownsRow base 40 2 v l.length (flatN l)
theorem OwnPk.nts {w : World} {base : Nat} {v : Value} {l : List ND} (h : OwnPk w base v l) : ∃ s c, v = .slice s l.length c ∧ NtsR w base w.heap.size s l := by
 rcases Nat.eq_zero_or_pos l.length with h0 | hpos
 ·obtain ⟨s, c, e⟩ := ownSl h
  exact ⟨s, c, e, .inl (List.length_eq_zero_iff.1 h0)⟩
 ·obtain ⟨g, cap, rfl, -⟩ := World.ownsRow.form h hpos
  have hlt := World.ownsRow.lt h g rfl
  refine ⟨_, _, rfl, .inr ⟨g, 0, rfl, hlt.1, hlt.2, fun i r hr => ?_⟩⟩
  have hi : i < l.length := (List.getElem?_eq_some_iff.1 hr).1
  obtain ⟨e0, e1⟩ := flatN_at l i r hr
  refine ⟨?_, ?_⟩
  ·rw [Nat.zero_add, World.ownsRow.cellAt h _ (by omega)]; exact e0
  ·rw [Nat.zero_add, World.ownsRow.cellAt h _ (by omega)]; exact e1
theorem infoPk : ∃ i, Try.prog.info? 40 = some i ∧ i.zero = some (.agg #[.int .i64 0, .int .i64 0]) ∧ i.size = 2 ∧ i.bytes = 16 := ⟨_, rfl, rfl, rfl, rfl⟩
theorem wp_pick {o : Oper} {a : Act} {w : World} {K : Act → World → Prop} {Q : Exit → Act → World → Prop} (s x : Operand) (ho : o.op = .call { callee := .builtin .append, args := #[s, x], argTypes := #[37, 37] })
  (base : Nat) (v : Value) (n : Nat) (xs : List Value) (hs : a.eval s = v) (hown : w.ownsRow base 40 2 v n xs) (g0 : Nat) (u0 u1 : Value) (hu0 : u0.oneCell' = true) (hu1 : u1.oneCell' = true) (hx : a.eval x = .slice (some ⟨g0, 0, none⟩) 1 1) (hc0 : w.cell? ⟨g0, 0, none⟩ = some u0) (hc1 : w.cell? ⟨g0, 1, none⟩ = some u1) (hn : n ≤ 1073741824) (hbase : base ≤ w.heap.size)
  (h : ∀ g cap w', w'.ownsRow base 40 2 (.slice (some ⟨g, 0, none⟩) (n + 1) cap) (n + 1) (xs ++ [u0, u1]) → w.grownBy w' v.ownBlock → (v.ownBlock = some g ∨ w.heap.size ≤ g) → g < w'.heap.size → K (a.put o.dst (.slice (some ⟨g, 0, none⟩) (n + 1) cap)) w') : Oper.wp Try.prog o a w K Q := by
 obtain ⟨i0, hi, hz0, hz1, hz2⟩ := infoPk
 refine wp_append_lies w s x 37 ho base 40 i0 _ 2 16 Try.underlying37 hi hz0 hz1 hz2 rfl (by decide) v n xs hs hown ⟨g0, 0, none⟩ 1 1 [u0, u1] hx rfl (fun j u' hj => ?_) (fun u' hu' => by simp at hu'; rcases hu' with rfl | rfl <;> assumption) (by decide) (by unfold maxLen; omega) (by omega) hbase _ rfl ?_
 ·match j, hj with
  | 0, hj => simp at hj; subst hj; simpa [Addr.add] using hc0
  | 1, hj => simp at hj; subst hj; simpa [Addr.add] using hc1
  | j + 2, hj => simp at hj
 ·intro g cap w' q1 q2 q3 q4
  exact h g cap w' q1 q2 (by rcases q3 with q3 | q3 <;> first | exact .inl q3 | exact .inr (by omega)) q4
theorem app_pick {ops : Array Oper} {rest : List Oper} {o : Oper} {a : Act} {Q : Exit → Act → World → Prop} (hgd : o.guard = none) (s x : Operand) (ho : o.op = .call { callee := .builtin .append, args := #[s, x], argTypes := #[37, 37] })
  (w : World) (base : Nat) (v : Value) (n : Nat) (xs : List Value) (hs : a.eval s = v) (hown : w.ownsRow base 40 2 v n xs) (g0 : Nat) (u0 u1 : Value) (hu0 : u0.oneCell' = true) (hu1 : u1.oneCell' = true) (hx : a.eval x = .slice (some ⟨g0, 0, none⟩) 1 1) (hc0 : w.cell? ⟨g0, 0, none⟩ = some u0) (hc1 : w.cell? ⟨g0, 1, none⟩ = some u1) (hn : n ≤ 1073741824) (hbase : base ≤ w.heap.size)
  (h : ∀ g cap w', w'.ownsRow base 40 2 (.slice (some ⟨g, 0, none⟩) (n + 1) cap) (n + 1) (xs ++ [u0, u1]) → w.grownBy w' v.ownBlock → (v.ownBlock = some g ∨ w.heap.size ≤ g) → g < w'.heap.size → wpList Try.prog ops Q rest (a.put o.dst (.slice (some ⟨g, 0, none⟩) (n + 1) cap)) w') : wpList Try.prog ops Q (o :: rest) a w :=
 wpList_plain hgd fun _ hK => wp_pick s x ho base v n xs hs hown g0 u0 u1 hu0 hu1 hx hc0 hc1 hn hbase fun g cap w' h1 h2 h3 h4 => hK _ _ (h g cap w' h1 h2 h3 h4)
theorem X4.put4 {V : World} {b lo hi : Nat} {v0 v1 v2 v3 : Value} {s1 s2 s3 s4 : Option Addr} {E : MD} (a b' c d : Value) (h : X4 V b v0 v1 v2 v3) (hm : MaR V lo hi s1 s2 s3 s4 E) (hb : b < lo) : ∃ Z, (((V.setCell ⟨b, 0, none⟩ a).setCell ⟨b, 1, none⟩ b').setCell ⟨b, 2, none⟩ c).setCell ⟨b, 3, none⟩ d = Z ∧ X4 Z b a b' c d ∧ MaR Z lo hi s1 s2 s3 s4 E ∧ Z.heap.size = V.heap.size ∧ (∀ q, q ≠ b → Z.heap[q]? = V.heap[q]?) ∧ ∀ (B : Nat) (A : World), Below B A V → B ≤ b → Below B A Z := by
 refine ⟨_, rfl, h.set0.set1.set2.set3, hm.keep ?_, by simp, fun q hq => ?_, fun B A k hB => ?_⟩
 ·exact fun q h1 _ => (Below.heap_setCell _ ⟨b, _, none⟩ _ q (by show q ≠ b; omega)).trans ((Below.heap_setCell _ ⟨b, _, none⟩ _ q (by show q ≠ b; omega)).trans ((Below.heap_setCell _ ⟨b, _, none⟩ _ q (by show q ≠ b; omega)).trans (Below.heap_setCell _ ⟨b, _, none⟩ _ q (by show q ≠ b; omega))))
 ·exact (Below.heap_setCell _ ⟨b, _, none⟩ _ q hq).trans ((Below.heap_setCell _ ⟨b, _, none⟩ _ q hq).trans ((Below.heap_setCell _ ⟨b, _, none⟩ _ q hq).trans (Below.heap_setCell _ ⟨b, _, none⟩ _ q hq)))
 ·exact (((k.setCell (p := ⟨b, _, none⟩) hB _).setCell (p := ⟨b, _, none⟩) hB _).setCell (p := ⟨b, _, none⟩) hB _).setCell (p := ⟨b, _, none⟩) hB _
end
section
set_option linter.unusedSimpArgs false
set_option linter.unusedVariables false
set_option maxRecDepth 100000
open Go.RowKit
theorem goM_same (d : MD) (who : Nat) (k : KD) (n : Nat) (p : Int) : (goM d who k n p).mem = d.mem ∧ (goM d who k n p).codes = d.codes := by
 unfold goM
 split
 ·exact ⟨rfl, rfl⟩
 ·exact ⟨rfl, rfl⟩
theorem szV_snoc (x : WD) : ∀ l : List WD, szV (l ++ [x]) = szV l + x.vw.length
 | [] => by simp [szV]
 | y :: r => by simp [szV, szV_snoc x r]; omega
theorem szR_set (x : WD) : ∀ (m : List (List WD)) (c : Nat) (r : List WD), m[c]? = some r → szR (m.set c (r ++ [x])) = szR m + 1 + x.vw.length
 | [], c, r, h => by simp at h
 | y :: t, 0, r, h => by
  simp at h
  subst h
  simp [szR, szV_snoc]
  omega
 | y :: t, c + 1, r, h => by
  have q := szR_set x t c r (by simpa using h)
  simp [szR, q]
  omega
theorem told24 (l : List Int) (k n : Nat) (b : Bool) (hl : l.length = 24) : (toldL l k n b).length = 24 := by
 unfold toldL
 split
 ·rw [List.length_set]; exact hl
 ·rw [List.length_set, List.length_replicate]
theorem stM_sz {m : List (List WD)} {l : List Int} {c : Nat} (z : Int) (b : Bool) (hm : memB m = true) (hc : c < 24) (hl : l.length = 24) : (stM m l c z b).length + szR (stM m l c z b) = m.length + szR m + 25 := by
 obtain ⟨-, r, hr, -⟩ := memB_at hm hc
 have e : m.getD c [] = r := by rw [List.getD_eq_getElem?_getD, hr]; rfl
 unfold stM
 rw [e, szR_set _ m c r hr, List.length_set]
 simp only [told24 _ _ _ _ hl]
 omega
theorem stepAt_sz {d : MD} {who : Nat} {k : KD} {code : List I5} {s : I5} (late : Int) (ha : At8 d who k code s) : (stepAt d who late k code.length s).1.codes = d.codes ∧ (stepAt d who late k code.length s).1.mem.length + szR (stepAt d who late k code.length s).1.mem ≤ d.mem.length + szR d.mem + 25 := by
 have hm := ha.mem
 have hl : k.vw.length = 24 := by
  have q := (viewB_iff.1 ha.vw).1
  have m := (memB_at ha.mem (i := 0) (by omega)).1
  omega
 have go : ∀ (d1 : MD) (k1 : KD) (p : Int), d1.codes = d.codes → d1.mem.length + szR d1.mem ≤ d.mem.length + szR d.mem + 25 → (goM d1 who k1 code.length p, (0 : Int)).1.codes = d.codes ∧ (goM d1 who k1 code.length p, (0 : Int)).1.mem.length + szR (goM d1 who k1 code.length p, (0 : Int)).1.mem ≤ d.mem.length + szR d.mem + 25 := fun d1 k1 p h1 h2 => by
  obtain ⟨e1, e2⟩ := goM_same d1 who k1 code.length p
  simp only [e1, e2]
  exact ⟨h1, h2⟩
 have st : ∀ (k1 : KD) (z : Int), (putK d who k1, z).1.codes = d.codes ∧ (putK d who k1, z).1.mem.length + szR (putK d who k1, z).1.mem ≤ d.mem.length + szR d.mem + 25 := fun k1 z => ⟨rfl, Nat.le_add_right _ _⟩
 have no : ∀ z : Int, (d, z).1.codes = d.codes ∧ (d, z).1.mem.length + szR (d, z).1.mem ≤ d.mem.length + szR d.mem + 25 := fun z => ⟨rfl, Nat.le_add_right _ _⟩
 unfold stepAt
 by_cases e1 : s.o = 1
 ·rw [if_pos e1]; exact go _ _ _ rfl (Nat.le_add_right _ _)
 rw [if_neg e1]
 by_cases e2 : s.o = 2
 ·rw [if_pos e2]; exact go _ _ _ rfl (Nat.le_add_right _ _)
 rw [if_neg e2]
 by_cases e3 : s.o = 3
 ·rw [if_pos e3]; exact go _ _ _ rfl (Nat.le_add_right _ _)
 rw [if_neg e3]
 by_cases e4 : s.o = 4
 ·rw [if_pos e4]; exact go _ _ _ rfl (Nat.le_add_right _ _)
 rw [if_neg e4]
 by_cases e9 : s.o = 9
 ·rw [if_pos e9]
  by_cases hf : d.tr.length = 4000
  ·rw [if_pos hf]; exact no 3
  ·rw [if_neg hf]; exact go _ _ _ rfl (Nat.le_add_right _ _)
 rw [if_neg e9]
 by_cases e10 : s.o = 10
 ·rw [if_pos e10]; exact go _ _ _ rfl (Nat.le_add_right _ _)
 rw [if_neg e10]
 by_cases e11 : s.o = 11
 ·rw [if_pos e11]; exact go _ _ _ rfl (Nat.le_add_right _ _)
 rw [if_neg e11]
 by_cases e12 : s.o = 12
 ·rw [if_pos e12]; exact st _ 0
 rw [if_neg e12]
 by_cases e13 : s.o = 13
 ·rw [if_pos e13]; exact st _ 0
 rw [if_neg e13]
 by_cases hc : 0 ≤ cellM k s ∧ cellM k s ≤ 23
 ·rw [if_pos hc]
  generalize hcc : (cellM k s).toNat = c
  have hc24 : c < 24 := by omega
  by_cases hfull : s.o ≠ 5 ∧ (d.mem.getD c []).length = 4000
  ·rw [if_pos hfull]; exact no 3
  ·rw [if_neg hfull]
   unfold memS
   by_cases e5 : s.o = 5
   ·rw [if_pos e5]; exact go _ _ _ rfl (Nat.le_add_right _ _)
   ·rw [if_neg e5]
    by_cases e8 : s.o = 8
    ·rw [if_pos e8]
     have hw : (ldW d.mem k.vw c 0 true).length = 24 := by
      have q := (viewB_iff.1 (ldW_ok 0 true hm ha.vw hc24)).1
      have := (memB_at hm hc24).1
      omega
     exact go _ _ _ rfl (Nat.le_of_eq (stM_sz _ _ hm hc24 hw))
    ·rw [if_neg e8]
     exact go _ _ _ rfl (Nat.le_of_eq (stM_sz _ _ hm hc24 hl))
 ·rw [if_neg hc]; exact st _ 0
theorem stepM_sz {d : MD} (who late : Int) (h : machB d = true) : (stepM d who late).1.codes = d.codes ∧ (stepM d who late).1.mem.length + szR (stepM d who late).1.mem ≤ d.mem.length + szR d.mem + 25 := by
 by_cases hw : 0 ≤ who ∧ who < (d.cores.length : Int)
 ·obtain ⟨n, rfl⟩ : ∃ n : Nat, who = (n : Int) := ⟨who.toNat, by omega⟩
  obtain ⟨k, code, s, ha⟩ := mach_at h (who := n) (by omega)
  by_cases hr : k.st = 0
  ·rw [stepM_at ha late hr]; exact stepAt_sz late ha
  ·rw [stepM_over ha late hr]; exact ⟨rfl, Nat.le_add_right _ _⟩
 ·rw [stepM_none late hw]; exact ⟨rfl, Nat.le_add_right _ _⟩
theorem szK_all : ∀ (l : List KD), (∀ (i : Nat) (x : KD), l[i]? = some x → x.regs.length = 8 ∧ x.vw.length = 24) → szK l = 32 * l.length
 | [], _ => rfl
 | x :: r, h => by
  have q := szK_all r (fun i y hy => h (i + 1) y (by simpa using hy))
  have a := h 0 x rfl
  simp [szK, q]
  omega
theorem mach_k {d : MD} (h : machB d = true) : d.cores.length + szK d.cores ≤ 132 ∧ d.tr.length ≤ 4000 := by
 have hl := mach_len h
 have hk : szK d.cores = 32 * d.cores.length := szK_all _ fun i x hx => by
  have hi := (List.getElem?_eq_some_iff.1 hx).1
  obtain ⟨k, code, s, ha⟩ := mach_at h (who := i) hi
  have e : k = x := by have q := ha.hk; rw [hx] at q; injection q with q; exact q.symm
  subst e
  have m24 := (memB_at ha.mem (i := 0) (by omega)).1
  have v24 := (viewB_iff.1 ha.vw).1
  exact ⟨ha.regs, by omega⟩
 unfold machB codesB trB at h
 simp only [Bool.and_eq_true, decide_eq_true_eq] at h
 have h1 := h.1.1
 exact ⟨by omega, h.2.2.1.1⟩
end
section
set_option linter.unusedSimpArgs false
set_option linter.unusedVariables false
set_option maxRecDepth 100000
open Go.RowKit
theorem rnM_sz : ∀ (l : List ND) {d : MD}, machB d = true → (rnM d l).mem.length + szR (rnM d l).mem ≤ d.mem.length + szR d.mem + 25 * l.length
 | [], _, _ => by simp [rnM]
 | x :: r, d, h => by
  have h1 := (stepM_sz x.who x.v h).2
  have h2 := rnM_sz r (stepM_ok x.who x.v h)
  have e : rnM d (x :: r) = rnM (stepM d x.who x.v).1 r := rfl
  rw [e, List.length_cons]
  omega
theorem rnM_cds : ∀ (l : List ND) {d : MD}, machB d = true → (rnM d l).codes = d.codes
 | [], _, _ => rfl
 | x :: r, d, h => (rnM_cds r (stepM_ok x.who x.v h)).trans (stepM_sz x.who x.v h).1
theorem max_at (a : Int) (w : World) : Calls Try.prog 62 #[.int .i64 a, .int .i64 1] w fun e w' => e = .returned (.int .i64 (if a < 1 then 1 else a)) ∧ w' = w := by
 by_cases h : a < 1
 ·have h1 : ¬ 1 < a := by omega
  rw [if_pos h]
  go_enter Try.func62, Try.ntmps62
  go_wp2
  go_ret
  exact ⟨rfl, rfl⟩
 ·by_cases h2 : a = 1
  ·subst h2
   rw [if_neg h]
   go_enter Try.func62, Try.ntmps62
   go_wp2
   go_ret
   exact ⟨rfl, rfl⟩
  have h1 : 1 < a := by omega
  rw [if_neg h]
  go_enter Try.func62, Try.ntmps62
  go_wp2
  go_ret
  exact ⟨rfl, rfl⟩
structure PkD (w wr : World) (p : Nat) (s : Option Addr) (n c : Nat) (m : Nat) (v : Value) (l : List ND) : Prop where
 o : OwnPk wr w.heap.size v l
 le : l.length ≤ m
 v3 : ∀ x ∈ l, 0 ≤ x.v ∧ x.v ≤ 3
 cb : CB wr p s n c
 bt : But p w wr
theorem PkD.but {w wr w' : World} {p n c m : Nat} {s : Option Addr} {v : Value} {l : List ND} (h : PkD w wr p s n c m v l) (hp : p < w.heap.size) (hc : CB w' p s n c) (hb : But p wr w') : PkD w w' p s n c m v l :=
 ⟨ownKeep' h.o (fun k hk => by have := World.ownsRow.lt h.o _ hk; exact hb.block k this.2 (by omega)), h.le, h.v3, hc, h.bt.trans hb⟩
theorem PkD.add {w wr w' : World} {p n c m g cap : Nat} {s : Option Addr} {v : Value} {l : List ND} {who x : Int} (h : PkD w wr p s n c m v l) (hp : p < w.heap.size) (x0 : 0 ≤ x) (x1 : x < 4) (ho : w'.ownsRow w.heap.size 40 2 (.slice (some ⟨g, 0, none⟩) (l.length + 1) cap) (l.length + 1) (flatN l ++ [.int .i64 who, .int .i64 x])) (hg : (wr.alloc (.cells #[.int .i64 who, .int .i64 x] 40)).grownBy w' v.ownBlock) : PkD w w' p s n c (m + 1) (.slice (some ⟨g, 0, none⟩) (l.length + 1) cap) (l ++ [⟨who, x⟩]) := by
 have hr : ∀ k, v.ownBlock = some k → w.heap.size ≤ k := fun k hk => (World.ownsRow.lt h.o _ hk).1
 refine ⟨?_, by have := h.le; simp; omega, fun y hy => ?_, (h.cb.alloc _).grown hg (fun k hk => by have := hr k hk; omega), (h.bt.alloc _).grown hg hr⟩
 ·unfold OwnPk
  rw [flatN_app, List.length_append]
  exact ho
 ·rcases List.mem_append.1 hy with e | e
  ·exact h.v3 y e
  ·simp at e; subst e; exact ⟨x0, by show x ≤ 3; omega⟩
theorem PkD.wide {w wr : World} {p n c m m' : Nat} {s : Option Addr} {v : Value} {l : List ND} (h : PkD w wr p s n c m v l) (e : m ≤ m') : PkD w wr p s n c m' v l := ⟨h.o, Nat.le_trans h.le e, h.v3, h.cb, h.bt⟩
set_option maxRecDepth 100000 in
set_option maxHeartbeats 4000000 in
theorem drawPicks_ok (p : Nat) (s : Option Addr) (n c : Nat) (k : Nat) (most : Int) (w : World) (h : CB w p s n c) (hk : k ≤ 200) (hm0 : 0 ≤ most) (hm : most ≤ 20) :
  Calls Try.prog 44 #[.pointer (some ⟨p, 0, none⟩), .int .i64 k, .int .i64 most] w fun e w' => ∃ (v : Value) (l : List ND), e = .returned v ∧ PkD w w' p s n c 120 v l := by
 have hp := h.lt
 have H0 : Hid (CB w p s n c) := h
 clear h
 go_enter Try.func44, Try.ntmps44
 go_wp2_with fail
 refine (below_cb p s n c (most + 1) _ (H0.out.alloc _) (by omega) (by omega)).mono ?_
 rintro e w4 ⟨q, rfl, q0, q1, hc4, hb4⟩
 have Q : Hid (0 ≤ q ∧ q ≤ 20) := by show _ ∧ _; omega
 have P0 : Hid (PkD w w4 p s n c 0 (.slice (some ⟨w.heap.size, 0, none⟩) 0 0) []) := by
  refine ⟨?_, by simp, fun x hx => by simp at hx, hc4, ((But.refl _ _).alloc _).trans hb4⟩
  have h0 := World.ownsRow_lit (base := w.heap.size) (e := 40) (size := 2) w #[] 0 (Nat.le_refl _) (by unfold maxLen; omega) rfl
  exact ownKeep' h0 (fun k hk => by have := World.ownsRow.lt h0 _ hk; exact hb4.block k this.2 (by omega))
 clear hc4 hb4 q0 q1
 go_wp2_with fail
 go_loopw [7, 9] (fun v i wr => ∃ (j : Nat) (l : List ND), (j : Int) ≤ q ∧ i = .int .i64 j ∧ PkD w wr p s n c (j * 6) v l) (fun _ i _ => 20 - (intOf i).toNat)
 case atStart => exact ⟨0, [], by have := Q.out; omega, rfl, P0.out⟩
 case round =>
  obtain ⟨j, l, hj, rfl, hd⟩ := hrel
  have D := hidM1 hd
  clear hd
  have hzr := D.out.bt.size
  by_cases hlt : (j : Int) < q
  ·have hj20 : (j : Int) < 20 := by have := Q.out; omega
   go_wp2_with fail
   refine (max_at (k : Int) wr).mono ?_
   rintro e w5 ⟨rfl, hw⟩
   have hw' := hw.symm
   clear hw
   subst hw'
   have g0 : 0 < (if (k : Int) < 1 then (1 : Int) else k) := by split <;> omega
   have g1 : (if (k : Int) < 1 then (1 : Int) else k) ≤ 256 := by split <;> omega
   generalize (if (k : Int) < 1 then (1 : Int) else k) = cc at g0 g1 ⊢
   go_wp2_with fail
   refine (below_cb p s n c cc wr D.out.cb g0 g1).mono ?_
   rintro e w5 ⟨who, rfl, -, -, hc5, hb5⟩
   have D5 := hidM1 (D.out.but hp hc5 hb5)
   clear hc5 hb5 D g0 g1
   go_wp2_with fail
   go_loopw [7, 11] (fun v i wr => ∃ (k : Nat) (l : List ND), k ≤ 6 ∧ i = .int .i64 k ∧ PkD w wr p s n c (j * 6 + k) v l) (fun _ i _ => 6 - (intOf i).toNat)
   case atStart => exact ⟨0, l, by omega, rfl, D5.out⟩
   case round =>
    obtain ⟨k2, l2, hk2, rfl, hd⟩ := hrel
    have D := hidM1 hd
    clear hd D5
    have hzr2 := D.out.bt.size
    go_wp2_with fail
    refine (below_cb p s n c 6 wr D.out.cb (by omega) (by omega)).mono ?_
    rintro e w6 ⟨x, rfl, x0, x1, hc6, hb6⟩
    have D6 := hidM1 (D.out.but hp hc6 hb6)
    have hzr3 := D6.out.bt.size
    clear hc6 hb6 D
    by_cases hl2 : (k2 : Int) < 1 + x
    ·have hk3 : k2 < 6 := by omega
     go_wp2_with fail
     refine (below_cb p s n c 4 w6 D6.out.cb (by omega) (by omega)).mono ?_
     rintro e w7 ⟨y, rfl, y0, y1, hc7, hb7⟩
     have D7 := hidM1 (D6.out.but hp hc7 hb7)
     have hzr4 := D7.out.bt.size
     have O7 : Hid (OwnPk (w7.alloc (.cells #[.int .i64 who, .int .i64 y] 40)) w.heap.size u7 l2) := ownKeep' D7.out.o (fun q hq => Below.heap_alloc w7 _ _ (World.ownsRow.lt D7.out.o _ hq).2)
     clear hc7 hb7 D6
     go_wp2_with (at_builtin; refine app_pick rfl _ _ rfl (w7.alloc (.cells #[.int .i64 who, .int .i64 y] 40)) w.heap.size u7 l2.length (flatN l2) rfl O7.out w7.heap.size (.int .i64 who) (.int .i64 y) rfl rfl rfl (by simp [go_sem]) (by simp [go_sem]) (by have := D7.out.le; have := Q.out; omega) (by simp; omega) ?_; intro g5 cap5 w8 ho8 hb8 hf8 hl8; have D8 := hidM1 (D7.out.add hp y0 y1 ho8 hb8); clear ho8 hb8 hf8)
     go_roundw
     case rel => exact ⟨k2 + 1, l2 ++ [⟨who, y⟩], by omega, by go_num, D8.out⟩
     case measure => simp [intOf]; omega
    ·go_wp2_with fail
     go_roundw
     case rel => exact ⟨j + 1, l2, by omega, by go_num, D6.out.wide (by omega)⟩
     case measure => simp [intOf]; have := Q.out; omega
  ·go_wp2
   go_ret
   exact ⟨_, rfl, l, D.out.wide (by have := Q.out; omega)⟩
end
end Go.Proofs.Ytepfpbcjklaenaa
