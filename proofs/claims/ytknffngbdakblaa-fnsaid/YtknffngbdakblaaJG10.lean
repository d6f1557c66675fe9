/- l4Chan of the specification, all its ops. Conditions: as in StepCh; the channel is ChanOk, and a take sets two registers. Append of one note; a source whose trace has one more; the boxes of a step, the source's written over; a place of a channel, as a function of lists. No condition. -/
import Derived.Test.YtknffngbdakblaaJG00
import Derived.Test.YtknffngbdakblaaJG08
import Derived.Test.YtknffngbdakblaaJG01
import Derived.Test.YtknffngbdakblaaJG03
import Derived.Test.YtknffngbdakblaaJChTake
import Derived.Test.YtknffngbdakblaaJG04
import Derived.Test.YtknffngbdakblaaJChClose
import Derived.Test.YtknffngbdakblaaJChA
import Derived.Test.YtknffngbdakblaaJStepCh
import Derived.Test.YtknffngbdakblaaJStepChB
import Derived.Test.YtknffngbdakblaaJStepChC
import Derived.Test.YtknffngbdakblaaJStepChD
import Derived.Test.YtknffngbdakblaaJG09
import Derived.Test.YtknffngbdakblaaJG05
namespace Go.Proofs.Ytknffngbdakblaa
section
set_option linter.unusedSimpArgs false
set_option linter.unusedVariables false
set_option maxRecDepth 100000
open Go.RowKit
/- what l4Chan makes of the registers, of the channel, and what it tells -/
def chanR (op : Int) (rg : List Int) (c : CD) (r b : Nat) : List Int :=
 if op = 7 then (if sendK c.cap c.list c.cl = 2 then rg else rg.set r (bitN (decide (sendK c.cap c.list c.cl = 0))))
 else if op = 6 then (if takeK c.cap c.list c.cl = 1 then rg else (rg.set r (takeV c.cap c.list)).set b (bitN (decide (takeK c.cap c.list c.cl = 0))))
 else if op = 8 then (rg.set r (takeV c.cap c.list)).set b (if takeK c.cap c.list c.cl = 0 then 1 else if takeK c.cap c.list c.cl = 3 then 2 else 0)
 else rg
def chanC (op : Int) (c : CD) (va : Int) : CD :=
 if op = 5 ∨ op = 7 then ⟨c.cap, sendL c.cap c.list c.cl va, c.cl⟩
 else if op = 9 then ⟨c.cap, c.list, closeB c.cap c.list c.cl⟩
 else ⟨c.cap, takeL c.cap c.list, c.cl⟩
def chanH (op : Int) (c : CD) : Int :=
 if op = 5 then sendK c.cap c.list c.cl
 else if op = 7 then (if sendK c.cap c.list c.cl = 2 then 2 else 0)
 else if op = 9 then closeK c.cap c.list c.cl
 else if op = 6 then (if takeK c.cap c.list c.cl = 1 then 1 else 0)
 else 0
theorem sendK_three (cap : Int) (l : List Int) (cl : Bool) : sendK cap l cl = 0 ∨ sendK cap l cl = 1 ∨ sendK cap l cl = 2 := by
 unfold sendK
 split
 ·split
  ·exact .inl rfl
  ·exact .inr (.inl rfl)
 ·exact .inr (.inr rfl)
theorem takeK_three {cap : Int} {l : List Int} {cl : Bool} (h : okC cap l.length = true) : takeK cap l cl = 0 ∨ takeK cap l cl = 1 ∨ takeK cap l cl = 3 := by
 unfold takeK
 rw [if_pos h]
 split
 ·split
  ·exact .inr (.inr rfl)
  ·exact .inr (.inl rfl)
 ·exact .inl rfl
theorem l4Chan_any (op : Int) (v1 v2 v3 : Value) (base : Nat) (L1 L2 : List (Rec × Value)) (d : SD) (k : Nat) (t : TD) (c : CD) (r a b n : Nat) (w : World) (hO : OwnS w base v1 v2 v3 L1 L2 d) (hb : base ≤ w.heap.size) (ht : d.ths[k]? = some t) (h4 : t.regs.length = 4) (hc : d.chs[n]? = some c) (hr : r < 4) (ha : a < 4) (hb4 : b < 4) (hcl : c.list.length ≤ 4) (hcn : d.chs.length ≤ 3) (hth : d.ths.length ≤ 4) (hok : okC c.cap c.list.length = true) (hop : op = 5 ∨ op = 6 ∨ op = 7 ∨ op = 8 ∨ op = 9) (hrb : op = 6 ∨ op = 8 → r ≠ b) :
  Calls Try.prog 31 #[.agg #[v1, v2, v3], .int .i64 k, .agg #[.int .i64 op, .int .i64 r, .int .i64 a, .int .i64 b, .int .i64 n]] w fun e w' => ∃ L1' L2', e = .returned (.tuple #[.agg #[v1, v2, v3], .int .i64 (chanH op c)]) ∧ OwnS w' base v1 v2 v3 L1' L2' ⟨d.ths.set k ⟨t.pc, chanR op t.regs c r b, t.st⟩, d.chs.set n (chanC op c (t.regs.getD a 0)), d.tr⟩ ∧ Below base w w' ∧ ∀ b, b < w.heap.size → ¬ HitS v1 v2 v3 L1 L2 b → w'.heap[b]? = w.heap[b]? := by
 rcases hop with rfl | rfl | rfl | rfl | rfl
 ·have h := l4Chan_s5 v1 v2 v3 base L1 L2 d k t c r a b n w hO hb ht h4 hc hr ha hb4 hcl hcn hth _ rfl
  simpa [chanH, chanR, chanC] using h
 ·have hne := hrb (.inl rfl)
  rcases takeK_three (cl := c.cl) hok with hk | hk | hk
  ·have h := l4Chan_k6a v1 v2 v3 base L1 L2 d k t c r a b n w hO hb ht h4 hc hr ha hb4 hcl hcn hth _ rfl hne (Ne.symm hne) hk
   simpa [chanH, chanR, chanC, hk] using h
  ·have h := l4Chan_k6w v1 v2 v3 base L1 L2 d k t c r a b n w hO hb ht h4 hc hr ha hb4 hcl hcn hth _ rfl hk
   simpa [chanH, chanR, chanC, hk] using h
  ·have h := l4Chan_k6c v1 v2 v3 base L1 L2 d k t c r a b n w hO hb ht h4 hc hr ha hb4 hcl hcn hth _ rfl hne (Ne.symm hne) hk
   simpa [chanH, chanR, chanC, hk] using h
 ·rcases sendK_three c.cap c.list c.cl with hk | hk | hk
  ·have h := l4Chan_t7a v1 v2 v3 base L1 L2 d k t c r a b n w hO hb ht h4 hc hr ha hb4 hcl hcn hth _ rfl hk
   simpa [chanH, chanR, chanC, hk] using h
  ·have h := l4Chan_t7b v1 v2 v3 base L1 L2 d k t c r a b n w hO hb ht h4 hc hr ha hb4 hcl hcn hth _ rfl hk
   simpa [chanH, chanR, chanC, hk] using h
  ·have h := l4Chan_t7f v1 v2 v3 base L1 L2 d k t c r a b n w hO hb ht h4 hc hr ha hb4 hcl hcn hth _ rfl hk
   simpa [chanH, chanR, chanC, hk] using h
 ·have hne := hrb (.inr rfl)
  rcases takeK_three (cl := c.cl) hok with hk | hk | hk
  ·have h := l4Chan_y8a v1 v2 v3 base L1 L2 d k t c r a b n w hO hb ht h4 hc hr ha hb4 hcl hcn hth _ rfl hne (Ne.symm hne) hk
   simpa [chanH, chanR, chanC, hk] using h
  ·have h := l4Chan_y8b v1 v2 v3 base L1 L2 d k t c r a b n w hO hb ht h4 hc hr ha hb4 hcl hcn hth _ rfl hne (Ne.symm hne) hk
   simpa [chanH, chanR, chanC, hk] using h
  ·have h := l4Chan_y8c v1 v2 v3 base L1 L2 d k t c r a b n w hO hb ht h4 hc hr ha hb4 hcl hcn hth _ rfl hne (Ne.symm hne) hk
   simpa [chanH, chanR, chanC, hk] using h
 ·have h := l4Chan_c9 v1 v2 v3 base L1 L2 d k t c r a b n w hO hb ht h4 hc hr ha hb4 hcl hcn hth _ rfl
  simpa [chanH, chanR, chanC] using h
end
section
set_option linter.unusedSimpArgs false
set_option linter.unusedVariables false
set_option maxRecDepth 100000
open Go.RowKit
theorem wp_note {o : Oper} {a : Act} {w : World} {K : Act → World → Prop} {Q : Exit → Act → World → Prop} (s x : Operand) (ho : o.op = .call { callee := .builtin .append, args := #[s, x], argTypes := #[26, 26] })
  (base : Nat) (v : Value) (n : Nat) (xs : List Value) (hs : a.eval s = v) (hown : w.ownsRow base 35 2 v n xs) (g0 : Nat) (u0 u1 : Value) (hu0 : u0.oneCell' = true) (hu1 : u1.oneCell' = true) (hx : a.eval x = .slice (some ⟨g0, 0, none⟩) 1 1) (hc0 : w.cell? ⟨g0, 0, none⟩ = some u0) (hc1 : w.cell? ⟨g0, 1, none⟩ = some u1) (hn : n ≤ 1073741824) (hbase : base ≤ w.heap.size)
  (h : ∀ g cap w', w'.ownsRow base 35 2 (.slice (some ⟨g, 0, none⟩) (n + 1) cap) (n + 1) (xs ++ [u0, u1]) → w.grownBy w' v.ownBlock → (v.ownBlock = some g ∨ w.heap.size ≤ g) → g < w'.heap.size → K (a.put o.dst (.slice (some ⟨g, 0, none⟩) (n + 1) cap)) w') : Oper.wp Try.prog o a w K Q := by
 obtain ⟨i0, hi, hz0, hz1, hz2⟩ := infoD
 refine wp_append_lies w s x 26 ho base 35 i0 _ 2 16 Try.underlying26 hi hz0 hz1 hz2 rfl (by decide) v n xs hs hown ⟨g0, 0, none⟩ 1 1 [u0, u1] hx rfl (fun j u' hj => ?_) (fun u' hu' => by simp at hu'; rcases hu' with rfl | rfl <;> assumption) (by decide) (by unfold maxLen; omega) (by omega) hbase _ rfl ?_
 ·match j, hj with
  | 0, hj => simp at hj; subst hj; simpa [Addr.add] using hc0
  | 1, hj => simp at hj; subst hj; simpa [Addr.add] using hc1
  | j + 2, hj => simp at hj
 ·intro g cap w' q1 q2 q3 q4
  exact h g cap w' q1 q2 (by rcases q3 with q3 | q3 <;> first | exact .inl q3 | exact .inr (by omega)) q4
theorem app_note {ops : Array Oper} {rest : List Oper} {o : Oper} {a : Act} {Q : Exit → Act → World → Prop} (hgd : o.guard = none) (s x : Operand) (ho : o.op = .call { callee := .builtin .append, args := #[s, x], argTypes := #[26, 26] })
  (w : World) (base : Nat) (v : Value) (n : Nat) (xs : List Value) (hs : a.eval s = v) (hown : w.ownsRow base 35 2 v n xs) (g0 : Nat) (u0 u1 : Value) (hu0 : u0.oneCell' = true) (hu1 : u1.oneCell' = true) (hx : a.eval x = .slice (some ⟨g0, 0, none⟩) 1 1) (hc0 : w.cell? ⟨g0, 0, none⟩ = some u0) (hc1 : w.cell? ⟨g0, 1, none⟩ = some u1) (hn : n ≤ 1073741824) (hbase : base ≤ w.heap.size)
  (h : ∀ g cap w', w'.ownsRow base 35 2 (.slice (some ⟨g, 0, none⟩) (n + 1) cap) (n + 1) (xs ++ [u0, u1]) → w.grownBy w' v.ownBlock → (v.ownBlock = some g ∨ w.heap.size ≤ g) → g < w'.heap.size → wpList Try.prog ops Q rest (a.put o.dst (.slice (some ⟨g, 0, none⟩) (n + 1) cap)) w') : wpList Try.prog ops Q (o :: rest) a w :=
 wpList_plain hgd fun _ hK => wp_note s x ho base v n xs hs hown g0 u0 u1 hu0 hu1 hx hc0 hc1 hn hbase fun g cap w' h1 h2 h3 h4 => hK _ _ (h g cap w' h1 h2 h3 h4)
theorem OwnS.note {w w' : World} {base : Nat} {v1 v2 v3 v4 : Value} {L1 L2 : List (Rec × Value)} {d : SD} (h : OwnS w base v1 v2 v3 L1 L2 d) (nd : ND) (ho : OwnD w' base v4 (d.tr ++ [nd])) (hk : ∀ b, b < w.heap.size → v3.ownBlock ≠ some b → w'.heap[b]? = w.heap[b]?) : OwnS w' base v1 v2 v4 L1 L2 ⟨d.ths, d.chs, d.tr ++ [nd]⟩ := by
 have kk : ∀ {e : TypeId} {size n : Nat} {v : Value} {xs : List Value}, w.ownsRow base e size v n xs → e ≠ 35 → ∀ b, v.ownBlock = some b → w'.heap[b]? = w.heap[b]? := fun hv hne b hb => hk b (World.ownsRow.lt hv _ hb).2 (ownType' hv h.n hne hb)
 exact ⟨h.e1, h.e2, h.t.keepB (kk h.t.row (by decide)) (fun i x hx => kk (h.t.inn i x hx) (by decide)), h.c.keepB (kk h.c.row (by decide)) (fun i x hx => kk (h.c.inn i x hx) (by decide)), ho, h.sep⟩
theorem Bq.put {V : World} {z : Nat} {p0 p1 v1 v2 v3 x0 x1 x2 x3 x4 : Value} (h : Bq V z p0 p1 v1 v2 v3 x0 x1 x2 x3 x4) (u0 u1 u2 : Value) : Bq (((V.setCell ⟨z + 1, 0, none⟩ u0).setCell ⟨z + 1, 1, none⟩ u1).setCell ⟨z + 1, 2, none⟩ u2) z p0 p1 u0 u1 u2 x0 x1 x2 x3 x4 := by
 have hz := h.zz
 have B : ∀ b, b ≠ z + 1 → (((V.setCell ⟨z + 1, 0, none⟩ u0).setCell ⟨z + 1, 1, none⟩ u1).setCell ⟨z + 1, 2, none⟩ u2).heap[b]? = V.heap[b]? := fun b hb => ((Below.heap_setCell _ _ _ b hb).trans (Below.heap_setCell _ _ _ b hb)).trans (Below.heap_setCell _ _ _ b hb)
 have c3 : ∀ j, (((V.setCell ⟨z + 1, 0, none⟩ u0).setCell ⟨z + 1, 1, none⟩ u1).setCell ⟨z + 1, 2, none⟩ u2).cell? ⟨z + 1 + 1 + 1, j, none⟩ = V.cell? ⟨z + 1 + 1 + 1, j, none⟩ := fun j => World.cell?_of_block (B (z + 1 + 1 + 1) (by omega))
 exact ⟨h.p.keep (fun b h1 h2 => B b (by omega)), ((h.s.set0 u0).set1 u1).set2 u2, h.a.keep (B (z + 1 + 1) (by omega)) (by simp), (c3 _).trans h.x0, (c3 _).trans h.x1, (c3 _).trans h.x2, (c3 _).trans h.x3, (c3 _).trans h.x4, h.bs.set.set.set, h.ba.set.set.set, by simpa using hz⟩
theorem Bq.put2 {V : World} {z : Nat} {p0 p1 v1 v2 v3 x0 x1 x2 x3 x4 : Value} (h : Bq V z p0 p1 v1 v2 v3 x0 x1 x2 x3 x4) (u2 : Value) : Bq (V.setCell ⟨z + 1, 2, none⟩ u2) z p0 p1 v1 v2 u2 x0 x1 x2 x3 x4 := by
 have hz := h.zz
 have B : ∀ b, b ≠ z + 1 → (V.setCell ⟨z + 1, 2, none⟩ u2).heap[b]? = V.heap[b]? := fun b hb => Below.heap_setCell _ _ _ b hb
 have c3 : ∀ j, (V.setCell ⟨z + 1, 2, none⟩ u2).cell? ⟨z + 1 + 1 + 1, j, none⟩ = V.cell? ⟨z + 1 + 1 + 1, j, none⟩ := fun j => World.cell?_of_block (B (z + 1 + 1 + 1) (by omega))
 exact ⟨h.p.keep (fun b h1 h2 => B b (by omega)), h.s.set2 u2, h.a.keep (B (z + 1 + 1) (by omega)) (by simp), (c3 _).trans h.x0, (c3 _).trans h.x1, (c3 _).trans h.x2, (c3 _).trans h.x3, (c3 _).trans h.x4, h.bs.set, h.ba.set, by simpa using hz⟩
theorem chanH_three {o : Int} {c : CD} (hok : okC c.cap c.list.length = true) (hop : o = 5 ∨ o = 6 ∨ o = 7 ∨ o = 8 ∨ o = 9) : chanH o c = 0 ∨ chanH o c = 1 ∨ (chanH o c = 2 ∧ (o = 5 ∨ o = 7 ∨ o = 9)) := by
 rcases hop with rfl | rfl | rfl | rfl | rfl
 ·rcases sendK_three c.cap c.list c.cl with h | h | h <;> simp [chanH, h]
 ·rcases takeK_three (cl := c.cl) hok with h | h | h <;> simp [chanH, h]
 ·rcases sendK_three c.cap c.list c.cl with h | h | h <;> simp [chanH, h]
 ·simp [chanH]
 ·by_cases h : okC c.cap c.list.length = true ∧ c.cl = false
  ·left; simp [chanH, closeK, h]
  ·right; right
   have : closeK c.cap c.list c.cl = 2 := by unfold closeK; rw [if_neg h]
   simp [chanH, this]
theorem chanR_fault {o : Int} {c : CD} {rg : List Int} {r b : Nat} (hop : o = 5 ∨ o = 7 ∨ o = 9) (h : chanH o c = 2) : chanR o rg c r b = rg := by
 rcases hop with rfl | rfl | rfl
 ·simp [chanR]
 ·have hk : sendK c.cap c.list c.cl = 2 := by
   by_cases e : sendK c.cap c.list c.cl = 2
   ·exact e
   ·simp [chanH, e] at h
  simp [chanR, hk]
 ·simp [chanR]
/- a step of a place of a channel -/
theorem stepO_chan (b : Nat) (t : TD) (o : Int) (r a bb n : Nat) (chs : List CD) (tr : List ND) (k : Nat) (c : CD) (hc : chs[n]? = some c) (hok : okC c.cap c.list.length = true) (hop : o = 5 ∨ o = 6 ∨ o = 7 ∨ o = 8 ∨ o = 9) :
  stepO b t ⟨o, r, a, bb, n⟩ chs tr k = if chanH o c = 1 then ⟨t, chs, tr, 4⟩ else if chanH o c = 2 then ⟨haltT t 2, chs.set n (chanC o c (t.regs.getD a 0)), tr, 0⟩ else ⟨moveT t b (chanR o t.regs c r bb) (t.pc + 1), chs.set n (chanC o c (t.regs.getD a 0)), tr, 0⟩ := by
 rcases hop with rfl | rfl | rfl | rfl | rfl
 ·rcases sendK_three c.cap c.list c.cl with h | h | h <;> simp [stepO, chanH, chanC, chanR, regN, hc, h]
 ·rcases takeK_three (cl := c.cl) hok with h | h | h <;> simp [stepO, chanH, chanC, chanR, regN, putN, hc, h]
 ·rcases sendK_three c.cap c.list c.cl with h | h | h <;> simp [stepO, chanH, chanC, chanR, regN, putN, hc, h]
 ·simp [stepO, chanH, chanC, chanR, regN, putN, hc]
 ·by_cases h : closeK c.cap c.list c.cl = 2
  ·simp [stepO, chanH, chanC, chanR, regN, hc, h]
  ·have h0 : closeK c.cap c.list c.cl = 0 := by
    unfold closeK at h ⊢
    split
    ·rfl
    ·rename_i q
     rw [if_neg q] at h
     exact absurd rfl h
   simp [stepO, chanH, chanC, chanR, regN, hc, h0]
end
end Go.Proofs.Ytknffngbdakblaa
