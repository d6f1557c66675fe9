/- l7Spoil: a step is drawn and perhaps spoiled. Conditions: the cursor and its bytes lie in memory as the reading says; 1 to 256 places. Rows of steps that a draw makes and grows: as long as every cell is a number they read as a list of steps. No condition. A drawn code is right, and its steps are known. Conditions: the cursor and its bytes lie in memory as the reading says. Append of one integer onto a row, and which blocks stay. Conditions: fewer than 2^40 of them. Runs of machines: what a row of picks does; a machine in its box with a row of codes beside it. No condition. Three cores that add to one cell, each under a lock: what holds of their machine, step by step. No condition. Three cores under one lock: a step, whichever core goes on. No condition. Three cores under one lock: the lock taken or not; a step, whichever. No condition. -/
import Derived.Test.YtepfpbcjklaenaaNG00
import Derived.Test.YtepfpbcjklaenaaNG07
import Derived.Test.YtepfpbcjklaenaaNDraw7
import Derived.Test.YtepfpbcjklaenaaNG06
import Derived.Test.YtepfpbcjklaenaaNG01
import Derived.Deep.AppendLies
import Derived.Deep.Slices
import Derived.Laws.OwnMore
import Derived.Test.YtepfpbcjklaenaaNDrawStepR
import Derived.Test.YtepfpbcjklaenaaNG03
import Derived.Test.YtepfpbcjklaenaaNG02
import Derived.Test.YtepfpbcjklaenaaNG15
import Derived.Test.YtepfpbcjklaenaaNG08
import Derived.Test.YtepfpbcjklaenaaNKOkB
import Derived.Test.YtepfpbcjklaenaaNG16
import Derived.Test.YtepfpbcjklaenaaNG10
import Derived.Test.YtepfpbcjklaenaaNMemStore
namespace Go.Proofs.Ytepfpbcjklaenaa
section
set_option linter.unusedSimpArgs false
set_option linter.unusedVariables false
set_option maxRecDepth 100000
open Go.RowKit
end
section
set_option linter.unusedSimpArgs false
set_option linter.unusedVariables false
set_option maxRecDepth 100000
open Go.RowKit Go.Deep
theorem But.grown {p : Nat} {w0 w w' : World} {row : Option Nat} (h : But p w0 w) (hg : w.grownBy w' row) (hr : ∀ k, row = some k → w0.heap.size ≤ k) : But p w0 w' :=
 ⟨hg.os.trans h.os, hg.tape.trans h.tape, hg.output.trans h.output, Nat.le_trans h.size hg.size, fun k hk hp => (hg.block k (Nat.lt_of_lt_of_le hk h.size) (fun e => by have := hr k e.symm; omega)).trans (h.block k hk hp)⟩
theorem CB.grown {p n c : Nat} {w w' : World} {s : Option Addr} {row : Option Nat} (h : CB w p s n c) (hg : w.grownBy w' row) (hr : ∀ k, row = some k → p < k) : CB w' p s n c := by
 have hb : Below (p + 1) w w' := ⟨hg.os, hg.tape, hg.output, hg.size, fun k hk => hg.block k (by have := h.lt; omega) (fun e => by have := hr k e.symm; omega)⟩
 obtain ⟨⟨i, hh, c0, c1, c2, hf, hi, hi', hp⟩, h2, h3⟩ := h
 exact ⟨⟨i, hh, (hb.cell (p := ⟨p, 0, none⟩) (by simp)).trans c0, (hb.cell (p := ⟨p, 1, none⟩) (by simp)).trans c1, (hb.cell (p := ⟨p, 2, none⟩) (by simp)).trans c2, fun j => (hb.frozen (p := ⟨p, j, none⟩) (by simp)).trans (hf j), hi, hi', by have := hg.size; omega⟩, h2.below hb (by omega), h3⟩
end
section
set_option linter.unusedSimpArgs false
set_option linter.unusedVariables false
set_option maxRecDepth 100000
open Go.RowKit
theorem fl5_app : ∀ a b : List I5, fl5 (a ++ b) = fl5 a ++ fl5 b
 | [], b => rfl
 | x :: r, b => by simp [fl5, fl5_app r b]
theorem app_step5 {ops : Array Oper} {rest : List Oper} {o : Oper} {a : Act} {Q : Exit → Act → World → Prop} (hgd : o.guard = none) (s x : Operand) (ho : o.op = .call { callee := .builtin .append, args := #[s, x], argTypes := #[26, 26] })
  (w : World) (y : I5) (base : Nat) (v : Value) (l : List I5) (hs : a.eval s = v) (hown : OwnT5 w base v l) (hx : a.eval x = .slice (some ⟨w.heap.size, 0, none⟩) 1 1) (hn : l.length ≤ 1000) (hbase : base ≤ w.heap.size)
  (h : ∀ g cap w', OwnT5 w' base (.slice (some ⟨g, 0, none⟩) (l.length + 1) cap) (l ++ [y]) → (w.alloc (.cells #[.int .i64 y.o, .int .i64 y.r, .int .i64 y.a, .int .i64 y.b, .int .i64 y.n] 25)).grownBy w' v.ownBlock → (∀ k, v.ownBlock = some k → base ≤ k) → wpList Try.prog ops Q rest (a.put o.dst (.slice (some ⟨g, 0, none⟩) (l.length + 1) cap)) w') :
  wpList Try.prog ops Q (o :: rest) a (w.alloc (.cells #[.int .i64 y.o, .int .i64 y.r, .int .i64 y.a, .int .i64 y.b, .int .i64 y.n] 25)) := by
 obtain ⟨i0, hi, hz0, hz1, hz2⟩ := infoSt
 have h1' := ownKeep' (w' := w.alloc (.cells #[.int .i64 y.o, .int .i64 y.r, .int .i64 y.a, .int .i64 y.b, .int .i64 y.n] 25)) hown (fun k hk => Below.heap_alloc _ _ _ (World.ownsRow.lt hown _ hk).2)
 refine wpList_append_lies _ hgd s x 26 ho base 25 i0 _ 5 40 Try.underlying26 hi hz0 hz1 hz2 rfl (by decide) v l.length _ hs h1' ⟨w.heap.size, 0, none⟩ 1 1 [.int .i64 y.o, .int .i64 y.r, .int .i64 y.a, .int .i64 y.b, .int .i64 y.n] hx rfl (fun j u hj => ?_) (fun u hu => by simp at hu; rcases hu with rfl | rfl | rfl | rfl | rfl <;> rfl) (by decide) (by unfold maxLen; omega) (by omega) (by simp; omega) _ rfl ?_
 ·match j, hj with
  | 0, hj => simpa [Addr.add, go_sem] using hj
  | 1, hj => simpa [Addr.add, go_sem] using hj
  | 2, hj => simpa [Addr.add, go_sem] using hj
  | 3, hj => simpa [Addr.add, go_sem] using hj
  | 4, hj => simpa [Addr.add, go_sem] using hj
  | j + 5, hj => simp at hj
 intro g cap w' q1 q2 q3 q4
 refine h g cap w' ?_ q2 (fun k hk => (World.ownsRow.lt h1' _ hk).1)
 show w'.ownsRow base 25 5 _ (l ++ [y]).length ((fl5 (l ++ [y])).map (Value.int .i64))
 rw [fl5_app, List.map_append, List.length_append]
 exact q1
theorem OwnT5.but {w w' : World} {base p : Nat} {v : Value} {l : List I5} (h : OwnT5 w base v l) (hb : But p w w') (hp : p < base) : OwnT5 w' base v l :=
 ownKeep' h (fun k hk => by have := World.ownsRow.lt h _ hk; exact hb.block k this.2 (by omega))
theorem OwnT5.below {w w' : World} {base : Nat} {v : Value} {l : List I5} (h : OwnT5 w base v l) (hb : Below w.heap.size w w') : OwnT5 w' base v l :=
 ownKeep' h (fun k hk => hb.block k (World.ownsRow.lt h _ hk).2)
theorem code_make {l : List I5} {y : I5} {q : Int} (hl : (l.length : Int) = 1 + q) (q0 : 0 ≤ q) (q1 : q < 14) (h : ∀ x ∈ l, stX x (2 + q) = true) (hy : stX y (2 + q) = true) (he : Plain.endB y.o = true) : codeB (l ++ [y]) = true := by
 have e1 : (l ++ [y]).length = l.length + 1 := by simp
 have e2 : (((l ++ [y]).length : Nat) : Int) = 2 + q := by rw [e1]; omega
 unfold codeB
 rw [decide_eq_true, decide_eq_true]
 ·unfold lastB
  rw [e1, List.getD_eq_getElem?_getD]
  simp [he]
 ·rw [e1]; omega
 ·intro i hi
  rw [e2, List.getD_eq_getElem?_getD]
  have hm : (l ++ [y])[i]? = some ((l ++ [y])[i]) := List.getElem?_eq_getElem hi
  rw [hm]
  show stX ((l ++ [y])[i]) (2 + q) = true
  have hin : (l ++ [y])[i] ∈ l ++ [y] := List.getElem_mem hi
  rcases List.mem_append.1 hin with e | e
  ·exact h _ e
  ·simp only [List.mem_singleton] at e
   rw [e]
   exact hy
set_option maxRecDepth 100000 in
set_option maxHeartbeats 4000000 in
theorem drawCode_ok (p : Nat) (s : Option Addr) (n c : Nat) (w : World) (h : CB w p s n c) :
  Calls Try.prog 46 #[.pointer (some ⟨p, 0, none⟩)] w fun e w' => ∃ (v : Value) (l : List I5), e = .returned v ∧ OwnT5 w' w.heap.size v l ∧ codeB l = true ∧ l.length ≤ 15 ∧ CB w' p s n c ∧ But p w w' := by
 have hp := h.lt
 have H0 : Hid (CB w p s n c) := h
 clear h
 go_enter Try.func46, Try.ntmps46
 go_wp2_with fail
 refine (below_cb p s n c 14 w H0.out (by omega) (by omega)).mono ?_
 rintro e w4 ⟨q, rfl, q0, q1, hc4, hb4⟩
 have H4 : Hid (CB w4 p s n c) := hc4
 have B4 : Hid (But p w w4) := hb4
 have hz4 : w.heap.size ≤ w4.heap.size := B4.out.size
 clear hc4 hb4
 have Q : Hid (0 ≤ q ∧ q < 14) := ⟨q0, q1⟩
 go_wp2
 go_loopw [4, 5] (fun v i wr => ∃ (j : Nat) (l : List I5), (j : Int) ≤ 1 + q ∧ i = .int .i64 j ∧ l.length = j ∧ (∀ x ∈ l, stX x (2 + q) = true) ∧ OwnT5 wr w.heap.size v l ∧ CB wr p s n c ∧ But p w wr) (fun _ i _ => 15 - (intOf i).toNat)
 case atStart => exact ⟨0, [], by omega, rfl, rfl, fun x hx => by simp at hx, (by have h0 := World.ownsRow_lit (base := w.heap.size) (e := 25) (size := 5) w4 #[] 0 hz4 (by unfold maxLen; omega) rfl; exact h0), H4.out.alloc _, B4.out.alloc _⟩
 case round =>
  obtain ⟨j, l, hj, rfl, hl, hx, ho, hcb, hbt⟩ := hrel
  have HO : Hid (OwnT5 wr w.heap.size u4 l) := ho
  have HX : Hid (∀ x ∈ l, stX x (2 + q) = true) := hx
  have HL : Hid (l.length = j) := hl
  have HC : Hid (CB wr p s n c) := hcb
  have HT : Hid (But p w wr) := hbt
  clear ho hcb hbt hl hx
  have hzr := HT.out.size
  by_cases hlt : (j : Int) < 1 + q
  ·go_wp2_with fail
   refine (drawStep_ok p s n c (2 + q) wr HC.out (by omega) (by omega)).mono ?_
   rintro e w5 ⟨o, r, a, b, m, rfl, hok, hc5, hb5⟩
   have HO5 : Hid (OwnT5 w5 w.heap.size u4 l) := HO.out.but hb5 hp
   have HC5 : Hid (CB w5 p s n c) := hc5
   have HT5 : Hid (But p w w5) := HT.out.trans hb5
   have OK : Hid (Plain.stepB o r a b m (2 + q) = true) := hok
   have hz5 := HT5.out.size
   clear hc5 hb5 HO HC HT hok
   go_wp2_with (at_builtin; refine app_step5 rfl _ _ rfl w5 ⟨o, r, a, b, m⟩ w.heap.size u4 l rfl HO5.out rfl (by have := HL.out; omega) hz5 ?_; intro g cap w6 ho6 hg6 hr6)
   go_roundw
   case rel =>
    refine ⟨j + 1, l ++ [⟨o, r, a, b, m⟩], by omega, by go_num, by rw [List.length_append, HL.out]; rfl, fun x hx => ?_, ho6, (HC5.out.alloc _).grown hg6 (fun k hk => by have := hr6 k hk; omega), (HT5.out.alloc _).grown hg6 hr6⟩
    rcases List.mem_append.1 hx with e | e
    ·exact HX.out x e
    ·simp at e; subst e; exact OK.out
   case measure => simp [intOf]; omega
  ·have hjq : (j : Int) = 1 + q := by omega
   have kl : Below wr.heap.size wr (wr.alloc (.cells #[.int .i64 12, .int .i64 10] 3)) := (Below.refl _ _).alloc (Nat.le_refl _) _
   have KL : Hid (Below wr.heap.size wr (wr.alloc (.cells #[.int .i64 12, .int .i64 10] 3))) := kl
   have HJ : Hid ((j : Int) = 1 + q) := hjq
   clear kl hjq
   go_wp2_with fail
   refine (pick_cb p s n c wr.heap.size 2 [12, 10] _ (HC.out.keep KL.out) rfl (by simp) (by simp) (by simp) (by omega) (fun i hi => by match i, hi with | 0, _ => simp [go_sem] | 1, _ => simp [go_sem])).mono ?_
   rintro e w5 ⟨z, rfl, hzm, hc5, hb5⟩
   have HO5 : Hid (OwnT5 w5 w.heap.size u4 l) := (HO.out.below KL.out).but hb5 hp
   have HC5 : Hid (CB w5 p s n c) := hc5
   have HT5 : Hid (But p w w5) := (HT.out.trans (But.of_below KL.out)).trans hb5
   have ZZ : Hid (z = 12 ∨ z = 10) := by simp at hzm; exact hzm
   have hz5 := HT5.out.size
   clear hc5 hb5 HO HC HT KL hzm
   go_wp2_with (at_builtin; refine app_step5 rfl _ _ rfl w5 ⟨z, 0, 0, 0, 0⟩ w.heap.size u4 l rfl HO5.out rfl (by have := HL.out; omega) hz5 ?_; intro g cap w6 ho6 hg6 hr6)
   go_ret
   refine ⟨.slice (some ⟨g, 0, none⟩) (l.length + 1) cap, rfl, l ++ [⟨z, 0, 0, 0, 0⟩], ho6, code_make (q := q) (by have := HL.out; have := HJ.out; omega) Q.out.1 Q.out.2 HX.out ?_ ?_, by rw [List.length_append, HL.out]; have := HJ.out; have := Q.out; simp; omega, (HC5.out.alloc _).grown hg6 (fun k hk => by have := hr6 k hk; omega), (HT5.out.alloc _).grown hg6 hr6⟩
   ·show Plain.stepB z 0 0 0 0 (2 + q) = true
    exact st7 (by have := ZZ.out; have := Q.out; omega)
   ·show Plain.endB z = true
    unfold Plain.endB
    rw [decide_eq_true_eq]
    have := ZZ.out
    omega
end
section
set_option linter.unusedSimpArgs false
set_option linter.unusedVariables false
set_option maxRecDepth 100000
open Go.RowKit
theorem app_one {ops : Array Oper} {rest : List Oper} {o : Oper} {a : Act} {Q : Exit → Act → World → Prop} (hgd : o.guard = none) (s x : Operand) (ho : o.op = .call { callee := .builtin .append, args := #[s, x], argTypes := #[41, 41] })
  (w : World) (z : Int) (base : Nat) (v : Value) (ls : List Int) (hs : a.eval s = v) (hown : OwnN w base v ls) (hx : a.eval x = .slice (some ⟨w.heap.size, 0, none⟩) 1 1) (hn : ls.length ≤ 1099511627775) (hbase : base ≤ w.heap.size)
  (h : ∀ g cap w', OwnN w' base (.slice (some ⟨g, 0, none⟩) (ls.length + 1) cap) (ls ++ [z]) → Below base w w' → (∀ k, k < w.heap.size → v.ownBlock ≠ some k → w'.heap[k]? = w.heap[k]? ∧ k ≠ g) → wpList Try.prog ops Q rest (a.put o.dst (.slice (some ⟨g, 0, none⟩) (ls.length + 1) cap)) w') :
  wpList Try.prog ops Q (o :: rest) a (w.alloc (.cells #[.int .i64 z] 3)) := by
 obtain ⟨i0, hi, hz0, hz1, hz2⟩ := infoInt
 have h1' := hown.alloc (.cells #[.int .i64 z] 3)
 refine wpList_append_lies _ hgd s x 41 ho base 3 i0 _ 1 8 Try.underlying41 hi hz0 hz1 hz2 rfl (by decide) v ls.length _ hs h1' ⟨w.heap.size, 0, none⟩ 1 1 [.int .i64 z] hx rfl (newN1 w _) (fun u hu => by simp at hu; subst hu; rfl) (by decide) (by unfold maxLen; omega) (by omega) (by simp; omega) _ rfl ?_
 intro g cap w' q1 q2 q3 q4
 have hb : Below base w w' := Below.grown (((Below.refl _ _).alloc hbase _)) q2 (by simp; omega) (fun j hj => (World.ownsRow.lt h1' _ hj).1)
 refine h g cap w' ?_ hb (fun k hk hne => ?_)
 ·show w'.ownsRow base 3 1 _ (ls ++ [z]).length ((ls ++ [z]).map (Value.int .i64))
  rw [List.map_append, List.length_append]
  exact q1
 ·refine ⟨(q2.block k (by simp; omega) (fun e => hne e.symm)).trans (Below.heap_alloc _ _ _ hk), ?_⟩
  rintro rfl
  rcases q3 with q3 | q3
  ·exact hne q3
  ·simp at q3; omega
end
section
set_option linter.unusedSimpArgs false
set_option linter.unusedVariables false
set_option maxRecDepth 100000
open Go.RowKit
noncomputable def rnM : MD → List ND → MD
 | d, [] => d
 | d, x :: r => rnM (stepM d x.who x.v).1 r
noncomputable def rnC : MD → List ND → List Int
 | _, [] => []
 | d, x :: r => (stepM d x.who x.v).2 :: rnC (stepM d x.who x.v).1 r
theorem rnM_app : ∀ (l m : List ND) (d : MD), rnM d (l ++ m) = rnM (rnM d l) m
 | [], _, _ => rfl
 | x :: r, m, d => rnM_app r m (stepM d x.who x.v).1
theorem rnC_app : ∀ (l m : List ND) (d : MD), rnC d (l ++ m) = rnC d l ++ rnC (rnM d l) m
 | [], _, _ => rfl
 | x :: r, m, d => by
  show _ :: rnC _ (r ++ m) = _
  rw [rnC_app r m]
  rfl
theorem rnC_len : ∀ (l : List ND) (d : MD), (rnC d l).length = l.length
 | [], _ => rfl
 | x :: r, d => by
  show (rnC _ r).length + 1 = _
  rw [rnC_len r]
  rfl
theorem rnM_ok : ∀ (l : List ND) {d : MD}, machB d = true → machB (rnM d l) = true
 | [], _, h => h
 | x :: r, _, h => rnM_ok r (stepM_ok x.who x.v h)
noncomputable def runMb (d : MD) (l : List ND) : MD := if l.length ≤ 4000 ∧ machB d = true then rnM d l else d
noncomputable def runMc (d : MD) (l : List ND) : List Int := if l.length ≤ 4000 ∧ machB d = true then rnC d l else []
theorem mach_mem {d : MD} (h : machB d = true) : memB d.mem = true := by
 unfold machB at h
 simp only [Bool.and_eq_true] at h
 exact h.2.2.2
/- behind an append beside it: the machine's blocks are as they were, and new ones are free again -/
theorem MQ.hop {w w' : World} {B : Nat} {Hq : Nat → Prop} {vc vk vm vt : Value} {LC : List CV} {LK : List KV} {S : List RS} {d : MD} (h : MQ w B Hq vc vk vm vt LC LK S d) (hm : memB d.mem = true) (hb : ∀ k, k < w.heap.size → Hq k → w'.heap[k]? = w.heap[k]?) (hs : w.heap.size ≤ w'.heap.size) : MQ w' B (fun q => (q < w.heap.size ∧ Hq q) ∨ w'.heap.size ≤ q) vc vk vm vt LC LK S d := by
 have r := h.re (w' := w) (fun _ _ _ => rfl) (Nat.le_refl _)
 have lt : ∀ {e : TypeId} {size n : Nat} {u : Value} {xs : List Value}, w.ownsRow B e size u n xs → (∀ q, u.ownBlock = some q → Hq q) → ∀ q, u.ownBlock = some q → w'.heap[q]? = w.heap[q]? := fun hu hh q e => hb q (World.ownsRow.lt hu q e).2 (hh q e)
 refine ⟨⟨⟨ownKeep' h.c.row (lt h.c.row h.hh.c), fun i x hx => ownKeep' (h.c.inn i x hx) (lt (h.c.inn i x hx) (fun q e => h.hh.ci i x q hx e)), h.c.sep⟩, h.ec, ⟨ownKeep' h.k.row (lt h.k.row h.hh.k), fun i x hx => ⟨ownKeep' (h.k.inn i x hx).1 (lt (h.k.inn i x hx).1 (fun q e => h.hh.ki i x q hx (.inl e))), ownKeep' (h.k.inn i x hx).2 (lt (h.k.inn i x hx).2 (fun q e => h.hh.ki i x q hx (.inr e)))⟩, h.k.two, h.k.sep⟩, h.ek, ⟨h.m.n, ownKeep' h.m.row (lt h.m.row h.hh.m), fun i r l hr hl => ?_, h.m.d⟩, ownKeep' h.t (lt h.t h.hh.t), h.sk⟩, ?_, fun q hq => .inr hq⟩
 ·have q := h.m.r i r l hr hl
  refine q.kept (lt q.own (h.rowH hr (h.m.some_ hm i r hr))) (fun a ha => ?_) hs
  have ha' : a ∈ mAs S := mem_mAs.2 ⟨r, List.mem_of_getElem? hr, mem_rAs.2 (.inr (mem_vsA.1 ha))⟩
  exact hb _ (h.m.memblk ha') (h.hh.mi a ha')
 ·have f : ∀ q, q < w.heap.size → Hq q → (q < w.heap.size ∧ Hq q) ∨ w'.heap.size ≤ q := fun q a b => .inl ⟨a, b⟩
  have g : ∀ q, q < w.heap.size ∧ Hq q ∨ w.heap.size ≤ q → q < w.heap.size → (q < w.heap.size ∧ Hq q) ∨ w'.heap.size ≤ q := fun q a b => a.elim (fun a => .inl a) (fun a => by omega)
  exact ⟨fun q e => f q (World.ownsRow.lt h.c.row q e).2 (h.hh.c q e), fun i x q hx e => f q (World.ownsRow.lt (h.c.inn i x hx) q e).2 (h.hh.ci i x q hx e), fun q e => f q (World.ownsRow.lt h.k.row q e).2 (h.hh.k q e), fun i x q hx e => f q (e.elim (fun e => (World.ownsRow.lt (h.k.inn i x hx).1 q e).2) (fun e => (World.ownsRow.lt (h.k.inn i x hx).2 q e).2)) (h.hh.ki i x q hx e), fun q e => f q (World.ownsRow.lt h.m.row q e).2 (h.hh.m q e), fun a ha => f _ (h.m.memblk ha) (h.hh.mi a ha), fun q e => f q (World.ownsRow.lt h.t q e).2 (h.hh.t q e)⟩
/- a copy that a call has made -/
theorem MQ0.toH {w : World} {B : Nat} {vc vk vm vt : Value} {LC : List CV} {LK : List KV} {S : List RS} {d : MD} (h : MQ0 w B vc vk vm vt LC LK S d) (hB : B ≤ w.heap.size) : MQ w B (fun q => B ≤ q) vc vk vm vt LC LK S d :=
 ⟨h, ⟨fun q e => (World.ownsRow.lt h.c.row q e).1, fun i x q hx e => (World.ownsRow.lt (h.c.inn i x hx) q e).1, fun q e => (World.ownsRow.lt h.k.row q e).1, fun i x q hx e => e.elim (fun e => (World.ownsRow.lt (h.k.inn i x hx).1 q e).1) (fun e => (World.ownsRow.lt (h.k.inn i x hx).2 q e).1), fun q e => (World.ownsRow.lt h.m.row q e).1, fun a ha => (h.m.om.blk ha).1, fun q e => (World.ownsRow.lt h.t q e).1⟩, fun q hq => Nat.le_trans hB hq⟩
theorem intNM : (3 : TypeId) ≠ 34 := by decide
theorem NtsR.pk {w wr : World} {lo hi : Nat} {s : Option Addr} {l : List ND} (h : NtsR w lo hi s l) (hB : hi ≤ w.heap.size) (hb : Below w.heap.size w wr) {k : Nat} {x : ND} (hk : l[k]? = some x) : ∃ g o, s = some ⟨g, o, none⟩ ∧ g < w.heap.size ∧ wr.cell? ⟨g, o + k * 2, none⟩ = some (.int .i64 x.who) ∧ wr.cell? ⟨g, o + k * 2 + 1, none⟩ = some (.int .i64 x.v) := by
 rcases h with h | ⟨g, o, hs, h1, h2, hc⟩
 ·subst h; simp at hk
 ·have cc : ∀ j, wr.cell? ⟨g, j, none⟩ = w.cell? ⟨g, j, none⟩ := fun j => hb.cell (p := ⟨g, j, none⟩) (by show g < _; omega)
  exact ⟨g, o, hs, by omega, (cc _).trans (hc k x hk).1, (cc _).trans (hc k x hk).2⟩
theorem rn_take {d : MD} {l : List ND} {k : Nat} {x : ND} (hk : l[k]? = some x) : rnM d (l.take (k + 1)) = (stepM (rnM d (l.take k)) x.who x.v).1 ∧ rnC d (l.take (k + 1)) = rnC d (l.take k) ++ [(stepM (rnM d (l.take k)) x.who x.v).2] := by
 rw [List.take_add_one, hk, Option.toList_some, rnM_app, rnC_app]
 exact ⟨rfl, rfl⟩
end
section
set_option linter.unusedSimpArgs false
set_option linter.unusedVariables false
set_option maxRecDepth 100000
open Go.RowKit
end
section
set_option linter.unusedSimpArgs false
set_option linter.unusedVariables false
set_option maxRecDepth 100000
open Go.RowKit
section
variable {a : Nat → Nat} {n i : Nat} {d : MD} {k : KD}
end
end
section
set_option linter.unusedSimpArgs false
set_option linter.unusedVariables false
set_option maxRecDepth 100000
open Go.RowKit
section
variable {a : Nat → Nat} {n i : Nat} {d : MD} {k : KD}
end
end
end Go.Proofs.Ytepfpbcjklaenaa
