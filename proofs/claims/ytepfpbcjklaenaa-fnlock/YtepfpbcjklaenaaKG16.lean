/- Append of one integer onto a row, and which blocks stay. Conditions: fewer than 2^40 of them. Runs of machines: what a row of picks does; a machine in its box with a row of codes beside it. No condition. Three cores that add to one cell, each under a lock: what holds of their machine, step by step. No condition. Three cores under one lock: a step, whichever core goes on. No condition. Three cores under one lock: the lock taken or not; a step, whichever. No condition. -/
import Derived.Test.YtepfpbcjklaenaaKG00
import Derived.Test.YtepfpbcjklaenaaKG02
import Derived.Test.YtepfpbcjklaenaaKG01
import Derived.Test.YtepfpbcjklaenaaKMemOk
import Derived.Test.YtepfpbcjklaenaaKG14
import Derived.Test.YtepfpbcjklaenaaKKStepK
import Derived.Test.YtepfpbcjklaenaaKG06
import Derived.Test.YtepfpbcjklaenaaKKOkB
import Derived.Test.YtepfpbcjklaenaaKKMQ
import Derived.Test.YtepfpbcjklaenaaKG04
import Derived.Test.YtepfpbcjklaenaaKKApp
import Derived.Test.YtepfpbcjklaenaaKG15
import Derived.Test.YtepfpbcjklaenaaKG07
namespace Go.Proofs.Ytepfpbcjklaenaa
section
set_option linter.unusedSimpArgs false
set_option linter.unusedVariables false
set_option maxRecDepth 100000
open Go.RowKit
theorem app_one {ops : Array Oper} {rest : List Oper} {o : Oper} {a : Act} {Q : Exit → Act → World → Prop} (hgd : o.guard = none) (s x : Operand) (ho : o.op = .call { callee := .builtin .append, args := #[s, x], argTypes := #[41, 41] })
  (w : World) (z : Int) (base : Nat) (v : Value) (ls : List Int) (hs : a.eval s = v) (hown : OwnN w base v ls) (hx : a.eval x = .slice (some ⟨w.heap.size, 0, none⟩) 1 1) (hn : ls.length ≤ 1099511627775) (hbase : base ≤ w.heap.size)
  (h : ∀ g cap w', OwnN w' base (.slice (some ⟨g, 0, none⟩) (ls.length + 1) cap) (ls ++ [z]) → Below base w w' → (∀ k, k < w.heap.size → v.ownBlock ≠ some k → w'.heap[k]? = w.heap[k]? ∧ k ≠ g) → wpList Try.prog ops Q rest (a.put o.dst (.slice (some ⟨g, 0, none⟩) (ls.length + 1) cap)) w') :
  wpList Try.prog ops Q (o :: rest) a (w.alloc (.cells #[.int .i64 z] 3)) := by
 obtain ⟨i0, hi, hz0, hz1, hz2⟩ := infoInt
 have h1' := hown.alloc (.cells #[.int .i64 z] 3)
 refine wpList_append_lies _ hgd s x 41 ho base 3 i0 _ 1 8 Try.underlying41 hi hz0 hz1 hz2 rfl (by decide) v ls.length _ hs h1' ⟨w.heap.size, 0, none⟩ 1 1 [.int .i64 z] hx rfl (newN1 w _) (fun u hu => by simp at hu; subst hu; rfl) (by decide) (by unfold maxLen; omega) (by omega) (by simp; omega) _ rfl ?_
 intro g cap w' q1 q2 q3 q4
 have hb : Below base w w' := Below.grown (((Below.refl _ _).alloc hbase _)) q2 (by simp; omega) (fun j hj => (World.ownsRow.lt h1' _ hj).1)
 refine h g cap w' ?_ hb (fun k hk hne => ?_)
 ·show w'.ownsRow base 3 1 _ (ls ++ [z]).length ((ls ++ [z]).map (Value.int .i64))
  rw [List.map_append, List.length_append]
  exact q1
 ·refine ⟨(q2.block k (by simp; omega) (fun e => hne e.symm)).trans (Below.heap_alloc _ _ _ hk), ?_⟩
  rintro rfl
  rcases q3 with q3 | q3
  ·exact hne q3
  ·simp at q3; omega
end
section
set_option linter.unusedSimpArgs false
set_option linter.unusedVariables false
set_option maxRecDepth 100000
open Go.RowKit
noncomputable def rnM : MD → List ND → MD
 | d, [] => d
 | d, x :: r => rnM (stepM d x.who x.v).1 r
noncomputable def rnC : MD → List ND → List Int
 | _, [] => []
 | d, x :: r => (stepM d x.who x.v).2 :: rnC (stepM d x.who x.v).1 r
theorem rnM_app : ∀ (l m : List ND) (d : MD), rnM d (l ++ m) = rnM (rnM d l) m
 | [], _, _ => rfl
 | x :: r, m, d => rnM_app r m (stepM d x.who x.v).1
theorem rnC_app : ∀ (l m : List ND) (d : MD), rnC d (l ++ m) = rnC d l ++ rnC (rnM d l) m
 | [], _, _ => rfl
 | x :: r, m, d => by
  show _ :: rnC _ (r ++ m) = _
  rw [rnC_app r m]
  rfl
theorem rnC_len : ∀ (l : List ND) (d : MD), (rnC d l).length = l.length
 | [], _ => rfl
 | x :: r, d => by
  show (rnC _ r).length + 1 = _
  rw [rnC_len r]
  rfl
theorem rnM_ok : ∀ (l : List ND) {d : MD}, machB d = true → machB (rnM d l) = true
 | [], _, h => h
 | x :: r, _, h => rnM_ok r (stepM_ok x.who x.v h)
noncomputable def runMb (d : MD) (l : List ND) : MD := if l.length ≤ 4000 ∧ machB d = true then rnM d l else d
noncomputable def runMc (d : MD) (l : List ND) : List Int := if l.length ≤ 4000 ∧ machB d = true then rnC d l else []
theorem mach_mem {d : MD} (h : machB d = true) : memB d.mem = true := by
 unfold machB at h
 simp only [Bool.and_eq_true] at h
 exact h.2.2.2
/- behind an append beside it: the machine's blocks are as they were, and new ones are free again -/
theorem MQ.hop {w w' : World} {B : Nat} {Hq : Nat → Prop} {vc vk vm vt : Value} {LC : List CV} {LK : List KV} {S : List RS} {d : MD} (h : MQ w B Hq vc vk vm vt LC LK S d) (hm : memB d.mem = true) (hb : ∀ k, k < w.heap.size → Hq k → w'.heap[k]? = w.heap[k]?) (hs : w.heap.size ≤ w'.heap.size) : MQ w' B (fun q => (q < w.heap.size ∧ Hq q) ∨ w'.heap.size ≤ q) vc vk vm vt LC LK S d := by
 have r := h.re (w' := w) (fun _ _ _ => rfl) (Nat.le_refl _)
 have lt : ∀ {e : TypeId} {size n : Nat} {u : Value} {xs : List Value}, w.ownsRow B e size u n xs → (∀ q, u.ownBlock = some q → Hq q) → ∀ q, u.ownBlock = some q → w'.heap[q]? = w.heap[q]? := fun hu hh q e => hb q (World.ownsRow.lt hu q e).2 (hh q e)
 refine ⟨⟨⟨ownKeep' h.c.row (lt h.c.row h.hh.c), fun i x hx => ownKeep' (h.c.inn i x hx) (lt (h.c.inn i x hx) (fun q e => h.hh.ci i x q hx e)), h.c.sep⟩, h.ec, ⟨ownKeep' h.k.row (lt h.k.row h.hh.k), fun i x hx => ⟨ownKeep' (h.k.inn i x hx).1 (lt (h.k.inn i x hx).1 (fun q e => h.hh.ki i x q hx (.inl e))), ownKeep' (h.k.inn i x hx).2 (lt (h.k.inn i x hx).2 (fun q e => h.hh.ki i x q hx (.inr e)))⟩, h.k.two, h.k.sep⟩, h.ek, ⟨h.m.n, ownKeep' h.m.row (lt h.m.row h.hh.m), fun i r l hr hl => ?_, h.m.d⟩, ownKeep' h.t (lt h.t h.hh.t), h.sk⟩, ?_, fun q hq => .inr hq⟩
 ·have q := h.m.r i r l hr hl
  refine q.kept (lt q.own (h.rowH hr (h.m.some_ hm i r hr))) (fun a ha => ?_) hs
  have ha' : a ∈ mAs S := mem_mAs.2 ⟨r, List.mem_of_getElem? hr, mem_rAs.2 (.inr (mem_vsA.1 ha))⟩
  exact hb _ (h.m.memblk ha') (h.hh.mi a ha')
 ·have f : ∀ q, q < w.heap.size → Hq q → (q < w.heap.size ∧ Hq q) ∨ w'.heap.size ≤ q := fun q a b => .inl ⟨a, b⟩
  have g : ∀ q, q < w.heap.size ∧ Hq q ∨ w.heap.size ≤ q → q < w.heap.size → (q < w.heap.size ∧ Hq q) ∨ w'.heap.size ≤ q := fun q a b => a.elim (fun a => .inl a) (fun a => by omega)
  exact ⟨fun q e => f q (World.ownsRow.lt h.c.row q e).2 (h.hh.c q e), fun i x q hx e => f q (World.ownsRow.lt (h.c.inn i x hx) q e).2 (h.hh.ci i x q hx e), fun q e => f q (World.ownsRow.lt h.k.row q e).2 (h.hh.k q e), fun i x q hx e => f q (e.elim (fun e => (World.ownsRow.lt (h.k.inn i x hx).1 q e).2) (fun e => (World.ownsRow.lt (h.k.inn i x hx).2 q e).2)) (h.hh.ki i x q hx e), fun q e => f q (World.ownsRow.lt h.m.row q e).2 (h.hh.m q e), fun a ha => f _ (h.m.memblk ha) (h.hh.mi a ha), fun q e => f q (World.ownsRow.lt h.t q e).2 (h.hh.t q e)⟩
/- a copy that a call has made -/
theorem MQ0.toH {w : World} {B : Nat} {vc vk vm vt : Value} {LC : List CV} {LK : List KV} {S : List RS} {d : MD} (h : MQ0 w B vc vk vm vt LC LK S d) (hB : B ≤ w.heap.size) : MQ w B (fun q => B ≤ q) vc vk vm vt LC LK S d :=
 ⟨h, ⟨fun q e => (World.ownsRow.lt h.c.row q e).1, fun i x q hx e => (World.ownsRow.lt (h.c.inn i x hx) q e).1, fun q e => (World.ownsRow.lt h.k.row q e).1, fun i x q hx e => e.elim (fun e => (World.ownsRow.lt (h.k.inn i x hx).1 q e).1) (fun e => (World.ownsRow.lt (h.k.inn i x hx).2 q e).1), fun q e => (World.ownsRow.lt h.m.row q e).1, fun a ha => (h.m.om.blk ha).1, fun q e => (World.ownsRow.lt h.t q e).1⟩, fun q hq => Nat.le_trans hB hq⟩
/- a machine in its box, a row of codes beside it -/
structure RnJ (w V : World) (bm B : Nat) (vc vk vm : Value) (LC : List CV) (d : MD) (u : Value) (C : List Int) : Prop where
 o : ∃ (Hq : Nat → Prop) (vt : Value) (LK : List KV) (S : List RS), MQ V B Hq vc vk vm vt LC LK S d ∧ V.cell? ⟨bm, 3, none⟩ = some vt ∧ ∀ q, u.ownBlock = some q → ¬ Hq q
 c0 : V.cell? ⟨bm, 0, none⟩ = some vc
 c1 : V.cell? ⟨bm, 1, none⟩ = some vk
 c2 : V.cell? ⟨bm, 2, none⟩ = some vm
 fm : ∀ j, V.frozen? ⟨bm, j, none⟩ = false
 bx : BxT V bm
 n : OwnN V B u C
 k : Below B w V
 m : B ≤ V.heap.size
theorem RnJ.keep {w V V' : World} {bm B : Nat} {vc vk vm : Value} {LC : List CV} {d : MD} {u : Value} {C : List Int} (h : RnJ w V bm B vc vk vm LC d u C) (k : Below V.heap.size V V') : RnJ w V' bm B vc vk vm LC d u C := by
 obtain ⟨Hq, vt, LK, S, q, c3, sp⟩ := h.o
 have z := h.bx.lt
 exact ⟨⟨Hq, vt, LK, S, q.keep (fun b _ h1 => k.block b h1) k.size, (k.cell (p := ⟨bm, 3, none⟩) z).trans c3, sp⟩, (k.cell (p := ⟨bm, 0, none⟩) z).trans h.c0, (k.cell (p := ⟨bm, 1, none⟩) z).trans h.c1, (k.cell (p := ⟨bm, 2, none⟩) z).trans h.c2, fun j => (k.frozen (p := ⟨bm, j, none⟩) z).trans (h.fm j), h.bx.same (k.block bm z), h.n.keep (fun b _ h1 => k.block b h1), h.k.trans (k.mono h.m), Nat.le_trans h.m k.size⟩
theorem intNM : (3 : TypeId) ≠ 34 := by decide
theorem RnJ.turn {w V V' : World} {bm B : Nat} {Hq : Nat → Prop} {vc vk vm : Value} {LC : List CV} {d : MD} {u : Value} {C : List Int} {x : MD × Int} {e : Ending} (h : RnJ w V bm B vc vk vm LC d u C) (sp : ∀ q, u.ownBlock = some q → ¬ Hq q) (t : TurnQ V B Hq bm vc vk vm LC x e V') : RnJ w V' bm B vc vk vm LC x.1 u C := by
 obtain ⟨-, vt', LK', S', q', c3', cj, fj, bx', b', fr⟩ := t
 exact ⟨⟨Hq, vt', LK', S', q', c3', sp⟩, (cj 0 (by omega)).trans h.c0, (cj 1 (by omega)).trans h.c1, (cj 2 (by omega)).trans h.c2, fj, bx', ownKeep' h.n (fun k e => fr k (World.ownsRow.lt h.n k e).2 (sp k e) (fun e2 => own_bx h.n intNM h.bx (by rw [e, e2]))), h.k.trans b', Nat.le_trans h.m b'.size⟩
theorem NtsR.pk {w wr : World} {lo hi : Nat} {s : Option Addr} {l : List ND} (h : NtsR w lo hi s l) (hB : hi ≤ w.heap.size) (hb : Below w.heap.size w wr) {k : Nat} {x : ND} (hk : l[k]? = some x) : ∃ g o, s = some ⟨g, o, none⟩ ∧ g < w.heap.size ∧ wr.cell? ⟨g, o + k * 2, none⟩ = some (.int .i64 x.who) ∧ wr.cell? ⟨g, o + k * 2 + 1, none⟩ = some (.int .i64 x.v) := by
 rcases h with h | ⟨g, o, hs, h1, h2, hc⟩
 ·subst h; simp at hk
 ·have cc : ∀ j, wr.cell? ⟨g, j, none⟩ = w.cell? ⟨g, j, none⟩ := fun j => hb.cell (p := ⟨g, j, none⟩) (by show g < _; omega)
  exact ⟨g, o, hs, by omega, (cc _).trans (hc k x hk).1, (cc _).trans (hc k x hk).2⟩
theorem rn_take {d : MD} {l : List ND} {k : Nat} {x : ND} (hk : l[k]? = some x) : rnM d (l.take (k + 1)) = (stepM (rnM d (l.take k)) x.who x.v).1 ∧ rnC d (l.take (k + 1)) = rnC d (l.take k) ++ [(stepM (rnM d (l.take k)) x.who x.v).2] := by
 rw [List.take_add_one, hk, Option.toList_some, rnM_app, rnC_app]
 exact ⟨rfl, rfl⟩
/- one code more -/
theorem RnJ.app {w V V' : World} {bm B g cap n : Nat} {vc vk vm : Value} {LC : List CV} {d : MD} {u : Value} {C C' : List Int} (h : RnJ w V bm B vc vk vm LC d u C) (hd : machB d = true) (hn : OwnN V' B (.slice (some ⟨g, 0, none⟩) n cap) C') (kk : Below B V V') (f : ∀ k, k < V.heap.size → u.ownBlock ≠ some k → V'.heap[k]? = V.heap[k]? ∧ k ≠ g) : RnJ w V' bm B vc vk vm LC d (.slice (some ⟨g, 0, none⟩) n cap) C' := by
 obtain ⟨Hq, vt, LK, S, q, c3, sp⟩ := h.o
 have z := h.bx.lt
 have eb := (f bm z (own_bx h.n intNM h.bx)).1
 have hm := mach_mem hd
 refine ⟨⟨_, vt, LK, S, q.hop hm (fun k hk hq => (f k hk (fun e => sp k e hq)).1) kk.size, (World.cell?_of_block eb).trans c3, fun b e hh => ?_⟩, (World.cell?_of_block eb).trans h.c0, (World.cell?_of_block eb).trans h.c1, (World.cell?_of_block eb).trans h.c2, fun j => (World.frozen?_of_block eb).trans (h.fm j), h.bx.same eb, hn, h.k.trans kk, Nat.le_trans h.m kk.size⟩
 have hg : b < V'.heap.size := (World.ownsRow.lt hn b e).2
 simp only [Value.ownBlock, Option.some.injEq] at e
 subst e
 rcases hh with ⟨h1, h2⟩ | h1
 ·by_cases hu : u.ownBlock = some g
  ·exact sp g hu h2
  ·exact (f g h1 hu).2 rfl
 ·omega
end
section
set_option linter.unusedSimpArgs false
set_option linter.unusedVariables false
set_option maxRecDepth 100000
open Go.RowKit
def LB : List I5 := [⟨1, 7, 0, 0, 1⟩, ⟨8, 6, 0, 7, 0⟩, ⟨11, 0, 6, 0, 4⟩, ⟨10, 0, 0, 0, 0⟩, ⟨5, 5, -1, 0, 1⟩, ⟨2, 5, 5, 7, 0⟩, ⟨6, 0, -1, 5, 1⟩, ⟨1, 7, 0, 0, 0⟩, ⟨7, 0, -1, 7, 0⟩, ⟨12, 0, 0, 0, 0⟩]
/- where a core is: 0 .. 9 its step (2: it did not get the lock), 10: at step 2 with the lock, 11: ended -/
def pcL (l : Nat) : Int := if l = 10 then 2 else if l = 11 then 9 else l
def stL (l : Nat) : Int := if l = 11 then 1 else 0
def crit (l : Nat) : Bool := l == 10 || (Nat.ble 4 l && Nat.ble l 8)
def cntL (l : Nat) : Nat := if l = 7 ∨ l = 8 ∨ l = 9 ∨ l = 11 then 1 else 0
def lst (r : List WD) : WD := r.getD (r.length - 1) ⟨0, []⟩
theorem lst_app (r : List WD) (x : WD) : lst (r ++ [x]) = x := by
 unfold lst
 rw [List.length_append, List.getD_eq_getElem?_getD, List.getElem?_append_right (by simp)]
 simp
structure Cr (l : Nat) (k : KD) (v : Int) (n1 : Nat) : Prop where
 pc : k.pc = pcL l
 st : k.st = stL l
 lt : l < 12
 r7 : (l = 1 ∨ l = 2 ∨ l = 10 ∨ (3 ≤ l ∧ l ≤ 7)) → k.regs.getD 7 0 = 1
 r8 : l = 8 → k.regs.getD 7 0 = 0
 r6 : l = 10 → k.regs.getD 6 0 = 0
 r6n : l = 2 → k.regs.getD 6 0 ≠ 0
 r5 : l = 5 → k.regs.getD 5 0 = v
 r5n : l = 6 → k.regs.getD 5 0 = v + 1
 vw : crit l = true → k.vw.getD 1 0 = (n1 : Int) - 1
structure Lk (a : Nat → Nat) (n : Nat) (d : MD) : Prop where
 codes : d.codes = [LB, LB, LB]
 ok : machB d = true
 c : ∀ (i : Nat) (k : KD), d.cores[i]? = some k → Cr (a i) k (lst (d.mem.getD 1 [])).v (d.mem.getD 1 []).length
 n0 : (d.mem.getD 0 []).length ≤ n + 1
 n1 : (d.mem.getD 1 []).length ≤ n + 1
 one : ∀ i j, i < 3 → j < 3 → crit (a i) = true → crit (a j) = true → i = j
 held : ∀ i, i < 3 → crit (a i) = true → (lst (d.mem.getD 0 [])).v = 1
 free : (∀ i, i < 3 → crit (a i) = false) → (lst (d.mem.getD 0 [])).v = 0 ∧ (lst (d.mem.getD 0 [])).vw.getD 1 0 = ((d.mem.getD 1 []).length : Int) - 1
 val : (lst (d.mem.getD 1 [])).v = ((cntL (a 0) + cntL (a 1) + cntL (a 2) : Nat) : Int)
def heldL (a : Nat → Nat) : Bool := crit (a 0) || (crit (a 1) || crit (a 2))
def nxt (h : Bool) (l : Nat) : Nat := match l with
 | 0 => 1
 | 1 => if h = true then 2 else 10
 | 2 => 3
 | 3 => 0
 | 4 => 5
 | 5 => 6
 | 6 => 7
 | 7 => 8
 | 8 => 9
 | 9 => 11
 | 10 => 4
 | l => l
def upd (a : Nat → Nat) (i l : Nat) : Nat → Nat := fun j => if j = i then l else a j
theorem upd_at (a : Nat → Nat) (i l : Nat) : upd a i l i = l := if_pos rfl
theorem upd_ne {a : Nat → Nat} {i j : Nat} (l : Nat) (h : j ≠ i) : upd a i l j = a j := if_neg h
theorem putK_at {d : MD} {i j : Nat} {k k' : KD} (h : (putK d i k).cores[j]? = some k') : (j = i ∧ k' = k) ∨ (j ≠ i ∧ d.cores[j]? = some k') := by
 have h' : (d.cores.set i k)[j]? = some k' := h
 by_cases e : j = i
 ·subst e
  have hl := (List.getElem?_eq_some_iff.1 h').1
  rw [List.length_set] at hl
  rw [List.getElem?_set_self hl] at h'
  injection h' with h'
  exact .inl ⟨rfl, h'.symm⟩
 ·rw [List.getElem?_set_ne (fun q => e q.symm)] at h'
  exact .inr ⟨e, h'⟩
theorem cnt3 {a : Nat → Nat} {i : Nat} (l : Nat) (hi : i < 3) : cntL (upd a i l 0) + cntL (upd a i l 1) + cntL (upd a i l 2) + cntL (a i) = cntL (a 0) + cntL (a 1) + cntL (a 2) + cntL l := by
 rcases (show i = 0 ∨ i = 1 ∨ i = 2 by omega) with rfl | rfl | rfl <;> simp [upd] <;> omega
/- a step that turns no memory -/
theorem Lk.own {a : Nat → Nat} {n i l : Nat} {d : MD} {k' : KD} (h : Lk a n d) (hi : i < 3) (hc : Cr l k' (lst (d.mem.getD 1 [])).v (d.mem.getD 1 []).length) (h1 : crit l = crit (a i)) (h2 : cntL l = cntL (a i)) (hok : machB (putK d i k') = true) : Lk (upd a i l) (n + 1) (putK d i k') := by
 have hcr : ∀ j, crit (upd a i l j) = crit (a j) := fun j => by
  by_cases e : j = i
  ·subst e; rw [upd_at]; exact h1
  ·rw [upd_ne l e]
 refine ⟨h.codes, hok, fun j kj hj => ?_, Nat.le_succ_of_le h.n0, Nat.le_succ_of_le h.n1, fun x y hx hy cx cy => h.one x y hx hy (by rw [← hcr x]; exact cx) (by rw [← hcr y]; exact cy), fun x hx cx => h.held x hx (by rw [← hcr x]; exact cx), fun hf => h.free (fun x hx => by rw [← hcr x]; exact hf x hx), ?_⟩
 ·rcases putK_at hj with ⟨rfl, rfl⟩ | ⟨e, hj⟩
  ·rw [upd_at]; exact hc
  ·rw [upd_ne l e]; exact h.c j kj hj
 ·have := cnt3 (a := a) l hi
  have hv := h.val
  show (lst (d.mem.getD 1 [])).v = _
  rw [hv]
  congr 1
  omega
theorem crit_other {a : Nat → Nat} {n i : Nat} {d : MD} (h : Lk a n d) (hi : i < 3) (hc : crit (a i) = true) : ∀ j, j < 3 → j ≠ i → crit (a j) = false := fun j hj e => by
 cases q : crit (a j) with
 | false => rfl
 | true => exact absurd (h.one j i hj hi q hc) e
theorem held_iff {a : Nat → Nat} : heldL a = false ↔ ∀ i, i < 3 → crit (a i) = false := by
 unfold heldL
 constructor
 ·intro h i hi
  simp only [Bool.or_eq_false_iff] at h
  rcases (show i = 0 ∨ i = 1 ∨ i = 2 by omega) with rfl | rfl | rfl
  ·exact h.1
  ·exact h.2.1
  ·exact h.2.2
 ·intro h
  rw [h 0 (by omega), h 1 (by omega), h 2 (by omega)]
  rfl
theorem held_some {a : Nat → Nat} (h : heldL a = true) : ∃ i, i < 3 ∧ crit (a i) = true := by
 unfold heldL at h
 simp only [Bool.or_eq_true] at h
 rcases h with h | h | h
 ·exact ⟨0, by omega, h⟩
 ·exact ⟨1, by omega, h⟩
 ·exact ⟨2, by omega, h⟩
theorem getD_set {α : Type} {l : List α} {i j : Nat} {x z : α} : (l.set i x).getD j z = if j = i ∧ i < l.length then x else l.getD j z := by
 rw [List.getD_eq_getElem?_getD, List.getD_eq_getElem?_getD, List.getElem?_set]
 by_cases e : i = j
 ·subst e
  by_cases hl : i < l.length
  ·simp [hl]
  ·simp [hl]
 ·have e' : ¬ j = i := fun q => e q.symm
  simp [e, e']
end
section
set_option linter.unusedSimpArgs false
set_option linter.unusedVariables false
set_option maxRecDepth 100000
open Go.RowKit
theorem Cr.off {l : Nat} {k : KD} {v v' : Int} {n n' : Nat} (h : Cr l k v n) (hc : crit l = false) : Cr l k v' n' :=
 ⟨h.pc, h.st, h.lt, h.r7, h.r8, h.r6, h.r6n, fun e => by subst e; exact absurd hc (by decide), fun e => by subst e; exact absurd hc (by decide), fun e => by rw [hc] at e; cases e⟩
theorem Lk.mono {a : Nat → Nat} {n : Nat} {d : MD} (h : Lk a n d) : Lk a (n + 1) d :=
 ⟨h.codes, h.ok, h.c, Nat.le_succ_of_le h.n0, Nat.le_succ_of_le h.n1, h.one, h.held, h.free, h.val⟩
theorem upd_self {a : Nat → Nat} {i l : Nat} (h : a i = l) : upd a i l = a := by
 funext j
 by_cases e : j = i
 ·subst e; rw [upd_at, h]
 ·rw [upd_ne l e]
theorem goM_in {d : MD} {who : Nat} {k : KD} {n : Nat} {p : Int} (h : p < (n : Int)) : goM d who k n p = putK d who { k with pc := p } := if_pos h
theorem mx_ge {a b : Int} (h : b ≤ a) : mx a b = a := by unfold mx; rw [if_neg (by omega)]
theorem mx_le {a b : Int} (h : a ≤ b) : mx a b = b := by unfold mx; split <;> omega
theorem zip_at {l r : List Int} {i : Nat} (h : i < l.length) (h' : i < r.length) : (joinL l r).getD i 0 = mx (l.getD i 0) (r.getD i 0) := by
 unfold joinL
 rw [List.getD_eq_getElem?_getD, List.getElem?_zipWith, List.getElem?_eq_getElem h, List.getElem?_eq_getElem h']
 simp [List.getD_eq_getElem?_getD, h, h']
/- what the step of a core that runs finds -/
structure At3 (a : Nat → Nat) (n i : Nat) (d : MD) (k : KD) : Prop where
 h : Lk a n d
 hi : i < 3
 hk : d.cores[i]? = some k
 C : Cr (a i) k (lst (d.mem.getD 1 [])).v (d.mem.getD 1 []).length
 R : k.regs.length = 8
 V : k.vw.length = 24
 V0 : k.vw.getD 0 0 < ((d.mem.getD 0 []).length : Int)
 V1 : k.vw.getD 1 0 < ((d.mem.getD 1 []).length : Int)
 ml : d.mem.length = 24
 l0 : 1 ≤ (d.mem.getD 0 []).length
 l1 : 1 ≤ (d.mem.getD 1 []).length
 x0 : (lst (d.mem.getD 0 [])).vw.length = 24
theorem lst_mem {r : List WD} (h : 1 ≤ r.length) : lst r ∈ r := by
 unfold lst
 rw [List.getD_eq_getElem?_getD, List.getElem?_eq_getElem (by omega)]
 exact List.getElem_mem _
theorem at3 {a : Nat → Nat} {n i : Nat} {d : MD} (h : Lk a n d) (hi : i < 3) : ∃ k s, At3 a n i d k ∧ At8 d i k LB s ∧ LB.getD (pcL (a i)).toNat z5 = s := by
 have hl : d.cores.length = 3 := by rw [mach_len h.ok, h.codes]; rfl
 obtain ⟨k, code, s, ha⟩ := mach_at h.ok (who := i) (by omega)
 have hcode : code = LB := by
  have q := ha.hc
  rw [h.codes] at q
  rcases (show i = 0 ∨ i = 1 ∨ i = 2 by omega) with rfl | rfl | rfl <;> (injection q with q; exact q.symm)
 subst hcode
 have C := h.c i k ha.hk
 have hv := viewB_iff.1 ha.vw
 obtain ⟨ml, r0, -, e0, a0, -, w0⟩ := memB_at ha.mem (i := 0) (by omega)
 obtain ⟨-, r1, -, e1, a1, -, -⟩ := memB_at ha.mem (i := 1) (by omega)
 have hx := viewB_iff.1 (w0 (lst r0) (lst_mem a0))
 refine ⟨k, s, ⟨h, hi, ha.hk, C, ha.regs, by omega, (hv.2 0 (by omega)).2, (hv.2 1 (by omega)).2, ml, by rw [e0]; exact a0, by rw [e1]; exact a1, by rw [e0]; omega⟩, ha, ?_⟩
 rw [← C.pc]
 exact ha.hz
section
variable {a : Nat → Nat} {n i : Nat} {d : MD} {k : KD}
theorem At3.val3 (A : At3 a n i d k) : 0 ≤ (lst (d.mem.getD 1 [])).v ∧ (lst (d.mem.getD 1 [])).v ≤ 3 := by
 have hv := A.h.val
 have c : ∀ l, cntL l ≤ 1 := fun l => by unfold cntL; split <;> omega
 have := c (a 0); have := c (a 1); have := c (a 2)
 omega
/- steps that turn registers and place alone -/
theorem At3.set1 (A : At3 a n i d k) (e : a i = 0) (hok : machB (putK d i { setR k 7 1 with pc := 1 }) = true) : Lk (upd a i 1) (n + 1) (putK d i { setR k 7 1 with pc := 1 }) := by
 have C := A.C
 have R := A.R
 rw [e] at C
 refine A.h.own A.hi ⟨rfl, C.st, by omega, fun _ => ?_, fun q => by omega, fun q => by omega, fun q => by omega, fun q => by omega, fun q => by omega, fun q => absurd q (by decide)⟩ (by rw [e]; rfl) (by rw [e]; rfl) hok
 show (k.regs.set 7 1).getD 7 0 = 1
 rw [getD_set, if_pos ⟨rfl, by omega⟩]
theorem At3.zero2 (A : At3 a n i d k) (e : a i = 2) (hok : machB (putK d i { k with pc := 3 }) = true) : Lk (upd a i 3) (n + 1) (putK d i { k with pc := 3 }) := by
 have C := A.C
 rw [e] at C
 exact A.h.own A.hi ⟨rfl, C.st, by omega, fun _ => C.r7 (by omega), fun q => by omega, fun q => by omega, fun q => by omega, fun q => by omega, fun q => by omega, fun q => absurd q (by decide)⟩ (by rw [e]; rfl) (by rw [e]; rfl) hok
theorem At3.jump3 (A : At3 a n i d k) (e : a i = 3) (hok : machB (putK d i { k with pc := 0 }) = true) : Lk (upd a i 0) (n + 1) (putK d i { k with pc := 0 }) := by
 have C := A.C
 rw [e] at C
 exact A.h.own A.hi ⟨rfl, C.st, by omega, fun q => by omega, fun q => by omega, fun q => by omega, fun q => by omega, fun q => by omega, fun q => by omega, fun q => absurd q (by decide)⟩ (by rw [e]; rfl) (by rw [e]; rfl) hok
theorem At3.zero10 (A : At3 a n i d k) (e : a i = 10) (hok : machB (putK d i { k with pc := 4 }) = true) : Lk (upd a i 4) (n + 1) (putK d i { k with pc := 4 }) := by
 have C := A.C
 rw [e] at C
 exact A.h.own A.hi ⟨rfl, C.st, by omega, fun _ => C.r7 (by omega), fun q => by omega, fun q => by omega, fun q => by omega, fun q => by omega, fun q => by omega, fun _ => C.vw rfl⟩ (by rw [e]; rfl) (by rw [e]; rfl) hok
theorem At3.load4 (A : At3 a n i d k) (e : a i = 4) (late : Int) (hok : machB (putK d i { k with regs := k.regs.set 5 (ldX d.mem k.vw 1 late).v, vw := ldW d.mem k.vw 1 late false, pc := 5 }) = true) : Lk (upd a i 5) (n + 1) (putK d i { k with regs := k.regs.set 5 (ldX d.mem k.vw 1 late).v, vw := ldW d.mem k.vw 1 late false, pc := 5 }) := by
 have C := A.C
 have R := A.R
 have V := A.V
 have l1 := A.l1
 rw [e] at C
 have hv := C.vw rfl
 have hj : ldJ d.mem k.vw 1 late = (d.mem.getD 1 []).length - 1 := by
  unfold ldJ
  rw [hv, mx_ge (by have h0 : 0 ≤ mx late 0 := (by unfold mx; split <;> omega); omega)]
  omega
 have hx : ldX d.mem k.vw 1 late = lst (d.mem.getD 1 []) := by unfold ldX lst; rw [hj]
 refine A.h.own A.hi ⟨rfl, C.st, by omega, fun _ => ?_, fun q => by omega, fun q => by omega, fun q => by omega, fun _ => ?_, fun q => by omega, fun _ => ?_⟩ (by rw [e]; rfl) (by rw [e]; rfl) hok
 ·show (k.regs.set 5 _).getD 7 0 = 1
  rw [getD_set, if_neg (by omega)]
  exact C.r7 (by omega)
 ·show (k.regs.set 5 _).getD 5 0 = _
  rw [getD_set, if_pos ⟨rfl, by omega⟩, hx]
 ·show (ldW d.mem k.vw 1 late false).getD 1 0 = _
  unfold ldW
  rw [if_neg (by decide), getD_set, if_pos ⟨rfl, by omega⟩, hj]
  omega
theorem At3.add5 (A : At3 a n i d k) (e : a i = 5) (hok : machB (putK d i { setR k 5 (wI (regA k 5 + regA k 7)) with pc := 6 }) = true) : Lk (upd a i 6) (n + 1) (putK d i { setR k 5 (wI (regA k 5 + regA k 7)) with pc := 6 }) := by
 have C := A.C
 have R := A.R
 have v3 := A.val3
 rw [e] at C
 have h5 : regA k 5 = (lst (d.mem.getD 1 [])).v := C.r5 rfl
 have h7 : regA k 7 = 1 := C.r7 (by omega)
 refine A.h.own A.hi ⟨rfl, C.st, by omega, fun _ => ?_, fun q => by omega, fun q => by omega, fun q => by omega, fun q => by omega, fun _ => ?_, fun _ => C.vw rfl⟩ (by rw [e]; rfl) (by rw [e]; rfl) hok
 ·show (k.regs.set 5 _).getD 7 0 = 1
  rw [getD_set, if_neg (by omega)]
  exact C.r7 (by omega)
 ·show (k.regs.set 5 _).getD 5 0 = _
  rw [getD_set, if_pos ⟨rfl, by omega⟩, h5, h7]
  exact Go.IntWalk.i64_in _ ⟨by omega, by omega⟩
theorem At3.set7 (A : At3 a n i d k) (e : a i = 7) (hok : machB (putK d i { setR k 7 0 with pc := 8 }) = true) : Lk (upd a i 8) (n + 1) (putK d i { setR k 7 0 with pc := 8 }) := by
 have C := A.C
 have R := A.R
 rw [e] at C
 refine A.h.own A.hi ⟨rfl, C.st, by omega, fun q => by omega, fun _ => ?_, fun q => by omega, fun q => by omega, fun q => by omega, fun q => by omega, fun _ => C.vw rfl⟩ (by rw [e]; rfl) (by rw [e]; rfl) hok
 show (k.regs.set 7 0).getD 7 0 = 0
 rw [getD_set, if_pos ⟨rfl, by omega⟩]
theorem At3.end9 (A : At3 a n i d k) (e : a i = 9) (hok : machB (putK d i { k with st := 1 }) = true) : Lk (upd a i 11) (n + 1) (putK d i { k with st := 1 }) := by
 have C := A.C
 rw [e] at C
 exact A.h.own A.hi ⟨C.pc, rfl, by omega, fun q => by omega, fun q => by omega, fun q => by omega, fun q => by omega, fun q => by omega, fun q => by omega, fun q => absurd q (by decide)⟩ (by rw [e]; rfl) (by rw [e]; rfl) hok
/- steps that write -/
theorem row_set {m : List (List WD)} {c j : Nat} {r : List WD} (h : c < m.length) : (m.set c r).getD j [] = if j = c then r else m.getD j [] := by
 rw [getD_set]
 by_cases e : j = c
 ·rw [if_pos ⟨e, h⟩, if_pos e]
 ·rw [if_neg (fun q => e q.1), if_neg e]
theorem At3.store6 (A : At3 a n i d k) (e : a i = 6) (hok : machB (putK { d with mem := stM d.mem k.vw 1 (regA k 5) false } i { k with vw := stW d.mem k.vw 1, pc := 7 }) = true) : Lk (upd a i 7) (n + 1) (putK { d with mem := stM d.mem k.vw 1 (regA k 5) false } i { k with vw := stW d.mem k.vw 1, pc := 7 }) := by
 have C := A.C
 have V := A.V
 have ml := A.ml
 have h := A.h
 rw [e] at C
 have h5 : regA k 5 = (lst (d.mem.getD 1 [])).v + 1 := C.r5n rfl
 have g1 : (stM d.mem k.vw 1 (regA k 5) false).getD 1 [] = d.mem.getD 1 [] ++ [⟨regA k 5, toldL k.vw 1 (d.mem.getD 1 []).length false⟩] := by unfold stM; rw [row_set (by omega), if_pos rfl]
 have g0 : (stM d.mem k.vw 1 (regA k 5) false).getD 0 [] = d.mem.getD 0 [] := by unfold stM; rw [row_set (by omega), if_neg (by omega)]
 have hcr : ∀ j, crit (upd a i 7 j) = crit (a j) := fun j => by
  by_cases q : j = i
  ·subst q; rw [upd_at, e]; rfl
  ·rw [upd_ne 7 q]
 have ci : crit (a i) = true := by rw [e]; rfl
 refine ⟨h.codes, hok, fun j kj hj => ?_, ?_, ?_, fun x y hx hy cx cy => h.one x y hx hy (by rw [← hcr x]; exact cx) (by rw [← hcr y]; exact cy), fun x hx cx => ?_, fun hf => ?_, ?_⟩
 ·show Cr _ kj (lst ((stM d.mem k.vw 1 (regA k 5) false).getD 1 [])).v ((stM d.mem k.vw 1 (regA k 5) false).getD 1 []).length
  rcases putK_at hj with ⟨rfl, rfl⟩ | ⟨q, hj⟩
  ·rw [upd_at, g1, lst_app, List.length_append]
   refine ⟨rfl, C.st, by omega, fun _ => C.r7 (by omega), fun q => by omega, fun q => by omega, fun q => by omega, fun q => by omega, fun q => by omega, fun _ => ?_⟩
   show (k.vw.set 1 _).getD 1 0 = _
   rw [getD_set, if_pos ⟨rfl, by omega⟩]
   simp
  ·rw [upd_ne 7 q]
   have hl : j < 3 := by
    have := (List.getElem?_eq_some_iff.1 hj).1
    have q3 : d.cores.length = 3 := by rw [mach_len h.ok, h.codes]; rfl
    have : j < d.cores.length := this
    omega
   exact (h.c j kj hj).off (crit_other h A.hi ci j hl q)
 ·show ((stM d.mem k.vw 1 (regA k 5) false).getD 0 []).length ≤ _
  rw [g0]; exact Nat.le_succ_of_le h.n0
 ·show ((stM d.mem k.vw 1 (regA k 5) false).getD 1 []).length ≤ _
  rw [g1, List.length_append]; have := h.n1; show _ + 1 ≤ _; omega
 ·show (lst ((stM d.mem k.vw 1 (regA k 5) false).getD 0 [])).v = 1
  rw [g0]; exact h.held x hx (by rw [← hcr x]; exact cx)
 ·have := hf i A.hi
  rw [hcr i, ci] at this
  cases this
 ·show (lst ((stM d.mem k.vw 1 (regA k 5) false).getD 1 [])).v = _
  rw [g1, lst_app]
  show regA k 5 = _
  have hc := cnt3 (a := a) 7 A.hi
  rw [h5, h.val]
  rw [e] at hc
  have c6 : cntL 6 = 0 := rfl
  have c7 : cntL 7 = 1 := rfl
  omega
theorem At3.let8 (A : At3 a n i d k) (e : a i = 8) (hok : machB (putK { d with mem := stM d.mem k.vw 0 (regA k 7) true } i { k with vw := stW d.mem k.vw 0, pc := 9 }) = true) : Lk (upd a i 9) (n + 1) (putK { d with mem := stM d.mem k.vw 0 (regA k 7) true } i { k with vw := stW d.mem k.vw 0, pc := 9 }) := by
 have C := A.C
 have V := A.V
 have ml := A.ml
 have h := A.h
 rw [e] at C
 have h7 : regA k 7 = 0 := C.r8 rfl
 have g0 : (stM d.mem k.vw 0 (regA k 7) true).getD 0 [] = d.mem.getD 0 [] ++ [⟨regA k 7, toldL k.vw 0 (d.mem.getD 0 []).length true⟩] := by unfold stM; rw [row_set (by omega), if_pos rfl]
 have g1 : (stM d.mem k.vw 0 (regA k 7) true).getD 1 [] = d.mem.getD 1 [] := by unfold stM; rw [row_set (by omega), if_neg (by omega)]
 have ci : crit (a i) = true := by rw [e]; rfl
 have hno : ∀ j, j < 3 → crit (upd a i 9 j) = false := fun j hj => by
  by_cases q : j = i
  ·subst q; rw [upd_at]; rfl
  ·rw [upd_ne 9 q]; exact crit_other h A.hi ci j hj q
 refine ⟨h.codes, hok, fun j kj hj => ?_, ?_, ?_, fun x y hx hy cx _ => (by rw [hno x hx] at cx; cases cx), fun x hx cx => (by rw [hno x hx] at cx; cases cx), fun hf => ?_, ?_⟩
 ·show Cr _ kj (lst ((stM d.mem k.vw 0 (regA k 7) true).getD 1 [])).v ((stM d.mem k.vw 0 (regA k 7) true).getD 1 []).length
  rw [g1]
  rcases putK_at hj with ⟨rfl, rfl⟩ | ⟨q, hj⟩
  ·rw [upd_at]
   exact ⟨rfl, C.st, by omega, fun q => by omega, fun q => by omega, fun q => by omega, fun q => by omega, fun q => by omega, fun q => by omega, fun q => absurd q (by decide)⟩
  ·rw [upd_ne 9 q]; exact h.c j kj hj
 ·show ((stM d.mem k.vw 0 (regA k 7) true).getD 0 []).length ≤ _
  rw [g0, List.length_append]; have := h.n0; show _ + 1 ≤ _; omega
 ·show ((stM d.mem k.vw 0 (regA k 7) true).getD 1 []).length ≤ _
  rw [g1]; exact Nat.le_succ_of_le h.n1
 ·show (lst ((stM d.mem k.vw 0 (regA k 7) true).getD 0 [])).v = 0 ∧ (lst ((stM d.mem k.vw 0 (regA k 7) true).getD 0 [])).vw.getD 1 0 = (((stM d.mem k.vw 0 (regA k 7) true).getD 1 []).length : Int) - 1
  rw [g0, g1, lst_app]
  refine ⟨h7, ?_⟩
  show (toldL k.vw 0 _ true).getD 1 0 = _
  unfold toldL
  rw [if_pos rfl, getD_set, if_neg (by omega)]
  exact C.vw rfl
 ·show (lst ((stM d.mem k.vw 0 (regA k 7) true).getD 1 [])).v = _
  rw [g1, h.val]
  have hc := cnt3 (a := a) 9 A.hi
  rw [e] at hc
  have c8 : cntL 8 = 1 := rfl
  have c9 : cntL 9 = 1 := rfl
  congr 1
  omega
end
end
section
set_option linter.unusedSimpArgs false
set_option linter.unusedVariables false
set_option maxRecDepth 100000
open Go.RowKit
section
variable {a : Nat → Nat} {n i : Nat} {d : MD} {k : KD}
theorem At3.swap1 (A : At3 a n i d k) (e : a i = 1) (hok : machB (putK { d with mem := stM d.mem (ldW d.mem k.vw 0 0 true) 0 (regA k 7) true } i { k with regs := k.regs.set 6 (ldX d.mem k.vw 0 0).v, vw := stW d.mem (ldW d.mem k.vw 0 0 true) 0, pc := 2 }) = true) :
  Lk (upd a i (nxt (heldL a) 1)) (n + 1) (putK { d with mem := stM d.mem (ldW d.mem k.vw 0 0 true) 0 (regA k 7) true } i { k with regs := k.regs.set 6 (ldX d.mem k.vw 0 0).v, vw := stW d.mem (ldW d.mem k.vw 0 0 true) 0, pc := 2 }) := by
 have C := A.C
 have V := A.V
 have V0 := A.V0
 have V1 := A.V1
 have R := A.R
 have ml := A.ml
 have h := A.h
 have l0 := A.l0
 rw [e] at C
 have h7 : regA k 7 = 1 := C.r7 (by omega)
 have hj : ldJ d.mem k.vw 0 0 = (d.mem.getD 0 []).length - 1 := by
  unfold ldJ
  rw [show mx (0 : Int) 0 = 0 from rfl, mx_le (by omega)]
  omega
 have hx : ldX d.mem k.vw 0 0 = lst (d.mem.getD 0 []) := by unfold ldX lst; rw [hj]
 obtain ⟨L, hL⟩ : ∃ L, ldW d.mem k.vw 0 0 true = L := ⟨_, rfl⟩
 have hl1 : L.getD 1 0 = mx (k.vw.getD 1 0) ((lst (d.mem.getD 0 [])).vw.getD 1 0) := by
  rw [← hL]
  unfold ldW
  rw [if_pos rfl, hx, zip_at (by rw [List.length_set]; omega) (by have := A.x0; omega), getD_set, if_neg (by omega)]
 rw [hL, hx] at hok ⊢
 have g0 : (stM d.mem L 0 (regA k 7) true).getD 0 [] = d.mem.getD 0 [] ++ [⟨regA k 7, toldL L 0 (d.mem.getD 0 []).length true⟩] := by unfold stM; rw [row_set (by omega), if_pos rfl]
 have g1 : (stM d.mem L 0 (regA k 7) true).getD 1 [] = d.mem.getD 1 [] := by unfold stM; rw [row_set (by omega), if_neg (by omega)]
 have hn0 : ((stM d.mem L 0 (regA k 7) true).getD 0 []).length ≤ n + 1 + 1 := by rw [g0, List.length_append]; have := h.n0; show _ + 1 ≤ _; omega
 have hn1 : ((stM d.mem L 0 (regA k 7) true).getD 1 []).length ≤ n + 1 + 1 := by rw [g1]; exact Nat.le_succ_of_le h.n1
 have hv : (lst ((stM d.mem L 0 (regA k 7) true).getD 0 [])).v = 1 := by rw [g0, lst_app]; exact h7
 have c1 : cntL 1 = 0 := rfl
 cases hh : heldL a with
 | true =>
  have hno : ∀ j, crit (upd a i 2 j) = crit (a j) := fun j => by
   by_cases q : j = i
   ·subst q; rw [upd_at, e]; rfl
   ·rw [upd_ne 2 q]
  obtain ⟨j0, hj0, hc0⟩ := held_some hh
  have h1 : (lst (d.mem.getD 0 [])).v = 1 := h.held j0 hj0 hc0
  show Lk (upd a i 2) _ _
  refine ⟨h.codes, hok, fun j kj hj => ?_, hn0, hn1, fun x y hx hy cx cy => h.one x y hx hy (by rw [← hno x]; exact cx) (by rw [← hno y]; exact cy), fun x hx cx => hv, fun hf => (by have := hf j0 hj0; rw [hno j0, hc0] at this; cases this), ?_⟩
  ·show Cr _ kj (lst ((stM d.mem L 0 (regA k 7) true).getD 1 [])).v ((stM d.mem L 0 (regA k 7) true).getD 1 []).length
   rw [g1]
   rcases putK_at hj with ⟨rfl, rfl⟩ | ⟨q, hj⟩
   ·rw [upd_at]
    refine ⟨rfl, C.st, by omega, fun _ => ?_, fun q => by omega, fun q => by omega, fun _ => ?_, fun q => by omega, fun q => by omega, fun q => absurd q (by decide)⟩
    ·show (k.regs.set 6 _).getD 7 0 = 1
     rw [getD_set, if_neg (by omega)]
     exact C.r7 (by omega)
    ·show (k.regs.set 6 _).getD 6 0 ≠ 0
     rw [getD_set, if_pos ⟨rfl, by omega⟩, h1]
     decide
   ·rw [upd_ne 2 q]; exact h.c j kj hj
  ·show (lst ((stM d.mem L 0 (regA k 7) true).getD 1 [])).v = _
   rw [g1, h.val]
   have hc := cnt3 (a := a) 2 A.hi
   rw [e] at hc
   have c2 : cntL 2 = 0 := rfl
   congr 1
   omega
 | false =>
  have hfr := held_iff.1 hh
  obtain ⟨f0, f1⟩ := h.free hfr
  have hno : ∀ j, j < 3 → j ≠ i → crit (upd a i 10 j) = false := fun j hj q => by rw [upd_ne 10 q]; exact hfr j hj
  show Lk (upd a i 10) _ _
  refine ⟨h.codes, hok, fun j kj hj => ?_, hn0, hn1, fun x y hx hy cx cy => ?_, fun x hx cx => hv, fun hf => (by have := hf i A.hi; rw [upd_at] at this; exact absurd this (by decide)), ?_⟩
  ·show Cr _ kj (lst ((stM d.mem L 0 (regA k 7) true).getD 1 [])).v ((stM d.mem L 0 (regA k 7) true).getD 1 []).length
   rw [g1]
   rcases putK_at hj with ⟨rfl, rfl⟩ | ⟨q, hj⟩
   ·rw [upd_at]
    refine ⟨rfl, C.st, by omega, fun _ => ?_, fun q => by omega, fun _ => ?_, fun q => by omega, fun q => by omega, fun q => by omega, fun _ => ?_⟩
    ·show (k.regs.set 6 _).getD 7 0 = 1
     rw [getD_set, if_neg (by omega)]
     exact C.r7 (by omega)
    ·show (k.regs.set 6 _).getD 6 0 = 0
     rw [getD_set, if_pos ⟨rfl, by omega⟩, f0]
    ·show (stW d.mem L 0).getD 1 0 = _
     unfold stW
     rw [getD_set, if_neg (by omega), hl1, f1, mx_le (by omega)]
   ·rw [upd_ne 10 q]; exact h.c j kj hj
  ·by_cases q : x = i
   ·by_cases q' : y = i
    ·rw [q, q']
    ·rw [hno y hy q'] at cy; cases cy
   ·rw [hno x hx q] at cx; cases cx
  ·show (lst ((stM d.mem L 0 (regA k 7) true).getD 1 [])).v = _
   rw [g1, h.val]
   have hc := cnt3 (a := a) 10 A.hi
   rw [e] at hc
   have c10 : cntL 10 = 0 := rfl
   congr 1
   omega
end
theorem Lk.step {a : Nat → Nat} {n i : Nat} {d : MD} (h : Lk a n d) (hi : i < 3) (hn : n ≤ 1000) (late : Int) : Lk (upd a i (nxt (heldL a) (a i))) (n + 1) (stepM d i late).1 := by
 obtain ⟨k, s, A, ha, hs⟩ := at3 h hi
 have hok := stepM_ok (i : Int) late h.ok
 have C := A.C
 have r0 : ¬ (d.mem.getD 0 []).length = 4000 := by have := h.n0; omega
 have r1 : ¬ (d.mem.getD 1 []).length = 4000 := by have := h.n1; omega
 have hll : LB.length = 10 := rfl
 have l12 := C.lt
 by_cases h11 : a i = 11
 ·rw [stepM_over ha late (by rw [C.st, h11]; decide), h11]
  show Lk (upd a i 11) (n + 1) d
  rw [upd_self h11]
  exact h.mono
 ·have hst : k.st = 0 := by rw [C.st]; unfold stL; rw [if_neg h11]
  rw [stepM_at ha late hst] at hok ⊢
  rcases (show a i = 0 ∨ a i = 1 ∨ a i = 2 ∨ a i = 3 ∨ a i = 4 ∨ a i = 5 ∨ a i = 6 ∨ a i = 7 ∨ a i = 8 ∨ a i = 9 ∨ a i = 10 by omega) with e | e | e | e | e | e | e | e | e | e | e
  all_goals
   rw [e] at hs
   have hpc := C.pc
   rw [e] at hpc
  ·obtain rfl : s = ⟨1, 7, 0, 0, 1⟩ := hs.symm
   rw [stepAt1 _ _ _ _ _ _ rfl, hpc] at hok ⊢
   rw [goM_in (by decide)] at hok ⊢
   rw [e]
   exact A.set1 e hok
  ·obtain rfl : s = ⟨8, 6, 0, 7, 0⟩ := hs.symm
   have hc : cellM k ⟨8, 6, 0, 7, 0⟩ = 0 := if_neg (by decide)
   rw [stepAtM _ _ _ _ _ _ (by decide), hc] at hok ⊢
   rw [if_pos (by decide), if_neg (fun q => r0 q.2), hpc] at hok ⊢
   have hm : memS d late k ⟨8, 6, 0, 7, 0⟩ ((0 : Int).toNat) = ({ d with mem := stM d.mem (ldW d.mem k.vw 0 0 true) 0 (regA k 7) true }, { k with regs := k.regs.set 6 (ldX d.mem k.vw 0 0).v, vw := stW d.mem (ldW d.mem k.vw 0 0 true) 0 }) := rfl
   rw [hm] at hok ⊢
   rw [goM_in (by decide)] at hok ⊢
   rw [e]
   exact A.swap1 e hok
  ·obtain rfl : s = ⟨11, 0, 6, 0, 4⟩ := hs.symm
   rw [stepAt11 _ _ _ _ _ _ rfl, show regA k (⟨11, 0, 6, 0, 4⟩ : I5).a = k.regs.getD 6 0 from rfl, if_neg (C.r6n e), hpc] at hok ⊢
   rw [goM_in (by decide)] at hok ⊢
   rw [e]
   exact A.zero2 e hok
  ·obtain rfl : s = ⟨10, 0, 0, 0, 0⟩ := hs.symm
   rw [stepAt10 _ _ _ _ _ _ rfl] at hok ⊢
   rw [goM_in (by decide)] at hok ⊢
   rw [e]
   exact A.jump3 e hok
  ·obtain rfl : s = ⟨5, 5, -1, 0, 1⟩ := hs.symm
   have hc : cellM k ⟨5, 5, -1, 0, 1⟩ = 1 := if_neg (by decide)
   rw [stepAtM _ _ _ _ _ _ (by decide), hc] at hok ⊢
   rw [if_pos (by decide), if_neg (fun q => q.1 rfl), hpc] at hok ⊢
   have hm : memS d late k ⟨5, 5, -1, 0, 1⟩ ((1 : Int).toNat) = (d, { k with regs := k.regs.set 5 (ldX d.mem k.vw 1 late).v, vw := ldW d.mem k.vw 1 late false }) := rfl
   rw [hm] at hok ⊢
   rw [goM_in (by decide)] at hok ⊢
   rw [e]
   exact A.load4 e late hok
  ·obtain rfl : s = ⟨2, 5, 5, 7, 0⟩ := hs.symm
   rw [stepAt2 _ _ _ _ _ _ rfl, hpc] at hok ⊢
   rw [goM_in (by decide)] at hok ⊢
   rw [e]
   exact A.add5 e hok
  ·obtain rfl : s = ⟨6, 0, -1, 5, 1⟩ := hs.symm
   have hc : cellM k ⟨6, 0, -1, 5, 1⟩ = 1 := if_neg (by decide)
   rw [stepAtM _ _ _ _ _ _ (by decide), hc] at hok ⊢
   rw [if_pos (by decide), if_neg (fun q => r1 q.2), hpc] at hok ⊢
   have hm : memS d late k ⟨6, 0, -1, 5, 1⟩ ((1 : Int).toNat) = ({ d with mem := stM d.mem k.vw 1 (regA k 5) false }, { k with vw := stW d.mem k.vw 1 }) := rfl
   rw [hm] at hok ⊢
   rw [goM_in (by decide)] at hok ⊢
   rw [e]
   exact A.store6 e hok
  ·obtain rfl : s = ⟨1, 7, 0, 0, 0⟩ := hs.symm
   rw [stepAt1 _ _ _ _ _ _ rfl, hpc] at hok ⊢
   rw [goM_in (by decide)] at hok ⊢
   rw [e]
   exact A.set7 e hok
  ·obtain rfl : s = ⟨7, 0, -1, 7, 0⟩ := hs.symm
   have hc : cellM k ⟨7, 0, -1, 7, 0⟩ = 0 := if_neg (by decide)
   rw [stepAtM _ _ _ _ _ _ (by decide), hc] at hok ⊢
   rw [if_pos (by decide), if_neg (fun q => r0 q.2), hpc] at hok ⊢
   have hm : memS d late k ⟨7, 0, -1, 7, 0⟩ ((0 : Int).toNat) = ({ d with mem := stM d.mem k.vw 0 (regA k 7) true }, { k with vw := stW d.mem k.vw 0 }) := rfl
   rw [hm] at hok ⊢
   rw [goM_in (by decide)] at hok ⊢
   rw [e]
   exact A.let8 e hok
  ·obtain rfl : s = ⟨12, 0, 0, 0, 0⟩ := hs.symm
   rw [stepAt12 _ _ _ _ _ _ rfl] at hok ⊢
   rw [e]
   exact A.end9 e hok
  ·obtain rfl : s = ⟨11, 0, 6, 0, 4⟩ := hs.symm
   rw [stepAt11 _ _ _ _ _ _ rfl, show regA k (⟨11, 0, 6, 0, 4⟩ : I5).a = k.regs.getD 6 0 from rfl, if_pos (C.r6 e)] at hok ⊢
   rw [goM_in (by decide)] at hok ⊢
   rw [e]
   exact A.zero10 e hok
end
end Go.Proofs.Ytepfpbcjklaenaa
