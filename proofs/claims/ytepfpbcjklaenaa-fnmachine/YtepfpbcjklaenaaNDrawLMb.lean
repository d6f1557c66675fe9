/- l8Draw's machine with a first code cut off, or a note more. No condition. -/
import Derived.Test.YtepfpbcjklaenaaNG24
import Derived.Test.YtepfpbcjklaenaaNG10
namespace Go.Proofs.Ytepfpbcjklaenaa
set_option linter.unusedSimpArgs false
set_option linter.unusedVariables false
set_option maxRecDepth 100000
open Go.RowKit
theorem mach_c1 {d : MD} (h : machB d = true) : ∃ (x0 : I5) (r0 : List I5) (rest : List (List I5)), d.codes = (x0 :: r0) :: rest := by
 obtain ⟨k, code, st, ha⟩ := mach_at h (mach_k1 h)
 have h1 := ha.hc
 have h2 := ha.n1
 cases hd : d.codes with
 | nil => rw [hd] at h1; simp at h1
 | cons a r =>
  rw [hd] at h1
  simp at h1
  subst h1
  cases a with
  | nil => simp at h2
  | cons x0 r0 => exact ⟨x0, r0, r, rfl⟩
structure Cd8 (w V : World) (p : Nat) (s : Option Addr) (n c bx : Nat) (vc : Value) (vk vm vt : Value) (d : MD) (g cc gs cs : Nat) (x0 : I5) (r0 : List I5) (rest : List (List I5)) : Prop where
 e : d.codes = (x0 :: r0) :: rest
 ec : vc = .slice (some ⟨g, 0, none⟩) (rest.length + 1) cc
 c0 : V.cell? ⟨g, 0, none⟩ = some (.slice (some ⟨gs, 0, none⟩) (r0.length + 1) cs)
 cs : r0.length + 1 ≤ cs
 fz : ∀ j, V.frozen? ⟨g, j, none⟩ = false
 z : g < V.heap.size
 lo : w.heap.size + 1 ≤ g
 ne : g ≠ bx
 fin : ∀ (a : Option Addr) (c' : Nat), (r0 = [] ∨ a = some ⟨gs, 5, none⟩) → ∃ q d', EM w (V.setCell ⟨g, 0, none⟩ (.slice a r0.length c')) p s n c bx q d'
set_option maxHeartbeats 1000000 in
theorem LM.cod {w V : World} {p n c bx : Nat} {s : Option Addr} {vc vk vm vt : Value} {LC : List CV} {LK : List KV} {S : List RS} {d : MD} (h : LM w V p s n c bx vc vk vm vt LC LK S d) : ∃ g cc gs cs x0 r0 rest, Cd8 w V p s n c bx vc vk vm vt d g cc gs cs x0 r0 rest := by
 have hpw := h.pw
 have hwb := h.wb
 obtain ⟨x0, r0, rest, ed⟩ := mach_c1 h.ok
 have ec := h.mq.ec
 rw [ed] at ec
 have hl := congrArg List.length ec
 rw [List.length_map, List.length_cons] at hl
 have hrow := h.mq.c.row
 rw [hl] at hrow
 obtain ⟨g, cc, hvc, -⟩ := World.ownsRow.form hrow (by omega)
 have hgz := World.ownsRow.lt hrow g (by rw [hvc]; rfl)
 have atC : ∀ i l, ((x0 :: r0) :: rest)[i]? = some l → ∃ v, V.cell? ⟨g, i, none⟩ = some v ∧ OwnT5 V (w.heap.size + 1) v l := fun i l hi => by
  rw [← ec, List.getElem?_map] at hi
  cases hy : LC[i]? with
  | none => rw [hy] at hi; simp at hi
  | some y =>
   rw [hy] at hi
   simp at hi
   subst hi
   have hiL := (List.getElem?_eq_some_iff.1 hy).1
   refine ⟨y.v, ?_, h.mq.c.inn i y hy⟩
   have q := hrow
   rw [hvc] at q
   rw [World.ownsRow.cellAt q i (by omega), List.getElem?_map, hy]
   rfl
 obtain ⟨v0, hc0, ho0⟩ := atC 0 _ rfl
 have ho0' := ho0
 unfold OwnT5 at ho0'
 obtain ⟨gs, cs, hv0, -⟩ := World.ownsRow.form ho0' (by simp)
 subst hv0
 have hcs : r0.length + 1 ≤ cs := by
  rcases ho0'.2 with ⟨q, -⟩ | ⟨g', cap, cur, q, -, -, hcap, -⟩
  ·injection q with q; cases q
  ·injection q with _ _ q
   subst q
   exact hcap
 have hne : g ≠ bx := fun e => own_bx hrow (by decide) h.ty (by rw [hvc, e]; rfl)
 refine ⟨g, cc, gs, cs, x0, r0, rest, ed, hvc, hc0, hcs, fun j => ?_, hgz.2, hgz.1, hne, fun a c' ha => ?_⟩
 ·have q := hrow
  rw [hvc] at q
  exact World.ownsRow.frozenAt q j
 ·obtain ⟨V', hV'⟩ : ∃ V', V.setCell ⟨g, 0, none⟩ (.slice a r0.length c') = V' := ⟨_, rfl⟩
  have kb : ∀ k, k ≠ g → V'.heap[k]? = V.heap[k]? := fun k hk => by rw [← hV']; exact Below.heap_setCell _ ⟨g, 0, none⟩ _ k hk
  have sz : V'.heap.size = V.heap.size := by rw [← hV']; simp
  have ne : ∀ {e : TypeId} {size n : Nat} {u : Value} {xs : List Value}, V.ownsRow (w.heap.size + 1) e size u n xs → e ≠ 26 → ∀ k, u.ownBlock = some k → V'.heap[k]? = V.heap[k]? := fun hu he k hk => kb k (fun e => ownType' hu hrow he hk (by rw [hvc, e]; rfl))
  have mq' : MQ0 V' (w.heap.size + 1) (.slice none 0 0) vk vm vt [] LK S { d with codes := [] } := by
   refine ⟨OwnC.nil _ _, rfl, ⟨ownKeep' h.mq.k.row (ne h.mq.k.row (by decide)), fun i x hx => ⟨ownKeep' (h.mq.k.inn i x hx).1 (ne (h.mq.k.inn i x hx).1 (by decide)), ownKeep' (h.mq.k.inn i x hx).2 (ne (h.mq.k.inn i x hx).2 (by decide))⟩, h.mq.k.two, h.mq.k.sep⟩, h.mq.ek, ⟨h.mq.m.n, ownKeep' h.mq.m.row (ne h.mq.m.row (by decide)), fun i' r l hr' hl => ?_, h.mq.m.d⟩, ownKeep' h.mq.t (ne h.mq.t (by decide)), h.mq.sk⟩
   have q := h.mq.m.r i' r l hr' hl
   refine q.kept (ne q.own (by decide)) (fun a ha => kb _ (fun e => ?_)) (by omega)
   exact absurd (TyB.ne (q.vt a ha) (own_ty hrow (by rw [hvc, e]; rfl))) (by decide)
  obtain ⟨q, e1, e2, e3, e4, mo, -⟩ := mq'.mo
  have cs1 : CsR V' (w.heap.size + 1) V'.heap.size (some ⟨g, 0, none⟩) (r0 :: rest) := by
   refine .inr ⟨g, 0, rfl, hgz.1, by omega, fun i x hx => ?_⟩
   cases i with
   | zero =>
    simp at hx
    subst hx
    refine ⟨a, c', by rw [← hV']; exact World.cell?_setCell_same _ _ _ hc0, ha.elim .inl (fun ha => .inr ⟨gs, 5, ha, (World.ownsRow.lt ho0 gs rfl).1, by rw [sz]; exact (World.ownsRow.lt ho0 gs rfl).2, fun i hi => ?_⟩)⟩
    have hgs : gs ≠ g := fun e => ownType' ho0' hrow (by decide) rfl (by rw [hvc, e]; rfl)
    have e := fl5_at (x0 :: r0) (i + 1) (r0.getD i z5) (by rw [List.getElem?_cons_succ, List.getD_eq_getElem?_getD, List.getElem?_eq_getElem hi]; rfl)
    have q5 : ∀ j, j < 5 → V'.cell? ⟨gs, (i + 1) * 5 + j, none⟩ = ((fl5 (x0 :: r0)).map (Value.int .i64))[(i + 1) * 5 + j]? := fun j hj => by
     rw [World.cell?_of_block (w := V) (kb gs hgs)]
     exact World.ownsRow.cellAt ho0' _ (by simp; omega)
    have sh : 5 + i * 5 = (i + 1) * 5 := by omega
    rw [sh]
    obtain ⟨e0, e1, e2, e3, e4⟩ := e
    refine ⟨?_, ?_, ?_, ?_, ?_⟩
    ·have q := q5 0 (by omega)
     rw [Nat.add_zero, List.getElem?_map, e0] at q
     exact q
    ·rw [q5 1 (by omega), List.getElem?_map, e1]; rfl
    ·rw [q5 2 (by omega), List.getElem?_map, e2]; rfl
    ·rw [q5 3 (by omega), List.getElem?_map, e3]; rfl
    ·rw [q5 4 (by omega), List.getElem?_map, e4]; rfl
   | succ i =>
    obtain ⟨v, hc, ho⟩ := atC (i + 1) x (by simpa using hx)
    obtain ⟨su, cu, rfl⟩ := ownSl ho
    have ho' : OwnT5 V' (w.heap.size + 1) (.slice su x.length cu) x := ownKeep' ho (ne ho (by decide))
    obtain ⟨s2, c2, ev, vo⟩ := own_vo (n := x.length) (size := 5) (l := fl5 x) ho' (fl5_len x)
    injection ev with ev1 _ ev3
    subst ev1 ev3
    refine ⟨su, cu, ?_, vo.insR⟩
    rw [← hV']
    exact (World.cell?_setCell_other _ ⟨g, 0, none⟩ ⟨g, 0 + (i + 1), none⟩ _ (by simp)).trans (by rw [Nat.zero_add]; exact hc)
  have hszd := h.sz
  refine ⟨{ q with s1 := some ⟨g, 0, none⟩, c1 := cc }, { d with codes := r0 :: rest }, ?_⟩
  rw [hV']
  have hx : X4 V' bx vc vk vm vt := by rw [← hV']; exact h.x.off (Ne.symm hne)
  refine ⟨?_, ⟨cs1, ?_, ?_, ?_⟩, ?_, (mach_k4 h.ok : d.cores.length ≤ 4), by rw [← hV']; exact h.cb.set (a := ⟨g, 0, none⟩) (by show p < g; omega), by rw [← hV']; exact but_at h.bt (by omega), by rw [← hV']; exact h.r.off (by omega), hpw, hwb⟩
  ·have e1' : vc = .slice (some ⟨g, 0, none⟩) (r0 :: rest).length cc := hvc
   rw [e1', e2, e3, e4] at hx
   exact hx
  ·exact mo.ma.2.1
  ·exact mo.ma.2.2.1
  ·exact mo.ma.2.2.2
  ·show MaSz { d with codes := r0 :: rest } ≤ 21000
   unfold MaSz at hszd ⊢
   rw [ed] at hszd
   simp only [szC, List.length_cons] at hszd ⊢
   omega
theorem Cd8.up {w V V' : World} {p n c bx g cc gs cs : Nat} {s : Option Addr} {vc vk vm vt : Value} {LC : List CV} {LK : List KV} {S : List RS} {d : MD} {x0 : I5} {r0 : List I5} {rest : List (List I5)} (h : Cd8 w V p s n c bx vc vk vm vt d g cc gs cs x0 r0 rest) (l : LM w V' p s n c bx vc vk vm vt LC LK S d) (hb : But p V V') : Cd8 w V' p s n c bx vc vk vm vt d g cc gs cs x0 r0 rest := by
 obtain ⟨g', cc', gs', cs', x0', r0', rest', h'⟩ := l.cod
 have ed := h.e.symm.trans h'.e
 injection ed with ed1 ed2
 injection ed1 with ed0 ed1
 subst ed0 ed1 ed2
 have ec := h.ec.symm.trans h'.ec
 injection ec with ec _ ec2
 injection ec with ec
 injection ec with ec
 subst ec ec2
 have hpw := l.pw
 have hlo := h.lo
 have c0 := (hb.cell (p := ⟨g, 0, none⟩) h.z (by show g ≠ p; omega)).trans h.c0
 rw [h'.c0] at c0
 injection c0 with c0
 injection c0 with c0 _ c1
 injection c0 with c0
 injection c0 with c0
 subst c0 c1
 exact h'
/- a note more -/
theorem LM.trc {w V V' : World} {p n c bx g cap : Nat} {s : Option Addr} {vc vk vm vt : Value} {LC : List CV} {LK : List KV} {S : List RS} {d : MD} (h : LM w V p s n c bx vc vk vm vt LC LK S d) (nt : ND) (ho : V'.ownsRow (w.heap.size + 1) 78 2 (.slice (some ⟨g, 0, none⟩) (d.tr.length + 1) cap) (d.tr.length + 1) (flatN d.tr ++ [.int .i64 nt.who, .int .i64 nt.v])) (hb : ∀ b, b < V.heap.size → vt.ownBlock ≠ some b → V'.heap[b]? = V.heap[b]?) (hs : V.heap.size ≤ V'.heap.size) (hcb : CB V' p s n c) (hbt : But p w V') : ∃ q d', EM w (V'.setCell ⟨bx, 3, none⟩ (.slice (some ⟨g, 0, none⟩) (d.tr.length + 1) cap)) p s n c bx q d' := by
 have hpw := h.pw
 have hwb := h.wb
 have hsz := h.sz
 have hk4 := mach_k4 h.ok
 have hbz := h.x.x.z
 have hbx : vt.ownBlock ≠ some bx := own_bx h.mq.t (by decide) h.ty
 have ty' : BxT V' bx := h.ty.same (hb bx hbz hbx)
 have mq' := (h.mq.note nt ho hb hs).offB (j := 3) (u := .slice (some ⟨g, 0, none⟩) (d.tr.length + 1) cap) ty'
 have x' := (h.x.blk (hb bx hbz hbx) hs).set3 (u := .slice (some ⟨g, 0, none⟩) (d.tr.length + 1) cap)
 have e : ∀ q, vt.ownBlock = some q → w.heap.size + 1 ≤ q := fun q hq => (World.ownsRow.lt h.mq.t q hq).1
 have r := em_of x' mq' ?_ hk4 (hcb.set (a := ⟨bx, 3, none⟩) (by show p < bx; omega)) (but_at hbt (by omega)) ((h.r.blk (hb _ (by omega) (fun e' => by have := e _ e'; omega)) hs).off (by omega)) hpw hwb
 ·obtain ⟨q, hq⟩ := r
  exact ⟨q, _, hq⟩
 show d.codes.length + szC d.codes + (d.cores.length + szK d.cores) + (d.mem.length + szR d.mem) + (d.tr ++ [nt]).length ≤ 21000
 unfold MaSz at hsz
 rw [List.length_append, List.length_singleton]
 omega
end Go.Proofs.Ytepfpbcjklaenaa
