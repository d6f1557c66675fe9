/- What a step of memory of the specification stands on. No condition. A runner of the program writes into memory. No condition. A runner of the program loads. Condition: late is a number of 64 bits. A runner of the program goes for memory: a load. Condition: late is a number of 64 bits. A runner of the program goes for memory: a store, what is let go. No condition. -/
import Derived.Test.YtepfpbcjklaenaaNG00
import Derived.Test.YtepfpbcjklaenaaNG01
import Derived.Test.YtepfpbcjklaenaaNG04
import Derived.Test.YtepfpbcjklaenaaNG02
import Derived.Test.YtepfpbcjklaenaaNG09
import Derived.Test.YtepfpbcjklaenaaNG08
import Derived.Test.YtepfpbcjklaenaaNG06
import Derived.Test.YtepfpbcjklaenaaNG10
import Derived.Test.YtepfpbcjklaenaaNMemStoreS
import Derived.Test.YtepfpbcjklaenaaNMemStore
import Derived.Test.YtepfpbcjklaenaaNG11
namespace Go.Proofs.Ytepfpbcjklaenaa
section
set_option linter.unusedSimpArgs false
set_option linter.unusedVariables false
set_option maxRecDepth 100000
open Go.RowKit
theorem own_tb {w : World} {base size n b : Nat} {e T : TypeId} {v : Value} {xs : List Value} (h : w.ownsRow base e size v n xs) (he : e ≠ T) (hb : TyB w b T) : v.ownBlock ≠ some b := fun hk => by
 obtain ⟨cs, f, c⟩ := own_ty h hk
 exact he (TyB.ne ⟨cs, f, c⟩ hb)
/- the boxes of a step of memory: machine, pick, step, answer, core -/
structure Bm5 (V : World) (z : Nat) (m0 m1 m2 m3 x0 x1 s0 s1 s2 s3 s4 k0 k1 k2 k3 : Value) : Prop where
 m0 : V.cell? ⟨z, 0, none⟩ = some m0
 m1 : V.cell? ⟨z, 1, none⟩ = some m1
 m2 : V.cell? ⟨z, 2, none⟩ = some m2
 m3 : V.cell? ⟨z, 3, none⟩ = some m3
 x0 : V.cell? ⟨z + 1, 0, none⟩ = some x0
 x1 : V.cell? ⟨z + 1, 1, none⟩ = some x1
 s0 : V.cell? ⟨z + 1 + 1, 0, none⟩ = some s0
 s1 : V.cell? ⟨z + 1 + 1, 1, none⟩ = some s1
 s2 : V.cell? ⟨z + 1 + 1, 2, none⟩ = some s2
 s3 : V.cell? ⟨z + 1 + 1, 3, none⟩ = some s3
 s4 : V.cell? ⟨z + 1 + 1, 4, none⟩ = some s4
 a0 : V.cell? ⟨z + 1 + 1 + 1, 0, none⟩ = some (.slice none 0 0)
 a1 : V.cell? ⟨z + 1 + 1 + 1, 1, none⟩ = some (.slice none 0 0)
 a2 : V.cell? ⟨z + 1 + 1 + 1, 2, none⟩ = some (.slice none 0 0)
 a3 : V.cell? ⟨z + 1 + 1 + 1, 3, none⟩ = some (.slice none 0 0)
 k0 : V.cell? ⟨z + 1 + 1 + 1 + 1, 0, none⟩ = some k0
 k1 : V.cell? ⟨z + 1 + 1 + 1 + 1, 1, none⟩ = some k1
 k2 : V.cell? ⟨z + 1 + 1 + 1 + 1, 2, none⟩ = some k2
 k3 : V.cell? ⟨z + 1 + 1 + 1 + 1, 3, none⟩ = some k3
 fm : ∀ j, V.frozen? ⟨z, j, none⟩ = false
 fa : ∀ j, V.frozen? ⟨z + 1 + 1 + 1, j, none⟩ = false
 fk : ∀ j, V.frozen? ⟨z + 1 + 1 + 1 + 1, j, none⟩ = false
 bt : BxT V z ∧ BxT V (z + 1 + 1 + 1) ∧ TyB V (z + 1 + 1 + 1 + 1) 46
 z : z + 1 + 1 + 1 + 1 < V.heap.size
theorem Bm5.keep {V V' : World} {z : Nat} {m0 m1 m2 m3 x0 x1 s0 s1 s2 s3 s4 k0 k1 k2 k3 : Value} (h : Bm5 V z m0 m1 m2 m3 x0 x1 s0 s1 s2 s3 s4 k0 k1 k2 k3) (hb : ∀ b, z ≤ b → b < V.heap.size → V'.heap[b]? = V.heap[b]?) (hs : V.heap.size ≤ V'.heap.size) : Bm5 V' z m0 m1 m2 m3 x0 x1 s0 s1 s2 s3 s4 k0 k1 k2 k3 := by
 have hz := h.z
 have c0 : ∀ j, V'.cell? ⟨z, j, none⟩ = V.cell? ⟨z, j, none⟩ := fun j => World.cell?_of_block (hb z (by omega) (by omega))
 have c1 : ∀ j, V'.cell? ⟨z + 1, j, none⟩ = V.cell? ⟨z + 1, j, none⟩ := fun j => World.cell?_of_block (hb (z + 1) (by omega) (by omega))
 have c2 : ∀ j, V'.cell? ⟨z + 1 + 1, j, none⟩ = V.cell? ⟨z + 1 + 1, j, none⟩ := fun j => World.cell?_of_block (hb (z + 1 + 1) (by omega) (by omega))
 have c3 : ∀ j, V'.cell? ⟨z + 1 + 1 + 1, j, none⟩ = V.cell? ⟨z + 1 + 1 + 1, j, none⟩ := fun j => World.cell?_of_block (hb (z + 1 + 1 + 1) (by omega) (by omega))
 have c4 : ∀ j, V'.cell? ⟨z + 1 + 1 + 1 + 1, j, none⟩ = V.cell? ⟨z + 1 + 1 + 1 + 1, j, none⟩ := fun j => World.cell?_of_block (hb (z + 1 + 1 + 1 + 1) (by omega) (by omega))
 exact ⟨(c0 _).trans h.m0, (c0 _).trans h.m1, (c0 _).trans h.m2, (c0 _).trans h.m3, (c1 _).trans h.x0, (c1 _).trans h.x1, (c2 _).trans h.s0, (c2 _).trans h.s1, (c2 _).trans h.s2, (c2 _).trans h.s3, (c2 _).trans h.s4, (c3 _).trans h.a0, (c3 _).trans h.a1, (c3 _).trans h.a2, (c3 _).trans h.a3, (c4 _).trans h.k0, (c4 _).trans h.k1, (c4 _).trans h.k2, (c4 _).trans h.k3, fun j => (World.frozen?_of_block (hb z (by omega) (by omega))).trans (h.fm j), fun j => (World.frozen?_of_block (hb (z + 1 + 1 + 1) (by omega) (by omega))).trans (h.fa j), fun j => (World.frozen?_of_block (hb (z + 1 + 1 + 1 + 1) (by omega) (by omega))).trans (h.fk j), ⟨h.bt.1.same (hb z (by omega) (by omega)), h.bt.2.1.same (hb (z + 1 + 1 + 1) (by omega) (by omega)), by obtain ⟨cs, f, c⟩ := h.bt.2.2; exact ⟨cs, f, (hb (z + 1 + 1 + 1 + 1) (by omega) (by omega)).trans c⟩⟩, by omega⟩
theorem boxesM {w V : World} {m0 m1 m2 m3 x0 x1 k0 k1 k2 k3 s0 s1 s2 s3 s4 : Value} {T1 T2 : TypeId}
  (hV : ((((w.alloc (.cells #[m0, m1, m2, m3] 34)).alloc (.cells #[x0, x1] T1)).alloc (.cells #[s0, s1, s2, s3, s4] T2)).alloc (.cells #[.slice none 0 0, .slice none 0 0, .slice none 0 0, .slice none 0 0] 34)).alloc (.cells #[k0, k1, k2, k3] 46) = V) :
  Bm5 V w.heap.size m0 m1 m2 m3 x0 x1 s0 s1 s2 s3 s4 k0 k1 k2 k3 ∧ Below w.heap.size w V := by
 subst hV
 refine ⟨⟨?_, ?_, ?_, ?_, ?_, ?_, ?_, ?_, ?_, ?_, ?_, ?_, ?_, ?_, ?_, ?_, ?_, ?_, ?_, fun j => ?_, fun j => ?_, fun j => ?_, ⟨?_, ?_, ?_⟩, ?_⟩, ((((((Below.refl _ _).alloc (Nat.le_refl _) _).alloc (by simp) _).alloc (by simp; omega) _).alloc (by simp; omega) _).alloc (by simp; omega) _)⟩
 any_goals (simp [go_sem]; done)
 ·exact BxT.alloc (BxT.alloc (BxT.alloc (BxT.alloc (BxT.new w _) _) _) _) _
 ·have e : (((w.alloc (.cells #[m0, m1, m2, m3] 34)).alloc (.cells #[x0, x1] T1)).alloc (.cells #[s0, s1, s2, s3, s4] T2)).heap.size = w.heap.size + 1 + 1 + 1 := by simp
  rw [← e]
  exact BxT.alloc (BxT.new _ _) _
 ·have e : ((((w.alloc (.cells #[m0, m1, m2, m3] 34)).alloc (.cells #[x0, x1] T1)).alloc (.cells #[s0, s1, s2, s3, s4] T2)).alloc (.cells #[.slice none 0 0, .slice none 0 0, .slice none 0 0, .slice none 0 0] 34)).heap.size = w.heap.size + 1 + 1 + 1 + 1 := by simp
  rw [← e]
  exact ⟨_, _, heap_alloc_new _ _⟩
theorem setCell_same {w : World} {g j : Nat} {v : Value} (h : w.cell? ⟨g, j, none⟩ = some v) (b : Nat) : (w.setCell ⟨g, j, none⟩ v).heap[b]? = w.heap[b]? := by
 by_cases e : b = g
 ·subst e
  simp only [World.setCell, Array.getElem?_modify]
  unfold World.cell? at h
  cases hb : w.heap[b]? with
  | none => simp
  | some o =>
   rw [hb] at h
   cases o with
   | cells cs t f =>
    simp only at h
    simp
    refine Array.ext (by simp) fun i h1 h2 => ?_
    by_cases ei : j = i
    ·subst ei
     rw [Array.getElem_setIfInBounds_self]
     have := (Array.getElem?_eq_some_iff.1 (by simpa using h)).2
     exact this.symm
    ·rw [Array.getElem_setIfInBounds_ne _ ei]
   | _ => simp
 ·exact Below.heap_setCell _ _ _ b e
/- a core's four cells stored, its view another one -/
theorem MQ.put4 {Hq : Nat → Prop} {w F : World} {B g c N : Nat} {vc vm vt r v : Value} {LC : List CV} {LK : List KV} {S : List RS} {d : MD} {i : Nat} {k : KD} (h : MQ w B Hq vc (.slice (some ⟨g, 0, none⟩) N c) vm vt LC LK S d) (hN : LK.length = N) (hx : LK[i]? = some ⟨k, r, v⟩) (u : Value) (l : List Int) (hu : OwnN w B u l) (hf : ∀ q, u.ownBlock = some q → ((∀ (j : Nat) (z : KV), LK[j]? = some z → ¬ (z.r.ownBlock = some q ∨ z.v.ownBlock = some q)) ∧ ∀ a ∈ mAs S, a.block ≠ q) ∧ Hq q)
  (hF : ∀ b, b < w.heap.size → F.heap[b]? = ((((w.setCell ⟨g, i * 4, none⟩ (.int .i64 k.pc)).setCell ⟨g, i * 4 + 1, none⟩ r).setCell ⟨g, i * 4 + 2, none⟩ u).setCell ⟨g, i * 4 + 3, none⟩ (.int .i64 k.st)).heap[b]?) (hs : w.heap.size ≤ F.heap.size) :
  MQ F B Hq vc (.slice (some ⟨g, 0, none⟩) N c) vm vt LC (LK.set i ⟨{ k with vw := l }, r, u⟩) S (putK d i { k with vw := l }) := by
 subst hN
 have hi : i < LK.length := (List.getElem?_eq_some_iff.1 hx).1
 obtain ⟨f0, f1, f2, f3⟩ := flatK_at LK i _ hx
 have c0 : w.cell? ⟨g, i * 4, none⟩ = some (.int .i64 k.pc) := by rw [World.ownsRow.cellAt h.k.row _ (by omega), f0]
 have c1 : w.cell? ⟨g, i * 4 + 1, none⟩ = some r := by rw [World.ownsRow.cellAt h.k.row _ (by omega), f1]
 have c3 : w.cell? ⟨g, i * 4 + 3, none⟩ = some (.int .i64 k.st) := by rw [World.ownsRow.cellAt h.k.row _ (by omega), f3]
 refine (MQ.setV h hx u l hu hf).keep (fun b _ hb => ?_) (by simpa using hs)
 rw [hF b (by simpa using hb)]
 have e1 : ((w.setCell ⟨g, i * 4, none⟩ (.int .i64 k.pc)).setCell ⟨g, i * 4 + 1, none⟩ r).heap[b]? = w.heap[b]? := by
  rw [setCell_same ((setC_off (by omega)).trans c1), setCell_same c0]
 refine (setCell_same ?_ b).trans (heap_pair e1)
 exact (setC_off (by omega)).trans ((setC_off (by omega)).trans ((setC_off (by omega)).trans c3))
/- a store into a box of a core's type that is none of the machine's -/
theorem MQ0.offC {w : World} {B b j : Nat} {vc vk vm vt u : Value} {LC : List CV} {LK : List KV} {S : List RS} {d : MD} (h : MQ0 w B vc vk vm vt LC LK S d) (ht : TyB w b 46) (hne : vk.ownBlock ≠ some b) : MQ0 (w.setCell ⟨b, j, none⟩ u) B vc vk vm vt LC LK S d := by
 have hb : ∀ k, k ≠ b → (w.setCell ⟨b, j, none⟩ u).heap[k]? = w.heap[k]? := fun k hk => Below.heap_setCell _ _ _ k hk
 have ne : ∀ {e : TypeId} {size n : Nat} {u' : Value} {xs : List Value}, w.ownsRow B e size u' n xs → e ≠ 46 → ∀ k, u'.ownBlock = some k → (w.setCell ⟨b, j, none⟩ u).heap[k]? = w.heap[k]? := fun hu he k hk => hb k (fun e' => own_tb hu he ht (by rw [hk, e']))
 refine ⟨⟨ownKeep' h.c.row (ne h.c.row (by decide)), fun i x hx => ownKeep' (h.c.inn i x hx) (ne (h.c.inn i x hx) (by decide)), h.c.sep⟩, h.ec, ⟨ownKeep' h.k.row (fun k hk => hb k (fun e => hne (by rw [hk, e]))), fun i x hx => ⟨ownKeep' (h.k.inn i x hx).1 (ne (h.k.inn i x hx).1 (by decide)), ownKeep' (h.k.inn i x hx).2 (ne (h.k.inn i x hx).2 (by decide))⟩, h.k.two, h.k.sep⟩, h.ek, ⟨h.m.n, ownKeep' h.m.row (ne h.m.row (by decide)), fun i r l hr hl => ?_, h.m.d⟩, ownKeep' h.t (ne h.t (by decide)), h.sk⟩
 have q := h.m.r i r l hr hl
 refine q.kept (ne q.own (by decide)) (fun a ha => hb a.block (fun e => ?_)) (by simp)
 obtain ⟨cs, f, c1⟩ := q.vt a ha
 obtain ⟨cs', f', c2⟩ := ht
 rw [e, c2] at c1
 injection c1 with c1
 injection c1 with _ c1
 exact absurd c1 (by decide)
theorem MQ.offC {Hq : Nat → Prop} {w : World} {B b j : Nat} {vc vk vm vt u : Value} {LC : List CV} {LK : List KV} {S : List RS} {d : MD} (h : MQ w B Hq vc vk vm vt LC LK S d) (ht : TyB w b 46) (hne : vk.ownBlock ≠ some b) : MQ (w.setCell ⟨b, j, none⟩ u) B Hq vc vk vm vt LC LK S d := ⟨h.toMQ0.offC ht hne, h.hh, by simpa using h.hn⟩
theorem TyB.set {w : World} {b g o : Nat} {v : Value} {T : TypeId} (h : TyB w b T) : TyB (w.setCell ⟨g, o, none⟩ v) b T := by
 obtain ⟨cs, f, c⟩ := h
 by_cases e : b = g
 ·subst e
  exact ⟨_, f, heap_set c⟩
 ·exact ⟨cs, f, (Below.heap_setCell _ _ _ b e).trans c⟩
/- a view that a call has made lies apart -/
theorem MQ0.fresh {w w' : World} {B : Nat} {vc vk vm vt u : Value} {LC : List CV} {LK : List KV} {S : List RS} {d : MD} {l : List Int} (h : MQ0 w B vc vk vm vt LC LK S d) (hu : OwnN w' w.heap.size u l) : ∀ q, u.ownBlock = some q → (∀ (j : Nat) (z : KV), LK[j]? = some z → ¬ (z.r.ownBlock = some q ∨ z.v.ownBlock = some q)) ∧ ∀ a ∈ mAs S, a.block ≠ q := fun q hq => by
 have hlt := (World.ownsRow.lt hu _ hq).1
 refine ⟨fun j z hz hh => ?_, fun a ha e => ?_⟩
 ·rcases hh with hh | hh
  ·have := (World.ownsRow.lt (h.k.inn j z hz).1 _ hh).2; omega
  ·have := (World.ownsRow.lt (h.k.inn j z hz).2 _ hh).2; omega
 ·have := h.m.memblk ha; omega
theorem MQ.fresh {Hq : Nat → Prop} {w w' : World} {B : Nat} {vc vk vm vt u : Value} {LC : List CV} {LK : List KV} {S : List RS} {d : MD} {l : List Int} (h : MQ w B Hq vc vk vm vt LC LK S d) (hu : OwnN w' w.heap.size u l) : ∀ q, u.ownBlock = some q → ((∀ (j : Nat) (z : KV), LK[j]? = some z → ¬ (z.r.ownBlock = some q ∨ z.v.ownBlock = some q)) ∧ ∀ a ∈ mAs S, a.block ≠ q) ∧ Hq q := fun q hq => ⟨h.toMQ0.fresh hu q hq, h.hn q (World.ownsRow.lt hu _ hq).1⟩
theorem MQ.re {w w' : World} {B : Nat} {Hq : Nat → Prop} {vc vk vm vt : Value} {LC : List CV} {LK : List KV} {S : List RS} {d : MD} (h : MQ w B Hq vc vk vm vt LC LK S d) (hb : ∀ k, B ≤ k → k < w.heap.size → w'.heap[k]? = w.heap[k]?) (hs : w.heap.size ≤ w'.heap.size) : MQ w' B (fun q => (q < w.heap.size ∧ Hq q) ∨ w'.heap.size ≤ q) vc vk vm vt LC LK S d :=
 ⟨h.toMQ0.keep hb hs, ⟨fun q e => .inl ⟨(World.ownsRow.lt h.c.row q e).2, h.hh.c q e⟩, fun i x q hx e => .inl ⟨(World.ownsRow.lt (h.c.inn i x hx) q e).2, h.hh.ci i x q hx e⟩, fun q e => .inl ⟨(World.ownsRow.lt h.k.row q e).2, h.hh.k q e⟩, fun i x q hx e => .inl ⟨e.elim (fun e => (World.ownsRow.lt (h.k.inn i x hx).1 q e).2) (fun e => (World.ownsRow.lt (h.k.inn i x hx).2 q e).2), h.hh.ki i x q hx e⟩, fun q e => .inl ⟨(World.ownsRow.lt h.m.row q e).2, h.hh.m q e⟩, fun a ha => .inl ⟨h.m.memblk ha, h.hh.mi a ha⟩, fun q e => .inl ⟨(World.ownsRow.lt h.t q e).2, h.hh.t q e⟩⟩, fun q hq => .inr hq⟩
theorem MQ.wk {w : World} {B : Nat} {Hq H2 : Nat → Prop} {vc vk vm vt : Value} {LC : List CV} {LK : List KV} {S : List RS} {d : MD} (h : MQ w B Hq vc vk vm vt LC LK S d) (hw : ∀ q, Hq q → H2 q) : MQ w B H2 vc vk vm vt LC LK S d :=
 ⟨h.toMQ0, ⟨fun q e => hw q (h.hh.c q e), fun i x q hx e => hw q (h.hh.ci i x q hx e), fun q e => hw q (h.hh.k q e), fun i x q hx e => hw q (h.hh.ki i x q hx e), fun q e => hw q (h.hh.m q e), fun a ha => hw _ (h.hh.mi a ha), fun q e => hw q (h.hh.t q e)⟩, fun q hq => hw q (h.hn q hq)⟩
theorem MQ.rowH {w : World} {B : Nat} {Hq : Nat → Prop} {vc vk vm vt : Value} {LC : List CV} {LK : List KV} {S : List RS} {d : MD} {i : Nat} {r : RS} (h : MQ w B Hq vc vk vm vt LC LK S d) (hr : S[i]? = some r) (h0 : 0 < r.vs.length) (q : Nat) (e : r.val.ownBlock = some q) : Hq q := by
 have hs : ∃ o sp, r.s = some ⟨q, o, sp⟩ := by
  unfold RS.val at e
  cases hh : r.s with
  | none => rw [hh] at e; simp [Value.ownBlock] at e
  | some a =>
   rw [hh] at e
   simp [Value.ownBlock] at e
   obtain ⟨g, o, sp⟩ := a
   simp at e
   subst e
   exact ⟨o, sp, rfl⟩
 obtain ⟨o, sp, hs⟩ := hs
 have hm := h.hh.mi (adr r.s (0 * 2)) (mem_mAs.2 ⟨r, List.mem_of_getElem? hr, mem_rAs.2 (.inl ⟨0, h0, by simp⟩)⟩)
 rw [hs] at hm
 exact hm
theorem hidM {p : Prop} (h : p) : Hid p := h
/- what a step of memory answers -/
def MemP (w : World) (B : Nat) (Hq : Nat → Prop) (vc vk vm vt : Value) (LC : List CV) (LK : List KV) (S : List RS) (d : MD) (who : Nat) (late : Int) (k : KD) (s : I5) (e : Ending) (w' : World) : Prop :=
 if 0 ≤ cellM k s ∧ cellM k s ≤ 23 then
  (if s.o ≠ 5 ∧ (d.mem.getD (cellM k s).toNat []).length = 4000 then e = .returned (.tuple #[.agg #[vc, vk, vm, vt], .bool true, .bool true]) ∧ Below w.heap.size w w'
   else ∃ LK' S' r u, e = .returned (.tuple #[.agg #[vc, vk, vm, vt], .bool true, .bool false]) ∧ MQ w' B Hq vc vk vm vt LC LK' S' (putK (memS d late k s (cellM k s).toNat).1 who (memS d late k s (cellM k s).toNat).2) ∧ LK'[who]? = some ⟨(memS d late k s (cellM k s).toNat).2, r, u⟩ ∧ LK'.length = LK.length ∧ Below B w w' ∧ ∀ b, ¬ Hq b → w'.heap[b]? = w.heap[b]?)
 else e = .returned (.tuple #[.agg #[vc, vk, vm, vt], .bool false, .bool false]) ∧ Below w.heap.size w w'
theorem OW.cellc {w : World} {B g n c k : Nat} {S : List RS} {m : List (List WD)} {r : RS} {lr : List WD} (h : OW w B (.slice (some ⟨g, 0, none⟩) n c) S m) (hn : n = m.length) (hk : S[k]? = some r) (hl : m[k]? = some lr) : w.cell? ⟨g, k, none⟩ = some (.slice r.s lr.length r.c) := by
 have hr := h.row
 rw [h.n, ← hn] at hr
 have hlt := (List.getElem?_eq_some_iff.1 hl).1
 have q := (h.r k r lr hk hl).n
 rw [World.ownsRow.cellAt hr k (by omega), List.getElem?_map, hk]
 show some (Value.slice r.s r.vs.length r.c) = _
 rw [q]
theorem OW.memw {w : World} {B : Nat} {v : Value} {S : List RS} {m : List (List WD)} (h : OW w B v S m) : ∃ s c, v = .slice s m.length c ∧ MemR w B w.heap.size s m := by
 obtain ⟨s, c, rfl, hm⟩ := h.om.mo
 exact ⟨s, c, rfl, hm.mem⟩
theorem OW.some_ {w : World} {B : Nat} {v : Value} {S : List RS} {m : List (List WD)} (h : OW w B v S m) (hm : memB m = true) : ∀ (i : Nat) (r : RS), S[i]? = some r → 0 < r.vs.length := fun i r hr => by
 have hi := (List.getElem?_eq_some_iff.1 hr).1
 have h24 := (memB_at hm (i := 0) (by omega)).1
 have hn := h.n
 obtain ⟨-, l, hl, -, h1, -⟩ := memB_at hm (i := i) (by omega)
 have q := (h.r i r l hr hl).n
 omega
theorem ldW_eq (m : List (List WD)) (l : List Int) (c : Nat) (late : Int) (hold : Bool) : (if hold = true then joinL (l.set c (ldJ m l c late)) (ldX m l c late).vw else l.set c (ldJ m l c late)) = ldW m l c late hold := rfl
end
section
set_option linter.unusedSimpArgs false
set_option linter.unusedVariables false
set_option maxRecDepth 100000
open Go.RowKit
theorem write_no {w : World} {R bm gk gc gs gr gv who nn cv cr cs gO nO cO c m cc1 : Nat} {s : Option Addr} {late : Int} {vc vk vt : Value} {nc cc : Nat} {pc st : Int} (z : Int) (b : Bool) (h : Rn w R bm gk gc gs gr gv who nn cv cr cs late vc vk (.slice (some ⟨gO, 0, none⟩) nO cO) vt nc cc pc st) (hc : w.cell? ⟨gO, c, none⟩ = some (.slice s m cc1)) (hz : gO < w.heap.size) (hn : c < nO) (hf : ¬ m < 4000) :
  Calls Try.prog 91 #[.pointer (some ⟨R, 0, none⟩), .int .i64 c, .int .i64 z, .bool b] w fun e w' => e = .returned (.bool false) ∧ Below w.heap.size w w' := by
 obtain ⟨r0, r1, r2, r3, r4, m0, m1, m2, m3, fm, ec, c0, k0, k1, k3, fk, wc, zR, zm, zk, zc, zr⟩ := h
 have HR := hidM1 (hasRoom_c (n := nO) (cO := cO) false hc hz hn (by simp; omega))
 go_enter Try.func91, Try.ntmps91
 go_wp2_with (go_at_call 94; refine Calls.mono HR.out ?_; rintro e w1 ⟨rfl, hb1⟩; have HB1 := hidM1 hb1; clear hb1)
 go_ret
 exact ⟨rfl, HB1.out⟩
set_option maxHeartbeats 2000000 in
theorem write_yes {Hq : Nat → Prop} {w : World} {B R bm gk gc gs gr gv who nn cv cr cs gO cO : Nat} {late : Int} {vc vk vt rv : Value} {nc cc : Nat} {pc st : Int} {LC : List CV} {LK : List KV} {S : List RS} {d : MD} {k : KD} (c : Nat) (lr : List WD) (r : RS) (z : Int) (b : Bool) (h : Rn w R bm gk gc gs gr gv who nn cv cr cs late vc vk (.slice (some ⟨gO, 0, none⟩) d.mem.length cO) vt nc cc pc st) (hq : MQ w B Hq vc vk (.slice (some ⟨gO, 0, none⟩) d.mem.length cO) vt LC LK S d) (hx : LK[who]? = some ⟨k, rv, .slice (some ⟨gv, 0, none⟩) 24 cv⟩) (hvl : k.vw.length = 24) (hmem : memB d.mem = true) (hc : c < 24) (hlr : d.mem[c]? = some lr) (hr : S[c]? = some r) (hroom : lr.length < 4000) :
  Calls Try.prog 91 #[.pointer (some ⟨R, 0, none⟩), .int .i64 c, .int .i64 z, .bool b] w fun e w' => e = .returned (.bool true) ∧ ∃ r', MQ w' B Hq vc vk (.slice (some ⟨gO, 0, none⟩) d.mem.length cO) vt LC (LK.set who ⟨{ k with vw := k.vw.set c (lr.length : Int) }, rv, .slice (some ⟨gv, 0, none⟩) 24 cv⟩) (S.set c r') { putK d who { k with vw := k.vw.set c (lr.length : Int) } with mem := d.mem.set c (lr ++ [⟨z, toldL k.vw c lr.length b⟩]) } ∧ Below B w w' ∧ ∀ b', b' < w.heap.size → b' ≠ gv → b' ≠ gO → r.val.ownBlock ≠ some b' → w'.heap[b']? = w.heap[b']? := by
 have H := hidM1 h
 have HQ := hidM1 hq
 have HX := hidM1 hx
 have HVL := hidM1 hvl
 have HME := hidM1 hmem
 have HLR := hidM1 hlr
 have HRR := hidM1 hr
 have h24 := (memB_at hmem (i := 0) (by omega)).1
 have H24 := hidM1 h24
 have lO := hq.m.cellc rfl hr hlr
 have zO : gO < w.heap.size := (World.ownsRow.lt hq.m.row gO rfl).2
 have HR := hidM1 (hasRoom_c (n := d.mem.length) (cO := cO) true lO zO (by omega) (by simp; omega))
 obtain ⟨r0, r1, r2, r3, r4, m0, m1, m2, m3, fm, ec, c0, k0, k1, k3, fk, wc, zR, zm, zk, zc, zr⟩ := h
 clear hq hx hvl hmem hlr hr h24 lO
 go_enter Try.func91, Try.ntmps91
 go_wp2_with (go_at_call 94; refine Calls.mono HR.out ?_; rintro e w1 ⟨rfl, hb1⟩; have HB1 := hidM1 hb1; clear hb1)
 have hb1 := HB1.out
 have z1 := hb1.size
 have hne := ext_ne w1
 have u0 := Ext.fit ((hb1.cell (p := ⟨R, 0, none⟩) zR).trans r0) (by omega)
 have u1 := Ext.fit ((hb1.cell (p := ⟨R, 2, none⟩) zR).trans r2) (by omega)
 have u2 := Ext.fit ((hb1.cell (p := ⟨bm, 2, none⟩) zm).trans m2) (by omega)
 refine regionSuf w1 14 (by kernel_rfl) (by kernel_rfl) (by kernel_rfl) (by kernel_rfl) (by kernel_rfl) ?_
 dsimp only [List.take, List.drop]
 repeat (go_big_quiet_step (fail))
 refine wpQuiet_nil ?_
 rintro w3 ⟨X3, rfl⟩
 obtain ⟨V, hV⟩ : ∃ V, X3.w = V := ⟨_, rfl⟩
 have hb3 := X3.b
 rw [hV] at hb3 ⊢
 have KV : Hid (Below w.heap.size w V) := hb1.trans (hb3.mono z1)
 have zV := KV.out.size
 have QV := hidM1 (HQ.out.keep (w' := V) (fun b _ h1 => KV.out.block b h1) zV)
 have hvn := (QV.out.k.inn who _ HX.out).2
 have hvn' : OwnN V B (.slice (some ⟨gv, 0, none⟩) k.vw.length cv) k.vw := by rw [HVL.out]; exact hvn
 have SA := store_any gO cO B B gv cv S d.mem r lr k.vw c z b V hvn' QV.out.m (QV.out.m.some_ HME.out) HRR.out HLR.out HVL.out hc H24.out (by omega) (World.ownsRow.lt hvn gv rfl).1 (fun a ha => QV.out.sk who _ gv HX.out (.inr rfl) a ha)
 rw [HVL.out] at SA
 have HS := hidM1 SA
 clear hne u0 u1 u2 hb1 z1 hb3 hV X3 hvn hvn' SA
 go_wp2_with (go_at_call 95; refine Calls.mono HS.out ?_; rintro e w5 ⟨rfl, r', hO5, hM5, hb5, hs5, hf5, hp5⟩; have HO5 := hidM1 hO5; have HM5 := hidM1 hM5; have HB5 := hidM1 hb5; have HF5 := hidM1 hf5; have HP5 := hidM1 hp5; clear hO5 hM5 hb5 hs5 hf5 hp5)
 go_ret
 refine ⟨rfl, r', ?_, (KV.out.mono ?_).trans HB5.out, fun b' h1 h2 h3 h4 => (HF5.out b' (by omega) h2 h3 h4).trans (KV.out.block b' h1)⟩
 ·refine MQ.view (g := gv) QV.out HX.out rfl HO5.out HM5.out (fun hu h1 h2 hn q hq => HF5.out q (World.ownsRow.lt hu _ hq).2 (fun e => hn (by rw [hq, e])) (fun e => ownType' hu QV.out.m.row h2 hq (by rw [e]; rfl)) (ownType' hu (QV.out.m.r c r lr HRR.out HLR.out).own h1 hq)) HP5.out HB5.out.size
 ·have := (World.ownsRow.lt HQ.out.m.row gO rfl).1
  omega
end
section
set_option linter.unusedSimpArgs false
set_option linter.unusedVariables false
set_option maxRecDepth 100000
open Go.RowKit
/- what the load of a view that is right answers -/
theorem loadQ {Hq : Nat → Prop} {w : World} {B gv cv gO cO who : Nat} {vc vk vt rv : Value} {LC : List CV} {LK : List KV} {S : List RS} {d : MD} {k : KD} (c : Nat) (late : Int) (hold : Bool) (hq : MQ w B Hq vc vk (.slice (some ⟨gO, 0, none⟩) d.mem.length cO) vt LC LK S d) (hx : LK[who]? = some ⟨k, rv, .slice (some ⟨gv, 0, none⟩) 24 cv⟩) (hvw : viewB d.mem k.vw = true) (hmem : memB d.mem = true) (hc : c < 24) (hlate : late ≤ 9223372036854775807) :
  Calls Try.prog 93 #[.slice (some ⟨gv, 0, none⟩) 24 cv, .agg #[.slice (some ⟨gO, 0, none⟩) d.mem.length cO], .int .i64 c, .int .i64 late, .bool hold] w fun e w' => e = .returned (.int .i64 (ldX d.mem k.vw c late).v) ∧ MQ w' B Hq vc vk (.slice (some ⟨gO, 0, none⟩) d.mem.length cO) vt LC (LK.set who ⟨{ k with vw := ldW d.mem k.vw c late hold }, rv, .slice (some ⟨gv, 0, none⟩) 24 cv⟩) S (putK d who { k with vw := ldW d.mem k.vw c late hold }) ∧ Exc gv (gv + 1) w w' := by
 obtain ⟨h24, lr, hlr, elr, h1, h4, -⟩ := memB_at hmem hc
 have hvl : k.vw.length = 24 := by have := (viewB_iff.1 hvw).1; omega
 obtain ⟨sM, cM, eM, mR⟩ := hq.m.memw
 injection eM with eM e2 e3
 clear e2
 subst eM
 subst e3
 obtain ⟨kk, rr2, ekk, hRt⟩ := right_of (m := d.mem) (l := k.vw) (cell := (c : Int)) (by unfold rightB; rw [hmem, hvw]; simp; omega)
 have ekk : kk = c := by omega
 subst ekk
 have ekr : rr2 = lr := by have := hRt.hr; rw [hlr] at this; injection this with this; exact this.symm
 subst ekr
 obtain ⟨hj1, hj2⟩ := ldJ_lt late hmem hvw hc
 obtain ⟨rr3, hr3, hx3, -⟩ := ldX_at late hmem hvw hc
 have er3 : rr3 = rr2 := by rw [hlr] at hr3; injection hr3 with hr3; exact hr3.symm
 subst er3
 rw [elr] at hj2
 have hvn := (hq.k.inn who _ hx).2
 have hvn' : OwnN w B (.slice (some ⟨gv, 0, none⟩) k.vw.length cv) k.vw := by rw [hvl]; exact hvn
 have hav : MemAv w (some ⟨gO, 0, none⟩) d.mem gv := hq.m.av (own_ty hvn rfl) (fun a ha => hq.sk who _ gv hx (.inr rfl) a ha)
 have LD := load_any (some ⟨gO, 0, none⟩) cO B w.heap.size B gv cv d.mem k.vw kk rr3 late hold (ldJ d.mem k.vw kk late) (ldX d.mem k.vw kk late) w mR hvn' (Nat.le_refl _) hav hRt hlate hj2 hx3
 rw [hvl, ldW_eq] at LD
 refine Calls.mono LD ?_
 rintro e w' ⟨rfl, ho, he⟩
 exact ⟨rfl, MQ.viewL hq hx rfl ho he, he⟩
end
section
set_option linter.unusedSimpArgs false
set_option linter.unusedVariables false
set_option maxRecDepth 100000
open Go.RowKit
set_option maxHeartbeats 2000000 in
theorem touch5 {Hq : Nat → Prop} {w : World} {B R bm gk gc gs gr gv who nn cv cr cs gO cO : Nat} {late : Int} {vc vk vt : Value} {nc cc : Nat} {pc st : Int} {LC : List CV} {LK : List KV} {S : List RS} {d : MD} {k : KD} (c r' : Nat) (a b n : Int) (h : Rn w R bm gk gc gs gr gv who nn cv cr cs late vc vk (.slice (some ⟨gO, 0, none⟩) d.mem.length cO) vt nc cc pc st) (hq : MQ w B Hq vc vk (.slice (some ⟨gO, 0, none⟩) d.mem.length cO) vt LC LK S d) (hx : LK[who]? = some ⟨k, .slice (some ⟨gr, 0, none⟩) 8 cr, .slice (some ⟨gv, 0, none⟩) 24 cv⟩) (h8 : k.regs.length = 8) (hvw : viewB d.mem k.vw = true) (hmem : memB d.mem = true) (hc : c < 24) (hr : r' < 8) (hlate : late ≤ 9223372036854775807) (hB : B ≤ w.heap.size) (nR : R ≠ gv) (nM : bm ≠ gv) :
  Calls Try.prog 82 #[.pointer (some ⟨R, 0, none⟩), .agg #[.int .i64 5, .int .i64 r', .int .i64 a, .int .i64 b, .int .i64 n], .int .i64 c] w fun e w' => e = .returned (.bool true) ∧ ∃ LK', MQ w' B Hq vc vk (.slice (some ⟨gO, 0, none⟩) d.mem.length cO) vt LC LK' S (putK d who { k with regs := k.regs.set r' (ldX d.mem k.vw c late).v, vw := ldW d.mem k.vw c late false }) ∧ LK'[who]? = some ⟨{ k with regs := k.regs.set r' (ldX d.mem k.vw c late).v, vw := ldW d.mem k.vw c late false }, .slice (some ⟨gr, 0, none⟩) 8 cr, .slice (some ⟨gv, 0, none⟩) 24 cv⟩ ∧ LK'.length = LK.length ∧ Below B w w' ∧ ∀ b', b' < w.heap.size → b' ≠ gv → b' ≠ gr → w'.heap[b']? = w.heap[b']? := by
 have HQ := hidM1 hq
 have HX := hidM1 hx
 have H8 := hidM1 h8
 have bgv : B ≤ gv := (World.ownsRow.lt (hq.k.inn who _ hx).2 gv rfl).1
 have bgr : B ≤ gr := (World.ownsRow.lt (hq.k.inn who _ hx).1 gr rfl).1
 have hne' : gr ≠ gv := fun e => hq.k.two who _ gr hx rfl (by rw [e]; rfl)
 obtain ⟨r0, r1, r2, r3, r4, m0, m1, m2, m3, fm, ec, c0, k0, k1, k3, fk, wc, zR, zm, zk, zc, zr⟩ := h
 have br0 : (0 : Int) ≤ (r' : Int) := by omega
 have br1 : (r' : Int) < 8 := by omega
 have HW := hidM1 hvw
 have HME := hidM1 hmem
 clear hq hx h8 hvw hmem
 go_enter Try.func82, Try.ntmps82
 go_wp2_with fail
 obtain ⟨V, hV⟩ : ∃ V, w.alloc (.cells #[.int .i64 5, .int .i64 r', .int .i64 a, .int .i64 b, .int .i64 n] 25) = V := ⟨_, rfl⟩
 have kv : Below w.heap.size w V := by subst hV; exact (Below.refl _ _).alloc (Nat.le_refl _) _
 have zv : w.heap.size < V.heap.size := by subst hV; simp
 have t1 : V.cell? ⟨w.heap.size, 1, none⟩ = some (.int .i64 r') := by subst hV; simp [go_sem]
 rw [hV]
 have KV := hidM1 kv
 have QV := hidM1 (HQ.out.keep (w' := V.drew) (fun b _ h1 => kv.block b h1) kv.size)
 have LD := hidM1 (loadQ c late false QV.out HX.out HW.out HME.out hc hlate)
 have zgv : gv < w.heap.size := (World.ownsRow.lt (HQ.out.k.inn who _ HX.out).2 gv rfl).2
 have hne := extP_ne V (fun b => b = gv)
 have u1 := ExtP.fit (E := fun b => b = gv) t1 zv (by omega)
 have u2 := ExtP.fit (E := fun b => b = gv) ((kv.cell (p := ⟨R, 0, none⟩) zR).trans r0) (by omega) nR
 have u3 := ExtP.fit (E := fun b => b = gv) ((kv.cell (p := ⟨R, 2, none⟩) zR).trans r2) (by omega) nR
 have u4 := ExtP.fit (E := fun b => b = gv) ((kv.cell (p := ⟨R, 4, none⟩) zR).trans r4) (by omega) nR
 have u5 := ExtP.fit (E := fun b => b = gv) ((kv.cell (p := ⟨bm, 2, none⟩) zm).trans m2) (by omega) nM
 refine regionMix V (CP V (fun b => b = gv)) 20 21 (by kernel_rfl) (by kernel_rfl) (fun _ _ d _ _ h => by cases d <;> exact h) (CP.drew _ _) ?_
 unfold CP
 dsimp only [List.take, List.drop]
 repeat (go_big_quiet_step (fail))
 refine wpQuiet_nil ?_
 clear hne u1 u2 u3 u4 u5
 unfold wpListC
 go_wp2_with (go_at_call 93; refine Calls.mono LD.out ?_; rintro e w5 ⟨rfl, q5, x5⟩)
 refine And.intro (fun _ hc => CP.on hc x5.os x5.tape x5.out x5.size (fun b h1 h2 => x5.blk b h1 (by omega))) ?_
 refine listC_late _ _ _ _ (by decide) ?_
 obtain ⟨xv, hxv⟩ : ∃ xv, (ldX d.mem k.vw c late).v = xv := ⟨_, rfl⟩
 rw [hxv]
 have hrn := (q5.k.inn who _ (set_at HX.out)).1
 have hrn' : OwnN w5 B (.slice (some ⟨gr, 0, none⟩) k.regs.length cr) k.regs := by rw [H8.out]; exact hrn
 have lr := hrn'.cell (i := r') (by rw [H8.out]; omega)
 have fr : ∀ j, w5.frozen? ⟨gr, j, none⟩ = false := fun j => World.ownsRow.frozenAt hrn' j
 have Q5 := hidM1 q5
 have X5 := hidM1 x5
 have zr5 : gr < w5.heap.size := (World.ownsRow.lt hrn gr rfl).2
 clear q5 x5 hrn hrn' hV kv t1 r0 r1 r2 r3 r4 m0 m1 m2 m3 fm c0 k0 k1 k3 fk
 go_wp2
 go_ret
 have q6 := Q5.out.reg (set_at HX.out) H8.out r' xv
 rw [putK_putK] at q6
 have zdr : V.drew.heap.size = V.heap.size := rfl
 subst hxv
 refine ⟨rfl, _, q6, set_at (set_at HX.out), ?_, ?_, fun b' h1 h2 h3 => ?_⟩
 ·simp
 ·have kd : Below B w w5 := ⟨X5.out.os.trans KV.out.os, X5.out.tape.trans KV.out.tape, X5.out.out.trans KV.out.output, by have := X5.out.size; omega, fun b hb => (X5.out.blk b (by omega) (by omega)).trans (KV.out.block b (by omega))⟩
  exact kd.setCell (p := ⟨gr, r', none⟩) bgr _
 ·exact (Below.heap_setCell _ ⟨gr, _, none⟩ _ b' h3).trans ((X5.out.blk b' (by omega) (by omega)).trans (KV.out.block b' h1))
end
section
set_option linter.unusedSimpArgs false
set_option linter.unusedVariables false
set_option maxRecDepth 100000
open Go.RowKit
set_option maxHeartbeats 1000000 in
theorem touch6y {Hq : Nat → Prop} {w : World} {B R bm gk gc gs gr gv who nn cv cr cs gO cO : Nat} {late : Int} {vc vk vt : Value} {nc cc : Nat} {pc st : Int} {LC : List CV} {LK : List KV} {S : List RS} {d : MD} {k : KD} (c b' : Nat) (r0_ a n vb : Int) (lr : List WD) (r : RS) (h : Rn w R bm gk gc gs gr gv who nn cv cr cs late vc vk (.slice (some ⟨gO, 0, none⟩) d.mem.length cO) vt nc cc pc st) (hq : MQ w B Hq vc vk (.slice (some ⟨gO, 0, none⟩) d.mem.length cO) vt LC LK S d) (hx : LK[who]? = some ⟨k, .slice (some ⟨gr, 0, none⟩) 8 cr, .slice (some ⟨gv, 0, none⟩) 24 cv⟩) (hvl : k.vw.length = 24) (hmem : memB d.mem = true) (hc : c < 24) (hb : b' < 8) (lb : w.cell? ⟨gr, b', none⟩ = some (.int .i64 vb)) (hlr : d.mem[c]? = some lr) (hr : S[c]? = some r) (hroom : lr.length < 4000) (hB : B ≤ w.heap.size) :
  Calls Try.prog 82 #[.pointer (some ⟨R, 0, none⟩), .agg #[.int .i64 6, .int .i64 r0_, .int .i64 a, .int .i64 b', .int .i64 n], .int .i64 c] w fun e w' => e = .returned (.bool true) ∧ ∃ r', MQ w' B Hq vc vk (.slice (some ⟨gO, 0, none⟩) d.mem.length cO) vt LC (LK.set who ⟨{ k with vw := k.vw.set c (lr.length : Int) }, .slice (some ⟨gr, 0, none⟩) 8 cr, .slice (some ⟨gv, 0, none⟩) 24 cv⟩) (S.set c r') { putK d who { k with vw := k.vw.set c (lr.length : Int) } with mem := d.mem.set c (lr ++ [⟨vb, toldL k.vw c lr.length false⟩]) } ∧ Below B w w' ∧ ∀ b', b' < w.heap.size → b' ≠ gv → b' ≠ gO → r.val.ownBlock ≠ some b' → w'.heap[b']? = w.heap[b']? := by
 obtain ⟨V, hV⟩ : ∃ V, w.alloc (.cells #[.int .i64 6, .int .i64 r0_, .int .i64 a, .int .i64 b', .int .i64 n] 25) = V := ⟨_, rfl⟩
 have kv : Below w.heap.size w V := by subst hV; exact (Below.refl _ _).alloc (Nat.le_refl _) _
 have KV := hidM1 kv
 have zV := kv.size
 have QV := hq.keep (w' := V) (fun b _ h1 => kv.block b h1) zV
 have RV := h.below kv
 have WR := hidM1 (write_yes c lr r vb false RV QV hx hvl hmem hc hlr hr hroom)
 obtain ⟨r0, r1, r2, r3, r4, m0, m1, m2, m3, fm, ec, c0, k0, k1, k3, fk, wc, zR, zm, zk, zc, zr⟩ := h
 have bb0 : (0 : Int) ≤ (b' : Int) := by omega
 have bb1 : (b' : Int) < 8 := by omega
 have HV := hidM1 hV
 clear hq hx hvl hmem hlr hr QV RV kv hV
 go_enter Try.func82, Try.ntmps82
 go_wp2_with fail
 rw [HV.out]
 refine Calls.mono WR.out ?_
 rintro e w5 ⟨rfl, r', q5, b5, f5⟩
 have Q5 := hidM1 q5
 have B5 := hidM1 b5
 have F5 := hidM1 f5
 clear q5 b5 f5
 go_wp2
 go_ret
 exact ⟨rfl, r', Q5.out, (KV.out.mono hB).trans B5.out, fun b' h1 h2 h3 h4 => (F5.out b' (by omega) h2 h3 h4).trans (KV.out.block b' h1)⟩
set_option maxHeartbeats 1000000 in
theorem touch6n {Hq : Nat → Prop} {w : World} {B R bm gk gc gs gr gv who nn cv cr cs gO cO : Nat} {late : Int} {vc vk vt : Value} {nc cc : Nat} {pc st : Int} {LC : List CV} {LK : List KV} {S : List RS} {d : MD} {k : KD} (c b' : Nat) (r0_ a n vb : Int) (lr : List WD) (r : RS) (h : Rn w R bm gk gc gs gr gv who nn cv cr cs late vc vk (.slice (some ⟨gO, 0, none⟩) d.mem.length cO) vt nc cc pc st) (hq : MQ w B Hq vc vk (.slice (some ⟨gO, 0, none⟩) d.mem.length cO) vt LC LK S d) (hx : LK[who]? = some ⟨k, .slice (some ⟨gr, 0, none⟩) 8 cr, .slice (some ⟨gv, 0, none⟩) 24 cv⟩) (hvl : k.vw.length = 24) (hmem : memB d.mem = true) (hc : c < 24) (hb : b' < 8) (lb : w.cell? ⟨gr, b', none⟩ = some (.int .i64 vb)) (hlr : d.mem[c]? = some lr) (hr : S[c]? = some r) (hroom : ¬ lr.length < 4000) (hB : B ≤ w.heap.size) :
  Calls Try.prog 82 #[.pointer (some ⟨R, 0, none⟩), .agg #[.int .i64 6, .int .i64 r0_, .int .i64 a, .int .i64 b', .int .i64 n], .int .i64 c] w fun e w' => e = .returned (.bool false) ∧ Below w.heap.size w w' := by
 obtain ⟨V, hV⟩ : ∃ V, w.alloc (.cells #[.int .i64 6, .int .i64 r0_, .int .i64 a, .int .i64 b', .int .i64 n] 25) = V := ⟨_, rfl⟩
 have kv : Below w.heap.size w V := by subst hV; exact (Below.refl _ _).alloc (Nat.le_refl _) _
 have KV := hidM1 kv
 have zV := kv.size
 have QV := hq.keep (w' := V) (fun b _ h1 => kv.block b h1) zV
 have RV := h.below kv
 have h24 := (memB_at hmem (i := 0) (by omega)).1
 have lO := QV.m.cellc rfl hr hlr
 have WR := hidM1 (write_no (c := c) vb false RV lO (World.ownsRow.lt QV.m.row gO rfl).2 (by omega) hroom)
 clear lO h24
 obtain ⟨r0, r1, r2, r3, r4, m0, m1, m2, m3, fm, ec, c0, k0, k1, k3, fk, wc, zR, zm, zk, zc, zr⟩ := h
 have bb0 : (0 : Int) ≤ (b' : Int) := by omega
 have bb1 : (b' : Int) < 8 := by omega
 have HV := hidM1 hV
 clear hq hx hvl hmem hlr hr QV RV kv hV
 go_enter Try.func82, Try.ntmps82
 go_wp2_with fail
 rw [HV.out]
 refine Calls.mono WR.out ?_
 rintro e w5 ⟨rfl, b5⟩
 have B5 := hidM1 b5
 clear b5
 go_wp2
 go_ret
 exact ⟨rfl, KV.out.trans (B5.out.mono zV)⟩
set_option maxHeartbeats 1000000 in
theorem touch7y {Hq : Nat → Prop} {w : World} {B R bm gk gc gs gr gv who nn cv cr cs gO cO : Nat} {late : Int} {vc vk vt : Value} {nc cc : Nat} {pc st : Int} {LC : List CV} {LK : List KV} {S : List RS} {d : MD} {k : KD} (c b' : Nat) (r0_ a n vb : Int) (lr : List WD) (r : RS) (h : Rn w R bm gk gc gs gr gv who nn cv cr cs late vc vk (.slice (some ⟨gO, 0, none⟩) d.mem.length cO) vt nc cc pc st) (hq : MQ w B Hq vc vk (.slice (some ⟨gO, 0, none⟩) d.mem.length cO) vt LC LK S d) (hx : LK[who]? = some ⟨k, .slice (some ⟨gr, 0, none⟩) 8 cr, .slice (some ⟨gv, 0, none⟩) 24 cv⟩) (hvl : k.vw.length = 24) (hmem : memB d.mem = true) (hc : c < 24) (hb : b' < 8) (lb : w.cell? ⟨gr, b', none⟩ = some (.int .i64 vb)) (hlr : d.mem[c]? = some lr) (hr : S[c]? = some r) (hroom : lr.length < 4000) (hB : B ≤ w.heap.size) :
  Calls Try.prog 82 #[.pointer (some ⟨R, 0, none⟩), .agg #[.int .i64 7, .int .i64 r0_, .int .i64 a, .int .i64 b', .int .i64 n], .int .i64 c] w fun e w' => e = .returned (.bool true) ∧ ∃ r', MQ w' B Hq vc vk (.slice (some ⟨gO, 0, none⟩) d.mem.length cO) vt LC (LK.set who ⟨{ k with vw := k.vw.set c (lr.length : Int) }, .slice (some ⟨gr, 0, none⟩) 8 cr, .slice (some ⟨gv, 0, none⟩) 24 cv⟩) (S.set c r') { putK d who { k with vw := k.vw.set c (lr.length : Int) } with mem := d.mem.set c (lr ++ [⟨vb, toldL k.vw c lr.length true⟩]) } ∧ Below B w w' ∧ ∀ b', b' < w.heap.size → b' ≠ gv → b' ≠ gO → r.val.ownBlock ≠ some b' → w'.heap[b']? = w.heap[b']? := by
 obtain ⟨V, hV⟩ : ∃ V, w.alloc (.cells #[.int .i64 7, .int .i64 r0_, .int .i64 a, .int .i64 b', .int .i64 n] 25) = V := ⟨_, rfl⟩
 have kv : Below w.heap.size w V := by subst hV; exact (Below.refl _ _).alloc (Nat.le_refl _) _
 have KV := hidM1 kv
 have zV := kv.size
 have QV := hq.keep (w' := V) (fun b _ h1 => kv.block b h1) zV
 have RV := h.below kv
 have WR := hidM1 (write_yes c lr r vb true RV QV hx hvl hmem hc hlr hr hroom)
 obtain ⟨r0, r1, r2, r3, r4, m0, m1, m2, m3, fm, ec, c0, k0, k1, k3, fk, wc, zR, zm, zk, zc, zr⟩ := h
 have bb0 : (0 : Int) ≤ (b' : Int) := by omega
 have bb1 : (b' : Int) < 8 := by omega
 have HV := hidM1 hV
 clear hq hx hvl hmem hlr hr QV RV kv hV
 go_enter Try.func82, Try.ntmps82
 go_wp2_with fail
 rw [HV.out]
 refine Calls.mono WR.out ?_
 rintro e w5 ⟨rfl, r', q5, b5, f5⟩
 have Q5 := hidM1 q5
 have B5 := hidM1 b5
 have F5 := hidM1 f5
 clear q5 b5 f5
 go_wp2
 go_ret
 exact ⟨rfl, r', Q5.out, (KV.out.mono hB).trans B5.out, fun b' h1 h2 h3 h4 => (F5.out b' (by omega) h2 h3 h4).trans (KV.out.block b' h1)⟩
set_option maxHeartbeats 1000000 in
theorem touch7n {Hq : Nat → Prop} {w : World} {B R bm gk gc gs gr gv who nn cv cr cs gO cO : Nat} {late : Int} {vc vk vt : Value} {nc cc : Nat} {pc st : Int} {LC : List CV} {LK : List KV} {S : List RS} {d : MD} {k : KD} (c b' : Nat) (r0_ a n vb : Int) (lr : List WD) (r : RS) (h : Rn w R bm gk gc gs gr gv who nn cv cr cs late vc vk (.slice (some ⟨gO, 0, none⟩) d.mem.length cO) vt nc cc pc st) (hq : MQ w B Hq vc vk (.slice (some ⟨gO, 0, none⟩) d.mem.length cO) vt LC LK S d) (hx : LK[who]? = some ⟨k, .slice (some ⟨gr, 0, none⟩) 8 cr, .slice (some ⟨gv, 0, none⟩) 24 cv⟩) (hvl : k.vw.length = 24) (hmem : memB d.mem = true) (hc : c < 24) (hb : b' < 8) (lb : w.cell? ⟨gr, b', none⟩ = some (.int .i64 vb)) (hlr : d.mem[c]? = some lr) (hr : S[c]? = some r) (hroom : ¬ lr.length < 4000) (hB : B ≤ w.heap.size) :
  Calls Try.prog 82 #[.pointer (some ⟨R, 0, none⟩), .agg #[.int .i64 7, .int .i64 r0_, .int .i64 a, .int .i64 b', .int .i64 n], .int .i64 c] w fun e w' => e = .returned (.bool false) ∧ Below w.heap.size w w' := by
 obtain ⟨V, hV⟩ : ∃ V, w.alloc (.cells #[.int .i64 7, .int .i64 r0_, .int .i64 a, .int .i64 b', .int .i64 n] 25) = V := ⟨_, rfl⟩
 have kv : Below w.heap.size w V := by subst hV; exact (Below.refl _ _).alloc (Nat.le_refl _) _
 have KV := hidM1 kv
 have zV := kv.size
 have QV := hq.keep (w' := V) (fun b _ h1 => kv.block b h1) zV
 have RV := h.below kv
 have h24 := (memB_at hmem (i := 0) (by omega)).1
 have lO := QV.m.cellc rfl hr hlr
 have WR := hidM1 (write_no (c := c) vb true RV lO (World.ownsRow.lt QV.m.row gO rfl).2 (by omega) hroom)
 clear lO h24
 obtain ⟨r0, r1, r2, r3, r4, m0, m1, m2, m3, fm, ec, c0, k0, k1, k3, fk, wc, zR, zm, zk, zc, zr⟩ := h
 have bb0 : (0 : Int) ≤ (b' : Int) := by omega
 have bb1 : (b' : Int) < 8 := by omega
 have HV := hidM1 hV
 clear hq hx hvl hmem hlr hr QV RV kv hV
 go_enter Try.func82, Try.ntmps82
 go_wp2_with fail
 rw [HV.out]
 refine Calls.mono WR.out ?_
 rintro e w5 ⟨rfl, b5⟩
 have B5 := hidM1 b5
 clear b5
 go_wp2
 go_ret
 exact ⟨rfl, KV.out.trans (B5.out.mono zV)⟩
end
end Go.Proofs.Ytepfpbcjklaenaa
