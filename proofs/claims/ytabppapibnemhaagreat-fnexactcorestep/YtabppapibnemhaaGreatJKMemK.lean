/- What a step of memory of the specification stands on. No condition. -/
import Derived.Test.YtabppapibnemhaaGreatJC3
import Derived.Test.YtabppapibnemhaaGreatJA1
import Derived.Test.YtabppapibnemhaaGreatJMemStoreS
namespace Go.Proofs.YtabppapibnemhaaGreat
set_option linter.unusedSimpArgs false
set_option linter.unusedVariables false
set_option maxRecDepth 100000
open Go.RowKit
theorem own_tb {w : World} {base size n b : Nat} {e T : TypeId} {v : Value} {xs : List Value} (h : w.ownsRow base e size v n xs) (he : e ≠ T) (hb : TyB w b T) : v.ownBlock ≠ some b := fun hk => by
 obtain ⟨cs, f, c⟩ := own_ty h hk
 exact he (TyB.ne ⟨cs, f, c⟩ hb)
/- the boxes of a step of memory: machine, pick, step, answer, core -/
structure Bm5 (V : World) (z : Nat) (m0 m1 m2 m3 x0 x1 s0 s1 s2 s3 s4 k0 k1 k2 k3 : Value) : Prop where
 m0 : V.cell? ⟨z, 0, none⟩ = some m0
 m1 : V.cell? ⟨z, 1, none⟩ = some m1
 m2 : V.cell? ⟨z, 2, none⟩ = some m2
 m3 : V.cell? ⟨z, 3, none⟩ = some m3
 x0 : V.cell? ⟨z + 1, 0, none⟩ = some x0
 x1 : V.cell? ⟨z + 1, 1, none⟩ = some x1
 s0 : V.cell? ⟨z + 1 + 1, 0, none⟩ = some s0
 s1 : V.cell? ⟨z + 1 + 1, 1, none⟩ = some s1
 s2 : V.cell? ⟨z + 1 + 1, 2, none⟩ = some s2
 s3 : V.cell? ⟨z + 1 + 1, 3, none⟩ = some s3
 s4 : V.cell? ⟨z + 1 + 1, 4, none⟩ = some s4
 a0 : V.cell? ⟨z + 1 + 1 + 1, 0, none⟩ = some (.slice none 0 0)
 a1 : V.cell? ⟨z + 1 + 1 + 1, 1, none⟩ = some (.slice none 0 0)
 a2 : V.cell? ⟨z + 1 + 1 + 1, 2, none⟩ = some (.slice none 0 0)
 a3 : V.cell? ⟨z + 1 + 1 + 1, 3, none⟩ = some (.slice none 0 0)
 k0 : V.cell? ⟨z + 1 + 1 + 1 + 1, 0, none⟩ = some k0
 k1 : V.cell? ⟨z + 1 + 1 + 1 + 1, 1, none⟩ = some k1
 k2 : V.cell? ⟨z + 1 + 1 + 1 + 1, 2, none⟩ = some k2
 k3 : V.cell? ⟨z + 1 + 1 + 1 + 1, 3, none⟩ = some k3
 fm : ∀ j, V.frozen? ⟨z, j, none⟩ = false
 fa : ∀ j, V.frozen? ⟨z + 1 + 1 + 1, j, none⟩ = false
 fk : ∀ j, V.frozen? ⟨z + 1 + 1 + 1 + 1, j, none⟩ = false
 bt : BxT V z ∧ BxT V (z + 1 + 1 + 1) ∧ TyB V (z + 1 + 1 + 1 + 1) 69
 z : z + 1 + 1 + 1 + 1 < V.heap.size
theorem Bm5.keep {V V' : World} {z : Nat} {m0 m1 m2 m3 x0 x1 s0 s1 s2 s3 s4 k0 k1 k2 k3 : Value} (h : Bm5 V z m0 m1 m2 m3 x0 x1 s0 s1 s2 s3 s4 k0 k1 k2 k3) (hb : ∀ b, z ≤ b → b < V.heap.size → V'.heap[b]? = V.heap[b]?) (hs : V.heap.size ≤ V'.heap.size) : Bm5 V' z m0 m1 m2 m3 x0 x1 s0 s1 s2 s3 s4 k0 k1 k2 k3 := by
 have hz := h.z
 have c0 : ∀ j, V'.cell? ⟨z, j, none⟩ = V.cell? ⟨z, j, none⟩ := fun j => World.cell?_of_block (hb z (by omega) (by omega))
 have c1 : ∀ j, V'.cell? ⟨z + 1, j, none⟩ = V.cell? ⟨z + 1, j, none⟩ := fun j => World.cell?_of_block (hb (z + 1) (by omega) (by omega))
 have c2 : ∀ j, V'.cell? ⟨z + 1 + 1, j, none⟩ = V.cell? ⟨z + 1 + 1, j, none⟩ := fun j => World.cell?_of_block (hb (z + 1 + 1) (by omega) (by omega))
 have c3 : ∀ j, V'.cell? ⟨z + 1 + 1 + 1, j, none⟩ = V.cell? ⟨z + 1 + 1 + 1, j, none⟩ := fun j => World.cell?_of_block (hb (z + 1 + 1 + 1) (by omega) (by omega))
 have c4 : ∀ j, V'.cell? ⟨z + 1 + 1 + 1 + 1, j, none⟩ = V.cell? ⟨z + 1 + 1 + 1 + 1, j, none⟩ := fun j => World.cell?_of_block (hb (z + 1 + 1 + 1 + 1) (by omega) (by omega))
 exact ⟨(c0 _).trans h.m0, (c0 _).trans h.m1, (c0 _).trans h.m2, (c0 _).trans h.m3, (c1 _).trans h.x0, (c1 _).trans h.x1, (c2 _).trans h.s0, (c2 _).trans h.s1, (c2 _).trans h.s2, (c2 _).trans h.s3, (c2 _).trans h.s4, (c3 _).trans h.a0, (c3 _).trans h.a1, (c3 _).trans h.a2, (c3 _).trans h.a3, (c4 _).trans h.k0, (c4 _).trans h.k1, (c4 _).trans h.k2, (c4 _).trans h.k3, fun j => (World.frozen?_of_block (hb z (by omega) (by omega))).trans (h.fm j), fun j => (World.frozen?_of_block (hb (z + 1 + 1 + 1) (by omega) (by omega))).trans (h.fa j), fun j => (World.frozen?_of_block (hb (z + 1 + 1 + 1 + 1) (by omega) (by omega))).trans (h.fk j), ⟨h.bt.1.same (hb z (by omega) (by omega)), h.bt.2.1.same (hb (z + 1 + 1 + 1) (by omega) (by omega)), by obtain ⟨cs, f, c⟩ := h.bt.2.2; exact ⟨cs, f, (hb (z + 1 + 1 + 1 + 1) (by omega) (by omega)).trans c⟩⟩, by omega⟩
theorem boxesM {w V : World} {m0 m1 m2 m3 x0 x1 k0 k1 k2 k3 s0 s1 s2 s3 s4 : Value} {T1 T2 : TypeId}
  (hV : ((((w.alloc (.cells #[m0, m1, m2, m3] 40)).alloc (.cells #[x0, x1] T1)).alloc (.cells #[s0, s1, s2, s3, s4] T2)).alloc (.cells #[.slice none 0 0, .slice none 0 0, .slice none 0 0, .slice none 0 0] 40)).alloc (.cells #[k0, k1, k2, k3] 69) = V) :
  Bm5 V w.heap.size m0 m1 m2 m3 x0 x1 s0 s1 s2 s3 s4 k0 k1 k2 k3 ∧ Below w.heap.size w V := by
 subst hV
 refine ⟨⟨?_, ?_, ?_, ?_, ?_, ?_, ?_, ?_, ?_, ?_, ?_, ?_, ?_, ?_, ?_, ?_, ?_, ?_, ?_, fun j => ?_, fun j => ?_, fun j => ?_, ⟨?_, ?_, ?_⟩, ?_⟩, ((((((Below.refl _ _).alloc (Nat.le_refl _) _).alloc (by simp) _).alloc (by simp; omega) _).alloc (by simp; omega) _).alloc (by simp; omega) _)⟩
 any_goals (simp [go_sem]; done)
 ·exact BxT.alloc (BxT.alloc (BxT.alloc (BxT.alloc (BxT.new w _) _) _) _) _
 ·have e : (((w.alloc (.cells #[m0, m1, m2, m3] 40)).alloc (.cells #[x0, x1] T1)).alloc (.cells #[s0, s1, s2, s3, s4] T2)).heap.size = w.heap.size + 1 + 1 + 1 := by simp
  rw [← e]
  exact BxT.alloc (BxT.new _ _) _
 ·have e : ((((w.alloc (.cells #[m0, m1, m2, m3] 40)).alloc (.cells #[x0, x1] T1)).alloc (.cells #[s0, s1, s2, s3, s4] T2)).alloc (.cells #[.slice none 0 0, .slice none 0 0, .slice none 0 0, .slice none 0 0] 40)).heap.size = w.heap.size + 1 + 1 + 1 + 1 := by simp
  rw [← e]
  exact ⟨_, _, heap_alloc_new _ _⟩
theorem setCell_same {w : World} {g j : Nat} {v : Value} (h : w.cell? ⟨g, j, none⟩ = some v) (b : Nat) : (w.setCell ⟨g, j, none⟩ v).heap[b]? = w.heap[b]? := by
 by_cases e : b = g
 ·subst e
  simp only [World.setCell, Array.getElem?_modify]
  unfold World.cell? at h
  cases hb : w.heap[b]? with
  | none => simp
  | some o =>
   rw [hb] at h
   cases o with
   | cells cs t f =>
    simp only at h
    simp
    refine Array.ext (by simp) fun i h1 h2 => ?_
    by_cases ei : j = i
    ·subst ei
     rw [Array.getElem_setIfInBounds_self]
     have := (Array.getElem?_eq_some_iff.1 (by simpa using h)).2
     exact this.symm
    ·rw [Array.getElem_setIfInBounds_ne _ ei]
   | _ => simp
 ·exact Below.heap_setCell _ _ _ b e
/- a core's four cells stored, its view another one -/
theorem MQ.put4 {w F : World} {B g c N : Nat} {vc vm vt r v : Value} {LC : List CV} {LK : List KV} {S : List RS} {d : MD} {i : Nat} {k : KD} (h : MQ w B vc (.slice (some ⟨g, 0, none⟩) N c) vm vt LC LK S d) (hN : LK.length = N) (hx : LK[i]? = some ⟨k, r, v⟩) (u : Value) (l : List Int) (hu : OwnN w B u l) (hf : ∀ q, u.ownBlock = some q → (∀ (j : Nat) (z : KV), LK[j]? = some z → ¬ (z.r.ownBlock = some q ∨ z.v.ownBlock = some q)) ∧ ∀ a ∈ mAs S, a.block ≠ q)
  (hF : ∀ b, b < w.heap.size → F.heap[b]? = ((((w.setCell ⟨g, i * 4, none⟩ (.int .i64 k.pc)).setCell ⟨g, i * 4 + 1, none⟩ r).setCell ⟨g, i * 4 + 2, none⟩ u).setCell ⟨g, i * 4 + 3, none⟩ (.int .i64 k.st)).heap[b]?) (hs : w.heap.size ≤ F.heap.size) :
  MQ F B vc (.slice (some ⟨g, 0, none⟩) N c) vm vt LC (LK.set i ⟨{ k with vw := l }, r, u⟩) S (putK d i { k with vw := l }) := by
 subst hN
 have hi : i < LK.length := (List.getElem?_eq_some_iff.1 hx).1
 obtain ⟨f0, f1, f2, f3⟩ := flatK_at LK i _ hx
 have c0 : w.cell? ⟨g, i * 4, none⟩ = some (.int .i64 k.pc) := by rw [World.ownsRow.cellAt h.k.row _ (by omega), f0]
 have c1 : w.cell? ⟨g, i * 4 + 1, none⟩ = some r := by rw [World.ownsRow.cellAt h.k.row _ (by omega), f1]
 have c3 : w.cell? ⟨g, i * 4 + 3, none⟩ = some (.int .i64 k.st) := by rw [World.ownsRow.cellAt h.k.row _ (by omega), f3]
 refine (MQ.setV h hx u l hu hf).keep (fun b _ hb => ?_) (by simpa using hs)
 rw [hF b (by simpa using hb)]
 have e1 : ((w.setCell ⟨g, i * 4, none⟩ (.int .i64 k.pc)).setCell ⟨g, i * 4 + 1, none⟩ r).heap[b]? = w.heap[b]? := by
  rw [setCell_same ((setC_off (by omega)).trans c1), setCell_same c0]
 refine (setCell_same ?_ b).trans (heap_pair e1)
 exact (setC_off (by omega)).trans ((setC_off (by omega)).trans ((setC_off (by omega)).trans c3))
/- a store into a box of a core's type that is none of the machine's -/
theorem MQ.offC {w : World} {B b j : Nat} {vc vk vm vt u : Value} {LC : List CV} {LK : List KV} {S : List RS} {d : MD} (h : MQ w B vc vk vm vt LC LK S d) (ht : TyB w b 69) (hne : vk.ownBlock ≠ some b) : MQ (w.setCell ⟨b, j, none⟩ u) B vc vk vm vt LC LK S d := by
 have hb : ∀ k, k ≠ b → (w.setCell ⟨b, j, none⟩ u).heap[k]? = w.heap[k]? := fun k hk => Below.heap_setCell _ _ _ k hk
 have ne : ∀ {e : TypeId} {size n : Nat} {u' : Value} {xs : List Value}, w.ownsRow B e size u' n xs → e ≠ 69 → ∀ k, u'.ownBlock = some k → (w.setCell ⟨b, j, none⟩ u).heap[k]? = w.heap[k]? := fun hu he k hk => hb k (fun e' => own_tb hu he ht (by rw [hk, e']))
 refine ⟨⟨ownKeep' h.c.row (ne h.c.row (by decide)), fun i x hx => ownKeep' (h.c.inn i x hx) (ne (h.c.inn i x hx) (by decide)), h.c.sep⟩, h.ec, ⟨ownKeep' h.k.row (fun k hk => hb k (fun e => hne (by rw [hk, e]))), fun i x hx => ⟨ownKeep' (h.k.inn i x hx).1 (ne (h.k.inn i x hx).1 (by decide)), ownKeep' (h.k.inn i x hx).2 (ne (h.k.inn i x hx).2 (by decide))⟩, h.k.two, h.k.sep⟩, h.ek, ⟨h.m.n, ownKeep' h.m.row (ne h.m.row (by decide)), fun i r l hr hl => ?_, h.m.d⟩, ownKeep' h.t (ne h.t (by decide)), h.sk⟩
 have q := h.m.r i r l hr hl
 refine q.kept (ne q.own (by decide)) (fun a ha => hb a.block (fun e => ?_)) (by simp)
 obtain ⟨cs, f, c1⟩ := q.vt a ha
 obtain ⟨cs', f', c2⟩ := ht
 rw [e, c2] at c1
 injection c1 with c1
 injection c1 with _ c1
 exact absurd c1 (by decide)
theorem TyB.set {w : World} {b g o : Nat} {v : Value} {T : TypeId} (h : TyB w b T) : TyB (w.setCell ⟨g, o, none⟩ v) b T := by
 obtain ⟨cs, f, c⟩ := h
 by_cases e : b = g
 ·subst e
  exact ⟨_, f, heap_set c⟩
 ·exact ⟨cs, f, (Below.heap_setCell _ _ _ b e).trans c⟩
/- a view that a call has made lies apart -/
theorem MQ.fresh {w w' : World} {B : Nat} {vc vk vm vt u : Value} {LC : List CV} {LK : List KV} {S : List RS} {d : MD} {l : List Int} (h : MQ w B vc vk vm vt LC LK S d) (hu : OwnN w' w.heap.size u l) : ∀ q, u.ownBlock = some q → (∀ (j : Nat) (z : KV), LK[j]? = some z → ¬ (z.r.ownBlock = some q ∨ z.v.ownBlock = some q)) ∧ ∀ a ∈ mAs S, a.block ≠ q := fun q hq => by
 have hlt := (World.ownsRow.lt hu _ hq).1
 refine ⟨fun j z hz hh => ?_, fun a ha e => ?_⟩
 ·rcases hh with hh | hh
  ·have := (World.ownsRow.lt (h.k.inn j z hz).1 _ hh).2; omega
  ·have := (World.ownsRow.lt (h.k.inn j z hz).2 _ hh).2; omega
 ·have := h.m.memblk ha; omega
theorem hidM {p : Prop} (h : p) : Hid p := h
/- what a step of memory answers -/
def MemP (w : World) (B : Nat) (vc vk vm vt : Value) (LC : List CV) (LK : List KV) (S : List RS) (d : MD) (who : Nat) (late : Int) (k : KD) (s : I5) (e : Ending) (w' : World) : Prop :=
 if 0 ≤ cellM k s ∧ cellM k s ≤ 23 then
  (if s.o ≠ 5 ∧ (d.mem.getD (cellM k s).toNat []).length = 4000 then e = .returned (.tuple #[.agg #[vc, vk, vm, vt], .bool true, .bool true]) ∧ Below w.heap.size w w'
   else ∃ LK' S' r u, e = .returned (.tuple #[.agg #[vc, vk, vm, vt], .bool true, .bool false]) ∧ MQ w' B vc vk vm vt LC LK' S' (putK (memS d late k s (cellM k s).toNat).1 who (memS d late k s (cellM k s).toNat).2) ∧ LK'[who]? = some ⟨(memS d late k s (cellM k s).toNat).2, r, u⟩ ∧ LK'.length = LK.length ∧ Below B w w' ∧ ∀ X : World, MQ X B vc vk vm vt LC LK S d → ∀ b, X.heap.size ≤ b → b < w.heap.size → w'.heap[b]? = w.heap[b]?)
 else e = .returned (.tuple #[.agg #[vc, vk, vm, vt], .bool false, .bool false]) ∧ Below w.heap.size w w'
theorem OW.cellc {w : World} {B g n c k : Nat} {S : List RS} {m : List (List WD)} {r : RS} {lr : List WD} (h : OW w B (.slice (some ⟨g, 0, none⟩) n c) S m) (hn : n = m.length) (hk : S[k]? = some r) (hl : m[k]? = some lr) : w.cell? ⟨g, k, none⟩ = some (.slice r.s lr.length r.c) := by
 have hr := h.row
 rw [h.n, ← hn] at hr
 have hlt := (List.getElem?_eq_some_iff.1 hl).1
 have q := (h.r k r lr hk hl).n
 rw [World.ownsRow.cellAt hr k (by omega), List.getElem?_map, hk]
 show some (Value.slice r.s r.vs.length r.c) = _
 rw [q]
theorem OW.memw {w : World} {B : Nat} {v : Value} {S : List RS} {m : List (List WD)} (h : OW w B v S m) : ∃ s c, v = .slice s m.length c ∧ MemR w B w.heap.size s m := by
 obtain ⟨s, c, rfl, hm⟩ := h.om.mo
 exact ⟨s, c, rfl, hm.mem⟩
theorem OW.some_ {w : World} {B : Nat} {v : Value} {S : List RS} {m : List (List WD)} (h : OW w B v S m) (hm : memB m = true) : ∀ (i : Nat) (r : RS), S[i]? = some r → 0 < r.vs.length := fun i r hr => by
 have hi := (List.getElem?_eq_some_iff.1 hr).1
 have h24 := (memB_at hm (i := 0) (by omega)).1
 have hn := h.n
 obtain ⟨-, l, hl, -, h1, -⟩ := memB_at hm (i := i) (by omega)
 have q := (h.r i r l hr hl).n
 omega
theorem ldW_eq (m : List (List WD)) (l : List Int) (c : Nat) (late : Int) (hold : Bool) : (if hold = true then joinL (l.set c (ldJ m l c late)) (ldX m l c late).vw else l.set c (ldJ m l c late)) = ldW m l c late hold := rfl
end Go.Proofs.YtabppapibnemhaaGreat
