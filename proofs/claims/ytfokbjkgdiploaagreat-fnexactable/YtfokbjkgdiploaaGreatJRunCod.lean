/- A source and the codes of its steps, side by side. No condition. -/
import Derived.Test.YtfokbjkgdiploaaGreatJG16
import Derived.Test.YtfokbjkgdiploaaGreatJG04
namespace Go.Proofs.YtfokbjkgdiploaaGreat
set_option linter.unusedSimpArgs false
set_option linter.unusedVariables false
set_option maxRecDepth 100000
open Go.RowKit
structure RunC (w V : World) (base S : Nat) (p0 p1 q1 q2 q3 : Value) (D : SD) (u : Value) (C : List Int) : Prop where
 b : Br V w.heap.size p0 p1 q1 q2 q3
 k : Below w.heap.size w V
 o : ∃ v1 v2 v3 L1 L2, OwnS V base v1 v2 v3 L1 L2 D ∧ BoF S V v1 v2 v3 ∧ BxS V S ∧ (∀ q, u.ownBlock = some q → ¬ HitS v1 v2 v3 L1 L2 q)
 n : OwnN V base u C
 m : base ≤ V.heap.size
theorem RunI.cod {w V : World} {base S : Nat} {p0 p1 q1 q2 q3 : Value} {D : SD} (h : RunI w V base S p0 p1 q1 q2 q3 D) {u : Value} (hn : OwnN V base u []) (hu : ∀ q, u.ownBlock = some q → ∀ v1 v2 v3 L1 L2, OwnS V base v1 v2 v3 L1 L2 D → ¬ HitS v1 v2 v3 L1 L2 q) : RunC w V base S p0 p1 q1 q2 q3 D u [] := by
 obtain ⟨v1, v2, v3, L1, L2, o, s, bs⟩ := h.o
 exact ⟨h.b, h.k, ⟨v1, v2, v3, L1, L2, o, s, bs, fun q e => hu q e _ _ _ _ _ o⟩, hn, h.m⟩
theorem intNe : ¬ (3 : TypeId) = 37 := by decide
theorem RunC.turn {w V V' : World} {base S : Nat} {p0 p1 q1 q2 q3 v1 v2 v3 u : Value} {L1 L2 : List (Rec × Value)} {D D' : SD} {C : List Int} {s4 : Option Addr} {n4 c4 : Nat} {M1 M2 : List (Rec × Value)} (h : RunC w V base S p0 p1 q1 q2 q3 D u C) (hz : w.heap.size + 1 + 1 < base) (hsep : ∀ q, u.ownBlock = some q → ¬ HitS v1 v2 v3 L1 L2 q) (hbs : BxS V S) (t : TurnQ V V' S base v1 v2 v3 L1 L2 D' s4 n4 c4 M1 M2) : RunC w V' base S p0 p1 q1 q2 q3 D' u C := by
 have hlt : ∀ q, u.ownBlock = some q → q < V.heap.size := fun q e => (World.ownsRow.lt h.n _ e).2
 refine ⟨h.b.below t.b hz, h.k.trans (t.b.mono (by omega)), ⟨_, _, _, M1, M2, t.o, t.s, t.bs, fun q e hh => ?_⟩, ownKeep' h.n (fun q e => t.f q (hlt q e) (fun e2 => ?_) (hsep q e)), Nat.le_trans h.m t.b.size⟩
 ·rcases t.h q hh with h1 | h1
  ·exact hsep q e h1
  ·have := hlt q e; omega
 ·subst e2
  exact own_bxS h.n intNe hbs e
theorem RunC.keep {w V V' : World} {base S : Nat} {p0 p1 q1 q2 q3 u : Value} {D : SD} {C : List Int} (h : RunC w V base S p0 p1 q1 q2 q3 D u C) (hb : Below V.heap.size V V') : RunC w V' base S p0 p1 q1 q2 q3 D u C := by
 obtain ⟨v1, v2, v3, L1, L2, o, s, bs, sep⟩ := h.o
 exact ⟨h.b.below hb h.b.zz, h.k.trans (hb.mono h.k.size), ⟨v1, v2, v3, L1, L2, o.keep (fun q _ hq => hb.block q hq), s.below hb s.z, bs.same (hb.block _ s.z), sep⟩, h.n.keep (fun q _ hq => hb.block q hq), Nat.le_trans h.m hb.size⟩
/- one code more -/
theorem RunC.app {w V V' : World} {base S g cap n : Nat} {p0 p1 q1 q2 q3 u : Value} {D : SD} {C C' : List Int} (h : RunC w V base S p0 p1 q1 q2 q3 D u C) (hz : w.heap.size + 1 + 1 < base) (hn : OwnN V' base (.slice (some ⟨g, 0, none⟩) n cap) C') (kk : Below base V V') (f : ∀ k, k < V.heap.size → u.ownBlock ≠ some k → V'.heap[k]? = V.heap[k]? ∧ k ≠ g) : RunC w V' base S p0 p1 q1 q2 q3 D (.slice (some ⟨g, 0, none⟩) n cap) C' := by
 obtain ⟨v1, v2, v3, L1, L2, o, s, bs, sep⟩ := h.o
 have no : ∀ k, HitS v1 v2 v3 L1 L2 k → u.ownBlock ≠ some k := fun k hk e => sep k e hk
 have eS := (f S s.z (own_bxS h.n intNe bs)).1
 refine ⟨h.b.below kk hz, h.k.trans (kk.mono (by omega)), ⟨v1, v2, v3, L1, L2, o.keepB (fun k hk => (f k (o.hit hk).2 (no k hk)).1), s.keep eS kk.size, bs.same eS, fun q e hh => ?_⟩, hn, Nat.le_trans h.m kk.size⟩
 simp only [Value.ownBlock, Option.some.injEq] at e
 exact (f q (o.hit hh).2 (no q hh)).2 e.symm
/- another source put into the box -/
theorem RunC.put {w V : World} {base S : Nat} {p0 p1 q1 q2 q3 v1 v2 v3 u : Value} {L1 L2 : List (Rec × Value)} {D D' : SD} {C : List Int} (h : RunC w V base S p0 p1 q1 q2 q3 D u C) (hz : w.heap.size + 1 + 1 < base) (hS : base ≤ S) (o : OwnS V base v1 v2 v3 L1 L2 D') (sep : ∀ q, u.ownBlock = some q → ¬ HitS v1 v2 v3 L1 L2 q) : RunC w (((V.setCell ⟨S, 0, none⟩ v1).setCell ⟨S, 1, none⟩ v2).setCell ⟨S, 2, none⟩ v3) base S p0 p1 q1 q2 q3 D' u C := by
 obtain ⟨u1, u2, u3, M1, M2, -, s, bs, -⟩ := h.o
 have kk : Below base V (((V.setCell ⟨S, 0, none⟩ v1).setCell ⟨S, 1, none⟩ v2).setCell ⟨S, 2, none⟩ v3) := by
  refine Below.setCell (Below.setCell (Below.setCell (Below.refl _ _) ?_ _) ?_ _) ?_ _ <;> exact hS
 have nS := own_bxS h.n intNe bs
 have st : ∀ (X : World) (j : Nat) (v : Value), OwnN X base u C → OwnN (X.setCell ⟨S, j, none⟩ v) base u C := fun X j v q => ownKeep' q (fun k e => Below.heap_setCell _ _ _ _ (fun e2 => nS (by rw [e, e2])))
 exact ⟨h.b.below kk hz, h.k.trans (kk.mono (by omega)), ⟨v1, v2, v3, L1, L2, ((o.offB bs).offB bs.set).offB bs.set.set, ((s.set0 _).set1 _).set2 _, bs.set.set.set, sep⟩, st _ _ _ (st _ _ _ (st _ _ _ h.n)), Nat.le_trans h.m kk.size⟩
/- what SourceRun answers -/
def SRunQ (w : World) (D : SD) (C : List Int) (e : Ending) (w' : World) : Prop := ∃ s1 c1 s2 c2 s3 c3 s4 c4 L1 L2, e = .returned (.tuple #[.agg #[.slice s1 D.ths.length c1, .slice s2 D.chs.length c2, .slice s3 D.tr.length c3], .slice s4 C.length c4]) ∧ OwnS w' w.heap.size (.slice s1 D.ths.length c1) (.slice s2 D.chs.length c2) (.slice s3 D.tr.length c3) L1 L2 D ∧ OwnN w' w.heap.size (.slice s4 C.length c4) C ∧ (∀ q, (Value.slice s4 C.length c4).ownBlock = some q → ¬ HitS (.slice s1 D.ths.length c1) (.slice s2 D.chs.length c2) (.slice s3 D.tr.length c3) L1 L2 q) ∧ Below w.heap.size w w'
noncomputable def runSb (p : PD) (d : SD) (ks : List Int) : SD := if ks.length ≤ 4000 ∧ srcB p d = true then pkD p d ks else d
noncomputable def runCb (p : PD) (d : SD) (ks : List Int) : List Int := if ks.length ≤ 4000 ∧ srcB p d = true then pkC p d ks else []
theorem runSb_fits {p : PD} {d : SD} (hf : SFits d) (ks : List Int) : SFits (runSb p d ks) := by
 unfold runSb
 split
 ·rename_i h
  exact pkD_fits ks h.2 hf
 ·exact hf
theorem runCb_len (p : PD) (d : SD) (ks : List Int) : (runCb p d ks).length ≤ 4000 := by
 unfold runCb
 split
 ·rename_i h
  rw [pkC_len]
  exact h.1
 ·exact Nat.zero_le _
theorem IntsR.get {w wr : World} {lo hi B : Nat} {s : Option Addr} {l : List Int} (h : IntsR w lo hi s l) (hB : hi ≤ B) (hb : Below B w wr) {k : Nat} (hk : k < l.length) : ∃ g o, s = some ⟨g, o, none⟩ ∧ g < B ∧ wr.cell? ⟨g, o + k, none⟩ = some (.int .i64 (l.getD k 0)) := by
 rcases h with rfl | ⟨g, o, e, h1, h2, h3⟩
 ·simp at hk
 ·exact ⟨g, o, e, by omega, (hb.cell (p := ⟨g, o + k, none⟩) (by show g < B; omega)).trans (h3 k hk)⟩
end Go.Proofs.YtfokbjkgdiploaaGreat
