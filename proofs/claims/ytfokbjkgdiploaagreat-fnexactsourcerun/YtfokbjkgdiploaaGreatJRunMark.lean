/- A source and a row of codes beside it: marks over both. No condition of its own. -/
import Derived.Test.YtfokbjkgdiploaaGreatJRunCod
import Derived.Test.YtfokbjkgdiploaaGreatJG06
import Derived.Test.YtfokbjkgdiploaaGreatJG17
namespace Go.Proofs.YtfokbjkgdiploaaGreat
set_option linter.unusedSimpArgs false
set_option linter.unusedVariables false
set_option maxRecDepth 100000
open Go.RowKit
structure SN (w : World) (lo hi : Nat) (v1 v2 v3 : Value) (L1 L2 : List (Rec × Value)) (d : SD) (v4 : Value) (C : List Int) : Prop where
 o : SB w lo hi v1 v2 v3 L1 L2 d
 n : NB w lo hi v4 C
 s : ∀ q, v4.ownBlock = some q → ¬ HitS v1 v2 v3 L1 L2 q
theorem SN.keep {w w' : World} {lo hi : Nat} {v1 v2 v3 : Value} {L1 L2 : List (Rec × Value)} {d : SD} {v4 : Value} {C : List Int} (h : SN w lo hi v1 v2 v3 L1 L2 d v4 C) (hk : Keep lo hi w w') : SN w' lo hi v1 v2 v3 L1 L2 d v4 C := ⟨h.o.keep hk, h.n.keep hk, h.s⟩
/- the source marked, the codes not yet, or too -/
structure MN (w : World) (lo hi : Nat) (v1 v2 v3 : Value) (L1 L2 : List (Rec × Value)) (m : Nat) (v4 : Value) (C : List Int) : Prop where
 o : MB w lo hi v1 v2 v3 L1 L2 m 1
 n : NB w lo hi v4 C
 s : ∀ q, v4.ownBlock = some q → ¬ HitS v1 v2 v3 L1 L2 q
theorem MN.keep {w w' : World} {lo hi : Nat} {v1 v2 v3 : Value} {L1 L2 : List (Rec × Value)} {m : Nat} {v4 : Value} {C : List Int} (h : MN w lo hi v1 v2 v3 L1 L2 m v4 C) (hk : Keep lo hi w w') : MN w' lo hi v1 v2 v3 L1 L2 m v4 C := ⟨h.o.keep hk, h.n.keep hk, h.s⟩
theorem hit_mks {v1 v2 v3 : Value} {L1 L2 : List (Rec × Value)} {q : Int} : ∀ k, HitS v1 v2 v3 (mksT q L1) (mksC (q + sumQ L1) L2) k → HitS v1 v2 v3 L1 L2 k := by
 rintro k ((e | ⟨i, x, hx, e⟩) | (e | ⟨i, x, hx, e⟩) | e)
 ·exact .inl (.inl e)
 ·obtain ⟨y, hy, ey⟩ := mksT_own _ _ _ _ hx
  exact .inl (.inr ⟨i, y, hy, by rw [← ey]; exact e⟩)
 ·exact .inr (.inl (.inl e))
 ·obtain ⟨y, hy, ey⟩ := mksC_own _ _ _ _ hx
  exact .inr (.inl (.inr ⟨i, y, hy, by rw [← ey]; exact e⟩))
 ·exact .inr (.inr e)
theorem markSN {lo hi : Nat} {v1 v2 v3 : Value} {L1 L2 : List (Rec × Value)} {d : SD} {v4 : Value} {C : List Int} {w : World} (h : SN w lo hi v1 v2 v3 L1 L2 d v4 C) (hf : SFits d) :
  Calls Tryz.prog 18 #[.agg #[v1, v2, v3], .int .i64 1] w fun e w' => e = .returned (.int .i64 (1 + sumQ L1 + sumQ L2 + 2 * d.tr.length)) ∧ MN w' lo hi v1 v2 v3 L1 L2 d.tr.length v4 C ∧ Exc lo hi w w' := by
 have hr := h.o.room hf
 have hf3 := hf.2.2
 refine (markSource_any lo v1 v2 v3 L1 L2 d 1 w h.o.o hf (by omega) (by omega)).mono ?_
 rintro e w' ⟨rfl, o, z, a, b, c, f⟩
 refine ⟨rfl, ⟨⟨o, fun k hk => h.o.h k (hit_mks k hk)⟩, ⟨ownKeep' h.n.o (fun k e => f k (World.ownsRow.lt h.n.o _ e).2 (h.s k e)), h.n.h⟩, h.s⟩, a, b, c, z, fun k hk hc => f k hk (fun e => by have := (h.o.o.hit e).1; have := h.o.h k e; omega)⟩
theorem markMN {lo hi : Nat} {v1 v2 v3 : Value} {L1 L2 : List (Rec × Value)} {m : Nat} {v4 : Value} {C : List Int} {w : World} (q : Int) (h : MN w lo hi v1 v2 v3 L1 L2 m v4 C) (hn : C.length ≤ 1048577) (hq : 0 ≤ q) (hq' : q ≤ 1000000000000000) :
  Calls Tryz.prog 19 #[v4, .int .i64 q] w fun e w' => e = .returned (.int .i64 (q + C.length)) ∧ MN w' lo hi v1 v2 v3 L1 L2 m v4 (relN q C.length) ∧ Exc lo hi w w' := by
 refine (markN_any lo v4 C q w h.n.o hn hq hq').mono ?_
 rintro e w' ⟨rfl, o, z, a, b, c, f⟩
 have g : ∀ k, HitS v1 v2 v3 (mksT 1 L1) (mksC (1 + sumQ L1) L2) k → w'.heap[k]? = w.heap[k]? := fun k e => f k (fun e2 => h.s k e2 (hit_mks k e))
 exact ⟨rfl, ⟨⟨⟨h.o.o.t.keepB (fun k e => g k (.inl (.inl e))) (fun i x hx k e => g k (.inl (.inr ⟨i, x, hx, e⟩))), h.o.o.c.keepB (fun k e => g k (.inr (.inl (.inl e)))) (fun i x hx k e => g k (.inr (.inl (.inr ⟨i, x, hx, e⟩)))), ownKeep' h.o.o.n (fun k e => g k (.inr (.inr e)))⟩, h.o.h⟩, ⟨o, h.n.h⟩, h.s⟩, a, b, c, by omega, fun k hk hc => f k (fun e => by have := (World.ownsRow.lt h.n.o _ e).1; have := h.n.h k e; omega)⟩
theorem toIntS_own' (s : Option Addr) (c lo hi : Nat) (l : List Int) (w : World) (h : IntsR w lo hi s l) (hB : hi ≤ w.heap.size) (hl : l.length ≤ 1048576) :
  Calls Tryz.prog 12 #[.slice s l.length c] w fun e w' => ∃ g, e = .returned (.slice (some ⟨g, 0, none⟩) l.length l.length) ∧ OwnN w' w.heap.size (.slice (some ⟨g, 0, none⟩) l.length l.length) l ∧ Below w.heap.size w w' ∧ w.heap.size < w'.heap.size :=
 (toIntS_own s c lo hi l w h hB hl).mono fun _ _ ⟨a, b, c, d⟩ => ⟨_, a, b, c, d⟩
theorem OwnN.intsG {w : World} {base g c : Nat} {l : List Int} (h : OwnN w base (.slice (some ⟨g, 0, none⟩) l.length c) l) : IntsR w base w.heap.size (some ⟨g, 0, none⟩) l := by
 obtain ⟨s, c', e, hi⟩ := ownN_ints h
 injection e with e _ _
 rw [e]
 exact hi
theorem OwnN.intsS {w : World} {base c : Nat} {s : Option Addr} {l : List Int} (h : OwnN w base (.slice s l.length c) l) : IntsR w base w.heap.size s l := by
 obtain ⟨s', c', e, hi⟩ := ownN_ints h
 injection e with e _ _
 rw [e]
 exact hi
end Go.Proofs.YtfokbjkgdiploaaGreat
