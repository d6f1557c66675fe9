/- Rows that lie somewhere, and a row of them. Conditions: at most a thousand steps. -/
import Derived.Test.YtjnfmecfpjchnaaGreatE10Und
namespace Go.Proofs.YtjnfmecfpjchnaaGreat
set_option linter.unusedSimpArgs false
set_option linter.unusedVariables false
set_option maxRecDepth 100000
open Go.RowKit

theorem name5 {P : World → Prop} {w : World} {C : Array Value} (L : List I5) (base n : Nat) (hC : C.toList = (fl5 L).map (Value.int .i64)) (hn : L.length = n) (hn' : n ≤ 1000) (hb : base ≤ w.heap.size)
    (h : ∀ W, OwnT5 W base (.slice (some ⟨w.heap.size, 0, none⟩) n n) L → Below w.heap.size w W → w.heap.size < W.heap.size → P W) : P (w.alloc (.cells C 35)) := by
  subst hn
  exact h _ (own5_new L C hC hb hn') ((Below.refl _ _).alloc (Nat.le_refl _) _) (by simp)
/- rows that lie somewhere, and a row of them -/
structure Row5 (w : World) (x : RD) : Prop where
  o : ∃ base, OwnT5 w base (.slice (some ⟨x.g, 0, none⟩) x.l.length x.c) x.l
theorem Row5.keep {w w' : World} {x : RD} (h : Row5 w x) (hb : Below w.heap.size w w') : Row5 w' x := by
  obtain ⟨base, h⟩ := h.o
  exact ⟨base, h.keep hb⟩
theorem Row5.of {w : World} {base g n c : Nat} {L : List I5} (h : OwnT5 w base (.slice (some ⟨g, 0, none⟩) n c) L) : Row5 w ⟨g, c, L⟩ := by
  have e := h.len
  subst e
  exact ⟨base, h⟩
theorem parts_new (w : World) (D : List RD) (C : Array Value) (hC : C.toList = vals D) (h : ∀ x ∈ D, Row5 w x) : PartsR (w.alloc (.cells C 29)) (w.alloc (.cells C 29)).heap.size w.heap.size D := by
  have hsz : (w.alloc (.cells C 29)).heap.size = w.heap.size + 1 := by simp
  refine ⟨by omega, fun i x hx => ?_⟩
  obtain ⟨base, ho⟩ := (h x (List.mem_of_getElem? hx)).o
  have hb : Below w.heap.size w (w.alloc (.cells C 29)) := (Below.refl _ _).alloc (Nat.le_refl _) _
  refine ⟨?_, by have := ho.lt; omega, fun j hj => ?_⟩
  · have e : C[i]? = some (.slice (some ⟨x.g, 0, none⟩) x.l.length x.c) := by
      rw [← Array.getElem?_toList, hC]
      unfold vals
      rw [List.getElem?_map, hx]
      rfl
    simpa [go_sem] using e
  · rcases (ho.keep hb).insR with e | ⟨g', o', e, -, -, hc⟩
    · rw [e] at hj; simp at hj
    · injection e with e
      injection e with e1 e2
      subst e1 e2
      have := hc j hj
      rw [Nat.zero_add] at this
      exact this
def jOk (k : Int) (s : I5) : Bool := !isJ s.o || decide (-1 ≤ s.n ∧ s.n ≤ k)
theorem jOk_of {D : List RD} {k : Int} (h : ∀ x ∈ D, x.l.all (jOk k) = true) : ∀ (i : Nat) (x : RD), D[i]? = some x → ∀ (j : Nat) (s : I5), x.l[j]? = some s → isJ s.o = true → -1 ≤ s.n ∧ s.n ≤ k := by
  intro i x hx j s hs hq
  have h1 := h x (List.mem_of_getElem? hx)
  rw [List.all_eq_true] at h1
  have h2 := h1 s (List.mem_of_getElem? hs)
  unfold jOk at h2
  rw [hq] at h2
  simpa using h2

end Go.Proofs.YtjnfmecfpjchnaaGreat
