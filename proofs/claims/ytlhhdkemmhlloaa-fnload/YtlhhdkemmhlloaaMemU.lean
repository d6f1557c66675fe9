/- A memory that a call has made: its outer row may be written too. No condition. -/
import Derived.Test.YtlhhdkemmhlloaaMemStoreS
import Derived.Test.YtlhhdkemmhlloaaMemStoD
import Derived.Test.YtlhhdkemmhlloaaMemNew
namespace Go.Proofs.Ytlhhdkemmhlloaa
set_option linter.unusedSimpArgs false
set_option linter.unusedVariables false
set_option maxRecDepth 100000
open Go.RowKit

theorem rowKept {w w' : World} {B size n : Nat} {e : TypeId} {v : Value} {xs : List Value} (h : w.ownsRow B e size v n xs) (hk : ∀ b, B ≤ b → b < w.heap.size → w'.heap[b]? = w.heap[b]?) : w'.ownsRow B e size v n xs := by
  obtain ⟨h1, h2⟩ := h
  refine ⟨h1, ?_⟩
  rcases h2 with h2 | ⟨g, cap, cur, hv, hb, hg, r⟩
  · exact .inl h2
  · have hlt : g < w.heap.size := by
      apply Classical.byContradiction
      intro hn
      rw [Array.getElem?_eq_none (by omega)] at hg
      cases hg
    exact .inr ⟨g, cap, cur, hv, hb, (hk g hb hlt).trans hg, r⟩
theorem rowLow {w : World} {B B' size n : Nat} {e : TypeId} {v : Value} {xs : List Value} (h : w.ownsRow B e size v n xs) (hb : B' ≤ B) : w.ownsRow B' e size v n xs := by
  obtain ⟨h1, h2⟩ := h
  refine ⟨h1, ?_⟩
  rcases h2 with h2 | ⟨g, cap, cur, hv, hb', r⟩
  · exact .inl h2
  · exact .inr ⟨g, cap, cur, hv, Nat.le_trans hb hb', r⟩
def MU (w : World) (B : Nat) (s : Option Addr) (c : Nat) (m : List (List WD)) : Prop := ∃ S, OM w B (.slice s m.length c) S m
theorem MU.kept {w w' : World} {B c : Nat} {s : Option Addr} {m : List (List WD)} (h : MU w B s c m) (hk : ∀ b, B ≤ b → b < w.heap.size → w'.heap[b]? = w.heap[b]?) (hs : w.heap.size ≤ w'.heap.size) : MU w' B s c m := by
  obtain ⟨S, h⟩ := h
  exact ⟨S, h.n, rowKept h.row hk, fun i r l h1 h2 => ((h.r i r l h1 h2).keep (fun b b1 b2 => hk b b1 b2)).mono (Nat.le_refl _) hs, h.d, h.sep⟩
theorem MU.below {w w' : World} {B c : Nat} {s : Option Addr} {m : List (List WD)} (h : MU w B s c m) (hb : Below w.heap.size w w') : MU w' B s c m := h.kept (fun b _ hlt => hb.block b hlt) hb.size
theorem MU.low {w : World} {B B' c : Nat} {s : Option Addr} {m : List (List WD)} (h : MU w B s c m) (hb : B' ≤ B) : MU w B' s c m := by
  obtain ⟨S, h⟩ := h
  exact ⟨S, h.n, rowLow h.row hb, fun i r l h1 h2 => (h.r i r l h1 h2).mono hb (Nat.le_refl _), h.d, h.sep⟩
theorem MU.mem {w : World} {B c : Nat} {s : Option Addr} {m : List (List WD)} (h : MU w B s c m) : MemR w B w.heap.size s m := by
  obtain ⟨S, h⟩ := h
  obtain ⟨s', c', e, hm⟩ := h.mo
  injection e with e1
  subst e1
  exact hm.mem

end Go.Proofs.Ytlhhdkemmhlloaa
