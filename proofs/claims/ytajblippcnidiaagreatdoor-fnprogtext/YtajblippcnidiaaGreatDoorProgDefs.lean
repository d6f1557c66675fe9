/- Programs as they lie in memory. No condition. -/
import Derived.Test.YtajblippcnidiaaGreatDoorInsDefs
namespace Go.Proofs.YtajblippcnidiaaGreatDoor
set_option linter.unusedSimpArgs false
set_option linter.unusedVariables false
set_option maxRecDepth 100000
open Go.RowKit

def Keep (lo hi : Nat) (w w' : World) : Prop := ∀ k, lo ≤ k → k < hi → w'.heap[k]? = w.heap[k]?
theorem Keep.of_below {lo hi B : Nat} {w w' : World} (hb : Below B w w') (h : hi ≤ B) : Keep lo hi w w' := fun k _ hk => hb.block k (by omega)
theorem Keep.of_set {lo hi : Nat} {w : World} {a : Addr} {v : Value} (h : a.block < lo) : Keep lo hi w (w.setCell a v) := fun k hk _ => Below.heap_setCell w a v k (by omega)
theorem Keep.trans {lo hi : Nat} {w w1 w2 : World} (h : Keep lo hi w w1) (h' : Keep lo hi w1 w2) : Keep lo hi w w2 := fun k a b => (h' k a b).trans (h k a b)
theorem Keep.cell {lo hi : Nat} {w w' : World} (h : Keep lo hi w w') {p : Addr} (h1 : lo ≤ p.block) (h2 : p.block < hi) : w'.cell? p = w.cell? p := World.cell?_of_block (w := w) (h p.block h1 h2)

def IntsR (w : World) (lo hi : Nat) (s : Option Addr) (l : List Int) : Prop :=
  l = [] ∨ ∃ g off, s = some ⟨g, off, none⟩ ∧ lo ≤ g ∧ g < hi ∧ ∀ i, i < l.length → w.cell? ⟨g, off + i, none⟩ = some (.int .i64 (l.getD i 0))
def InsR (w : World) (lo hi : Nat) (s : Option Addr) (l : List I5) : Prop :=
  l = [] ∨ ∃ g off, s = some ⟨g, off, none⟩ ∧ lo ≤ g ∧ g < hi ∧ ∀ i, i < l.length → At5 w g (off + i * 5) (l.getD i z5)
def BodR (w : World) (lo hi g off : Nat) (l : List I5) : Prop := ∃ s c, w.cell? ⟨g, off, none⟩ = some (.slice s l.length c) ∧ InsR w lo hi s l
def BodsR (w : World) (lo hi : Nat) (s : Option Addr) (l : List (List I5)) : Prop :=
  l = [] ∨ ∃ g off, s = some ⟨g, off, none⟩ ∧ lo ≤ g ∧ g < hi ∧ ∀ i, i < l.length → BodR w lo hi g (off + i) (l.getD i [])

theorem At5.of_keep {w w' : World} {lo hi g off : Nat} {x : I5} (h : At5 w g off x) (hb : Keep lo hi w w') (h1 : lo ≤ g) (h2 : g < hi) : At5 w' g off x :=
  ⟨(hb.cell h1 h2).trans h.1, (hb.cell h1 h2).trans h.2.1, (hb.cell h1 h2).trans h.2.2.1, (hb.cell h1 h2).trans h.2.2.2.1, (hb.cell h1 h2).trans h.2.2.2.2⟩
theorem IntsR.keep {w w' : World} {lo hi : Nat} {s : Option Addr} {l : List Int} (h : IntsR w lo hi s l) (hb : Keep lo hi w w') : IntsR w' lo hi s l := by
  rcases h with h | ⟨g, o, hs, h1, h2, hc⟩
  · exact .inl h
  · exact .inr ⟨g, o, hs, h1, h2, fun i hi => (hb.cell h1 h2).trans (hc i hi)⟩
theorem InsR.keep {w w' : World} {lo hi : Nat} {s : Option Addr} {l : List I5} (h : InsR w lo hi s l) (hb : Keep lo hi w w') : InsR w' lo hi s l := by
  rcases h with h | ⟨g, o, hs, h1, h2, hc⟩
  · exact .inl h
  · exact .inr ⟨g, o, hs, h1, h2, fun i hi => (hc i hi).of_keep hb h1 h2⟩
theorem BodR.keep {w w' : World} {lo hi g off : Nat} {l : List I5} (h : BodR w lo hi g off l) (hb : Keep lo hi w w') (hc : w'.cell? ⟨g, off, none⟩ = w.cell? ⟨g, off, none⟩) : BodR w' lo hi g off l := by
  obtain ⟨s, c, h1, h2⟩ := h
  exact ⟨s, c, hc.trans h1, h2.keep hb⟩
theorem BodsR.keep {w w' : World} {lo hi : Nat} {s : Option Addr} {l : List (List I5)} (h : BodsR w lo hi s l) (hb : Keep lo hi w w') : BodsR w' lo hi s l := by
  rcases h with h | ⟨g, o, hs, h1, h2, hc⟩
  · exact .inl h
  · exact .inr ⟨g, o, hs, h1, h2, fun i hi => (hc i hi).keep hb (hb.cell h1 h2)⟩
theorem InsR.mono {w : World} {lo hi lo' hi' : Nat} {s : Option Addr} {l : List I5} (h : InsR w lo hi s l) (h1 : lo' ≤ lo) (h2 : hi ≤ hi') : InsR w lo' hi' s l := by
  rcases h with h | ⟨g, o, hs, a, b, hc⟩
  · exact .inl h
  · exact .inr ⟨g, o, hs, by omega, by omega, hc⟩
theorem IntsR.mono {w : World} {lo hi lo' hi' : Nat} {s : Option Addr} {l : List Int} (h : IntsR w lo hi s l) (h1 : lo' ≤ lo) (h2 : hi ≤ hi') : IntsR w lo' hi' s l := by
  rcases h with h | ⟨g, o, hs, a, b, hc⟩
  · exact .inl h
  · exact .inr ⟨g, o, hs, by omega, by omega, hc⟩
theorem BodR.mono {w : World} {lo hi lo' hi' g off : Nat} {l : List I5} (h : BodR w lo hi g off l) (h1 : lo' ≤ lo) (h2 : hi ≤ hi') : BodR w lo' hi' g off l := by
  obtain ⟨s, c, a, b⟩ := h
  exact ⟨s, c, a, b.mono h1 h2⟩
theorem BodsR.mono {w : World} {lo hi lo' hi' : Nat} {s : Option Addr} {l : List (List I5)} (h : BodsR w lo hi s l) (h1 : lo' ≤ lo) (h2 : hi ≤ hi') : BodsR w lo' hi' s l := by
  rcases h with h | ⟨g, o, hs, a, b, hc⟩
  · exact .inl h
  · exact .inr ⟨g, o, hs, by omega, by omega, fun i hi => (hc i hi).mono h1 h2⟩
theorem InsR.insB {w : World} {lo hi : Nat} {s : Option Addr} {l : List I5} (h : InsR w lo hi s l) : InsB w hi s l := by
  rcases h with h | ⟨g, o, hs, a, b, hc⟩
  · exact .inl h
  · exact .inr ⟨g, o, hs, b, hc⟩
structure PD where
  caps : List Int
  bods : List (List I5)

def ProgR (w : World) (lo hi : Nat) (s s' : Option Addr) (p : PD) : Prop := IntsR w lo hi s p.caps ∧ BodsR w lo hi s' p.bods
def Fits (p : PD) : Prop := p.caps.length ≤ 1048576 ∧ p.bods.length ≤ 1048576 ∧ ∀ i, i < p.bods.length → (p.bods.getD i []).length ≤ 1048576


end Go.Proofs.YtajblippcnidiaaGreatDoor
