/- Small facts on boxed structs, method tables and comparisons of the program; no condition. laws.toIns hands its Ins on, field by field, in new memory. No condition. Lists of places as they lie in memory, and how the laws copy them. Conditions: lists of at most 1048576 places. Lists of integers, of places and of bodies as they lie in memory between two blocks, and how the laws copy them into new memory. Conditions: each list of at most 1048576. How the laws copy a program into new memory, and count how great it is. Conditions: each list of at most 1048576 where it is copied. -/
import Derived.Test.YtknffngbdakblaaJG00
import Derived.Test.YtknffngbdakblaaChecked
import Derived.WalkKit
import Derived.KernelRfl
import Derived.WalkSpells
import Derived.WalkLawsBesides
import Derived.Test.YtknffngbdakblaaJG01
import Derived.Laws.MakeOwn
import Derived.Deep.QuietTactic
import Derived.BigQuiet
namespace Go.Proofs.Ytknffngbdakblaa
section
set_option linter.unusedSimpArgs false
set_option linter.unusedVariables false
set_option maxRecDepth 100000
open Go.RowKit
end
section
set_option linter.unusedSimpArgs false
set_option linter.unusedVariables false
set_option maxRecDepth 100000
open Go.RowKit
end
section
set_option linter.unusedSimpArgs false
set_option linter.unusedVariables false
set_option maxRecDepth 100000
open Go.RowKit
structure I5 where
 o : Int
 r : Int
 a : Int
 b : Int
 n : Int
def z5 : I5 := ⟨0, 0, 0, 0, 0⟩
def At5 (w : World) (g off : Nat) (x : I5) : Prop :=
 w.cell? ⟨g, off, none⟩ = some (.int .i64 x.o) ∧ w.cell? ⟨g, off + 1, none⟩ = some (.int .i64 x.r) ∧ w.cell? ⟨g, off + 2, none⟩ = some (.int .i64 x.a) ∧ w.cell? ⟨g, off + 3, none⟩ = some (.int .i64 x.b) ∧ w.cell? ⟨g, off + 4, none⟩ = some (.int .i64 x.n)
theorem At5.keep {w w' : World} {B g off : Nat} {x : I5} (h : At5 w g off x) (hb : Below B w w') (hg : g < B) : At5 w' g off x :=
 ⟨(hb.cell hg).trans h.1, (hb.cell hg).trans h.2.1, (hb.cell hg).trans h.2.2.1, (hb.cell hg).trans h.2.2.2.1, (hb.cell hg).trans h.2.2.2.2⟩
/- a list of places below block B -/
def InsB (w : World) (B : Nat) (s : Option Addr) (l : List I5) : Prop :=
 l = [] ∨ ∃ g off, s = some ⟨g, off, none⟩ ∧ g < B ∧ ∀ i, i < l.length → At5 w g (off + i * 5) (l.getD i z5)
end
section
set_option linter.unusedSimpArgs false
set_option linter.unusedVariables false
set_option maxRecDepth 100000
open Go.RowKit
def InsR (w : World) (lo hi : Nat) (s : Option Addr) (l : List I5) : Prop :=
 l = [] ∨ ∃ g off, s = some ⟨g, off, none⟩ ∧ lo ≤ g ∧ g < hi ∧ ∀ i, i < l.length → At5 w g (off + i * 5) (l.getD i z5)
def BodR (w : World) (lo hi g off : Nat) (l : List I5) : Prop := ∃ s c, w.cell? ⟨g, off, none⟩ = some (.slice s l.length c) ∧ InsR w lo hi s l
def BodsR (w : World) (lo hi : Nat) (s : Option Addr) (l : List (List I5)) : Prop :=
 l = [] ∨ ∃ g off, s = some ⟨g, off, none⟩ ∧ lo ≤ g ∧ g < hi ∧ ∀ i, i < l.length → BodR w lo hi g (off + i) (l.getD i [])
theorem At5.of_keep {w w' : World} {lo hi g off : Nat} {x : I5} (h : At5 w g off x) (hb : Keep lo hi w w') (h1 : lo ≤ g) (h2 : g < hi) : At5 w' g off x :=
 ⟨(hb.cell h1 h2).trans h.1, (hb.cell h1 h2).trans h.2.1, (hb.cell h1 h2).trans h.2.2.1, (hb.cell h1 h2).trans h.2.2.2.1, (hb.cell h1 h2).trans h.2.2.2.2⟩
theorem InsR.keep {w w' : World} {lo hi : Nat} {s : Option Addr} {l : List I5} (h : InsR w lo hi s l) (hb : Keep lo hi w w') : InsR w' lo hi s l := by
 rcases h with h | ⟨g, o, hs, h1, h2, hc⟩
 ·exact .inl h
 ·exact .inr ⟨g, o, hs, h1, h2, fun i hi => (hc i hi).of_keep hb h1 h2⟩
theorem BodR.keep {w w' : World} {lo hi g off : Nat} {l : List I5} (h : BodR w lo hi g off l) (hb : Keep lo hi w w') (hc : w'.cell? ⟨g, off, none⟩ = w.cell? ⟨g, off, none⟩) : BodR w' lo hi g off l := by
 obtain ⟨s, c, h1, h2⟩ := h
 exact ⟨s, c, hc.trans h1, h2.keep hb⟩
theorem BodsR.keep {w w' : World} {lo hi : Nat} {s : Option Addr} {l : List (List I5)} (h : BodsR w lo hi s l) (hb : Keep lo hi w w') : BodsR w' lo hi s l := by
 rcases h with h | ⟨g, o, hs, h1, h2, hc⟩
 ·exact .inl h
 ·exact .inr ⟨g, o, hs, h1, h2, fun i hi => (hc i hi).keep hb (hb.cell h1 h2)⟩
theorem InsR.mono {w : World} {lo hi lo' hi' : Nat} {s : Option Addr} {l : List I5} (h : InsR w lo hi s l) (h1 : lo' ≤ lo) (h2 : hi ≤ hi') : InsR w lo' hi' s l := by
 rcases h with h | ⟨g, o, hs, a, b, hc⟩
 ·exact .inl h
 ·exact .inr ⟨g, o, hs, by omega, by omega, hc⟩
theorem BodR.mono {w : World} {lo hi lo' hi' g off : Nat} {l : List I5} (h : BodR w lo hi g off l) (h1 : lo' ≤ lo) (h2 : hi ≤ hi') : BodR w lo' hi' g off l := by
 obtain ⟨s, c, a, b⟩ := h
 exact ⟨s, c, a, b.mono h1 h2⟩
theorem BodsR.mono {w : World} {lo hi lo' hi' : Nat} {s : Option Addr} {l : List (List I5)} (h : BodsR w lo hi s l) (h1 : lo' ≤ lo) (h2 : hi ≤ hi') : BodsR w lo' hi' s l := by
 rcases h with h | ⟨g, o, hs, a, b, hc⟩
 ·exact .inl h
 ·exact .inr ⟨g, o, hs, by omega, by omega, fun i hi => (hc i hi).mono h1 h2⟩
theorem InsR.insB {w : World} {lo hi : Nat} {s : Option Addr} {l : List I5} (h : InsR w lo hi s l) : InsB w hi s l := by
 rcases h with h | ⟨g, o, hs, a, b, hc⟩
 ·exact .inl h
 ·exact .inr ⟨g, o, hs, b, hc⟩
end
section
set_option linter.unusedSimpArgs false
set_option linter.unusedVariables false
set_option maxRecDepth 100000
open Go.RowKit
structure PD where
 caps : List Int
 bods : List (List I5)
def ProgR (w : World) (lo hi : Nat) (s s' : Option Addr) (p : PD) : Prop := IntsR w lo hi s p.caps ∧ BodsR w lo hi s' p.bods
def Fits (p : PD) : Prop := p.caps.length ≤ 1048576 ∧ p.bods.length ≤ 1048576 ∧ ∀ i, i < p.bods.length → (p.bods.getD i []).length ≤ 1048576
theorem ProgR.keep' {w w' : World} {lo hi : Nat} {s s' : Option Addr} {p : PD} (h : ProgR w lo hi s s' p) (hb : Keep lo hi w w') : ProgR w' lo hi s s' p := ⟨h.1.keep hb, h.2.keep hb⟩
end
end Go.Proofs.Ytknffngbdakblaa
