/- Lists of integers, of places and of bodies as they lie in memory between two blocks, and how the laws copy them into new memory. Conditions: each list of at most 1048576. -/
import Derived.Test.YtplncjlcejaabaaJIntRows
import Derived.Test.YtplncjlcejaabaaJInsLists
import Derived.Test.YtplncjlcejaabaaJLists
import Derived.Laws.MakeOwn
namespace Go.Proofs.Ytplncjlcejaabaa
set_option linter.unusedSimpArgs false
set_option linter.unusedVariables false
set_option maxRecDepth 100000
open Go.RowKit
def InsR (w : World) (lo hi : Nat) (s : Option Addr) (l : List I5) : Prop :=
 l = [] ∨ ∃ g off, s = some ⟨g, off, none⟩ ∧ lo ≤ g ∧ g < hi ∧ ∀ i, i < l.length → At5 w g (off + i * 5) (l.getD i z5)
def BodR (w : World) (lo hi g off : Nat) (l : List I5) : Prop := ∃ s c, w.cell? ⟨g, off, none⟩ = some (.slice s l.length c) ∧ InsR w lo hi s l
def BodsR (w : World) (lo hi : Nat) (s : Option Addr) (l : List (List I5)) : Prop :=
 l = [] ∨ ∃ g off, s = some ⟨g, off, none⟩ ∧ lo ≤ g ∧ g < hi ∧ ∀ i, i < l.length → BodR w lo hi g (off + i) (l.getD i [])
theorem At5.of_keep {w w' : World} {lo hi g off : Nat} {x : I5} (h : At5 w g off x) (hb : Keep lo hi w w') (h1 : lo ≤ g) (h2 : g < hi) : At5 w' g off x :=
 ⟨(hb.cell h1 h2).trans h.1, (hb.cell h1 h2).trans h.2.1, (hb.cell h1 h2).trans h.2.2.1, (hb.cell h1 h2).trans h.2.2.2.1, (hb.cell h1 h2).trans h.2.2.2.2⟩
theorem InsR.keep {w w' : World} {lo hi : Nat} {s : Option Addr} {l : List I5} (h : InsR w lo hi s l) (hb : Keep lo hi w w') : InsR w' lo hi s l := by
 rcases h with h | ⟨g, o, hs, h1, h2, hc⟩
 ·exact .inl h
 ·exact .inr ⟨g, o, hs, h1, h2, fun i hi => (hc i hi).of_keep hb h1 h2⟩
theorem BodR.keep {w w' : World} {lo hi g off : Nat} {l : List I5} (h : BodR w lo hi g off l) (hb : Keep lo hi w w') (hc : w'.cell? ⟨g, off, none⟩ = w.cell? ⟨g, off, none⟩) : BodR w' lo hi g off l := by
 obtain ⟨s, c, h1, h2⟩ := h
 exact ⟨s, c, hc.trans h1, h2.keep hb⟩
theorem BodsR.keep {w w' : World} {lo hi : Nat} {s : Option Addr} {l : List (List I5)} (h : BodsR w lo hi s l) (hb : Keep lo hi w w') : BodsR w' lo hi s l := by
 rcases h with h | ⟨g, o, hs, h1, h2, hc⟩
 ·exact .inl h
 ·exact .inr ⟨g, o, hs, h1, h2, fun i hi => (hc i hi).keep hb (hb.cell h1 h2)⟩
theorem InsR.mono {w : World} {lo hi lo' hi' : Nat} {s : Option Addr} {l : List I5} (h : InsR w lo hi s l) (h1 : lo' ≤ lo) (h2 : hi ≤ hi') : InsR w lo' hi' s l := by
 rcases h with h | ⟨g, o, hs, a, b, hc⟩
 ·exact .inl h
 ·exact .inr ⟨g, o, hs, by omega, by omega, hc⟩
theorem BodR.mono {w : World} {lo hi lo' hi' g off : Nat} {l : List I5} (h : BodR w lo hi g off l) (h1 : lo' ≤ lo) (h2 : hi ≤ hi') : BodR w lo' hi' g off l := by
 obtain ⟨s, c, a, b⟩ := h
 exact ⟨s, c, a, b.mono h1 h2⟩
theorem BodsR.mono {w : World} {lo hi lo' hi' : Nat} {s : Option Addr} {l : List (List I5)} (h : BodsR w lo hi s l) (h1 : lo' ≤ lo) (h2 : hi ≤ hi') : BodsR w lo' hi' s l := by
 rcases h with h | ⟨g, o, hs, a, b, hc⟩
 ·exact .inl h
 ·exact .inr ⟨g, o, hs, by omega, by omega, fun i hi => (hc i hi).mono h1 h2⟩
theorem InsR.insB {w : World} {lo hi : Nat} {s : Option Addr} {l : List I5} (h : InsR w lo hi s l) : InsB w hi s l := by
 rcases h with h | ⟨g, o, hs, a, b, hc⟩
 ·exact .inl h
 ·exact .inr ⟨g, o, hs, b, hc⟩
theorem toInsS_new (s : Option Addr) (c lo hi : Nat) (l : List I5) (w : World) (h : InsR w lo hi s l) (hB : hi ≤ w.heap.size) (hl : l.length ≤ 1048576) :
  Calls Try.prog 58 #[.slice s l.length c] w fun e w' => ∃ s' : Option Addr, e = .returned (.slice s' l.length l.length) ∧ Below w.heap.size w w' ∧ w.heap.size < w'.heap.size ∧ InsR w' w.heap.size w'.heap.size s' l := by
 rcases h with rfl | ⟨g, off, rfl, hg, hg', hc⟩
 ·refine (toInsS_none s c w).mono ?_
  rintro e w' ⟨rfl, hb, hsz⟩
  exact ⟨_, rfl, hb, hsz, .inl rfl⟩
 ·refine (toInsS_some g off c l w (by omega) hl hc).mono ?_
  rintro e w' ⟨rfl, hb, hsz, hc'⟩
  exact ⟨_, rfl, hb, hsz, .inr ⟨_, _, rfl, Nat.le_refl _, hsz, hc'⟩⟩
theorem mkSS (n : Nat) (hn : n ≤ 1048576) (w : World) : (Instr.makeSlice 42 (.int .i64 (n : Int)) (.int .i64 (n : Int))).run Try.prog w = .ok (.slice (some ⟨w.heap.size, 0, none⟩) n n) (w.alloc (.cells (madeCells #[.slice none 0 0] (n * 1)) 112)) := by
 have h := run_make (P := Try.prog) w 42 112 _ (.slice none 0 0) Try.underlying42 rfl rfl .i64 .i64 n n (by omega) (Int.le_refl _) (by show (24 : Int) * _ ≤ _; omega) (by omega)
 have e : (Value.slice none 0 0).cells = #[.slice none 0 0] := rfl
 have e' : ∀ t, Try.prog.info? 112 = some t → t.size = 1 := by intro t h; cases h; rfl
 rw [e, e' _ rfl] at h
 simpa using h
end Go.Proofs.Ytplncjlcejaabaa
