/- laws.toStep hands its Step on, field by field, in new memory. No condition. Lists of steps as they lie in memory, and how the laws copy them. Conditions: lists of at most 1048576 steps. Machines as they lie in memory: rows of code, of cores, a memory, notes; how great they are. No condition. -/
import Derived.Test.YtplncjlcejaabaaJLists
import Derived.Test.YtplncjlcejaabaaJInsLists
import Derived.Test.YtplncjlcejaabaaJIntRows
import Derived.Laws.MakeOwn
import Derived.Deep.QuietTactic
import Derived.BigQuiet
import Derived.Test.YtplncjlcejaabaaJProgLists
import Derived.Test.YtplncjlcejaabaaJA2
namespace Go.Proofs.Ytplncjlcejaabaa
section
set_option linter.unusedSimpArgs false
set_option linter.unusedVariables false
set_option maxRecDepth 100000
open Go.RowKit
theorem toStep_any (o r a b n : Int) (w : World) : Calls Try.prog 84 #[.agg #[.int .i64 o, .int .i64 r, .int .i64 a, .int .i64 b, .int .i64 n]] w fun e w' => e = .returned (.agg #[.int .i64 o, .int .i64 r, .int .i64 a, .int .i64 b, .int .i64 n]) ∧ Below w.heap.size w w' := by
 go_enter Try.func84, Try.ntmps84
 go_wp2
 exact bodyPost_ret (v := .agg #[.int .i64 o, .int .i64 r, .int .i64 a, .int .i64 b, .int .i64 n]) (by simp [results, Try.results84, go_sem]) rfl ⟨rfl, (((Below.refl _ _).alloc (Nat.le_refl _) _).alloc (by simp) _).alloc (by simp; omega) _⟩
end
section
set_option linter.unusedSimpArgs false
set_option linter.unusedVariables false
set_option maxRecDepth 100000
open Go.RowKit
theorem mk25x36 (n : Nat) (hn : n ≤ 1048576) (w : World) : (Instr.makeSlice 114 (.int .i64 (n : Int)) (.int .i64 (n : Int))).run Try.prog w = .ok (.slice (some ⟨w.heap.size, 0, none⟩) n n) (w.alloc (.cells (madeCells #[.int .i64 0, .int .i64 0, .int .i64 0, .int .i64 0, .int .i64 0] (n * 5)) 151)) := by
 have h := run_make (P := Try.prog) w 114 151 _ (.agg #[.int .i64 0, .int .i64 0, .int .i64 0, .int .i64 0, .int .i64 0]) Try.underlying114 rfl rfl .i64 .i64 n n (by omega) (Int.le_refl _) (by show (40 : Int) * _ ≤ _; omega) (by omega)
 have e : (Value.agg #[.int .i64 0, .int .i64 0, .int .i64 0, .int .i64 0, .int .i64 0]).cells = #[.int .i64 0, .int .i64 0, .int .i64 0, .int .i64 0, .int .i64 0] := rfl
 have e' : ∀ t, Try.prog.info? 151 = some t → t.size = 5 := by intro t h; cases h; rfl
 rw [e, e' _ rfl] at h
 simpa using h
set_option maxHeartbeats 400000 in
theorem toStepS_none (s : Option Addr) (c : Nat) (w : World) :
  Calls Try.prog 59 #[.slice s 0 c] w fun e w' => e = .returned (.slice (some ⟨w.heap.size, 0, none⟩) 0 0) ∧ Below w.heap.size w w' ∧ w.heap.size < w'.heap.size := by
 have hmk := mk25x36 0 (by omega)
 simp only [Int.natCast_zero] at hmk
 go_enter Try.func59, Try.ntmps59
 go_wp2
 clear hmk
 go_loopw [4] (fun i wr => i = .int .i64 0 ∧ Below w.heap.size w wr ∧ w.heap.size < wr.heap.size) (fun _ _ => 0)
 case atStart => exact ⟨rfl, (Below.refl _ _).alloc (Nat.le_refl _) _, by simp⟩
 case round =>
  obtain ⟨rfl, hb, hsz⟩ := hrel
  go_wp2
  go_ret
  exact ⟨rfl, hb, hsz⟩
end
section
set_option linter.unusedSimpArgs false
set_option linter.unusedVariables false
set_option maxRecDepth 100000
open Go.RowKit
def CR (w : World) (lo hi g off : Nat) (l : List I5) : Prop := ∃ s c, w.cell? ⟨g, off, none⟩ = some (.slice s l.length c) ∧ InsR w lo hi s l
def CsR (w : World) (lo hi : Nat) (s : Option Addr) (l : List (List I5)) : Prop :=
 l = [] ∨ ∃ g off, s = some ⟨g, off, none⟩ ∧ lo ≤ g ∧ g < hi ∧ ∀ (i : Nat) (x : List I5), l[i]? = some x → CR w lo hi g (off + i) x
structure KD where
 pc : Int
 regs : List Int
 vw : List Int
 st : Int
def KR (w : World) (lo hi g off : Nat) (k : KD) : Prop :=
 ∃ s c s' c', w.cell? ⟨g, off, none⟩ = some (.int .i64 k.pc) ∧ w.cell? ⟨g, off + 1, none⟩ = some (.slice s k.regs.length c) ∧ w.cell? ⟨g, off + 2, none⟩ = some (.slice s' k.vw.length c') ∧ w.cell? ⟨g, off + 3, none⟩ = some (.int .i64 k.st) ∧ IntsR w lo hi s k.regs ∧ IntsR w lo hi s' k.vw
def KsR (w : World) (lo hi : Nat) (s : Option Addr) (l : List KD) : Prop :=
 l = [] ∨ ∃ g off, s = some ⟨g, off, none⟩ ∧ lo ≤ g ∧ g < hi ∧ ∀ (i : Nat) (k : KD), l[i]? = some k → KR w lo hi g (off + i * 4) k
structure MD where
 codes : List (List I5)
 cores : List KD
 mem : List (List WD)
 tr : List ND
def MaR (w : World) (lo hi : Nat) (s1 s2 s3 s4 : Option Addr) (d : MD) : Prop := CsR w lo hi s1 d.codes ∧ KsR w lo hi s2 d.cores ∧ MemR w lo hi s3 d.mem ∧ NtsR w lo hi s4 d.tr
theorem CR.keep {w w' : World} {lo hi g off : Nat} {l : List I5} (h : CR w lo hi g off l) (hb : Keep lo hi w w') (hc : ∀ j, w'.cell? ⟨g, j, none⟩ = w.cell? ⟨g, j, none⟩) : CR w' lo hi g off l := by
 obtain ⟨s, c, h1, h2⟩ := h
 exact ⟨s, c, (hc _).trans h1, h2.keep hb⟩
theorem KR.keep {w w' : World} {lo hi g off : Nat} {k : KD} (h : KR w lo hi g off k) (hb : Keep lo hi w w') (hc : ∀ j, w'.cell? ⟨g, j, none⟩ = w.cell? ⟨g, j, none⟩) : KR w' lo hi g off k := by
 obtain ⟨s, c, s', c', h1, h2, h3, h4, h5, h6⟩ := h
 exact ⟨s, c, s', c', (hc _).trans h1, (hc _).trans h2, (hc _).trans h3, (hc _).trans h4, h5.keep hb, h6.keep hb⟩
theorem CsR.keep {w w' : World} {lo hi : Nat} {s : Option Addr} {l : List (List I5)} (h : CsR w lo hi s l) (hb : Keep lo hi w w') : CsR w' lo hi s l := by
 rcases h with h | ⟨g, o, hs, h1, h2, hc⟩
 ·exact .inl h
 ·exact .inr ⟨g, o, hs, h1, h2, fun i r hi => (hc i r hi).keep hb (fun j => hb.cell h1 h2)⟩
theorem KsR.keep {w w' : World} {lo hi : Nat} {s : Option Addr} {l : List (KD)} (h : KsR w lo hi s l) (hb : Keep lo hi w w') : KsR w' lo hi s l := by
 rcases h with h | ⟨g, o, hs, h1, h2, hc⟩
 ·exact .inl h
 ·exact .inr ⟨g, o, hs, h1, h2, fun i r hi => (hc i r hi).keep hb (fun j => hb.cell h1 h2)⟩
theorem CsR.at {w : World} {lo hi : Nat} {s : Option Addr} {l : List (List I5)} (h : CsR w lo hi s l) {i : Nat} {x : List I5} (hi' : l[i]? = some x) : ∃ g off s' c', s = some ⟨g, off, none⟩ ∧ lo ≤ g ∧ g < hi ∧ w.cell? ⟨g, off + i, none⟩ = some (.slice s' x.length c') ∧ InsR w lo hi s' x := by
 rcases h with rfl | ⟨g, o, hs, a, b, hc⟩
 ·simp at hi'
 ·obtain ⟨s', c', e1, e2⟩ := hc i x hi'
  exact ⟨g, o, s', c', hs, a, b, e1, e2⟩
theorem KsR.at {w : World} {lo hi : Nat} {s : Option Addr} {l : List KD} (h : KsR w lo hi s l) {i : Nat} {x : KD} (hi' : l[i]? = some x) : ∃ g off s1 c1 s2 c2, s = some ⟨g, off, none⟩ ∧ lo ≤ g ∧ g < hi ∧ w.cell? ⟨g, off + i * 4, none⟩ = some (.int .i64 x.pc) ∧ w.cell? ⟨g, off + i * 4 + 1, none⟩ = some (.slice s1 x.regs.length c1) ∧ w.cell? ⟨g, off + i * 4 + 2, none⟩ = some (.slice s2 x.vw.length c2) ∧ w.cell? ⟨g, off + i * 4 + 3, none⟩ = some (.int .i64 x.st) ∧ IntsR w lo hi s1 x.regs ∧ IntsR w lo hi s2 x.vw := by
 rcases h with rfl | ⟨g, o, hs, a, b, hc⟩
 ·simp at hi'
 ·obtain ⟨s', c', s2, c2, e⟩ := hc i x hi'
  exact ⟨g, o, s', c', s2, c2, hs, a, b, e⟩
theorem MaR.keep {w w' : World} {lo hi : Nat} {s1 s2 s3 s4 : Option Addr} {d : MD} (h : MaR w lo hi s1 s2 s3 s4 d) (hb : Keep lo hi w w') : MaR w' lo hi s1 s2 s3 s4 d := ⟨h.1.keep hb, h.2.1.keep hb, h.2.2.1.keep hb, h.2.2.2.keep hb⟩
/- how great they are -/
def szC : List (List I5) → Nat
 | [] => 0
 | x :: r => x.length + szC r
def szK : List KD → Nat
 | [] => 0
 | x :: r => x.regs.length + x.vw.length + szK r
theorem szC_take : ∀ (l : List (List I5)) (k : Nat) (x : List I5), l[k]? = some x → szC (l.take (k + 1)) = szC (l.take k) + x.length
 | [], k, x, h => by simp at h
 | y :: r, 0, x, h => by simp at h; subst h; simp [szC]
 | y :: r, k + 1, x, h => by
  have := szC_take r k x (by simpa using h)
  simp [szC, this]
  omega
theorem szK_take : ∀ (l : List KD) (k : Nat) (x : KD), l[k]? = some x → szK (l.take (k + 1)) = szK (l.take k) + (x.regs.length + x.vw.length)
 | [], k, x, h => by simp at h
 | y :: r, 0, x, h => by simp at h; subst h; simp [szK]
 | y :: r, k + 1, x, h => by
  have := szK_take r k x (by simpa using h)
  simp [szK, this]
  omega
theorem szC_at : ∀ (l : List (List I5)) (k : Nat) (x : List I5), l[k]? = some x → x.length ≤ szC l
 | [], k, x, h => by simp at h
 | y :: r, 0, x, h => by simp at h; subst h; simp [szC]
 | y :: r, k + 1, x, h => by
  have := szC_at r k x (by simpa using h)
  simp [szC]
  omega
theorem szK_at : ∀ (l : List KD) (k : Nat) (x : KD), l[k]? = some x → x.regs.length + x.vw.length ≤ szK l
 | [], k, x, h => by simp at h
 | y :: r, 0, x, h => by simp at h; subst h; simp [szK]
 | y :: r, k + 1, x, h => by
  have := szK_at r k x (by simpa using h)
  simp [szK]
  omega
structure MaLens (d : MD) : Prop where
 cn : d.codes.length ≤ maxLen
 c : ∀ (i : Nat) (x : List I5), d.codes[i]? = some x → x.length ≤ maxLen
 kn : d.cores.length ≤ maxLen
 k : ∀ (i : Nat) (x : KD), d.cores[i]? = some x → x.regs.length ≤ maxLen ∧ x.vw.length ≤ maxLen
 m : MLens d.mem
 t : d.tr.length ≤ maxLen
structure MaFits (d : MD) : Prop where
 c : d.codes.length + szC d.codes ≤ 1048576
 k : d.cores.length + szK d.cores ≤ 1048576
 m : d.mem.length + szR d.mem ≤ 2000000
 t : d.tr.length ≤ 2000000
def MaSz (d : MD) : Nat := d.codes.length + szC d.codes + (d.cores.length + szK d.cores) + (d.mem.length + szR d.mem) + d.tr.length
theorem MaFits.of {d : MD} (h : MaSz d ≤ 1048576) : MaFits d := by
 unfold MaSz at h
 exact ⟨by omega, by omega, by omega, by omega⟩
end
end Go.Proofs.Ytplncjlcejaabaa
