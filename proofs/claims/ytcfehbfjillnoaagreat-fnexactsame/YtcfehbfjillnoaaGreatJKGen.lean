/- Rows of records, each of integers and of rows of integers, as they lie in memory with the places of their integers; how marks go over them. No condition. -/
import Derived.Test.YtcfehbfjillnoaaGreatJG00
import Derived.Test.YtcfehbfjillnoaaGreatJG05
import Derived.Test.YtcfehbfjillnoaaGreatJG14
namespace Go.Proofs.YtcfehbfjillnoaaGreat
set_option linter.unusedSimpArgs false
set_option linter.unusedVariables false
set_option maxRecDepth 100000
open Go.RowKit
inductive FS where
 | i
 | r (x : VS) (e : Nat)
inductive FV where
 | i (z : Int)
 | r (l : List Int)
def FS.kind : FS → Option Nat
 | .i => none
 | .r _ e => some e
def VS.wide (x : VS) (e : Nat) : VS := ⟨x.s, x.n * e, x.c⟩
def fAs (a : Addr) : FS → List Addr
 | .i => [a]
 | .r x e => vAs (x.wide e)
def recAs (s : Option Addr) : List FS → Nat → List Addr
 | [], _ => []
 | f :: r, j => fAs (adr s j) f ++ recAs s r (j + 1)
def gAs (s : Option Addr) (wd : Nat) : List (List FS) → Nat → List Addr
 | [], _ => []
 | f :: r, k => recAs s f (k * wd) ++ gAs s wd r (k + 1)
def FO (w : World) (lo hi : Nat) (a : Addr) : FS → FV → Prop
 | .i, .i z => w.cell? a = some (.int .i64 z) ∧ w.frozen? a = false ∧ lo ≤ a.block ∧ a.block < hi
 | .r x e, .r l => w.cell? a = some (.slice x.s x.n x.c) ∧ (lo ≤ a.block ∧ a.block < hi) ∧ VO w lo hi (x.wide e) l
 | _, _ => False
def FSh (w : World) (lo hi : Nat) (a : Addr) : FS → Prop
 | .i => IntC w lo hi a
 | .r x e => w.cell? a = some (.slice x.s x.n x.c) ∧ (lo ≤ a.block ∧ a.block < hi) ∧ (x.n * e = 0 ∨ Somewhere x.s) ∧ ∀ b ∈ vAs (x.wide e), IntC w lo hi b
structure GO (w : World) (lo hi : Nat) (s : Option Addr) (T : List (Option Nat)) (R : List (List FS)) (L : List (List FV)) : Prop where
 n : R.length = L.length
 rok : L = [] ∨ Somewhere s
 t : ∀ (k : Nat) (rec : List FS), R[k]? = some rec → rec.map FS.kind = T
 c : ∀ (k : Nat) (rec : List FS) (vals : List FV), R[k]? = some rec → L[k]? = some vals → rec.length = vals.length ∧ ∀ (j : Nat) (f : FS) (v : FV), rec[j]? = some f → vals[j]? = some v → FO w lo hi (adr s (k * T.length + j)) f v
 o : ∀ rec ∈ R, ∀ x e, FS.r x e ∈ rec → ∀ a ∈ vAs (x.wide e), ∀ g o, s = some ⟨g, o, none⟩ → a.block ≠ g
 d : (gAs s T.length R 0).Nodup
structure GSh (w : World) (lo hi : Nat) (s : Option Addr) (T : List (Option Nat)) (R : List (List FS)) : Prop where
 rok : R = [] ∨ Somewhere s
 t : ∀ (k : Nat) (rec : List FS), R[k]? = some rec → rec.map FS.kind = T
 c : ∀ (k : Nat) (rec : List FS) (j : Nat) (f : FS), R[k]? = some rec → rec[j]? = some f → FSh w lo hi (adr s (k * T.length + j)) f
 d : (gAs s T.length R 0).Nodup
theorem mem_recAs {s : Option Addr} {a : Addr} : ∀ {rec : List FS} {j : Nat}, a ∈ recAs s rec j ↔ ∃ (i : Nat) (f : FS), rec[i]? = some f ∧ a ∈ fAs (adr s (j + i)) f
 | [], j => by simp [recAs]
 | f :: r, j => by
  simp only [recAs, List.mem_append, mem_recAs (rec := r) (j := j + 1)]
  constructor
  ·rintro (h | ⟨i, f', h, e⟩)
   ·exact ⟨0, f, rfl, h⟩
   ·exact ⟨i + 1, f', by simpa using h, by rw [show j + (i + 1) = j + 1 + i by omega]; exact e⟩
  ·rintro ⟨i, f', h, e⟩
   rcases Nat.eq_zero_or_pos i with rfl | hp
   ·simp at h
    subst h
    exact .inl e
   ·obtain ⟨m, rfl⟩ : ∃ m, i = m + 1 := ⟨i - 1, by omega⟩
    exact .inr ⟨m, f', by simpa using h, by rw [show j + 1 + m = j + (m + 1) by omega]; exact e⟩
theorem mem_gAs {s : Option Addr} {wd : Nat} {a : Addr} : ∀ {R : List (List FS)} {k : Nat}, a ∈ gAs s wd R k ↔ ∃ (i : Nat) (rec : List FS) (j : Nat) (f : FS), R[i]? = some rec ∧ rec[j]? = some f ∧ a ∈ fAs (adr s ((k + i) * wd + j)) f
 | [], k => by simp [gAs]
 | r0 :: r, k => by
  simp only [gAs, List.mem_append, mem_gAs (R := r) (k := k + 1), mem_recAs]
  constructor
  ·rintro (⟨j, f, h, e⟩ | ⟨i, rec, j, f, h, h', e⟩)
   ·exact ⟨0, r0, j, f, rfl, h, by simpa using e⟩
   ·exact ⟨i + 1, rec, j, f, by simpa using h, h', by rw [show k + (i + 1) = k + 1 + i by omega]; exact e⟩
  ·rintro ⟨i, rec, j, f, h, h', e⟩
   rcases Nat.eq_zero_or_pos i with rfl | hp
   ·simp at h
    subst h
    exact .inl ⟨j, f, h', by simpa using e⟩
   ·obtain ⟨m, rfl⟩ : ∃ m, i = m + 1 := ⟨i - 1, by omega⟩
    exact .inr ⟨m, rec, j, f, by simpa using h, h', by rw [show k + 1 + m = k + (m + 1) by omega]; exact e⟩
theorem gAs_append (s : Option Addr) (wd : Nat) (b : List (List FS)) : ∀ (a : List (List FS)) (k : Nat), gAs s wd (a ++ b) k = gAs s wd a k ++ gAs s wd b (k + a.length)
 | [], k => by simp [gAs]
 | y :: r, k => by
  have e : k + 1 + r.length = k + (r.length + 1) := by omega
  simp [gAs, gAs_append s wd b r (k + 1), e]
theorem FO.keep {w w' : World} {lo hi : Nat} {a : Addr} {f : FS} {v : FV} (h : FO w lo hi a f v) (hb : Keep lo hi w w') : FO w' lo hi a f v := by
 cases f <;> cases v <;> first | exact h | skip
 ·obtain ⟨h1, h2, h3, h4⟩ := h
  exact ⟨(hb.cell h3 h4).trans h1, (hb.frozen h3 h4).trans h2, h3, h4⟩
 ·obtain ⟨h1, ⟨h3, h4⟩, h2⟩ := h
  exact ⟨(hb.cell h3 h4).trans h1, ⟨h3, h4⟩, h2.keep hb⟩
theorem FO.mono {w : World} {lo hi lo' hi' : Nat} {a : Addr} {f : FS} {v : FV} (h : FO w lo hi a f v) (p : lo' ≤ lo) (q : hi ≤ hi') : FO w lo' hi' a f v := by
 cases f <;> cases v <;> first | exact h | skip
 ·obtain ⟨h1, h2, h3, h4⟩ := h
  exact ⟨h1, h2, by omega, by omega⟩
 ·obtain ⟨h1, ⟨h3, h4⟩, h2⟩ := h
  exact ⟨h1, ⟨by omega, by omega⟩, h2.mono p q⟩
theorem GO.keep {w w' : World} {lo hi : Nat} {s : Option Addr} {T : List (Option Nat)} {R : List (List FS)} {L : List (List FV)} (h : GO w lo hi s T R L) (hb : Keep lo hi w w') : GO w' lo hi s T R L :=
 ⟨h.n, h.rok, h.t, fun k rec vals hr hl => ⟨(h.c k rec vals hr hl).1, fun j f v hf hv => ((h.c k rec vals hr hl).2 j f v hf hv).keep hb⟩, h.o, h.d⟩
theorem GO.mono {w : World} {lo hi lo' hi' : Nat} {s : Option Addr} {T : List (Option Nat)} {R : List (List FS)} {L : List (List FV)} (h : GO w lo hi s T R L) (p : lo' ≤ lo) (q : hi ≤ hi') : GO w lo' hi' s T R L :=
 ⟨h.n, h.rok, h.t, fun k rec vals hr hl => ⟨(h.c k rec vals hr hl).1, fun j f v hf hv => ((h.c k rec vals hr hl).2 j f v hf hv).mono p q⟩, h.o, h.d⟩
theorem GO.nil (w : World) (lo hi : Nat) (s : Option Addr) (T : List (Option Nat)) : GO w lo hi s T [] [] :=
 ⟨rfl, .inl rfl, fun k rec h => by simp at h, fun k rec vals h => by simp at h, fun rec h => by simp at h, by simp [gAs]⟩
theorem VO.intc {w : World} {lo hi : Nat} {x : VS} {l : List Int} (h : VO w lo hi x l) {a : Addr} (ha : a ∈ vAs x) : IntC w lo hi a := by
 have hb := h.blk ha
 obtain ⟨i, hi', rfl⟩ := mem_vAs.1 ha
 rcases h.c with e | ⟨g, o, hs, h1, h2, hc⟩
 ·have := h.n; rw [e] at this; simp at this; omega
 ·obtain ⟨c1, c2⟩ := hc i (by rw [← h.n]; exact hi')
  rw [hs] at hb ⊢
  exact ⟨⟨_, c1⟩, c2, hb.1, hb.2⟩
theorem FO.sh {w : World} {lo hi : Nat} {a : Addr} {f : FS} {v : FV} (h : FO w lo hi a f v) : FSh w lo hi a f := by
 cases f <;> cases v <;> first | exact False.elim h | skip
 ·obtain ⟨h1, h2, h3, h4⟩ := h
  exact ⟨⟨_, h1⟩, h2, h3, h4⟩
 ·obtain ⟨h1, h34, h2⟩ := h
  refine ⟨h1, h34, ?_, fun b hb => h2.intc hb⟩
  rcases h2.c with e | ⟨g, o, hs, -⟩
  ·have := h2.n; rw [e] at this; exact .inl this
  ·exact .inr ⟨g, o, hs⟩
theorem FSh.int {w : World} {lo hi : Nat} {a b : Addr} {f : FS} (h : FSh w lo hi a f) (hb : b ∈ fAs a f) : IntC w lo hi b := by
 cases f with
 | i => simp [fAs] at hb; subst hb; exact h
 | r x e => exact h.2.2.2 b hb
theorem GSh.int {w : World} {lo hi : Nat} {s : Option Addr} {T : List (Option Nat)} {R : List (List FS)} (h : GSh w lo hi s T R) : ∀ a ∈ gAs s T.length R 0, IntC w lo hi a := fun a ha => by
 obtain ⟨i, rec, j, f, h1, h2, h3⟩ := mem_gAs.1 ha
 rw [Nat.zero_add] at h3
 exact (h.c i rec j f h1 h2).int h3
theorem GO.sh {w : World} {lo hi : Nat} {s : Option Addr} {T : List (Option Nat)} {R : List (List FS)} {L : List (List FV)} (h : GO w lo hi s T R L) : GSh w lo hi s T R := by
 refine ⟨?_, h.t, fun k rec j f hr hf => ?_, h.d⟩
 ·rcases h.rok with e | e
  ·have := h.n; rw [e] at this; exact .inl (List.length_eq_zero_iff.1 (by simpa using this))
  ·exact .inr e
 ·obtain ⟨vals, hv⟩ := at_same h.n.symm hr
  obtain ⟨h1, h2⟩ := h.c k rec vals hr hv
  obtain ⟨v, hv'⟩ := at_same h1.symm hf
  exact (h2 j f v hf hv').sh
theorem GO.blk {w : World} {lo hi : Nat} {s : Option Addr} {T : List (Option Nat)} {R : List (List FS)} {L : List (List FV)} (h : GO w lo hi s T R L) {a : Addr} (ha : a ∈ gAs s T.length R 0) : lo ≤ a.block ∧ a.block < hi := by
 obtain ⟨-, -, h3, h4⟩ := h.sh.int a ha
 exact ⟨h3, h4⟩
/- a record put behind a row -/
theorem GO.push {w w2 : World} {lo hi : Nat} {s : Option Addr} {T : List (Option Nat)} {R : List (List FS)} {L : List (List FV)} (rec : List FS) (vals : List FV) (h : GO w lo hi s T R L)
  (hs : Somewhere s) (hk : rec.map FS.kind = T) (hl : rec.length = vals.length)
  (hold : ∀ (k : Nat) (r : List FS) (v : List FV) (j : Nat) (f : FS) (y : FV), R[k]? = some r → L[k]? = some v → r[j]? = some f → v[j]? = some y → FO w lo hi (adr s (k * T.length + j)) f y → FO w2 lo hi (adr s (k * T.length + j)) f y)
  (hnew : ∀ (j : Nat) (f : FS) (v : FV), rec[j]? = some f → vals[j]? = some v → FO w2 lo hi (adr s (L.length * T.length + j)) f v)
  (ho : ∀ x e, FS.r x e ∈ rec → ∀ a ∈ vAs (x.wide e), ∀ g o, s = some ⟨g, o, none⟩ → a.block ≠ g)
  (hn : (recAs s rec (L.length * T.length)).Nodup) (hd : ∀ a ∈ gAs s T.length R 0, a ∉ recAs s rec (L.length * T.length)) : GO w2 lo hi s T (R ++ [rec]) (L ++ [vals]) := by
 have hlen := h.n
 have ga : gAs s T.length (R ++ [rec]) 0 = gAs s T.length R 0 ++ recAs s rec (L.length * T.length) := by rw [gAs_append, hlen, Nat.zero_add]; simp [gAs]
 refine ⟨by simp [hlen], .inr hs, fun k r hr => ?_, fun k r v hr hv => ?_, fun r hr => ?_, ?_⟩
 ·rcases getElem?_push hr with hr | ⟨-, rfl⟩
  ·exact h.t k r hr
  ·exact hk
 ·rcases getElem?_push hr with hr | ⟨e1, rfl⟩
  ·rcases getElem?_push hv with hv | ⟨e2, rfl⟩
   ·refine ⟨(h.c k r v hr hv).1, fun j f y hf hy => ?_⟩
    exact hold k r v j f y hr hv hf hy ((h.c k r v hr hv).2 j f y hf hy)
   ·have := (List.getElem?_eq_some_iff.1 hr).1
    omega
  ·rcases getElem?_push hv with hv | ⟨e2, rfl⟩
   ·have := (List.getElem?_eq_some_iff.1 hv).1
    omega
   ·refine ⟨hl, fun j f y hf hy => ?_⟩
    rw [e2]
    exact hnew j f y hf hy
 ·rcases List.mem_append.1 hr with hr | hr
  ·exact h.o r hr
  ·simp at hr
   subst hr
   exact ho
 ·rw [ga]
  refine List.nodup_append.2 ⟨h.d, hn, fun a ha b hb e => ?_⟩
  subst e
  exact hd a ha hb
end Go.Proofs.YtcfehbfjillnoaaGreat
