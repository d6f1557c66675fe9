/- Rows of steps, of cores and of notes as rows of records; boxes of four cells that may be written. No condition. -/
import Derived.Test.YtfdgjjahojkgfaaKGen
import Derived.Test.YtfdgjjahojkgfaaKSz
import Derived.Test.YtfdgjjahojkgfaaKStepFz
namespace Go.Proofs.Ytfdgjjahojkgfaa
set_option linter.unusedSimpArgs false
set_option linter.unusedVariables false
set_option maxRecDepth 100000
open Go.RowKit

theorem VO.far2 {w w' : World} {lo hi : Nat} {x : VS} {l : List Int} (h : VO w lo hi x l) (hk : ∀ a ∈ vAs x, w'.heap[a.block]? = w.heap[a.block]?) : VO w' lo hi x l := by
  refine ⟨h.n, ?_⟩
  rcases h.c with e | ⟨g, o, hs, h1, h2, hc⟩
  · exact .inl e
  · refine .inr ⟨g, o, hs, h1, h2, fun i hi => ?_⟩
    have hb := hk ⟨g, o + i, none⟩ (mem_vAs.2 ⟨i, by rw [h.n]; exact hi, by rw [hs]; rfl⟩)
    exact ⟨(World.cell?_of_block (w := w) hb).trans (hc i hi).1, (World.frozen?_of_block (w := w) hb).trans (hc i hi).2⟩
theorem FO.far {w w' : World} {lo hi : Nat} {a : Addr} {f : FS} {v : FV} (h : FO w lo hi a f v) (hc : w'.cell? a = w.cell? a) (hz : w'.frozen? a = w.frozen? a) (hk : ∀ x e, f = .r x e → ∀ b ∈ vAs (x.wide e), w'.heap[b.block]? = w.heap[b.block]?) : FO w' lo hi a f v := by
  cases f <;> cases v <;> first | exact h | skip
  · exact ⟨hc.trans h.1, hz.trans h.2.1, h.2.2⟩
  · exact ⟨hc.trans h.1, h.2.1, h.2.2.far2 (hk _ _ rfl)⟩

def fl5 : List I5 → List Int
  | [] => []
  | x :: r => [x.o, x.r, x.a, x.b, x.n] ++ fl5 r
theorem fl5_len : ∀ l : List I5, (fl5 l).length = l.length * 5
  | [] => rfl
  | x :: r => by simp [fl5, fl5_len r]; omega
theorem fl5_at : ∀ (l : List I5) (i : Nat) (x : I5), l[i]? = some x → (fl5 l)[i * 5]? = some x.o ∧ (fl5 l)[i * 5 + 1]? = some x.r ∧ (fl5 l)[i * 5 + 2]? = some x.a ∧ (fl5 l)[i * 5 + 3]? = some x.b ∧ (fl5 l)[i * 5 + 4]? = some x.n
  | [], i, x, h => by simp at h
  | y :: r, 0, x, h => by
    simp at h
    subst h
    exact ⟨rfl, rfl, rfl, rfl, rfl⟩
  | y :: r, i + 1, x, h => by
    have h' : r[i]? = some x := by simpa using h
    have e := fl5_at r i x h'
    have e0 : (i + 1) * 5 = i * 5 + 5 := by omega
    rw [e0]
    exact e
theorem vo_steps {w : World} {lo hi g c : Nat} {l : List I5} (h1 : lo ≤ g) (h2 : g < hi) (hc : ∀ i, i < l.length → At5 w g (0 + i * 5) (l.getD i z5)) (hz : ∀ j, j < l.length * 5 → w.frozen? ⟨g, j, none⟩ = false) : VO w lo hi ((⟨some ⟨g, 0, none⟩, l.length, c⟩ : VS).wide 5) (fl5 l) := by
  refine ⟨by simp [VS.wide, fl5_len], .inr ⟨g, 0, rfl, h1, h2, fun i hi => ?_⟩⟩
  rw [fl5_len] at hi
  rw [Nat.zero_add]
  refine ⟨?_, hz i hi⟩
  have hk : i / 5 < l.length := by omega
  have hx : l[i / 5]? = some (l.getD (i / 5) z5) := by rw [List.getD_eq_getElem?_getD, List.getElem?_eq_getElem hk]; rfl
  obtain ⟨c0, c1, c2, c3, c4⟩ := hc (i / 5) hk
  obtain ⟨e0, e1, e2, e3, e4⟩ := fl5_at l (i / 5) _ hx
  rw [Nat.zero_add] at c0 c1 c2 c3 c4
  rw [List.getD_eq_getElem?_getD]
  rcases (show i % 5 = 0 ∨ i % 5 = 1 ∨ i % 5 = 2 ∨ i % 5 = 3 ∨ i % 5 = 4 by omega) with h | h | h | h | h
  · have e : i = i / 5 * 5 := by omega
    rw [e] ; rw [e0]; exact c0
  · have e : i = i / 5 * 5 + 1 := by omega
    rw [e]; rw [e1]; exact c1
  · have e : i = i / 5 * 5 + 2 := by omega
    rw [e]; rw [e2]; exact c2
  · have e : i = i / 5 * 5 + 3 := by omega
    rw [e]; rw [e3]; exact c3
  · have e : i = i / 5 * 5 + 4 := by omega
    rw [e]; rw [e4]; exact c4
def codeV (l : List I5) : List FV := [.r (fl5 l)]
def coreV (k : KD) : List FV := [.i k.pc, .r k.regs, .r k.vw, .i k.st]
def TC : List (Option Nat) := [some 5]
def TK : List (Option Nat) := [none, some 1, some 1, none]
def fl2 : List ND → List Int
  | [] => []
  | x :: r => [x.who, x.v] ++ fl2 r
theorem fl2_len : ∀ l : List ND, (fl2 l).length = l.length * 2
  | [] => rfl
  | x :: r => by simp [fl2, fl2_len r]; omega
theorem flatN_fl2 : ∀ l : List ND, flatN l = (fl2 l).map (Value.int .i64)
  | [] => rfl
  | x :: r => by simp [flatN, fl2, flatN_fl2 r]
theorem wide_one (x : VS) : x.wide 1 = x := by cases x; simp [VS.wide]
/- a row that is owned whole -/
theorem own_vo {w : World} {base n size : Nat} {e : TypeId} {v : Value} {l : List Int} (h : w.ownsRow base e size v n (l.map (Value.int .i64))) (hl : l.length = n * size) : ∃ s c, v = .slice s n c ∧ VO w base w.heap.size ((⟨s, n, c⟩ : VS).wide size) l := by
  rcases Nat.eq_zero_or_pos n with h0 | hpos
  · subst h0
    obtain ⟨s, c, e⟩ := ownSl h
    exact ⟨s, c, e, ⟨by simp [VS.wide, hl], .inl (List.length_eq_zero_iff.1 (by simpa using hl))⟩⟩
  · obtain ⟨g, cap, rfl, -⟩ := World.ownsRow.form h hpos
    have hlt := World.ownsRow.lt h g rfl
    refine ⟨_, _, rfl, ⟨by simp [VS.wide, hl], .inr ⟨g, 0, rfl, hlt.1, hlt.2, fun i hi => ?_⟩⟩⟩
    rw [Nat.zero_add]
    refine ⟨?_, World.ownsRow.frozenAt h i⟩
    rw [World.ownsRow.cellAt h i (by omega), List.getElem?_map, List.getD_eq_getElem?_getD, List.getElem?_eq_getElem hi]
    rfl
theorem ownN_vo {w : World} {base n c : Nat} {s : Option Addr} {l : List Int} (h : OwnN w base (.slice s n c) l) (hn : n = l.length) : VO w base w.heap.size ⟨s, n, c⟩ l := by
  subst hn
  obtain ⟨s', c', e, hv⟩ := own_vo (size := 1) h (by simp)
  injection e with e1 e2 e3
  subst e1 e3
  rw [wide_one] at hv
  exact hv
theorem OwnD.vo {w : World} {base n c : Nat} {s : Option Addr} {l : List ND} (h : OwnD w base (.slice s n c) l) (hn : n = l.length) : VO w base w.heap.size ((⟨s, n, c⟩ : VS).wide 2) (fl2 l) := by
  subst hn
  unfold OwnD at h
  rw [flatN_fl2] at h
  obtain ⟨s', c', e, hv⟩ := own_vo h (fl2_len l)
  injection e with e1 e2 e3
  subst e1 e3
  exact hv
/- reading what is owned -/
theorem VO.insR {w : World} {lo hi : Nat} {s : Option Addr} {c : Nat} {l : List I5} (h : VO w lo hi ((⟨s, l.length, c⟩ : VS).wide 5) (fl5 l)) : InsR w lo hi s l := by
  rcases h.c with e | ⟨g, o, hs, h1, h2, hc⟩
  · have := fl5_len l
    rw [e] at this
    exact .inl (List.length_eq_zero_iff.1 (by simp at this; omega))
  · refine .inr ⟨g, o, hs, h1, h2, fun i hi => ?_⟩
    have hx : l[i]? = some (l.getD i z5) := by rw [List.getD_eq_getElem?_getD, List.getElem?_eq_getElem hi]; rfl
    obtain ⟨e0, e1, e2, e3, e4⟩ := fl5_at l i _ hx
    have q : ∀ j, j < 5 → w.cell? ⟨g, o + i * 5 + j, none⟩ = some (.int .i64 ((fl5 l).getD (i * 5 + j) 0)) := fun j hj => by
      have := (hc (i * 5 + j) (by rw [fl5_len]; omega)).1
      rw [← Nat.add_assoc] at this
      exact this
    have q0 := q 0 (by omega)
    have q1 := q 1 (by omega)
    have q2 := q 2 (by omega)
    have q3 := q 3 (by omega)
    have q4 := q 4 (by omega)
    rw [List.getD_eq_getElem?_getD] at q0 q1 q2 q3 q4
    rw [Nat.add_zero, Nat.add_zero, e0] at q0
    rw [e1] at q1
    rw [e2] at q2
    rw [e3] at q3
    rw [e4] at q4
    exact ⟨q0, q1, q2, q3, q4⟩
theorem kindC {rec : List FS} (h : rec.map FS.kind = TC) : ∃ x, rec = [.r x 5] := by
  match rec, h with
  | [.r x e], h =>
    simp [TC, FS.kind] at h
    exact ⟨x, by rw [h]⟩
  | [.i], h => simp [TC, FS.kind] at h
  | [], h => simp [TC] at h
  | _ :: _ :: _, h => simp [TC] at h
theorem kindK {rec : List FS} (h : rec.map FS.kind = TK) : ∃ x y, rec = [.i, .r x 1, .r y 1, .i] := by
  match rec, h with
  | [.i, .r x e, .r y e', .i], h =>
    simp [TK, FS.kind] at h
    exact ⟨x, y, by rw [h.1, h.2]⟩
  | [], h => simp [TK] at h
  | [_], h => simp [TK] at h
  | [_, _], h => simp [TK] at h
  | [_, _, _], h => simp [TK] at h
  | .r _ _ :: _ :: _ :: _ :: _, h => simp [TK, FS.kind] at h
  | .i :: .i :: _ :: _ :: _, h => simp [TK, FS.kind] at h
  | .i :: .r _ _ :: .i :: _ :: _, h => simp [TK, FS.kind] at h
  | .i :: .r _ _ :: .r _ _ :: .r _ _ :: _, h => simp [TK, FS.kind] at h
  | .i :: .r _ _ :: .r _ _ :: .i :: _ :: _, h => simp [TK, FS.kind] at h
theorem GO.csR {w : World} {lo hi : Nat} {s : Option Addr} {R : List (List FS)} {l : List (List I5)} (h : GO w lo hi s TC R (l.map codeV)) : CsR w lo hi s l := by
  rcases h.rok with e | ⟨g, o, rfl⟩
  · exact .inl (by simpa using e)
  · rcases Nat.eq_zero_or_pos l.length with h0 | hpos
    · exact .inl (List.length_eq_zero_iff.1 h0)
    have at1 : ∀ i x, l[i]? = some x → CR w lo hi g (o + i) x ∧ lo ≤ g ∧ g < hi := fun i x hx => by
      have hv : (l.map codeV)[i]? = some (codeV x) := by rw [List.getElem?_map, hx]; rfl
      obtain ⟨rec, hr⟩ := at_same h.n hv
      obtain ⟨y, rfl⟩ := kindC (h.t i rec hr)
      have q := (h.c i _ _ hr hv).2 0 (.r y 5) (.r (fl5 x)) rfl rfl
      obtain ⟨q1, q2, q3⟩ := q
      have hn : y.n = x.length := by
        have := q3.n
        rw [fl5_len] at this
        simp [VS.wide] at this
        omega
      obtain ⟨ys, yn, yc⟩ := y
      simp only at hn
      subst hn
      refine ⟨⟨ys, yc, ?_, q3.insR⟩, q2⟩
      simpa [adr, TC] using q1
    have h0 := at1 0 _ (List.getElem?_eq_getElem hpos)
    exact .inr ⟨g, o, rfl, h0.2.1, h0.2.2, fun i x hx => (at1 i x hx).1⟩
theorem GO.ksR {w : World} {lo hi : Nat} {s : Option Addr} {R : List (List FS)} {l : List KD} (h : GO w lo hi s TK R (l.map coreV)) : KsR w lo hi s l := by
  rcases h.rok with e | ⟨g, o, rfl⟩
  · exact .inl (by simpa using e)
  · rcases Nat.eq_zero_or_pos l.length with h0 | hpos
    · exact .inl (List.length_eq_zero_iff.1 h0)
    have at1 : ∀ i x, l[i]? = some x → KR w lo hi g (o + i * 4) x ∧ lo ≤ g ∧ g < hi := fun i x hx => by
      have hv : (l.map coreV)[i]? = some (coreV x) := by rw [List.getElem?_map, hx]; rfl
      obtain ⟨rec, hr⟩ := at_same h.n hv
      obtain ⟨y, y', rfl⟩ := kindK (h.t i rec hr)
      have q := (h.c i _ _ hr hv).2
      have q0 := q 0 .i (.i x.pc) rfl rfl
      have q1 := q 1 (.r y 1) (.r x.regs) rfl rfl
      have q2 := q 2 (.r y' 1) (.r x.vw) rfl rfl
      have q3 := q 3 .i (.i x.st) rfl rfl
      obtain ⟨a1, a2, a3⟩ := q1
      obtain ⟨b1, b2, b3⟩ := q2
      rw [wide_one] at a3 b3
      have n1 := a3.n
      have n2 := b3.n
      obtain ⟨ys, yn, yc⟩ := y
      obtain ⟨zs, zn, zc⟩ := y'
      simp only at n1 n2
      subst n1 n2
      have e : ∀ j, o + (i * 4 + j) = o + i * 4 + j := fun j => by omega
      simp only [adr, TK, List.length, e] at q0 a1 b1 q3 a2
      exact ⟨⟨ys, yc, zs, zc, q0.1, a1, b1, q3.1, a3.ints, b3.ints⟩, a2⟩
    have h0 := at1 0 _ (List.getElem?_eq_getElem hpos)
    exact .inr ⟨g, o, rfl, h0.2.1, h0.2.2, fun i x hx => (at1 i x hx).1⟩
theorem fl2_at : ∀ (l : List ND) (i : Nat) (x : ND), l[i]? = some x → (fl2 l)[i * 2]? = some x.who ∧ (fl2 l)[i * 2 + 1]? = some x.v
  | [], i, x, h => by simp at h
  | y :: r, 0, x, h => by
    simp at h
    subst h
    exact ⟨rfl, rfl⟩
  | y :: r, i + 1, x, h => by
    have h' : r[i]? = some x := by simpa using h
    have e := fl2_at r i x h'
    have e0 : (i + 1) * 2 = i * 2 + 2 := by omega
    rw [e0]
    exact e
theorem VO.ntsR {w : World} {lo hi : Nat} {s : Option Addr} {n c : Nat} {l : List ND} (h : VO w lo hi ((⟨s, n, c⟩ : VS).wide 2) (fl2 l)) : NtsR w lo hi s l := by
  rcases h.c with e | ⟨g, o, hs, h1, h2, hc⟩
  · have := fl2_len l
    rw [e] at this
    exact .inl (List.length_eq_zero_iff.1 (by simp at this; omega))
  · refine .inr ⟨g, o, hs, h1, h2, fun i x hx => ?_⟩
    have hi := (List.getElem?_eq_some_iff.1 hx).1
    obtain ⟨e0, e1⟩ := fl2_at l i _ hx
    have q0 := (hc (i * 2) (by rw [fl2_len]; omega)).1
    have q1 := (hc (i * 2 + 1) (by rw [fl2_len]; omega)).1
    rw [List.getD_eq_getElem?_getD] at q0 q1
    rw [e0] at q0
    rw [e1] at q1
    exact ⟨q0, q1⟩

/- a box of four cells that may be written -/
structure X4 (w : World) (b : Nat) (v0 v1 v2 v3 : Value) : Prop where
  x : B4 w b v0 v1 v2 v3
  fz : ∀ j, w.frozen? ⟨b, j, none⟩ = false
theorem X4.keep {w w' : World} {b : Nat} {v0 v1 v2 v3 : Value} (h : X4 w b v0 v1 v2 v3) {B : Nat} (hb : Below B w w') (hB : b < B) : X4 w' b v0 v1 v2 v3 :=
  ⟨h.x.keep hb hB, fun j => (hb.frozen (p := ⟨b, j, none⟩) hB).trans (h.fz j)⟩
theorem X4.off {w : World} {b g j : Nat} {v0 v1 v2 v3 u : Value} (h : X4 w b v0 v1 v2 v3) (hg : b ≠ g) : X4 (w.setCell ⟨g, j, none⟩ u) b v0 v1 v2 v3 :=
  ⟨⟨by simpa using h.x.z, (setC_blk (Ne.symm hg)).trans h.x.c0, (setC_blk (Ne.symm hg)).trans h.x.c1, (setC_blk (Ne.symm hg)).trans h.x.c2, (setC_blk (Ne.symm hg)).trans h.x.c3⟩, fun j => by rw [World.frozen?_setCell]; exact h.fz j⟩
theorem X4.set0 {w : World} {b : Nat} {v0 v1 v2 v3 u : Value} (h : X4 w b v0 v1 v2 v3) : X4 (w.setCell ⟨b, 0, none⟩ u) b u v1 v2 v3 :=
  ⟨⟨by simpa using h.x.z, setC_at (by rw [h.x.c0]; rfl), (setC_off (by omega)).trans h.x.c1, (setC_off (by omega)).trans h.x.c2, (setC_off (by omega)).trans h.x.c3⟩, fun j => by rw [World.frozen?_setCell]; exact h.fz j⟩
theorem X4.set1 {w : World} {b : Nat} {v0 v1 v2 v3 u : Value} (h : X4 w b v0 v1 v2 v3) : X4 (w.setCell ⟨b, 1, none⟩ u) b v0 u v2 v3 :=
  ⟨⟨by simpa using h.x.z, (setC_off (by omega)).trans h.x.c0, setC_at (by rw [h.x.c1]; rfl), (setC_off (by omega)).trans h.x.c2, (setC_off (by omega)).trans h.x.c3⟩, fun j => by rw [World.frozen?_setCell]; exact h.fz j⟩
theorem X4.set2 {w : World} {b : Nat} {v0 v1 v2 v3 u : Value} (h : X4 w b v0 v1 v2 v3) : X4 (w.setCell ⟨b, 2, none⟩ u) b v0 v1 u v3 :=
  ⟨⟨by simpa using h.x.z, (setC_off (by omega)).trans h.x.c0, (setC_off (by omega)).trans h.x.c1, setC_at (by rw [h.x.c2]; rfl), (setC_off (by omega)).trans h.x.c3⟩, fun j => by rw [World.frozen?_setCell]; exact h.fz j⟩
theorem X4.set3 {w : World} {b : Nat} {v0 v1 v2 v3 u : Value} (h : X4 w b v0 v1 v2 v3) : X4 (w.setCell ⟨b, 3, none⟩ u) b v0 v1 v2 u :=
  ⟨⟨by simpa using h.x.z, (setC_off (by omega)).trans h.x.c0, (setC_off (by omega)).trans h.x.c1, (setC_off (by omega)).trans h.x.c2, setC_at (by rw [h.x.c3]; rfl)⟩, fun j => by rw [World.frozen?_setCell]; exact h.fz j⟩
theorem three4 {w W : World} {a b c d a' b' c' d' a2 b2 c2 d2 : Value} {T T' T2 : TypeId} (hW : ((w.alloc (.cells #[a, b, c, d] T)).alloc (.cells #[a', b', c', d'] T')).alloc (.cells #[a2, b2, c2, d2] T2) = W) : Below w.heap.size w W ∧ X4 W w.heap.size a b c d ∧ X4 W (w.heap.size + 1) a' b' c' d' ∧ X4 W (w.heap.size + 1 + 1) a2 b2 c2 d2 ∧ W.heap.size = w.heap.size + 3 := by
  subst hW
  refine ⟨(((Below.refl _ _).alloc (Nat.le_refl _) _).alloc (by simp) _).alloc (by simp; omega) _, ⟨⟨?_, ?_, ?_, ?_, ?_⟩, ?_⟩, ⟨⟨?_, ?_, ?_, ?_, ?_⟩, ?_⟩, ⟨⟨?_, ?_, ?_, ?_, ?_⟩, ?_⟩, ?_⟩ <;> first | (simp [go_sem]; done) | (simp [go_sem]; omega) | (intro j; simp [go_sem])

end Go.Proofs.Ytfdgjjahojkgfaa
