/- Memories whose rows are owned whole: rows of writes and rows of rows that append may grow. No condition. -/
import Derived.Test.YtlhhdkemmhlloaaMemRows
namespace Go.Proofs.Ytlhhdkemmhlloaa
set_option linter.unusedSimpArgs false
set_option linter.unusedVariables false
set_option maxRecDepth 100000
open Go.RowKit

def flatV : List VS → List WD → List Value
  | x :: r, y :: t => .int .i64 y.v :: .slice x.s x.n x.c :: flatV r t
  | _, _ => []
theorem flatV_len : ∀ (vs : List VS) (l : List WD), vs.length = l.length → (flatV vs l).length = vs.length * 2
  | [], [], _ => rfl
  | x :: r, y :: t, h => by
    have := flatV_len r t (by simpa using h)
    simp [flatV, this]
    omega
  | [], _ :: _, h => by simp at h
  | _ :: _, [], h => by simp at h
theorem flatV_at : ∀ (vs : List VS) (l : List WD) (i : Nat) (x : VS) (y : WD), vs[i]? = some x → l[i]? = some y → (flatV vs l)[i * 2]? = some (.int .i64 y.v) ∧ (flatV vs l)[i * 2 + 1]? = some (.slice x.s x.n x.c)
  | [], _, i, x, y, h, _ => by simp at h
  | _ :: _, [], i, x, y, _, h => by simp at h
  | a :: r, b :: t, 0, x, y, h, h' => by
    simp at h h'
    subst h h'
    exact ⟨rfl, rfl⟩
  | a :: r, b :: t, i + 1, x, y, h, h' => by
    have e := flatV_at r t i x y (by simpa using h) (by simpa using h')
    have e0 : (i + 1) * 2 = i * 2 + 2 := by omega
    rw [e0]
    exact e
theorem flatV_app (x : VS) (y : WD) : ∀ (vs : List VS) (l : List WD), vs.length = l.length → flatV (vs ++ [x]) (l ++ [y]) = flatV vs l ++ [.int .i64 y.v, .slice x.s x.n x.c]
  | [], [], _ => rfl
  | a :: r, b :: t, h => by
    have := flatV_app x y r t (by simpa using h)
    simp [flatV, this]
  | [], _ :: _, h => by simp at h
  | _ :: _, [], h => by simp at h
def TyI (w : World) (b : Nat) : Prop := ∃ cs f, w.heap[b]? = some (.cells cs 3 f)
def vsA : List VS → List Addr
  | [] => []
  | x :: r => vAs x ++ vsA r
theorem mem_vsA {a : Addr} : ∀ {vs : List VS}, a ∈ vsA vs ↔ ∃ x ∈ vs, a ∈ vAs x
  | [] => by simp [vsA]
  | y :: r => by simp [vsA, mem_vsA (vs := r)]
theorem vsA_app (x : VS) : ∀ (vs : List VS), vsA (vs ++ [x]) = vsA vs ++ vAs x
  | [] => by simp [vsA]
  | y :: r => by simp [vsA, vsA_app x r]
structure ORow (w : World) (B : Nat) (r : RS) (l : List WD) : Prop where
  n : r.vs.length = l.length
  own : w.ownsRow B 40 2 r.val r.vs.length (flatV r.vs l)
  v : ∀ (i : Nat) (x : VS) (y : WD), r.vs[i]? = some x → l[i]? = some y → VO w B w.heap.size x y.vw
  vt : ∀ a ∈ vsA r.vs, TyI w a.block
  vd : (vsA r.vs).Nodup
theorem rAs_nodup {g : Nat} : ∀ (vs : List VS) (k : Nat), (∀ a ∈ vsA vs, a.block ≠ g) → (vsA vs).Nodup → (rAs (some ⟨g, 0, none⟩) vs k).Nodup
  | [], k, _, _ => by simp [rAs]
  | x :: r, k, h, hd => by
    rw [vsA] at hd
    obtain ⟨d1, d2, d3⟩ := List.nodup_append.1 hd
    have ih := rAs_nodup (g := g) r (k + 1) (fun a ha => h a (by simp [vsA, ha])) d2
    rw [rAs]
    refine List.nodup_cons.2 ⟨fun hm => ?_, List.nodup_append.2 ⟨d1, ih, fun a ha b hb e => ?_⟩⟩
    · rcases List.mem_append.1 hm with hm | hm
      · exact h _ (by rw [vsA]; exact List.mem_append_left _ hm) rfl
      · rcases mem_rAs.1 hm with ⟨i, hi', e⟩ | ⟨x', hx', hax⟩
        · simp [adr] at e; omega
        · exact h _ (by rw [vsA]; exact List.mem_append_right _ (mem_vsA.2 ⟨x', hx', hax⟩)) rfl
    · subst e
      rcases mem_rAs.1 hb with ⟨i, hi', e⟩ | ⟨x', hx', hax⟩
      · exact h a (by rw [vsA]; exact List.mem_append_left _ ha) (by rw [e]; rfl)
      · exact d3 a ha a (mem_vsA.2 ⟨x', hx', hax⟩) rfl
theorem ORow.blkT {w : World} {B : Nat} {r : RS} {l : List WD} (h : ORow w B r l) {k : Nat} (hk : r.val.ownBlock = some k) : ∃ cs, w.heap[k]? = some (.cells cs 40 (0, 0)) := by
  rcases h.own.2 with ⟨e, -⟩ | ⟨g, cap, cur, e, -, c, -⟩
  · rw [e] at hk; cases hk
  · rw [e] at hk
    injection hk with hk
    have hk : g = k := hk
    subst hk
    exact ⟨_, c⟩
theorem ORow.sepV {w : World} {B : Nat} {r : RS} {l : List WD} (h : ORow w B r l) {k : Nat} (hk : r.val.ownBlock = some k) {a : Addr} (ha : TyI w a.block) : a.block ≠ k := by
  obtain ⟨cs, h1⟩ := h.blkT hk
  obtain ⟨cs', f, h2⟩ := ha
  intro e
  rw [e, h1] at h2
  injection h2 with h2
  injection h2 with _ h2
  exact absurd h2 (by decide)
theorem ORow.ro {w : World} {B : Nat} {r : RS} {l : List WD} (h : ORow w B r l) : RO w B w.heap.size r l := by
  refine ⟨h.n, ?_, h.v, fun x hx a ha g o e => ?_, ?_⟩
  · rcases Nat.eq_zero_or_pos r.vs.length with h0 | hpos
    · exact .inl (List.length_eq_zero_iff.1 (by have := h.n; omega))
    · obtain ⟨g, cap, e, -⟩ := World.ownsRow.form h.own hpos
      have hlt := World.ownsRow.lt h.own g (by rw [e]; rfl)
      have e2 : r.s = some ⟨g, 0, none⟩ := by unfold RS.val at e; injection e with e
      have e3 : r.c = cap := by unfold RS.val at e; injection e
      refine .inr ⟨g, 0, e2, hlt.1, hlt.2, fun i x y hx hy => ?_⟩
      have hi' := (List.getElem?_eq_some_iff.1 hx).1
      have ho : w.ownsRow B 40 2 (.slice (some ⟨g, 0, none⟩) r.vs.length cap) r.vs.length (flatV r.vs l) := by rw [← e]; exact h.own
      obtain ⟨f1, f2⟩ := flatV_at r.vs l i x y hx hy
      rw [Nat.zero_add]
      exact ⟨(World.ownsRow.cellAt ho (i * 2) (by omega)).trans f1, World.ownsRow.frozenAt ho _, (World.ownsRow.cellAt ho (i * 2 + 1) (by omega)).trans f2⟩
  · exact h.sepV (k := g) (by unfold RS.val; rw [e]; rfl) (h.vt a (mem_vsA.2 ⟨x, hx, ha⟩))
  · rcases Nat.eq_zero_or_pos r.vs.length with h0 | hpos
    · rw [List.length_eq_zero_iff.1 h0]; simp [rAs]
    · obtain ⟨g, cap, e, -⟩ := World.ownsRow.form h.own hpos
      have e2 : r.s = some ⟨g, 0, none⟩ := by unfold RS.val at e; injection e with e
      rw [e2]
      exact rAs_nodup r.vs 0 (fun a ha => h.sepV (k := g) (by rw [e]; rfl) (h.vt a ha)) h.vd
theorem ORow.blk {w : World} {B : Nat} {r : RS} {l : List WD} (h : ORow w B r l) {a : Addr} (ha : a ∈ vsA r.vs) : B ≤ a.block ∧ a.block < w.heap.size := by
  obtain ⟨x, hx, hax⟩ := mem_vsA.1 ha
  exact h.ro.blk (mem_rAs.2 (.inr ⟨x, hx, hax⟩))
theorem ORow.kept {w w' : World} {B : Nat} {r : RS} {l : List WD} (h : ORow w B r l) (h1 : ∀ k, r.val.ownBlock = some k → w'.heap[k]? = w.heap[k]?) (h2 : ∀ a ∈ vsA r.vs, w'.heap[a.block]? = w.heap[a.block]?) (hs : w.heap.size ≤ w'.heap.size) : ORow w' B r l := by
  refine ⟨h.n, ownKeep' h.own h1, fun i x y hx hy => ?_, fun a ha => ?_, h.vd⟩
  · have hv := h.v i x y hx hy
    refine ⟨hv.n, ?_⟩
    rcases hv.c with h0 | ⟨g, o, es, b1, b2, hc⟩
    · exact .inl h0
    · refine .inr ⟨g, o, es, b1, by omega, fun j hj => ?_⟩
      have hne : w'.heap[g]? = w.heap[g]? := by
        have := h2 (adr x.s j) (mem_vsA.2 ⟨x, List.mem_of_getElem? hx, mem_vAs.2 ⟨j, by rw [hv.n]; exact hj, rfl⟩⟩)
        rw [es] at this
        exact this
      exact ⟨(World.cell?_of_block (w := w) hne).trans (hc j hj).1, (World.frozen?_of_block (w := w) hne).trans (hc j hj).2⟩
  · obtain ⟨cs, f, e⟩ := h.vt a ha
    exact ⟨cs, f, (h2 a ha).trans e⟩
theorem ORow.below {w w' : World} {B : Nat} {r : RS} {l : List WD} (h : ORow w B r l) (hb : Below w.heap.size w w') : ORow w' B r l :=
  h.kept (fun k e => hb.block k (World.ownsRow.lt h.own _ e).2) (fun a ha => hb.block _ (h.blk ha).2) hb.size
theorem ORow.low {w : World} {B B' : Nat} {r : RS} {l : List WD} (h : ORow w B r l) (hb : B' ≤ B) : ORow w B' r l :=
  ⟨h.n, ownLow' h.own hb, fun i x y hx hy => (h.v i x y hx hy).mono hb (Nat.le_refl _), h.vt, h.vd⟩
theorem ORow.nil (w : World) (B : Nat) : ORow w B ⟨none, 0, []⟩ [] := ⟨rfl, World.ownsRow_nil _ _ _ _, fun i x y h => by simp at h, fun a ha => by simp [vsA] at ha, by simp [vsA]⟩
/- a row that append has grown by one write -/
theorem ORow.push {w w2 : World} {B g cap : Nat} {r : RS} {l : List WD} (x : VS) (y : WD) (h : ORow w B r l) (hx : VO w B w.heap.size x y.vw) (hxt : ∀ a ∈ vAs x, TyI w a.block) (hxd : (vAs x).Nodup) (hd : ∀ a ∈ vsA r.vs, a ∉ vAs x)
    (h2 : w2.ownsRow B 40 2 (.slice (some ⟨g, 0, none⟩) (r.vs.length + 1) cap) (r.vs.length + 1) (flatV r.vs l ++ [.int .i64 y.v, .slice x.s x.n x.c])) (hg : w.grownBy w2 r.val.ownBlock) : ORow w2 B ⟨some ⟨g, 0, none⟩, cap, r.vs ++ [x]⟩ (l ++ [y]) := by
  have hn := h.n
  have kp : ∀ a : Addr, a.block < w.heap.size → TyI w a.block → w2.heap[a.block]? = w.heap[a.block]? := fun a ha ht => hg.block _ ha (fun e => h.sepV (k := a.block) e.symm ht rfl)
  have hv2 : ∀ (x' : VS) (l' : List Int), VO w B w.heap.size x' l' → (∀ a ∈ vAs x', TyI w a.block) → VO w2 B w2.heap.size x' l' := fun x' l' hv ht => by
    refine ⟨hv.n, ?_⟩
    rcases hv.c with h0 | ⟨g', o, es, b1, b2, hc⟩
    · exact .inl h0
    · refine .inr ⟨g', o, es, b1, by have := hg.size; omega, fun j hj => ?_⟩
      have hne : w2.heap[g']? = w.heap[g']? := by
        have hm : adr x'.s j ∈ vAs x' := mem_vAs.2 ⟨j, by rw [hv.n]; exact hj, rfl⟩
        have := kp (adr x'.s j) (by rw [es]; exact b2) (ht _ hm)
        rw [es] at this
        exact this
      exact ⟨(World.cell?_of_block (w := w) hne).trans (hc j hj).1, (World.frozen?_of_block (w := w) hne).trans (hc j hj).2⟩
  refine ⟨by simp [hn], ?_, fun i x1 y1 e1 e2 => ?_, fun a ha => ?_, ?_⟩
  · show w2.ownsRow B 40 2 (.slice (some ⟨g, 0, none⟩) (r.vs ++ [x]).length cap) (r.vs ++ [x]).length (flatV (r.vs ++ [x]) (l ++ [y]))
    rw [flatV_app x y r.vs l hn]
    simpa using h2
  · rcases getElem?_push e1 with e1 | ⟨i1, rfl⟩
    · rcases getElem?_push e2 with e2 | ⟨i2, rfl⟩
      · exact hv2 x1 y1.vw (h.v i x1 y1 e1 e2) (fun a ha => h.vt a (mem_vsA.2 ⟨x1, List.mem_of_getElem? e1, ha⟩))
      · have := (List.getElem?_eq_some_iff.1 e1).1; omega
    · rcases getElem?_push e2 with e2 | ⟨i2, rfl⟩
      · have := (List.getElem?_eq_some_iff.1 e2).1; omega
      · exact hv2 x1 y1.vw hx hxt
  · rw [vsA_app] at ha
    rcases List.mem_append.1 ha with ha | ha
    · obtain ⟨cs, f, e⟩ := h.vt a ha
      exact ⟨cs, f, (kp a (h.blk ha).2 (h.vt a ha)).trans e⟩
    · obtain ⟨cs, f, e⟩ := hxt a ha
      exact ⟨cs, f, (kp a (hx.blk ha).2 (hxt a ha)).trans e⟩
  · rw [vsA_app]
    exact List.nodup_append.2 ⟨h.vd, hxd, fun a ha b hb e => hd a ha (by rw [e]; exact hb)⟩

structure OW (w : World) (B : Nat) (v : Value) (S : List RS) (m : List (List WD)) : Prop where
  n : S.length = m.length
  row : w.ownsRow B 41 1 v S.length (S.map RS.val)
  r : ∀ (i : Nat) (r : RS) (l : List WD), S[i]? = some r → m[i]? = some l → ORow w B r l
  d : (mAs S).Nodup
theorem rows_blkT {w : World} {B n : Nat} {v : Value} {xs : List Value} (h : w.ownsRow B 41 1 v n xs) {k : Nat} (hk : v.ownBlock = some k) : ∃ cs, w.heap[k]? = some (.cells cs 41 (0, 0)) := by
  rcases h.2 with ⟨e, -⟩ | ⟨g, cap, cur, e, -, c, -⟩
  · rw [e] at hk; cases hk
  · rw [e] at hk
    injection hk with hk
    have hk : g = k := hk
    subst hk
    exact ⟨_, c⟩
theorem ORow.sepO {w : World} {B : Nat} {r : RS} {l : List WD} (h : ORow w B r l) {a : Addr} (ha : a ∈ rAs r.s r.vs 0) : ∃ cs t f, w.heap[a.block]? = some (.cells cs t f) ∧ t ≠ 41 := by
  rcases mem_rAs.1 ha with ⟨i, hi', e⟩ | ⟨x, hx, hax⟩
  · obtain ⟨g, cap, ev, -⟩ := World.ownsRow.form h.own (by omega)
    obtain ⟨cs, hc⟩ := h.blkT (k := g) (by rw [ev]; rfl)
    have e2 : r.s = some ⟨g, 0, none⟩ := by unfold RS.val at ev; injection ev with ev
    rw [e, e2]
    exact ⟨cs, _, _, hc, by decide⟩
  · obtain ⟨cs, f, e⟩ := h.vt a (mem_vsA.2 ⟨x, hx, hax⟩)
    exact ⟨cs, _, f, e, by decide⟩
theorem OW.om {w : World} {B : Nat} {v : Value} {S : List RS} {m : List (List WD)} (h : OW w B v S m) : OM w B v S m := by
  refine ⟨h.n, h.row, fun i r l hr hl => (h.r i r l hr hl).ro, h.d, fun a ha e => ?_⟩
  obtain ⟨r, hr, har⟩ := mem_mAs.1 ha
  obtain ⟨i, hi', er⟩ := List.getElem_of_mem hr
  have hl : i < m.length := by have := h.n; omega
  obtain ⟨cs, t, f, h1, h2⟩ := (h.r i r m[i] (by rw [List.getElem?_eq_getElem hi', er]) (List.getElem?_eq_getElem hl)).sepO har
  obtain ⟨cs', h3⟩ := rows_blkT h.row e
  rw [h1] at h3
  injection h3 with h3
  injection h3 with _ h3
  exact h2 h3
theorem OW.nil (w : World) (B : Nat) : OW w B (.slice none 0 0) [] [] := ⟨rfl, World.ownsRow_nil _ _ _ _, fun i r l h => by simp at h, by simp [mAs]⟩
theorem OW.kept {w w' : World} {B : Nat} {v : Value} {S : List RS} {m : List (List WD)} (h : OW w B v S m) (hb : ∀ k, B ≤ k → k < w.heap.size → w'.heap[k]? = w.heap[k]?) (hs : w.heap.size ≤ w'.heap.size) : OW w' B v S m :=
  ⟨h.n, ownKeep' h.row (fun k e => hb k (World.ownsRow.lt h.row _ e).1 (World.ownsRow.lt h.row _ e).2), fun i r l hr hl => by
    have q := h.r i r l hr hl
    exact q.kept (fun k e => hb k (World.ownsRow.lt q.own _ e).1 (World.ownsRow.lt q.own _ e).2) (fun a ha => hb _ (q.blk ha).1 (q.blk ha).2) hs, h.d⟩
theorem OW.below {w w' : World} {B : Nat} {v : Value} {S : List RS} {m : List (List WD)} (h : OW w B v S m) (hb : Below w.heap.size w w') : OW w' B v S m := h.kept (fun k _ hk => hb.block k hk) hb.size

end Go.Proofs.Ytlhhdkemmhlloaa
