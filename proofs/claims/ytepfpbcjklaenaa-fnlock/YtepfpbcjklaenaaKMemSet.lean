/- A write put behind a row of a memory that is owned whole. No condition but those of the lemmas. -/
import Derived.Test.YtepfpbcjklaenaaKG00
import Derived.Test.YtepfpbcjklaenaaKG03
import Derived.Test.YtepfpbcjklaenaaKMemDupS
import Derived.Test.YtepfpbcjklaenaaKMemLd
namespace Go.Proofs.Ytepfpbcjklaenaa
set_option linter.unusedSimpArgs false
set_option linter.unusedVariables false
set_option maxRecDepth 100000
open Go.RowKit
theorem mAs_join (b : List RS) : ∀ (a : List RS), mAs (a ++ b) = mAs a ++ mAs b
 | [] => by simp [mAs]
 | y :: r => by simp [mAs, mAs_join b r]
theorem mAs_cut {S : List RS} {j : Nat} {x : RS} (h : S[j]? = some x) : mAs S = mAs (S.take j) ++ (rAs x.s x.vs 0 ++ mAs (S.drop (j + 1))) := by
 have hj := (List.getElem?_eq_some_iff.1 h).1
 have e : S = S.take j ++ (x :: S.drop (j + 1)) := by
  rw [← (List.getElem?_eq_some_iff.1 h).2, ← List.drop_eq_getElem_cons hj, List.take_append_drop]
 have h1 := mAs_join (x :: S.drop (j + 1)) (S.take j)
 rw [← e] at h1
 exact h1
theorem mAs_disj {S : List RS} (hd : (mAs S).Nodup) {i k : Nat} {r r' : RS} (hi : S[i]? = some r) (hk : S[k]? = some r') (hlt : i < k) : ∀ a ∈ rAs r.s r.vs 0, a ∉ rAs r'.s r'.vs 0 := fun a ha ha' => by
 have sp := mAs_cut hk
 rw [sp] at hd
 have hm : a ∈ mAs (S.take k) := mem_mAs.2 ⟨r, List.mem_of_getElem? (i := i) (by rw [List.getElem?_take, if_pos hlt]; exact hi), ha⟩
 exact (List.nodup_append.1 hd).2.2 a hm a (List.mem_append_left _ ha') rfl
theorem OW.sepR {w : World} {B : Nat} {v : Value} {S : List RS} {m : List (List WD)} (h : OW w B v S m) (hne : ∀ (i : Nat) (r : RS), S[i]? = some r → 0 < r.vs.length) {i k : Nat} {r r' : RS} {l l' : List WD} (hi : S[i]? = some r) (hl : m[i]? = some l) (hk : S[k]? = some r') (hl' : m[k]? = some l') (hik : i ≠ k) {b : Nat} (hb : r'.val.ownBlock = some b) :
  (∀ k', r.val.ownBlock = some k' → k' ≠ b) ∧ ∀ a ∈ vsA r.vs, a.block ≠ b := by
 have q := h.r i r l hi hl
 have q' := h.r k r' l' hk hl'
 refine ⟨fun k' e1 e => ?_, fun a ha => q'.sepV hb (q.vt a ha)⟩
 subst e
 obtain ⟨g1, cap1, f1, -⟩ := World.ownsRow.form q.own (hne i r hi)
 obtain ⟨g2, cap2, f2, -⟩ := World.ownsRow.form q'.own (hne k r' hk)
 have s1 : r.s = some ⟨g1, 0, none⟩ := by unfold RS.val at f1; injection f1 with f1
 have s2 : r'.s = some ⟨g2, 0, none⟩ := by unfold RS.val at f2; injection f2 with f2
 have b1 : g1 = k' := by unfold RS.val at e1; rw [s1] at e1; injection e1
 have b2 : g2 = k' := by unfold RS.val at hb; rw [s2] at hb; injection hb
 have m1 : (⟨k', 0, none⟩ : Addr) ∈ rAs r.s r.vs 0 := mem_rAs.2 (.inl ⟨0, hne i r hi, by rw [s1, b1]; rfl⟩)
 have m2 : (⟨k', 0, none⟩ : Addr) ∈ rAs r'.s r'.vs 0 := mem_rAs.2 (.inl ⟨0, hne k r' hk, by rw [s2, b2]; rfl⟩)
 rcases Nat.lt_or_gt_of_ne hik with h1 | h1
 ·exact mAs_disj h.d hi hk h1 _ m1 m2
 ·exact mAs_disj h.d hk hi h1 _ m2 m1
theorem OW.setRow {w w1 w2 : World} {B gO cO g cap k : Nat} {S : List RS} {m : List (List WD)} {r : RS} {l : List WD} (x : VS) (y : WD) (h : OW w B (.slice (some ⟨gO, 0, none⟩) m.length cO) S m) (hb : Below w.heap.size w w1) (hB : B ≤ w.heap.size) (hne : ∀ (i : Nat) (r : RS), S[i]? = some r → 0 < r.vs.length)
  (hk : S[k]? = some r) (hl : m[k]? = some l) (hx : VO w1 w.heap.size w1.heap.size x y.vw) (hxt : ∀ a ∈ vAs x, TyI w1 a.block) (hxd : (vAs x).Nodup)
  (h2 : w2.ownsRow B 48 2 (.slice (some ⟨g, 0, none⟩) (r.vs.length + 1) cap) (r.vs.length + 1) (flatV r.vs l ++ [.int .i64 y.v, .slice x.s x.n x.c])) (hg : w1.grownBy w2 r.val.ownBlock) (hn : r.val.ownBlock = some g ∨ w1.heap.size ≤ g) :
  OW (w2.setCell ⟨gO, k, none⟩ (.slice (some ⟨g, 0, none⟩) (r.vs.length + 1) cap)) B (.slice (some ⟨gO, 0, none⟩) m.length cO) (S.set k ⟨some ⟨g, 0, none⟩, cap, r.vs ++ [x]⟩) (m.set k (l ++ [y])) := by
 have h1 := h.below hb
 have hkS := (List.getElem?_eq_some_iff.1 hk).1
 have hkm : k < m.length := by have := h.n; omega
 have hn1 := h.n
 have q := h1.r k r l hk hl
 have old : ∀ a ∈ mAs S, a.block < w.heap.size := fun a ha => (h.om.blk ha).2
 have P : ORow w2 B ⟨some ⟨g, 0, none⟩, cap, r.vs ++ [x]⟩ (l ++ [y]) := by
  refine q.push x y (hx.mono hB (Nat.le_refl _)) hxt hxd (fun a ha ha' => ?_) h2 hg
  have e1 := (hx.blk ha').1
  have e2 := old a (mem_mAs.2 ⟨r, List.mem_of_getElem? hk, by obtain ⟨x', hx', hax⟩ := mem_vsA.1 ha; exact mem_rAs.2 (.inr ⟨x', hx', hax⟩)⟩)
  omega
 obtain ⟨cO', ocs⟩ := rows_blkT h1.row (k := gO) rfl
 have rb : ∀ b, r.val.ownBlock = some b → b ≠ gO := fun b e e' => by
  subst e'
  obtain ⟨cs, c1⟩ := q.blkT e
  rw [c1] at ocs
  injection ocs with ocs
  injection ocs with _ ocs
  exact absurd ocs (by decide)
 have gOl : gO < w1.heap.size := (World.ownsRow.lt h1.row gO rfl).2
 have ocs2 : w2.heap[gO]? = w1.heap[gO]? := hg.block _ gOl (fun e => rb gO e.symm rfl)
 have kS : ∀ b, b ≠ gO → (w2.setCell ⟨gO, k, none⟩ (.slice (some ⟨g, 0, none⟩) (r.vs.length + 1) cap)).heap[b]? = w2.heap[b]? := fun b hb => Below.heap_setCell _ _ _ b hb
 have fin : ∀ (r' : RS) (l' : List WD), ORow w2 B r' l' → ORow (w2.setCell ⟨gO, k, none⟩ (.slice (some ⟨g, 0, none⟩) (r.vs.length + 1) cap)) B r' l' := fun r' l' p => by
  refine p.kept (fun b e => kS b (fun e' => ?_)) (fun a ha => kS _ (fun e' => ?_)) (by simp)
  ·subst e'
   obtain ⟨cs, c1⟩ := p.blkT e
   rw [ocs2, ocs] at c1
   injection c1 with c1
   injection c1 with _ c1
   exact absurd c1 (by decide)
  ·obtain ⟨cs, f, c1⟩ := p.vt a ha
   rw [e', ocs2, ocs] at c1
   injection c1 with c1
   injection c1 with _ c1
   exact absurd c1 (by decide)
 have oth : ∀ (i : Nat) (r1 : RS) (l1 : List WD), i ≠ k → S[i]? = some r1 → m[i]? = some l1 → ORow w2 B r1 l1 := fun i r1 l1 hik e1 e2 => by
  have p := h1.r i r1 l1 e1 e2
  refine p.kept (fun b e => hg.block _ (World.ownsRow.lt p.own _ e).2 (fun e' => ?_)) (fun a ha => hg.block _ (p.blk ha).2 (fun e' => ?_)) hg.size
  ·exact (h1.sepR hne e1 e2 hk hl hik e'.symm).1 b e rfl
  ·exact (h1.sepR hne e1 e2 hk hl hik e'.symm).2 a ha rfl
 refine ⟨by simp [hn1], ?_, fun i r1 l1 e1 e2 => ?_, ?_⟩
 ·have o2 : w2.ownsRow B 44 1 (.slice (some ⟨gO, 0, none⟩) m.length cO) m.length (S.map RS.val) := by
   have := ownKeep' (w' := w2) h1.row (fun b e => by have e9 : some gO = some b := e; injection e9 with e9; subst e9; exact ocs2)
   rw [hn1] at this
   exact this
  have p1 := (World.ownsRow.stored o2 k (.slice (some ⟨g, 0, none⟩) (r.vs.length + 1) cap)).1
  have e3 : (S.map RS.val).set k (.slice (some ⟨g, 0, none⟩) (r.vs.length + 1) cap) = (S.set k ⟨some ⟨g, 0, none⟩, cap, r.vs ++ [x]⟩).map RS.val := by
   rw [List.map_set]
   simp [RS.val]
  rw [e3] at p1
  rw [List.length_set, hn1]
  exact p1
 ·by_cases hik : i = k
  ·subst hik
   rw [List.getElem?_set_self hkS] at e1
   rw [List.getElem?_set_self hkm] at e2
   injection e1 with e1
   injection e2 with e2
   subst e1 e2
   exact fin _ _ P
  ·rw [List.getElem?_set_ne (fun e => hik e.symm)] at e1 e2
   exact fin _ _ (oth i r1 l1 hik e1 e2)
 ·have sp := mAs_cut hk
  have d0 := h.d
  rw [sp] at d0
  obtain ⟨dA, dr, dAr⟩ := List.nodup_append.1 d0
  obtain ⟨drr, dB, drB⟩ := List.nodup_append.1 dr
  rw [List.set_eq_take_append_cons_drop, if_pos hkS, mAs_join]
  show (mAs (S.take k) ++ (rAs (some ⟨g, 0, none⟩) (r.vs ++ [x]) 0 ++ mAs (S.drop (k + 1)))).Nodup
  -- an address of the new row is in no other row
  have key : ∀ a ∈ rAs (some ⟨g, 0, none⟩) (r.vs ++ [x]) 0, ∀ (i : Nat) (r1 : RS), i ≠ k → S[i]? = some r1 → a ∉ rAs r1.s r1.vs 0 := fun a ha i r1 hik e1 ha1 => by
   have hil : i < m.length := by have := (List.getElem?_eq_some_iff.1 e1).1; omega
   have e2 : m[i]? = some m[i] := List.getElem?_eq_getElem hil
   have ao := old a (mem_mAs.2 ⟨r1, List.mem_of_getElem? e1, ha1⟩)
   rcases mem_rAs.1 ha with ⟨j, hj, e⟩ | ⟨x', hx', hax⟩
   ·rcases hn with hn | hn
    ·have sr := h1.sepR hne e1 e2 hk hl hik hn
     rcases mem_rAs.1 ha1 with ⟨j1, hj1, e3⟩ | ⟨x1, hx1, hax1⟩
     ·obtain ⟨g1, cap1, f1, -⟩ := World.ownsRow.form (h1.r i r1 _ e1 e2).own (hne i r1 e1)
      have s1 : r1.s = some ⟨g1, 0, none⟩ := by unfold RS.val at f1; injection f1 with f1
      have := sr.1 g1 (by unfold RS.val; rw [s1]; rfl)
      rw [s1] at e3
      rw [e3] at e
      injection e with e _ _
      exact this e
     ·exact sr.2 a (mem_vsA.2 ⟨x1, hx1, hax1⟩) (by rw [e]; rfl)
    ·have : a.block = g := by rw [e]; rfl
     have := hb.size
     omega
   ·rcases List.mem_append.1 hx' with hx' | hx'
    ·have m1 : a ∈ rAs r.s r.vs 0 := mem_rAs.2 (.inr ⟨x', hx', hax⟩)
     rcases Nat.lt_or_gt_of_ne hik with h9 | h9
     ·exact mAs_disj h.d e1 hk h9 a ha1 m1
     ·exact mAs_disj h.d hk e1 h9 a m1 ha1
    ·simp at hx'
     subst hx'
     have := (hx.blk hax).1
     omega
  refine List.nodup_append.2 ⟨dA, List.nodup_append.2 ⟨P.ro.d, dB, fun a ha b hb' e => ?_⟩, fun a ha b hb' e => ?_⟩
  ·subst e
   obtain ⟨r1, hr1, har⟩ := mem_mAs.1 hb'
   obtain ⟨i, hi', er⟩ := List.getElem_of_mem hr1
   rw [List.getElem_drop] at er
   exact key a ha (k + 1 + i) r1 (by omega) (by rw [List.getElem?_eq_getElem (by simp at hi'; omega), er]) har
  ·subst e
   rcases List.mem_append.1 hb' with hb' | hb'
   ·obtain ⟨r1, hr1, har⟩ := mem_mAs.1 ha
    obtain ⟨i, hi', er⟩ := List.getElem_of_mem hr1
    rw [List.getElem_take] at er
    exact key a hb' i r1 (by simp at hi'; omega) (by rw [List.getElem?_eq_getElem (by simp at hi'; omega), er]) har
   ·exact dAr a ha a (List.mem_append_right _ hb') rfl
end Go.Proofs.Ytepfpbcjklaenaa
