/- A store of an integer over an integer leaves the shape of every memory and of every row. No condition. -/
import Derived.Test.YtlhhdkemmhlloaaDrawM
namespace Go.Proofs.Ytlhhdkemmhlloaa
set_option linter.unusedSimpArgs false
set_option linter.unusedVariables false
set_option maxRecDepth 100000
open Go.RowKit

structure Soft (w w' : World) : Prop where
  int : ∀ a z, w.cell? a = some (.int .i64 z) → ∃ z', w'.cell? a = some (.int .i64 z')
  sl : ∀ a s n c, w.cell? a = some (.slice s n c) → w'.cell? a = some (.slice s n c)
  size : w'.heap.size = w.heap.size
theorem soft_set {w : World} {a : Addr} {z z0 : Int} (h : w.cell? a = some (.int .i64 z0)) : Soft w (w.setCell a (.int .i64 z)) := by
  refine ⟨fun b y hb => ?_, fun b s n c hb => ?_, by simp⟩
  · by_cases e : a = b
    · subst e
      exact ⟨z, World.cell?_setCell_same' w _ _ (by rw [h]; rfl)⟩
    · exact ⟨y, by rw [World.cell?_setCell_other _ _ _ _ e]; exact hb⟩
  · rw [World.cell?_setCell_other]
    · exact hb
    · intro e
      subst e
      rw [h] at hb
      cases hb
theorem list_of {α : Type} {P : Nat → α → Prop} : ∀ n : Nat, (∀ i, i < n → ∃ y, P i y) → ∃ L : List α, L.length = n ∧ ∀ i y, L[i]? = some y → P i y
  | 0, _ => ⟨[], rfl, fun i y h => by simp at h⟩
  | n + 1, h => by
    obtain ⟨L, h1, h2⟩ := list_of n (fun i hi => h i (by omega))
    obtain ⟨y, hy⟩ := h n (by omega)
    refine ⟨L ++ [y], by simp [h1], fun i z hz => ?_⟩
    rcases getElem?_push hz with hz | ⟨rfl, rfl⟩
    · exact h2 i z hz
    · rw [h1]; exact hy
theorem IntsR.soft {w w' : World} {lo hi : Nat} {s : Option Addr} {l : List Int} (h : IntsR w lo hi s l) (hs : Soft w w') : ∃ l', l'.length = l.length ∧ IntsR w' lo hi s l' := by
  rcases h with rfl | ⟨g, o, e, h1, h2, hc⟩
  · exact ⟨[], rfl, .inl rfl⟩
  · obtain ⟨L, l1, l2⟩ := list_of (P := fun i z => w'.cell? ⟨g, o + i, none⟩ = some (.int .i64 z)) l.length (fun i hi => hs.int _ _ (hc i hi))
    refine ⟨L, l1, .inr ⟨g, o, e, h1, h2, fun i hi => ?_⟩⟩
    have := l2 i L[i] (List.getElem?_eq_getElem hi)
    rw [this, List.getD_eq_getElem?_getD, List.getElem?_eq_getElem hi]
    rfl
theorem WR.soft {w w' : World} {lo hi g off : Nat} {x : WD} (h : WR w lo hi g off x) (hs : Soft w w') : ∃ x' : WD, WR w' lo hi g off x' ∧ x'.vw.length = x.vw.length := by
  obtain ⟨s, c, h1, h2, h3⟩ := h
  obtain ⟨z, hz⟩ := hs.int _ _ h1
  obtain ⟨l', e, hl⟩ := h3.soft hs
  exact ⟨⟨z, l'⟩, ⟨s, c, hz, by show _ = some (Value.slice s l'.length c); rw [e]; exact hs.sl _ _ _ _ h2, hl⟩, e⟩
theorem szV_same : ∀ (l l' : List WD), l'.length = l.length → (∀ (i : Nat) (x x' : WD), l[i]? = some x → l'[i]? = some x' → x'.vw.length = x.vw.length) → szV l' = szV l
  | [], [], _, _ => rfl
  | x :: r, x' :: r', h, hp => by
    have h0 := hp 0 x x' rfl rfl
    have h1 := szV_same r r' (by simpa using h) (fun i y y' hy hy' => hp (i + 1) y y' (by simpa using hy) (by simpa using hy'))
    simp [szV, h0, h1]
  | [], x :: r, h, _ => by simp at h
  | x :: r, [], h, _ => by simp at h
theorem szR_same : ∀ (l l' : List (List WD)), l'.length = l.length → (∀ (i : Nat) (x x' : List WD), l[i]? = some x → l'[i]? = some x' → x'.length = x.length ∧ szV x' = szV x) → szR l' = szR l
  | [], [], _, _ => rfl
  | x :: r, x' :: r', h, hp => by
    have h0 := hp 0 x x' rfl rfl
    have h1 := szR_same r r' (by simpa using h) (fun i y y' hy hy' => hp (i + 1) y y' (by simpa using hy) (by simpa using hy'))
    simp [szR, h0, h1]
  | [], x :: r, h, _ => by simp at h
  | x :: r, [], h, _ => by simp at h
theorem WsR.soft {w w' : World} {lo hi : Nat} {s : Option Addr} {l : List WD} (h : WsR w lo hi s l) (hs : Soft w w') : ∃ l', WsR w' lo hi s l' ∧ l'.length = l.length ∧ szV l' = szV l := by
  rcases h with rfl | ⟨g, o, e, h1, h2, hc⟩
  · exact ⟨[], .inl rfl, rfl, rfl⟩
  · obtain ⟨L, l1, l2⟩ := list_of (P := fun i (x' : WD) => WR w' lo hi g (o + i * 2) x' ∧ ∀ x, l[i]? = some x → x'.vw.length = x.vw.length) l.length (fun i hi => by
      obtain ⟨x', a, b⟩ := (hc i _ (List.getElem?_eq_getElem hi)).soft hs
      exact ⟨x', a, fun x hx => by rw [List.getElem?_eq_getElem hi] at hx; injection hx with hx; subst hx; exact b⟩)
    exact ⟨L, .inr ⟨g, o, e, h1, h2, fun i x hx => (l2 i x hx).1⟩, l1, szV_same l L l1 (fun i x x' hx hx' => (l2 i x' hx').2 x hx)⟩
theorem MemR.soft {w w' : World} {lo hi : Nat} {s : Option Addr} {m : List (List WD)} (h : MemR w lo hi s m) (hs : Soft w w') : ∃ m', MemR w' lo hi s m' ∧ m'.length = m.length ∧ szR m' = szR m := by
  rcases h with rfl | ⟨g, o, e, h1, h2, hc⟩
  · exact ⟨[], .inl rfl, rfl, rfl⟩
  · obtain ⟨L, l1, l2⟩ := list_of (P := fun i (x' : List WD) => RwR w' lo hi g (o + i) x' ∧ ∀ x, m[i]? = some x → x'.length = x.length ∧ szV x' = szV x) m.length (fun i hi => by
      obtain ⟨s1, c1, a, b⟩ := hc i _ (List.getElem?_eq_getElem hi)
      obtain ⟨r', b1, b2, b3⟩ := b.soft hs
      exact ⟨r', ⟨s1, c1, by rw [b2]; exact hs.sl _ _ _ _ a, b1⟩, fun x hx => by rw [List.getElem?_eq_getElem hi] at hx; injection hx with hx; subst hx; exact ⟨b2, b3⟩⟩)
    exact ⟨L, .inr ⟨g, o, e, h1, h2, fun i x hx => (l2 i x hx).1⟩, l1, szR_same m L l1 (fun i x x' hx hx' => (l2 i x' hx').2 x hx)⟩
theorem MemR.tail {w : World} {lo hi g o : Nat} {m : List (List WD)} (h : MemR w lo hi (some ⟨g, o, none⟩) m) : MemR w lo hi (some ⟨g, o + 1, none⟩) (m.drop 1) := by
  rcases h with rfl | ⟨g', o', e, h1, h2, hc⟩
  · exact .inl rfl
  · injection e with e
    injection e with e1 e2
    subst e1 e2
    refine .inr ⟨g, o + 1, rfl, h1, h2, fun i l hl => ?_⟩
    rw [List.getElem?_drop] at hl
    have := hc (1 + i) l hl
    rw [show o + 1 + i = o + (1 + i) by omega]
    exact this
theorem IntsR.tail {w : World} {lo hi g o : Nat} {l : List Int} (h : IntsR w lo hi (some ⟨g, o, none⟩) l) : IntsR w lo hi (some ⟨g, o + 1, none⟩) (l.drop 1) := by
  rcases h with rfl | ⟨g', o', e, h1, h2, hc⟩
  · exact .inl rfl
  · injection e with e
    injection e with e1 e2
    subst e1 e2
    refine .inr ⟨g, o + 1, rfl, h1, h2, fun i hi => ?_⟩
    have hi' : 1 + i < l.length := by simp at hi; omega
    have := hc (1 + i) hi'
    rw [show o + 1 + i = o + (1 + i) by omega, this]
    congr 2
    simp [List.getD, List.getElem?_drop, Nat.add_comm]
theorem szR_drop : ∀ m : List (List WD), szR (m.drop 1) ≤ szR m
  | [] => Nat.le_refl _
  | x :: r => by simp [szR]
theorem szR_set0 : ∀ (m : List (List WD)) (k : Nat), szR (m.set k []) ≤ szR m
  | [], k => by simp [szR]
  | x :: r, 0 => by simp [szR, szV]
  | x :: r, k + 1 => by have := szR_set0 r k; simp [szR]; omega

end Go.Proofs.Ytlhhdkemmhlloaa
