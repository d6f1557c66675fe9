/- Rows of code and of cores that a call has made: owned whole, so that more may be put behind them. No condition. Append of steps onto an empty row, and of a row of steps onto rows of them. Conditions: fewer than 2^30 of them. Append of a core onto a row of them. Conditions: fewer than 2^30 of them. Rows of code copied by the program and by the specification. Conditions: they are counted. -/
import Derived.Test.YtepfpbcjklaenaaKG00
import Derived.Test.YtepfpbcjklaenaaKG02
import Derived.Test.YtepfpbcjklaenaaKG06
import Derived.Test.YtepfpbcjklaenaaKG04
namespace Go.Proofs.Ytepfpbcjklaenaa
set_option linter.unusedSimpArgs false
set_option linter.unusedVariables false
set_option maxRecDepth 100000
section
open Go.RowKit
structure KV where
 d : KD
 r : Value
 v : Value
structure CV where
 l : List I5
 v : Value
def flatK : List KV → List Value
 | [] => []
 | x :: t => [.int .i64 x.d.pc, x.r, x.v, .int .i64 x.d.st] ++ flatK t
theorem flatK_app : ∀ (a b : List KV), flatK (a ++ b) = flatK a ++ flatK b
 | [], b => rfl
 | x :: r, b => by simp [flatK, flatK_app r b]
theorem flatK_at : ∀ (L : List KV) (i : Nat) (x : KV), L[i]? = some x → (flatK L)[i * 4]? = some (.int .i64 x.d.pc) ∧ (flatK L)[i * 4 + 1]? = some x.r ∧ (flatK L)[i * 4 + 2]? = some x.v ∧ (flatK L)[i * 4 + 3]? = some (.int .i64 x.d.st)
 | [], i, x, h => by simp at h
 | y :: r, 0, x, h => by
  simp at h
  subst h
  exact ⟨rfl, rfl, rfl, rfl⟩
 | y :: r, i + 1, x, h => by
  have h' : r[i]? = some x := by simpa using h
  have e := flatK_at r i x h'
  have e0 : (i + 1) * 4 = i * 4 + 4 := by omega
  rw [e0]
  exact e
structure OwnK (w : World) (base : Nat) (v : Value) (L : List KV) : Prop where
 row : w.ownsRow base 46 4 v L.length (flatK L)
 inn : ∀ (i : Nat) (x : KV), L[i]? = some x → OwnN w base x.r x.d.regs ∧ OwnN w base x.v x.d.vw
 two : ∀ (i : Nat) (x : KV) (k : Nat), L[i]? = some x → x.r.ownBlock = some k → x.v.ownBlock ≠ some k
 sep : ∀ (i j : Nat) (x y : KV) (k : Nat), L[i]? = some x → L[j]? = some y → i ≠ j → (x.r.ownBlock = some k ∨ x.v.ownBlock = some k) → ¬ (y.r.ownBlock = some k ∨ y.v.ownBlock = some k)
def OwnT5 (w : World) (base : Nat) (v : Value) (l : List I5) : Prop := w.ownsRow base 25 5 v l.length ((fl5 l).map (Value.int .i64))
structure OwnC (w : World) (base : Nat) (v : Value) (L : List CV) : Prop where
 row : w.ownsRow base 26 1 v L.length (L.map CV.v)
 inn : ∀ (i : Nat) (x : CV), L[i]? = some x → OwnT5 w base x.v x.l
 sep : ∀ (i j : Nat) (x y : CV) (k : Nat), L[i]? = some x → L[j]? = some y → i ≠ j → x.v.ownBlock = some k → y.v.ownBlock ≠ some k
theorem OwnK.keep {w w' : World} {base : Nat} {v : Value} {L : List KV} (h : OwnK w base v L) (hb : ∀ k, base ≤ k → k < w.heap.size → w'.heap[k]? = w.heap[k]?) : OwnK w' base v L :=
 ⟨ownKeep' h.row (fun k hk => hb k (World.ownsRow.lt h.row _ hk).1 (World.ownsRow.lt h.row _ hk).2), fun i x hx => ⟨ownKeep' (h.inn i x hx).1 (fun k hk => hb k (World.ownsRow.lt (h.inn i x hx).1 _ hk).1 (World.ownsRow.lt (h.inn i x hx).1 _ hk).2), ownKeep' (h.inn i x hx).2 (fun k hk => hb k (World.ownsRow.lt (h.inn i x hx).2 _ hk).1 (World.ownsRow.lt (h.inn i x hx).2 _ hk).2)⟩, h.two, h.sep⟩
theorem OwnK.below {w w' : World} {base : Nat} {v : Value} {L : List KV} (h : OwnK w base v L) (hb : Below w.heap.size w w') : OwnK w' base v L := h.keep fun k _ hk => hb.block k hk
theorem OwnK.nil (w : World) (base : Nat) : OwnK w base (.slice none 0 0) [] := ⟨World.ownsRow_nil _ _ _ _, fun i x hx => by simp at hx, fun i x k hx => by simp at hx, fun i j x y k hx => by simp at hx⟩
theorem OwnC.keep {w w' : World} {base : Nat} {v : Value} {L : List CV} (h : OwnC w base v L) (hb : ∀ k, base ≤ k → k < w.heap.size → w'.heap[k]? = w.heap[k]?) : OwnC w' base v L :=
 ⟨ownKeep' h.row (fun k hk => hb k (World.ownsRow.lt h.row _ hk).1 (World.ownsRow.lt h.row _ hk).2), fun i x hx => ownKeep' (h.inn i x hx) (fun k hk => hb k (World.ownsRow.lt (h.inn i x hx) _ hk).1 (World.ownsRow.lt (h.inn i x hx) _ hk).2), h.sep⟩
theorem OwnC.below {w w' : World} {base : Nat} {v : Value} {L : List CV} (h : OwnC w base v L) (hb : Below w.heap.size w w') : OwnC w' base v L := h.keep fun k _ hk => hb.block k hk
theorem OwnC.nil (w : World) (base : Nat) : OwnC w base (.slice none 0 0) [] := ⟨World.ownsRow_nil _ _ _ _, fun i x hx => by simp at hx, fun i j x y k hx => by simp at hx⟩
theorem VO.nodup {w : World} {lo hi : Nat} {x : VS} {l : List Int} (h : VO w lo hi x l) : (vAs x).Nodup := by
 rcases h.c with e | ⟨g, o, hs, -⟩
 ·have := h.n
  rw [e] at this
  simp at this
  simp [vAs, this]
 ·exact vAs_nodup hs
theorem push_get {α : Type} {L : List α} {y z : α} {i : Nat} (h : (L ++ [y])[i]? = some z) : L[i]? = some z ∨ (i = L.length ∧ z = y) := by
 rcases getElem?_push h with h | ⟨h, e⟩
 ·exact .inl h
 ·exact .inr ⟨h, e⟩
/- one more behind a row -/
theorem OwnC.push {w w' : World} {base g cap : Nat} {v : Value} {L : List CV} {y : CV} (h : OwnC w base v L) (hy : OwnT5 w base y.v y.l)
  (hs : ∀ (i : Nat) (z : CV) (k : Nat), L[i]? = some z → y.v.ownBlock = some k → z.v.ownBlock ≠ some k)
  (q1 : w'.ownsRow base 26 1 (.slice (some ⟨g, 0, none⟩) (L.length + 1) cap) (L.length + 1) (L.map CV.v ++ [y.v])) (hk : ∀ k, k < w.heap.size → v.ownBlock ≠ some k → w'.heap[k]? = w.heap[k]?) :
  OwnC w' base (.slice (some ⟨g, 0, none⟩) (L.length + 1) cap) (L ++ [y]) := by
 have kp : ∀ (x : CV), OwnT5 w base x.v x.l → OwnT5 w' base x.v x.l := fun x hx => ownKeep' hx (fun k hk' => hk k (World.ownsRow.lt hx _ hk').2 (ownType' hx h.row (by decide) hk'))
 refine ⟨by rw [List.map_append, List.length_append]; exact q1, fun i x hx => ?_, fun i j x z k hx hz hne => ?_⟩
 ·rcases push_get hx with hx | ⟨-, rfl⟩
  ·exact kp _ (h.inn i x hx)
  ·exact kp _ hy
 ·rcases push_get hx with hx1 | ⟨e1, ex⟩ <;> rcases push_get hz with hz1 | ⟨e2, ez⟩
  ·exact h.sep i j x z k hx1 hz1 hne
  ·rw [ez]
   intro a b
   exact hs i x k hx1 b a
  ·rw [ex]
   exact hs j z k hz1
  ·omega
theorem OwnK.push {w w' : World} {base g cap : Nat} {v : Value} {L : List KV} {y : KV} (h : OwnK w base v L) (hy : OwnN w base y.r y.d.regs ∧ OwnN w base y.v y.d.vw) (ht : ∀ k, y.r.ownBlock = some k → y.v.ownBlock ≠ some k)
  (hs : ∀ (i : Nat) (z : KV) (k : Nat), L[i]? = some z → (y.r.ownBlock = some k ∨ y.v.ownBlock = some k) → ¬ (z.r.ownBlock = some k ∨ z.v.ownBlock = some k))
  (q1 : w'.ownsRow base 46 4 (.slice (some ⟨g, 0, none⟩) (L.length + 1) cap) (L.length + 1) (flatK L ++ [.int .i64 y.d.pc, y.r, y.v, .int .i64 y.d.st])) (hk : ∀ k, k < w.heap.size → v.ownBlock ≠ some k → w'.heap[k]? = w.heap[k]?) :
  OwnK w' base (.slice (some ⟨g, 0, none⟩) (L.length + 1) cap) (L ++ [y]) := by
 have kp : ∀ (u : Value) (l : List Int), OwnN w base u l → OwnN w' base u l := fun u l hx => ownKeep' hx (fun k hk' => hk k (World.ownsRow.lt hx _ hk').2 (ownType' hx h.row (by decide) hk'))
 refine ⟨by rw [flatK_app, List.length_append]; exact q1, fun i x hx => ?_, fun i x k hx => ?_, fun i j x z k hx hz hne => ?_⟩
 ·rcases push_get hx with hx | ⟨-, rfl⟩
  ·exact ⟨kp _ _ (h.inn i x hx).1, kp _ _ (h.inn i x hx).2⟩
  ·exact ⟨kp _ _ hy.1, kp _ _ hy.2⟩
 ·rcases push_get hx with hx | ⟨-, rfl⟩
  ·exact h.two i x k hx
  ·exact ht k
 ·rcases push_get hx with hx1 | ⟨e1, ex⟩ <;> rcases push_get hz with hz1 | ⟨e2, ez⟩
  ·exact h.sep i j x z k hx1 hz1 hne
  ·rw [ez]
   intro a b
   exact hs i x k hx1 b a
  ·rw [ex]
   exact hs j z k hz1
  ·omega
/- rows that are owned, as rows of records -/
theorem vAs_blk {s : Option Addr} {n c e : Nat} {a : Addr} (ha : a ∈ vAs ((⟨s, n, c⟩ : VS).wide e)) (hs : Somewhere s) : (Value.slice s n c).ownBlock = some a.block := by
 obtain ⟨i, -, rfl⟩ := mem_vAs.1 ha
 obtain ⟨g, o, rfl⟩ := hs
 rfl
theorem VO.own {w : World} {lo hi : Nat} {s : Option Addr} {n c e : Nat} {l : List Int} (h : VO w lo hi ((⟨s, n, c⟩ : VS).wide e) l) {a : Addr} (ha : a ∈ vAs ((⟨s, n, c⟩ : VS).wide e)) : (Value.slice s n c).ownBlock = some a.block := by
 rcases h.c with e | ⟨g, o, hs, -⟩
 ·have := h.n
  rw [e] at this
  obtain ⟨i, hi', -⟩ := mem_vAs.1 ha
  rw [this] at hi'
  simp at hi'
 ·exact vAs_blk ha ⟨g, o, hs⟩
theorem OwnC.go {w : World} {base : Nat} {v : Value} {L : List CV} (h : OwnC w base v L) : ∃ s c R, v = .slice s L.length c ∧ GO w base w.heap.size s TC R (L.map fun x => codeV x.l) := by
 rcases Nat.eq_zero_or_pos L.length with h0 | hpos
 ·obtain ⟨s, c, e⟩ := ownSl h.row
  rw [List.length_eq_zero_iff.1 h0]
  rw [h0] at e
  exact ⟨s, c, [], e, GO.nil _ _ _ _ _⟩
 obtain ⟨g, cap, e, -⟩ := World.ownsRow.form h.row hpos
 have hlt := World.ownsRow.lt h.row g (by rw [e]; rfl)
 have hrow := h.row
 rw [e] at hrow
 have step : ∀ k, k ≤ L.length → ∃ R, GO w base w.heap.size (some ⟨g, 0, none⟩) TC R ((L.take k).map fun x => codeV x.l) ∧ ∀ a ∈ gAs (some ⟨g, 0, none⟩) TC.length R 0, ∃ (i : Nat) (x : CV), i < k ∧ L[i]? = some x ∧ x.v.ownBlock = some a.block := by
  intro k
  induction k with
  | zero => intro _; exact ⟨[], GO.nil _ _ _ _ _, fun a ha => by simp [gAs] at ha⟩
  | succ k ih =>
   intro hk
   obtain ⟨R, hR, hA⟩ := ih (by omega)
   obtain ⟨x, hx⟩ : ∃ x, L[k]? = some x := ⟨_, List.getElem?_eq_getElem (by omega)⟩
   obtain ⟨s, c, ev, vo⟩ := own_vo (h.inn k x hx) (fl5_len x.l)
   have tl : ((L.take k).map fun x => codeV x.l).length = k := by simp; omega
   have ow : ∀ a ∈ vAs ((⟨s, x.l.length, c⟩ : VS).wide 5), x.v.ownBlock = some a.block := fun a ha => by rw [ev]; exact vo.own ha
   refine ⟨R ++ [[.r ⟨s, x.l.length, c⟩ 5]], ?_, fun a ha => ?_⟩
   ·have et : (L.take (k + 1)).map (fun x => codeV x.l) = (L.take k).map (fun x => codeV x.l) ++ [codeV x.l] := by rw [List.take_add_one, hx]; simp
    rw [et]
    refine GO.push _ _ hR ⟨_, _, rfl⟩ rfl rfl (fun _ _ _ _ _ _ _ _ _ _ hf => hf) (fun j f u hf hu => ?_) (fun x' e' hx' a ha g' o' hg' => ?_) ?_ (fun a ha ha' => ?_)
    ·match j, hf, hu with
     | 0, hf, hu =>
      simp at hf
      simp [codeV] at hu
      subst hf hu
      rw [tl]
      refine ⟨?_, ⟨hlt.1, hlt.2⟩, vo⟩
      have q := World.ownsRow.cellAt hrow k (by omega)
      rw [List.getElem?_map, hx] at q
      simp only [Option.map_some] at q
      rw [ev] at q
      simpa [adr, TC] using q
    ·simp at hx'
     obtain ⟨rfl, rfl⟩ := hx'
     injection hg' with hg'
     injection hg' with hg'
     intro eb
     refine ownType' (h.inn k x hx) hrow (by decide) (ow a ha) ?_
     rw [eb, ← hg']
     rfl
    ·simp only [recAs, fAs, List.append_nil]
     exact vo.nodup
    ·simp only [recAs, fAs, List.append_nil] at ha'
     obtain ⟨i, z, hi, hz, hb⟩ := hA a ha
     exact h.sep i k z x _ hz hx (by omega) hb (ow a ha')
   ·rw [gAs_append] at ha
    rcases List.mem_append.1 ha with ha | ha
    ·obtain ⟨i, z, hi, hz, hb⟩ := hA a ha
     exact ⟨i, z, by omega, hz, hb⟩
    ·simp only [gAs, recAs, fAs, List.append_nil] at ha
     exact ⟨k, x, by omega, hx, ow a ha⟩
 obtain ⟨R, hR, -⟩ := step L.length (Nat.le_refl _)
 rw [List.take_length] at hR
 exact ⟨some ⟨g, 0, none⟩, cap, R, e, hR⟩
theorem OwnK.go {w : World} {base : Nat} {v : Value} {L : List KV} (h : OwnK w base v L) : ∃ s c R, v = .slice s L.length c ∧ GO w base w.heap.size s TK R (L.map fun x => coreV x.d) ∧ ∀ a ∈ gAs s TK.length R 0, v.ownBlock = some a.block ∨ ∃ (i : Nat) (x : KV), L[i]? = some x ∧ (x.r.ownBlock = some a.block ∨ x.v.ownBlock = some a.block) := by
 rcases Nat.eq_zero_or_pos L.length with h0 | hpos
 ·obtain ⟨s, c, e⟩ := ownSl h.row
  rw [List.length_eq_zero_iff.1 h0]
  rw [h0] at e
  exact ⟨s, c, [], e, GO.nil _ _ _ _ _, fun a ha => by simp [gAs] at ha⟩
 obtain ⟨g, cap, e, -⟩ := World.ownsRow.form h.row hpos
 have hlt := World.ownsRow.lt h.row g (by rw [e]; rfl)
 have hrow := h.row
 rw [e] at hrow
 have step : ∀ k, k ≤ L.length → ∃ R, GO w base w.heap.size (some ⟨g, 0, none⟩) TK R ((L.take k).map fun x => coreV x.d) ∧ ∀ a ∈ gAs (some ⟨g, 0, none⟩) TK.length R 0, (∃ i j, i < k ∧ j < 4 ∧ a = ⟨g, i * 4 + j, none⟩) ∨ ∃ (i : Nat) (x : KV), i < k ∧ L[i]? = some x ∧ (x.r.ownBlock = some a.block ∨ x.v.ownBlock = some a.block) := by
  intro k
  induction k with
  | zero => intro _; exact ⟨[], GO.nil _ _ _ _ _, fun a ha => by simp [gAs] at ha⟩
  | succ k ih =>
   intro hk
   obtain ⟨R, hR, hA⟩ := ih (by omega)
   obtain ⟨x, hx⟩ : ∃ x, L[k]? = some x := ⟨_, List.getElem?_eq_getElem (by omega)⟩
   obtain ⟨i1, i2⟩ := h.inn k x hx
   obtain ⟨s, c, ev, vo⟩ := own_vo (size := 1) i1 (by simp)
   obtain ⟨s', c', ev', vo'⟩ := own_vo (size := 1) i2 (by simp)
   rw [wide_one] at vo vo'
   have tl : ((L.take k).map fun x => coreV x.d).length = k := by simp; omega
   have ow : ∀ a ∈ vAs (⟨s, x.d.regs.length, c⟩ : VS), x.r.ownBlock = some a.block := fun a ha => by rw [ev]; exact VO.own (e := 1) (by rw [wide_one]; exact vo) (by rw [wide_one]; exact ha)
   have ow' : ∀ a ∈ vAs (⟨s', x.d.vw.length, c'⟩ : VS), x.v.ownBlock = some a.block := fun a ha => by rw [ev']; exact VO.own (e := 1) (by rw [wide_one]; exact vo') (by rw [wide_one]; exact ha)
   have far : ∀ {u : Value} {l : List Int} {a : Addr}, OwnN w base u l → u.ownBlock = some a.block → a.block ≠ g := fun hu ha eb => ownType' hu hrow (by decide) ha (by rw [eb]; rfl)
   obtain ⟨fa, fb, fc, fd⟩ := flatK_at L k x hx
   have q : ∀ j u, j < 4 → (flatK L)[k * 4 + j]? = some u → w.cell? ⟨g, k * 4 + j, none⟩ = some u := fun j u hj hu => by rw [World.ownsRow.cellAt hrow (k * 4 + j) (by omega)]; exact hu
   have ra : recAs (some ⟨g, 0, none⟩) [.i, .r ⟨s, x.d.regs.length, c⟩ 1, .r ⟨s', x.d.vw.length, c'⟩ 1, .i] (k * TK.length) = ⟨g, k * 4, none⟩ :: (vAs (⟨s, x.d.regs.length, c⟩ : VS) ++ (vAs (⟨s', x.d.vw.length, c'⟩ : VS) ++ [⟨g, k * 4 + 3, none⟩])) := by
    simp [recAs, fAs, wide_one, adr, TK]
   have et : (L.take (k + 1)).map (fun x => coreV x.d) = (L.take k).map (fun x => coreV x.d) ++ [coreV x.d] := by rw [List.take_add_one, hx]; simp
   refine ⟨R ++ [[.i, .r ⟨s, x.d.regs.length, c⟩ 1, .r ⟨s', x.d.vw.length, c'⟩ 1, .i]], ?_, fun a ha => ?_⟩
   ·rw [et]
    refine GO.push _ _ hR ⟨_, _, rfl⟩ rfl rfl (fun _ _ _ _ _ _ _ _ _ _ hf => hf) (fun j f u hf hu => ?_) (fun x' e' hx' a ha g' o' hg' => ?_) ?_ (fun a ha ha' => ?_)
    ·rw [tl]
     match j, hf, hu with
     | 0, hf, hu =>
      simp at hf
      simp [coreV] at hu
      subst hf hu
      exact ⟨by simpa [adr, TK] using q 0 _ (by omega) fa, World.ownsRow.frozenAt hrow _, hlt.1, hlt.2⟩
     | 1, hf, hu =>
      simp at hf
      simp [coreV] at hu
      subst hf hu
      refine ⟨by have := q 1 _ (by omega) fb; rw [ev] at this; simpa [adr, TK] using this, ⟨hlt.1, hlt.2⟩, by rw [wide_one]; exact vo⟩
     | 2, hf, hu =>
      simp at hf
      simp [coreV] at hu
      subst hf hu
      refine ⟨by have := q 2 _ (by omega) fc; rw [ev'] at this; simpa [adr, TK] using this, ⟨hlt.1, hlt.2⟩, by rw [wide_one]; exact vo'⟩
     | 3, hf, hu =>
      simp at hf
      simp [coreV] at hu
      subst hf hu
      exact ⟨by simpa [adr, TK] using q 3 _ (by omega) fd, World.ownsRow.frozenAt hrow _, hlt.1, hlt.2⟩
    ·injection hg' with hg'
     injection hg' with hg'
     simp at hx'
     rw [← hg']
     rcases hx' with ⟨rfl, rfl⟩ | ⟨rfl, rfl⟩
     ·rw [wide_one] at ha
      exact far i1 (ow a ha)
     ·rw [wide_one] at ha
      exact far i2 (ow' a ha)
    ·rw [tl, ra]
     refine List.nodup_cons.2 ⟨fun hm => ?_, List.nodup_append.2 ⟨vo.nodup, List.nodup_append.2 ⟨vo'.nodup, by simp, fun a ha b hb eq => ?_⟩, fun a ha b hb eq => ?_⟩⟩
     ·rcases List.mem_append.1 hm with hm | hm
      ·exact far i1 (ow _ hm) rfl
      ·rcases List.mem_append.1 hm with hm | hm
       ·exact far i2 (ow' _ hm) rfl
       ·simp at hm
     ·simp at hb
      subst hb eq
      exact far i2 (ow' _ ha) rfl
     ·subst eq
      rcases List.mem_append.1 hb with hb | hb
      ·exact h.two k x _ hx (ow _ ha) (ow' _ hb)
      ·simp at hb
       subst hb
       exact far i1 (ow _ ha) rfl
    ·rw [tl, ra] at ha'
     have new : a.block = g ∧ (a = ⟨g, k * 4, none⟩ ∨ a = ⟨g, k * 4 + 3, none⟩) ∨ (x.r.ownBlock = some a.block ∨ x.v.ownBlock = some a.block) := by
      rcases List.mem_cons.1 ha' with rfl | ha'
      ·exact .inl ⟨rfl, .inl rfl⟩
      ·rcases List.mem_append.1 ha' with ha' | ha'
       ·exact .inr (.inl (ow a ha'))
       ·rcases List.mem_append.1 ha' with ha' | ha'
        ·exact .inr (.inr (ow' a ha'))
        ·simp at ha'
         exact .inl ⟨by rw [ha'], .inr ha'⟩
     rcases hA a ha with ⟨i, j, hi, hj, e1⟩ | ⟨i, z, hi, hz, hb⟩
     ·rcases new with ⟨-, e2 | e2⟩ | hb
      ·rw [e1] at e2; simp at e2 <;> omega
      ·rw [e1] at e2; simp at e2 <;> omega
      ·rcases hb with hb | hb
       ·exact far i1 hb (by rw [e1])
       ·exact far i2 hb (by rw [e1])
     ·rcases new with ⟨e2, -⟩ | hb'
      ·obtain ⟨j1, j2⟩ := h.inn i z hz
       rcases hb with hb | hb
       ·exact far j1 hb e2
       ·exact far j2 hb e2
      ·exact h.sep i k z x _ hz hx (by omega) hb hb'
   ·rw [gAs_append] at ha
    rcases List.mem_append.1 ha with ha | ha
    ·rcases hA a ha with ⟨i, j, hi, hj, e1⟩ | ⟨i, z, hi, hz, hb⟩
     ·exact .inl ⟨i, j, by omega, hj, e1⟩
     ·exact .inr ⟨i, z, by omega, hz, hb⟩
    ·have hl : R.length = k := by have := hR.n; rw [tl] at this; exact this
     rw [hl] at ha
     simp only [gAs, List.append_nil, Nat.zero_add] at ha
     rw [ra] at ha
     rcases List.mem_cons.1 ha with e1 | ha
     ·exact .inl ⟨k, 0, by omega, by omega, by rw [e1, Nat.add_zero]⟩
     ·rcases List.mem_append.1 ha with ha | ha
      ·exact .inr ⟨k, x, by omega, hx, .inl (ow a ha)⟩
      ·rcases List.mem_append.1 ha with ha | ha
       ·exact .inr ⟨k, x, by omega, hx, .inr (ow' a ha)⟩
       ·simp at ha
        exact .inl ⟨k, 3, by omega, by omega, ha⟩
 obtain ⟨R, hR, hA⟩ := step L.length (Nat.le_refl _)
 rw [List.take_length] at hR
 refine ⟨some ⟨g, 0, none⟩, cap, R, e, hR, fun a ha => ?_⟩
 rcases hA a ha with ⟨i, j, -, -, e1⟩ | ⟨i, z, -, hz, hb⟩
 ·left
  rw [e, e1]
  rfl
 ·exact .inr ⟨i, z, hz, hb⟩
end
section
open Go.RowKit
theorem steps_cell {w : World} {g off : Nat} {l : List I5} (hc : ∀ i, i < l.length → At5 w g (off + i * 5) (l.getD i z5)) (i : Nat) (hi : i < l.length * 5) : w.cell? ⟨g, off + i, none⟩ = some (.int .i64 ((fl5 l).getD i 0)) := by
 have hk : i / 5 < l.length := by omega
 have hx : l[i / 5]? = some (l.getD (i / 5) z5) := by rw [List.getD_eq_getElem?_getD, List.getElem?_eq_getElem hk]; rfl
 obtain ⟨c0, c1, c2, c3, c4⟩ := hc (i / 5) hk
 obtain ⟨e0, e1, e2, e3, e4⟩ := fl5_at l (i / 5) _ hx
 rw [List.getD_eq_getElem?_getD]
 rcases (show i % 5 = 0 ∨ i % 5 = 1 ∨ i % 5 = 2 ∨ i % 5 = 3 ∨ i % 5 = 4 by omega) with h | h | h | h | h
 ·have e : i = i / 5 * 5 := by omega
  rw [e]; rw [e0]; exact c0
 ·have e : i = i / 5 * 5 + 1 := by omega
  rw [e, ← Nat.add_assoc]; rw [e1]; exact c1
 ·have e : i = i / 5 * 5 + 2 := by omega
  rw [e, ← Nat.add_assoc]; rw [e2]; exact c2
 ·have e : i = i / 5 * 5 + 3 := by omega
  rw [e, ← Nat.add_assoc]; rw [e3]; exact c3
 ·have e : i = i / 5 * 5 + 4 := by omega
  rw [e, ← Nat.add_assoc]; rw [e4]; exact c4
theorem infoSt : ∃ i, Try.prog.info? 25 = some i ∧ i.zero = some (.agg #[.int .i64 0, .int .i64 0, .int .i64 0, .int .i64 0, .int .i64 0]) ∧ i.size = 5 ∧ i.bytes = 40 := ⟨_, rfl, rfl, rfl, rfl⟩
theorem infoCd : ∃ i, Try.prog.info? 26 = some i ∧ i.zero = some (.slice none 0 0) ∧ i.size = 1 ∧ i.bytes = 24 := ⟨_, rfl, rfl, rfl, rfl⟩
theorem infoKo : ∃ i, Try.prog.info? 46 = some i ∧ i.zero = some (.agg #[.int .i64 0, .slice none 0 0, .slice none 0 0, .int .i64 0]) ∧ i.size = 4 ∧ i.bytes = 64 := ⟨_, rfl, rfl, rfl, rfl⟩
theorem run_append_zeroS (w : World) (base : Nat) (v : Value) (l : List I5) (hown : OwnT5 w base v l) (s : Option Addr) (c : Nat) :
  (Builtin.append_ #[26, 26] 26 #[v, .slice s 0 c]).run Try.prog w = .ok v w := by
 obtain ⟨i0, hi, hz0, hz1, hz2⟩ := infoSt
 rcases hown.2 with ⟨rfl, -⟩ | ⟨g, cap, cur, rfl, _, _, hnc, _⟩
 ·cases s <;> simp [Builtin.append_, run_underlying Try.underlying26, sizeOf, typeInfo, hi, Builtin.lenOf, Builtin.firstCells, loadCells, loadCellsFrom, storeCells]
 ·cases s <;> simp [Builtin.append_, run_underlying Try.underlying26, sizeOf, typeInfo, hi, Builtin.lenOf, Builtin.firstCells, hnc, storeCells, loadCells, loadCellsFrom, storeCells]
theorem wp_copyS {o : Oper} {a : Act} {w : World} {K : Act → World → Prop} {Q : Exit → Act → World → Prop} (s x : Operand) (hty : o.type = 26) (ho : o.op = .call { callee := .builtin .append, args := #[s, x], argTypes := #[26, 26] })
  (base : Nat) (sv : Option Addr) (cv : Nat) (hs : a.eval s = .slice sv 0 cv) (hown : OwnT5 w base (.slice sv 0 cv) []) (sx : Option Addr) (c : Nat) (l : List I5) {lo hi : Nat} (hx : a.eval x = .slice sx l.length c) (hr : InsR w lo hi sx l) (hn : l.length ≤ 1073741824) (hbase : base ≤ w.heap.size)
  (h : ∀ s' c' w', OwnT5 w' base (.slice s' l.length c') l → Copied w w' sv cv base l.length s' c' → K (a.put o.dst (.slice s' l.length c')) w') : Oper.wp Try.prog o a w K Q := by
 rcases Nat.eq_zero_or_pos l.length with h0 | hl
 ·have e := List.length_eq_zero_iff.1 h0
  subst e
  have hrun := run_append_zeroS w base _ _ hown sx c
  unfold Oper.wp
  simp at hx
  simp [execOp, ho, resolve, invoke, builtin, hs, hx, hty, hrun, Result.andThen]
  exact h sv cv w hown ⟨fun _ _ _ => rfl, Below.refl _ _, fun k hk => .inr hk⟩
 ·rcases hr with rfl | ⟨g, off, rfl, h1, h2, hc⟩
  ·simp at hl
  ·obtain ⟨i0, hi0, hz0, hz1, hz2⟩ := infoSt
   refine wp_append_lies w s x 26 ho base 25 i0 _ 5 40 Try.underlying26 hi0 hz0 hz1 hz2 rfl (by decide) _ 0 _ hs hown ⟨g, off, none⟩ l.length c ((fl5 l).map (Value.int .i64)) hx (by rw [List.length_map, fl5_len]) (fun j u hj => ?_) (fun u hu => by obtain ⟨z, -, rfl⟩ := List.mem_map.1 hu; rfl) hl (by unfold maxLen; omega) (by omega) hbase _ rfl ?_
   ·rw [List.getElem?_map] at hj
    obtain ⟨z, hz, rfl⟩ := Option.map_eq_some_iff.1 hj
    have hj' := (List.getElem?_eq_some_iff.1 hz).1
    rw [fl5_len] at hj'
    have q := steps_cell hc j hj'
    rw [List.getD_eq_getElem?_getD, hz] at q
    have ea : Addr.add ⟨g, off, none⟩ j = ⟨g, off + j, none⟩ := by
     by_cases h : j = 0
     ·subst h; rfl
     ·simp [Addr.add, h]
    rw [ea]
    exact q
   intro g' cap w' q1 q2 q3 q4
   have hb : Below base w w' := Below.grown (Below.refl _ _) q2 hbase (fun j hj => (World.ownsRow.lt hown _ hj).1)
   rw [Nat.zero_add]
   rw [Nat.zero_add] at q1
   refine h _ _ w' (by show w'.ownsRow base 25 5 _ l.length ((fl5 l).map (Value.int .i64)); exact q1) ⟨fun k hk hne => q2.block k hk (fun e => hne e.symm), hb, fun k hk => ?_⟩
   injection hk with hk
   rcases q3 with q3 | q3
   ·exact .inr (by rw [q3]; exact congrArg some hk)
   ·exact .inl (by have : g' = k := hk; omega)
theorem app_copyS {ops : Array Oper} {rest : List Oper} {o : Oper} {a : Act} {Q : Exit → Act → World → Prop} (hgd : o.guard = none) (s x : Operand) (hty : o.type = 26) (ho : o.op = .call { callee := .builtin .append, args := #[s, x], argTypes := #[26, 26] }) (w : World)
  (base : Nat) (sv : Option Addr) (cv : Nat) (hs : a.eval s = .slice sv 0 cv) (hown : OwnT5 w base (.slice sv 0 cv) []) (sx : Option Addr) (c : Nat) (l : List I5) {lo hi : Nat} (hx : a.eval x = .slice sx l.length c) (hr : InsR w lo hi sx l) (hn : l.length ≤ 1073741824) (hbase : base ≤ w.heap.size)
  (h : ∀ s' c' w', OwnT5 w' base (.slice s' l.length c') l → Copied w w' sv cv base l.length s' c' → wpList Try.prog ops Q rest (a.put o.dst (.slice s' l.length c')) w') : wpList Try.prog ops Q (o :: rest) a w :=
 wpList_plain hgd fun _ hK => wp_copyS s x hty ho base sv cv hs hown sx c l hx hr hn hbase fun s' c' w' h1 h2 => hK _ _ (h s' c' w' h1 h2)
/- one more row of steps -/
structure PushedC (w w' : World) (base : Nat) (v : Value) (L : List CV) (y : CV) (g cap : Nat) : Prop where
 own : OwnC w' base (.slice (some ⟨g, 0, none⟩) (L.length + 1) cap) (L ++ [y])
 low : Below base w w'
theorem app_rowC {ops : Array Oper} {rest : List Oper} {o : Oper} {a : Act} {Q : Exit → Act → World → Prop} (hgd : o.guard = none) (s x : Operand) (ho : o.op = .call { callee := .builtin .append, args := #[s, x], argTypes := #[27, 27] })
  (w : World) (base : Nat) (v : Value) (L : List CV) (y : CV) (hs : a.eval s = v) (hown : OwnC w base v L) (hy : OwnT5 w base y.v y.l) (h1 : y.v.oneCell' = true) (hx : a.eval x = .slice (some ⟨w.heap.size, 0, none⟩) 1 1) (hn : L.length ≤ 1073741824) (hbase : base ≤ w.heap.size)
  (hsep : ∀ (i : Nat) (z : CV) (k : Nat), L[i]? = some z → y.v.ownBlock = some k → z.v.ownBlock ≠ some k)
  (h : ∀ g cap w', PushedC w w' base v L y g cap → wpList Try.prog ops Q rest (a.put o.dst (.slice (some ⟨g, 0, none⟩) (L.length + 1) cap)) w') :
  wpList Try.prog ops Q (o :: rest) a (w.alloc (.cells #[y.v] 26)) := by
 obtain ⟨i0, hi, hz0, hz1, hz2⟩ := infoCd
 have h1' : (w.alloc (.cells #[y.v] 26)).ownsRow base 26 1 v L.length (L.map CV.v) := ownKeep' hown.row (fun k hk => Below.heap_alloc _ _ _ (World.ownsRow.lt hown.row _ hk).2)
 refine wpList_append_lies _ hgd s x 27 ho base 26 i0 _ 1 24 Try.underlying27 hi hz0 hz1 hz2 rfl (by decide) v L.length _ hs h1' ⟨w.heap.size, 0, none⟩ 1 1 [y.v] hx rfl (fun j u hj => ?_) (fun u hu => by simp at hu; subst hu; exact h1) (by decide) (by unfold maxLen; omega) (by omega) (by simp; omega) _ rfl ?_
 ·match j, hj with
  | 0, hj => simpa [Addr.add, go_sem] using hj
  | j + 1, hj => simp at hj
 intro g cap w' q1 q2 q3 q4
 have hb : Below base w w' := Below.grown (((Below.refl _ _).alloc hbase _)) q2 (by simp; omega) (fun j hj => (World.ownsRow.lt h1' _ hj).1)
 have hf : ∀ k, k < w.heap.size → v.ownBlock ≠ some k → w'.heap[k]? = w.heap[k]? := fun k hk hne => (q2.block k (by simp; omega) (fun e => hne e.symm)).trans (Below.heap_alloc _ _ _ hk)
 exact h g cap w' ⟨OwnC.push hown hy hsep q1 hf, hb⟩
end
section
open Go.RowKit
structure PushedK (w w' : World) (base : Nat) (v : Value) (L : List KV) (y : KV) (g cap : Nat) : Prop where
 own : OwnK w' base (.slice (some ⟨g, 0, none⟩) (L.length + 1) cap) (L ++ [y])
 low : Below base w w'
 far : ∀ k, k < w.heap.size → v.ownBlock ≠ some k → w'.heap[k]? = w.heap[k]?
theorem wp_recK {o : Oper} {a : Act} {K : Act → World → Prop} {Q : Exit → Act → World → Prop} (s x : Operand) (ho : o.op = .call { callee := .builtin .append, args := #[s, x], argTypes := #[28, 28] })
  (w : World) (base : Nat) (v : Value) (L : List KV) (y : KV) (hs : a.eval s = v) (hown : OwnK w base v L) (hy : OwnN w base y.r y.d.regs ∧ OwnN w base y.v y.d.vw) (ht : ∀ k, y.r.ownBlock = some k → y.v.ownBlock ≠ some k) (h1 : y.r.oneCell' = true) (h2 : y.v.oneCell' = true) (g0 : Nat) (hg : g0 = w.heap.size) (hx : a.eval x = .slice (some ⟨g0, 0, none⟩) 1 1) (hn : L.length ≤ 1073741824) (hbase : base ≤ w.heap.size)
  (hsep : ∀ (i : Nat) (z : KV) (k : Nat), L[i]? = some z → (y.r.ownBlock = some k ∨ y.v.ownBlock = some k) → ¬ (z.r.ownBlock = some k ∨ z.v.ownBlock = some k))
  (h : ∀ g cap w', PushedK w w' base v L y g cap → K (a.put o.dst (.slice (some ⟨g, 0, none⟩) (L.length + 1) cap)) w') :
  Oper.wp Try.prog o a (w.alloc (.cells #[.int .i64 y.d.pc, y.r, y.v, .int .i64 y.d.st] 46)) K Q := by
 subst hg
 obtain ⟨i0, hi, hz0, hz1, hz2⟩ := infoKo
 have h1' : (w.alloc (.cells #[.int .i64 y.d.pc, y.r, y.v, .int .i64 y.d.st] 46)).ownsRow base 46 4 v L.length (flatK L) := ownKeep' hown.row (fun k hk => Below.heap_alloc _ _ _ (World.ownsRow.lt hown.row _ hk).2)
 refine wp_append_lies _ s x 28 ho base 46 i0 _ 4 64 Try.underlying28 hi hz0 hz1 hz2 rfl (by decide) v L.length _ hs h1' ⟨w.heap.size, 0, none⟩ 1 1 [.int .i64 y.d.pc, y.r, y.v, .int .i64 y.d.st] hx rfl (fun j u hj => ?_) (fun u hu => by simp at hu; rcases hu with rfl | rfl | rfl | rfl; rfl; exact h1; exact h2; rfl) (by decide) (by unfold maxLen; omega) (by omega) (by simp; omega) _ rfl ?_
 ·match j, hj with
  | 0, hj => simpa [Addr.add, go_sem] using hj
  | 1, hj => simpa [Addr.add, go_sem] using hj
  | 2, hj => simpa [Addr.add, go_sem] using hj
  | 3, hj => simpa [Addr.add, go_sem] using hj
  | j + 4, hj => simp at hj
 intro g cap w' q1 q2 q3 q4
 have hb : Below base w w' := Below.grown (((Below.refl _ _).alloc hbase _)) q2 (by simp; omega) (fun j hj => (World.ownsRow.lt h1' _ hj).1)
 have hf : ∀ k, k < w.heap.size → v.ownBlock ≠ some k → w'.heap[k]? = w.heap[k]? := fun k hk hne => (q2.block k (by simp; omega) (fun e => hne e.symm)).trans (Below.heap_alloc _ _ _ hk)
 exact h g cap w' ⟨OwnK.push hown hy ht hsep q1 hf, hb, hf⟩
theorem step_recK {ops : Array Oper} {o : Oper} {a : Act} {K : Act → World → Prop} {Q : Exit → Act → World → Prop} {E : Prop} (hgd : o.guard = none) (s x : Operand) (ho : o.op = .call { callee := .builtin .append, args := #[s, x], argTypes := #[28, 28] })
  (w : World) (base : Nat) (v : Value) (L : List KV) (y : KV) (hs : a.eval s = v) (hown : OwnK w base v L) (hy : OwnN w base y.r y.d.regs ∧ OwnN w base y.v y.d.vw) (ht : ∀ k, y.r.ownBlock = some k → y.v.ownBlock ≠ some k) (h1 : y.r.oneCell' = true) (h2 : y.v.oneCell' = true) (g0 : Nat) (hg : g0 = w.heap.size) (hx : a.eval x = .slice (some ⟨g0, 0, none⟩) 1 1) (hn : L.length ≤ 1073741824) (hbase : base ≤ w.heap.size)
  (hsep : ∀ (i : Nat) (z : KV) (k : Nat), L[i]? = some z → (y.r.ownBlock = some k ∨ y.v.ownBlock = some k) → ¬ (z.r.ownBlock = some k ∨ z.v.ownBlock = some k))
  (h : ∀ g cap w', PushedK w w' base v L y g cap → K (a.put o.dst (.slice (some ⟨g, 0, none⟩) (L.length + 1) cap)) w') :
  if Region.wanted o (yielded ops a.tmps) = true then Oper.wp Try.prog o a (w.alloc (.cells #[.int .i64 y.d.pc, y.r, y.v, .int .i64 y.d.st] 46)) K Q else E := by
 have hw : Region.wanted o (yielded ops a.tmps) = true := by simp [Region.wanted, hgd]
 rw [if_pos hw]
 exact wp_recK s x ho w base v L y hs hown hy ht h1 h2 g0 hg hx hn hbase hsep h
end
section
open Go.RowKit
set_option maxHeartbeats 1000000 in
theorem sameCodes_any (s : Option Addr) (c lo hi : Nat) (l : List (List I5)) (w : World) (h : CsR w lo hi s l) (hB : hi ≤ w.heap.size) (hl : l.length + szC l ≤ 1048576) :
  Calls Try.prog 23 #[.slice s l.length c] w fun e w' => ∃ v L, e = .returned v ∧ L.map CV.l = l ∧ OwnC w' w.heap.size v L ∧ Below w.heap.size w w' := by
 have H : Hid (CsR w lo hi s l) := h
 have HV : Hid (∀ (i : Nat) (x : List I5), l[i]? = some x → x.length ≤ 1048576) := fun i x hx => by have := szC_at l i x hx; omega
 clear h
 go_enter Try.func23, Try.ntmps23
 go_wp2
 go_loopw [3, 8] (fun v i wr => ∃ (k : Nat) (L : List CV), k ≤ l.length ∧ i = .int .i64 k ∧ L.length = k ∧ L.map CV.l = l.take k ∧ OwnC wr w.heap.size v L ∧ Below w.heap.size w wr) (fun _ i _ => l.length - (intOf i).toNat)
 case atStart => exact ⟨0, [], Nat.zero_le _, rfl, rfl, rfl, OwnC.nil _ _, Below.refl _ _⟩
 case round =>
  obtain ⟨k, L, hk, rfl, hL, hM, ho, hb⟩ := hrel
  obtain ⟨sv, cv, ev⟩ := ownSl ho.row
  rw [hL] at ev
  subst ev
  have HO : Hid (OwnC wr w.heap.size (.slice sv k cv) L) := ho
  have HB : Hid (Below w.heap.size w wr) := hb
  have HL : Hid (L.length = k) := hL
  have HM : Hid (L.map CV.l = l.take k) := hM
  have hz := hb.size
  clear ho hb hL hM
  by_cases hlt : k < l.length
  ·obtain ⟨x, hx⟩ : ∃ x, l[k]? = some x := ⟨_, List.getElem?_eq_getElem hlt⟩
   obtain ⟨g, o, s1, c1, e1, q1, q2, q3, q5⟩ := (H.out.keep (Keep.of_below HB.out hB)).at hx
   subst e1
   have hv := HV.out k x hx
   have HI : Hid (InsR wr lo hi s1 x) := q5
   have HX : Hid (l[k]? = some x) := hx
   clear q5 hx
   have b0 : (0 : Int) ≤ (k : Int) := by omega
   have b1 : (k : Int) < (l.length : Int) := by omega
   have zg : g < wr.heap.size := by omega
   go_wp2_with (first | (at_builtin; refine app_copyS rfl _ _ rfl rfl wr wr.heap.size none 0 rfl (World.ownsRow_nil _ _ _ _) s1 c1 x (by rfl) (HI.out) (by omega) (Nat.le_refl _) ?_; intro s5 c5 w5 ho5 hc5; have O5 := (show Hid (OwnT5 w5 wr.heap.size (.slice s5 x.length c5) x) from ho5); have K5 := (show Hid (Below wr.heap.size wr w5) from hc5.low); have Z5 := (show Hid (∀ k, (Value.slice s5 x.length c5).ownBlock = some k → wr.heap.size ≤ k) from fun k hk => (World.ownsRow.lt ho5 _ hk).1); clear ho5 hc5) | (at_builtin; refine app_rowC rfl _ _ rfl w5 w.heap.size (.slice sv k cv) L ⟨x, .slice s5 x.length c5⟩ rfl (HO.out.below K5.out) (ownLow' O5.out (by omega)) rfl (by rfl) (by have := HL.out; omega) (by have := K5.out.size; omega) (fun i z kk hz1 hk1 hk2 => by have h1 := Z5.out kk hk1; have h2 := (World.ownsRow.lt (HO.out.inn i z hz1) _ hk2).2; omega) ?_; intro g6 c6 w6 hp6; have P6 := (show Hid (OwnC w6 w.heap.size (.slice (some ⟨g6, 0, none⟩) (L.length + 1) c6) (L ++ [⟨x, .slice s5 x.length c5⟩])) from hp6.own); have K6 := (show Hid (Below w.heap.size w w6) from (HB.out.trans (K5.out.mono hz)).trans hp6.low); clear hp6))
   go_roundw
   case rel =>
    refine ⟨k + 1, L ++ [⟨x, .slice s5 x.length c5⟩], by omega, by go_num, by simp [HL.out], ?_, P6.out, K6.out⟩
    rw [List.map_append, HM.out, List.take_add_one, HX.out]
    rfl
   case measure => simp [intOf]; omega
  ·go_wp2
   go_ret
   have e : k = l.length := by omega
   have hm := HM.out
   rw [List.take_of_length_le (by omega)] at hm
   exact ⟨_, L, rfl, hm, HO.out, HB.out⟩
set_option maxHeartbeats 1000000 in
theorem l8Codes_any (s : Option Addr) (c lo hi : Nat) (l : List (List I5)) (w : World) (h : CsR w lo hi s l) (hB : hi ≤ w.heap.size) (hl : l.length + szC l ≤ 1048576) :
  Calls Try.prog 25 #[.slice s l.length c] w fun e w' => ∃ v L, e = .returned v ∧ L.map CV.l = l ∧ OwnC w' w.heap.size v L ∧ Below w.heap.size w w' := by
 have H : Hid (CsR w lo hi s l) := h
 have HV : Hid (∀ (i : Nat) (x : List I5), l[i]? = some x → x.length ≤ 1048576) := fun i x hx => by have := szC_at l i x hx; omega
 clear h
 go_enter Try.func25, Try.ntmps25
 go_wp2
 go_loopw [3, 4] (fun v i wr => ∃ (k : Nat) (L : List CV), k ≤ l.length ∧ i = .int .i64 k ∧ L.length = k ∧ L.map CV.l = l.take k ∧ OwnC wr w.heap.size v L ∧ Below w.heap.size w wr) (fun _ i _ => l.length - (intOf i).toNat)
 case atStart => exact ⟨0, [], Nat.zero_le _, rfl, rfl, rfl, ⟨World.ownsRow_lit w #[] 0 (Nat.le_refl _) (by unfold maxLen; omega) rfl, fun i x hx => by simp at hx, fun i j x y k hx => by simp at hx⟩, (Below.refl _ _).alloc (Nat.le_refl _) _⟩
 case round =>
  obtain ⟨k, L, hk, rfl, hL, hM, ho, hb⟩ := hrel
  obtain ⟨sv, cv, ev⟩ := ownSl ho.row
  rw [hL] at ev
  subst ev
  have HO : Hid (OwnC wr w.heap.size (.slice sv k cv) L) := ho
  have HB : Hid (Below w.heap.size w wr) := hb
  have HL : Hid (L.length = k) := hL
  have HM : Hid (L.map CV.l = l.take k) := hM
  have hz := hb.size
  clear ho hb hL hM
  by_cases hlt : k < l.length
  ·obtain ⟨x, hx⟩ : ∃ x, l[k]? = some x := ⟨_, List.getElem?_eq_getElem hlt⟩
   obtain ⟨g, o, s1, c1, e1, q1, q2, q3, q5⟩ := (H.out.keep (Keep.of_below HB.out hB)).at hx
   subst e1
   have hv := HV.out k x hx
   have HI : Hid (InsR wr lo hi s1 x) := q5
   have HX : Hid (l[k]? = some x) := hx
   clear q5 hx
   have b0 : (0 : Int) ≤ (k : Int) := by omega
   have b1 : (k : Int) < (l.length : Int) := by omega
   have zg : g < wr.heap.size := by omega
   go_wp2_with (first | (at_builtin; refine app_copyS rfl _ _ rfl rfl (wr.alloc (.cells #[] 25)) wr.heap.size (some ⟨wr.heap.size, 0, none⟩) 0 rfl (World.ownsRow_lit wr #[] 0 (Nat.le_refl _) (by unfold maxLen; omega) rfl) s1 c1 x (by rfl) (HI.out.keep (Keep.of_below ((Below.refl wr.heap.size wr).alloc (Nat.le_refl _) _) (by omega))) (by omega) (by simp) ?_; intro s5 c5 w5 ho5 hc5; have O5 := (show Hid (OwnT5 w5 wr.heap.size (.slice s5 x.length c5) x) from ho5); have K5 := (show Hid (Below wr.heap.size wr w5) from ((Below.refl wr.heap.size wr).alloc (Nat.le_refl _) _).trans hc5.low); have Z5 := (show Hid (∀ k, (Value.slice s5 x.length c5).ownBlock = some k → wr.heap.size ≤ k) from fun k hk => (World.ownsRow.lt ho5 _ hk).1); clear ho5 hc5) | (at_builtin; refine app_rowC rfl _ _ rfl w5 w.heap.size (.slice sv k cv) L ⟨x, .slice s5 x.length c5⟩ rfl (HO.out.below K5.out) (ownLow' O5.out (by omega)) rfl (by rfl) (by have := HL.out; omega) (by have := K5.out.size; omega) (fun i z kk hz1 hk1 hk2 => by have h1 := Z5.out kk hk1; have h2 := (World.ownsRow.lt (HO.out.inn i z hz1) _ hk2).2; omega) ?_; intro g6 c6 w6 hp6; have P6 := (show Hid (OwnC w6 w.heap.size (.slice (some ⟨g6, 0, none⟩) (L.length + 1) c6) (L ++ [⟨x, .slice s5 x.length c5⟩])) from hp6.own); have K6 := (show Hid (Below w.heap.size w w6) from (HB.out.trans (K5.out.mono hz)).trans hp6.low); clear hp6))
   go_roundw
   case rel =>
    refine ⟨k + 1, L ++ [⟨x, .slice s5 x.length c5⟩], by omega, by go_num, by simp [HL.out], ?_, P6.out, K6.out⟩
    rw [List.map_append, HM.out, List.take_add_one, HX.out]
    rfl
   case measure => simp [intOf]; omega
  ·go_wp2
   go_ret
   have e : k = l.length := by omega
   have hm := HM.out
   rw [List.take_of_length_le (by omega)] at hm
   exact ⟨_, L, rfl, hm, HO.out, HB.out⟩
end
end Go.Proofs.Ytepfpbcjklaenaa
