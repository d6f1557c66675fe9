/- Rows of rows of writes that append makes. No condition. -/
import Derived.Test.YtlhhdkemmhlloaaMemDefs
import Derived.Test.YtlhhdkemmhlloaaAppN
namespace Go.Proofs.Ytlhhdkemmhlloaa
set_option linter.unusedSimpArgs false
set_option linter.unusedVariables false
set_option maxRecDepth 100000
open Go.RowKit

def RS.val (r : RS) : Value := .slice r.s r.vs.length r.c
structure OM (w : World) (B : Nat) (v : Value) (S : List RS) (m : List (List WD)) : Prop where
  n : S.length = m.length
  row : w.ownsRow B 41 1 v S.length (S.map RS.val)
  r : ∀ (i : Nat) (r : RS) (l : List WD), S[i]? = some r → m[i]? = some l → RO w B w.heap.size r l
  d : (mAs S).Nodup
  sep : ∀ a ∈ mAs S, v.ownBlock ≠ some a.block
theorem OM.nil (w : World) (B : Nat) : OM w B (.slice none 0 0) [] [] := ⟨rfl, World.ownsRow_nil _ _ _ _, fun i r l h => by simp at h, by simp [mAs], fun a ha => by simp [mAs] at ha⟩
theorem OM.mo {w : World} {B : Nat} {v : Value} {S : List RS} {m : List (List WD)} (h : OM w B v S m) : ∃ s c, v = .slice s m.length c ∧ MO w B w.heap.size s S m := by
  rcases Nat.eq_zero_or_pos S.length with h0 | hpos
  · obtain ⟨s, c, e⟩ := ownSl h.row
    have h1 := h.n
    have hm : m = [] := List.length_eq_zero_iff.1 (by omega)
    exact ⟨s, c, by rw [e, h1], h1, .inl hm, h.r, h.d⟩
  · obtain ⟨g, cap, rfl, -⟩ := World.ownsRow.form h.row hpos
    have hlt := World.ownsRow.lt h.row g rfl
    refine ⟨_, _, by rw [h.n], h.n, .inr ⟨g, 0, rfl, hlt.1, hlt.2, fun i r hr => ?_⟩, h.r, h.d⟩
    have hi' := (List.getElem?_eq_some_iff.1 hr).1
    rw [Nat.zero_add, World.ownsRow.cellAt h.row i (by omega), List.getElem?_map, hr]
    rfl
theorem OM.blk {w : World} {B : Nat} {v : Value} {S : List RS} {m : List (List WD)} (h : OM w B v S m) {a : Addr} (ha : a ∈ mAs S) : B ≤ a.block ∧ a.block < w.heap.size := by
  obtain ⟨s, c, -, hm⟩ := h.mo
  exact hm.blk ha
theorem OM.below {w w1 : World} {B : Nat} {v : Value} {S : List RS} {m : List (List WD)} (h : OM w B v S m) (hb : Below w.heap.size w w1) : OM w1 B v S m :=
  ⟨h.n, ownKeep' h.row (fun k hk => hb.block k (World.ownsRow.lt h.row _ hk).2), fun i r l hr hl => ((h.r i r l hr hl).keep (Keep.of_below hb (Nat.le_refl _))).mono (Nat.le_refl _) hb.size, h.d, h.sep⟩
theorem OM.push {w w1 w2 : World} {B g cap : Nat} {v : Value} {S : List RS} {m : List (List WD)} (r : RS) (l : List WD) (h : OM w B v S m) (hb : Below w.heap.size w w1) (hr : RO w1 w.heap.size w1.heap.size r l) (hB : B ≤ w.heap.size)
    (h2 : w2.ownsRow B 41 1 (.slice (some ⟨g, 0, none⟩) (S.length + 1) cap) (S.length + 1) (S.map RS.val ++ [r.val])) (hg : w1.grownBy w2 v.ownBlock) (hn : v.ownBlock = some g ∨ w1.heap.size ≤ g) : OM w2 B (.slice (some ⟨g, 0, none⟩) (S ++ [r]).length cap) (S ++ [r]) (m ++ [l]) := by
  have vb : ∀ k, v.ownBlock = some k → k < w.heap.size := fun k hk => (World.ownsRow.lt h.row _ hk).2
  have hn1 := h.n
  refine ⟨by simp [hn1], by simpa using h2, fun i r1 l1 e1 e2 => ?_, ?_, fun a ha => ?_⟩
  · rcases getElem?_push e1 with e1 | ⟨i1, rfl⟩
    · rcases getElem?_push e2 with e2 | ⟨i2, rfl⟩
      · have q := ((h.below hb).r i r1 l1 e1 e2).far2 (w' := w2) (fun a ha => by
          have hm : a ∈ mAs S := mem_mAs.2 ⟨r1, List.mem_of_getElem? e1, ha⟩
          exact hg.block _ (by have := (h.blk hm).2; have := hb.size; omega) (fun e => h.sep a hm e.symm))
        exact q.mono (Nat.le_refl _) hg.size
      · have := (List.getElem?_eq_some_iff.1 e1).1; omega
    · rcases getElem?_push e2 with e2 | ⟨i2, rfl⟩
      · have := (List.getElem?_eq_some_iff.1 e2).1; omega
      · have q := hr.far2 (w' := w2) (fun a ha => by
          have hb' := hr.blk ha
          exact hg.block _ hb'.2 (fun e => by have := vb a.block e.symm; omega))
        exact q.mono hB hg.size
  · rw [mAs_app]
    refine List.nodup_append.2 ⟨h.d, hr.d, fun a ha b hb' e => ?_⟩
    subst e
    have h1 := (h.blk ha).2
    have h3 := (hr.blk hb').1
    omega
  · intro e
    have e : g = a.block := by injection e
    rw [mAs_app] at ha
    rcases List.mem_append.1 ha with ha | ha
    · rcases hn with hn | hn
      · exact h.sep a ha (by rw [hn, e])
      · have h1 := (h.blk ha).2
        have := hb.size
        omega
    · have h3 := hr.blk ha
      rcases hn with hn | hn
      · have := vb g hn
        omega
      · omega

theorem OM.keepB {w w' : World} {B : Nat} {v : Value} {S : List RS} {m : List (List WD)} (h : OM w B v S m) (hk : ∀ b, B ≤ b → w'.heap[b]? = w.heap[b]?) (hs : w'.heap.size = w.heap.size) : OM w' B v S m :=
  ⟨h.n, ownKeep' h.row (fun k e => hk k (World.ownsRow.lt h.row _ e).1), fun i r l hr hl => by rw [hs]; exact (h.r i r l hr hl).keep (fun b h1 _ => hk b h1), h.d, h.sep⟩
theorem infoW : ∃ i, Try.prog.info? 41 = some i ∧ i.zero = some (.slice none 0 0) ∧ i.size = 1 ∧ i.bytes = 24 := ⟨_, rfl, rfl, rfl, rfl⟩
theorem wp_rowW {o : Oper} {a : Act} {w : World} {K : Act → World → Prop} {Q : Exit → Act → World → Prop} (s x : Operand) (ho : o.op = .call { callee := .builtin .append, args := #[s, x], argTypes := #[24, 24] })
    (base : Nat) (v : Value) (n : Nat) (xs : List Value) (hs : a.eval s = v) (hown : w.ownsRow base 41 1 v n xs) (g0 : Nat) (u : Value) (hu : u.oneCell' = true) (hx : a.eval x = .slice (some ⟨g0, 0, none⟩) 1 1) (hc : w.cell? ⟨g0, 0, none⟩ = some u) (hn : n ≤ 1073741824) (hbase : base ≤ w.heap.size)
    (h : ∀ g cap w', w'.ownsRow base 41 1 (.slice (some ⟨g, 0, none⟩) (n + 1) cap) (n + 1) (xs ++ [u]) → w.grownBy w' v.ownBlock → (v.ownBlock = some g ∨ w.heap.size ≤ g) → g < w'.heap.size → K (a.put o.dst (.slice (some ⟨g, 0, none⟩) (n + 1) cap)) w') : Oper.wp Try.prog o a w K Q := by
  obtain ⟨i0, hi, hz0, hz1, hz2⟩ := infoW
  refine wp_append_lies w s x 24 ho base 41 i0 _ 1 24 Try.underlying24 hi hz0 hz1 hz2 rfl (by decide) v n xs hs hown ⟨g0, 0, none⟩ 1 1 [u] hx rfl (fun j u' hj => ?_) (fun u' hu' => by simp at hu'; subst hu'; exact hu) (by decide) (by unfold maxLen; omega) (by omega) hbase _ rfl ?_
  · match j, hj with
    | 0, hj => simp at hj; subst hj; simpa [Addr.add] using hc
    | j + 1, hj => simp at hj
  · intro g cap w' q1 q2 q3 q4
    exact h g cap w' q1 q2 (by rcases q3 with q3 | q3 <;> first | exact .inl q3 | exact .inr (by omega)) q4
theorem step_rowW {ops : Array Oper} {o : Oper} {a : Act} {K : Act → World → Prop} {Q : Exit → Act → World → Prop} {E : Prop} (hgd : o.guard = none) (s x : Operand) (ho : o.op = .call { callee := .builtin .append, args := #[s, x], argTypes := #[24, 24] })
    (w : World) (base : Nat) (v : Value) (n : Nat) (xs : List Value) (hs : a.eval s = v) (hown : w.ownsRow base 41 1 v n xs) (g0 : Nat) (u : Value) (hu : u.oneCell' = true) (hx : a.eval x = .slice (some ⟨g0, 0, none⟩) 1 1) (hc : w.cell? ⟨g0, 0, none⟩ = some u) (hn : n ≤ 1073741824) (hbase : base ≤ w.heap.size)
    (h : ∀ g cap w', w'.ownsRow base 41 1 (.slice (some ⟨g, 0, none⟩) (n + 1) cap) (n + 1) (xs ++ [u]) → w.grownBy w' v.ownBlock → (v.ownBlock = some g ∨ w.heap.size ≤ g) → g < w'.heap.size → K (a.put o.dst (.slice (some ⟨g, 0, none⟩) (n + 1) cap)) w') : if Region.wanted o (yielded ops a.tmps) = true then Oper.wp Try.prog o a w K Q else E := by
  have hw : Region.wanted o (yielded ops a.tmps) = true := by simp [Region.wanted, hgd]
  rw [if_pos hw]
  exact wp_rowW s x ho base v n xs hs hown g0 u hu hx hc hn hbase h
theorem app_rowW {ops : Array Oper} {rest : List Oper} {o : Oper} {a : Act} {Q : Exit → Act → World → Prop} (hgd : o.guard = none) (s x : Operand) (ho : o.op = .call { callee := .builtin .append, args := #[s, x], argTypes := #[24, 24] })
    (w : World) (base : Nat) (v : Value) (n : Nat) (xs : List Value) (hs : a.eval s = v) (hown : w.ownsRow base 41 1 v n xs) (g0 : Nat) (u : Value) (hu : u.oneCell' = true) (hx : a.eval x = .slice (some ⟨g0, 0, none⟩) 1 1) (hc : w.cell? ⟨g0, 0, none⟩ = some u) (hn : n ≤ 1073741824) (hbase : base ≤ w.heap.size)
    (h : ∀ g cap w', w'.ownsRow base 41 1 (.slice (some ⟨g, 0, none⟩) (n + 1) cap) (n + 1) (xs ++ [u]) → w.grownBy w' v.ownBlock → (v.ownBlock = some g ∨ w.heap.size ≤ g) → g < w'.heap.size → wpList Try.prog ops Q rest (a.put o.dst (.slice (some ⟨g, 0, none⟩) (n + 1) cap)) w') : wpList Try.prog ops Q (o :: rest) a w :=
  wpList_plain hgd fun _ hK => wp_rowW s x ho base v n xs hs hown g0 u hu hx hc hn hbase fun g cap w' h1 h2 h3 h4 => hK _ _ (h g cap w' h1 h2 h3 h4)


end Go.Proofs.Ytlhhdkemmhlloaa
