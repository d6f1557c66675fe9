/- A whole row of steps appended onto an empty one, and one step behind it: what lies there then. Conditions: at most 1000 steps. -/
import Derived.Test.YtkmliphfelinjaaDrawC7
import Derived.Test.YtkmliphfelinjaaCode
namespace Go.Proofs.Ytkmliphfelinjaa
set_option linter.unusedSimpArgs false
set_option linter.unusedVariables false
set_option maxRecDepth 100000
open Go.RowKit Go.Deep

def pk (x : I5) : Nat → Value
  | 0 => .int .i64 x.o
  | 1 => .int .i64 x.r
  | 2 => .int .i64 x.a
  | 3 => .int .i64 x.b
  | _ => .int .i64 x.n
def flat5 (l : List I5) : List Value := (List.range (l.length * 5)).map fun j => pk (l.getD (j / 5) z5) (j % 5)
theorem flat5_len (l : List I5) : (flat5 l).length = l.length * 5 := by simp [flat5]
theorem flat5_at (l : List I5) (j : Nat) (h : j < l.length * 5) : (flat5 l)[j]? = some (pk (l.getD (j / 5) z5) (j % 5)) := by
  simp [flat5, h]
theorem flat5_one (l : List I5) : ∀ u ∈ flat5 l, u.oneCell' = true := by
  intro u hu
  obtain ⟨j, -, rfl⟩ := List.mem_map.1 hu
  have : ∀ k, (pk (l.getD (j / 5) z5) k).oneCell' = true := by
    intro k
    match k with
    | 0 => rfl
    | 1 => rfl
    | 2 => rfl
    | 3 => rfl
    | k + 4 => rfl
  exact this _
theorem at5_pk {w : World} {g o : Nat} {x : I5} (h : At5 w g o x) : ∀ k, k < 5 → w.cell? ⟨g, o + k, none⟩ = some (pk x k) := by
  intro k hk
  match k, hk with
  | 0, _ => exact h.1
  | 1, _ => exact h.2.1
  | 2, _ => exact h.2.2.1
  | 3, _ => exact h.2.2.2.1
  | 4, _ => exact h.2.2.2.2
theorem news5 {w : World} {g o : Nat} {l : List I5} (hc : ∀ i, i < l.length → At5 w g (o + i * 5) (l.getD i z5)) : ∀ j u, (flat5 l)[j]? = some u → w.cell? (Addr.add ⟨g, o, none⟩ j) = some u := by
  intro j u hu
  have hj : j < l.length * 5 := by have := (List.getElem?_eq_some_iff.1 hu).1; rw [flat5_len] at this; exact this
  rw [flat5_at l j hj] at hu
  have ea : (Addr.add ⟨g, o, none⟩ j) = ⟨g, o + j, none⟩ := by
    by_cases h : j = 0
    · subst h; rfl
    · simp [Addr.add, h]
  rw [ea, ← hu]
  have := at5_pk (hc (j / 5) (by omega)) (j % 5) (by omega)
  have e : o + j / 5 * 5 + j % 5 = o + j := by omega
  rw [e] at this
  exact this
def OwnV (w : World) (base : Nat) (v : Value) (l : List I5) : Prop := w.ownsRow base 25 5 v l.length (flat5 l)
theorem OwnV.insB {w : World} {base : Nat} {v : Value} {l : List I5} (h : OwnV w base v l) (hp : 0 < l.length) : ∃ g c, v = .slice (some ⟨g, 0, none⟩) l.length c ∧ InsB w w.heap.size (some ⟨g, 0, none⟩) l := by
  obtain ⟨g, cap, rfl, -⟩ := World.ownsRow.form h hp
  have hlt := World.ownsRow.lt h g rfl
  refine ⟨g, cap, rfl, .inr ⟨g, 0, rfl, hlt.2, fun i hi => ?_⟩⟩
  have C : ∀ k, k < 5 → w.cell? ⟨g, 0 + i * 5 + k, none⟩ = some (pk (l.getD i z5) k) := fun k hk => by
    have e1 : (i * 5 + k) / 5 = i := by omega
    have e2 : (i * 5 + k) % 5 = k := by omega
    rw [Nat.zero_add, World.ownsRow.cellAt h (i * 5 + k) (by omega), flat5_at l _ (by omega), e1, e2]
  exact ⟨C 0 (by omega), C 1 (by omega), C 2 (by omega), C 3 (by omega), C 4 (by omega)⟩
theorem flat5_push (l : List I5) (x : I5) : flat5 (l ++ [x]) = flat5 l ++ [.int .i64 x.o, .int .i64 x.r, .int .i64 x.a, .int .i64 x.b, .int .i64 x.n] := by
  apply List.ext_getElem?
  intro j
  by_cases h : j < l.length * 5
  · rw [List.getElem?_append_left (by rw [flat5_len]; exact h), flat5_at l j h, flat5_at (l ++ [x]) j (by simp; omega)]
    have : j / 5 < l.length := by omega
    simp [List.getD, List.getElem?_append_left this]
  · rw [List.getElem?_append_right (by rw [flat5_len]; omega), flat5_len]
    by_cases h' : j < (l ++ [x]).length * 5
    · rw [flat5_at _ j h']
      have hl : (l ++ [x]).length = l.length + 1 := by simp
      have e : j / 5 = l.length := by omega
      have e2 : (l ++ [x]).getD (j / 5) z5 = x := by rw [e]; simp [List.getD]
      rw [e2]
      obtain ⟨k, hk, rfl⟩ : ∃ k, k < 5 ∧ j = l.length * 5 + k := ⟨j - l.length * 5, by omega, by omega⟩
      have e3 : (l.length * 5 + k) % 5 = k := by omega
      rw [e3, Nat.add_sub_cancel_left]
      match k, hk with
      | 0, _ => rfl
      | 1, _ => rfl
      | 2, _ => rfl
      | 3, _ => rfl
      | 4, _ => rfl
    · rw [List.getElem?_eq_none (by rw [flat5_len]; omega), List.getElem?_eq_none (by simp at h' ⊢; omega)]
theorem zero5_own (w : World) (base : Nat) (hb : base ≤ w.heap.size) : OwnV (w.alloc (.cells #[] 25)) base (.slice (some ⟨w.heap.size, 0, none⟩) 0 0) [] := World.ownsRow_lit w #[] 0 hb (by unfold maxLen; omega) rfl

theorem run_append_zero5 (w : World) (base : Nat) (v : Value) (l : List I5) (hown : OwnV w base v l) (s : Option Addr) (c : Nat) :
    (Builtin.append_ #[32, 32] 32 #[v, .slice s 0 c]).run Try.prog w = .ok v w := by
  obtain ⟨i0, hi, hz0, hz1, hz2⟩ := info25
  rcases hown.2 with ⟨rfl, -⟩ | ⟨g, cap, cur, rfl, _, _, hnc, _⟩
  · cases s <;> simp [Builtin.append_, run_underlying Try.underlying32, sizeOf, typeInfo, hi, Builtin.lenOf, Builtin.firstCells, loadCells, loadCellsFrom, storeCells]
  · cases s <;> simp [Builtin.append_, run_underlying Try.underlying32, sizeOf, typeInfo, hi, Builtin.lenOf, Builtin.firstCells, hnc, storeCells, loadCells, loadCellsFrom, storeCells]

theorem app_row5 {ops : Array Oper} {rest : List Oper} {o : Oper} {a : Act} {Q : Exit → Act → World → Prop} (hgd : o.guard = none) (s x : Operand) (hty : o.type = 32) (ho : o.op = .call { callee := .builtin .append, args := #[s, x], argTypes := #[32, 32] }) (w : World)
    (base : Nat) (v : Value) (hs : a.eval s = v) (hown : OwnV w base v []) (sx : Option Addr) (c : Nat) (l : List I5) {B : Nat} (hx : a.eval x = .slice sx l.length c) (hr : InsB w B sx l) (hn : l.length ≤ 1000) (hbase : base ≤ w.heap.size)
    (h : ∀ v' w', OwnV w' base v' l → Below base w w' → wpList Try.prog ops Q rest (a.put o.dst v') w') : wpList Try.prog ops Q (o :: rest) a w := by
  refine wpList_plain hgd fun K hK => ?_
  by_cases h0 : l = []
  · subst h0
    have hrun := run_append_zero5 w base v [] hown sx c
    unfold Oper.wp
    simp at hx
    simp [execOp, ho, resolve, invoke, builtin, hs, hx, hty, hrun, Result.andThen]
    exact hK _ _ (h v w hown (Below.refl _ _))
  · rcases hr with rfl | ⟨g, off, rfl, h1, hc⟩
    · exact absurd rfl h0
    · have hl : 0 < l.length := by cases l with | nil => exact absurd rfl h0 | cons => simp
      obtain ⟨i0, hi0, hz0, hz1, hz2⟩ := info25
      refine wp_append_lies w s x 32 ho base 25 i0 _ 5 40 Try.underlying32 hi0 hz0 hz1 hz2 rfl (by decide) v 0 _ hs hown ⟨g, off, none⟩ l.length c (flat5 l) hx (flat5_len l) (news5 hc) (flat5_one l) hl (by unfold maxLen; omega) (by omega) hbase _ rfl ?_
      intro g' cap w' q1 q2 q3 q4
      have hb : Below base w w' := Below.grown (Below.refl _ _) q2 hbase (fun j hj => (World.ownsRow.lt hown _ hj).1)
      rw [Nat.zero_add] at q1 ⊢
      exact hK _ _ (h _ w' q1 hb)

theorem app_end5 {ops : Array Oper} {rest : List Oper} {o : Oper} {a : Act} {Q : Exit → Act → World → Prop} (hgd : o.guard = none) (s x : Operand) (ho : o.op = .call { callee := .builtin .append, args := #[s, x], argTypes := #[32, 32] })
    (w : World) (y : I5) (base : Nat) (v : Value) (l : List I5) (hs : a.eval s = v) (hown : OwnV w base v l) (hx : a.eval x = .slice (some ⟨w.heap.size, 0, none⟩) 1 1) (hn : l.length ≤ 1000) (hbase : base ≤ w.heap.size)
    (h : ∀ g cap w', OwnV w' base (.slice (some ⟨g, 0, none⟩) (l.length + 1) cap) (l ++ [y]) → Below base w w' → wpList Try.prog ops Q rest (a.put o.dst (.slice (some ⟨g, 0, none⟩) (l.length + 1) cap)) w') :
    wpList Try.prog ops Q (o :: rest) a (w.alloc (.cells #[.int .i64 y.o, .int .i64 y.r, .int .i64 y.a, .int .i64 y.b, .int .i64 y.n] 25)) := by
  obtain ⟨i0, hi, hz0, hz1, hz2⟩ := info25
  have h1' := own_block (w' := w.alloc (.cells #[.int .i64 y.o, .int .i64 y.r, .int .i64 y.a, .int .i64 y.b, .int .i64 y.n] 25)) hown (fun k _ hk => Below.heap_alloc _ _ _ hk)
  refine wpList_append_lies _ hgd s x 32 ho base 25 i0 _ 5 40 Try.underlying32 hi hz0 hz1 hz2 rfl (by decide) v l.length _ hs h1' ⟨w.heap.size, 0, none⟩ 1 1 [.int .i64 y.o, .int .i64 y.r, .int .i64 y.a, .int .i64 y.b, .int .i64 y.n] hx rfl (new5 w _ _ _ _ _) (fun u hu => by simp at hu; rcases hu with rfl | rfl | rfl | rfl | rfl <;> rfl) (by decide) (by unfold maxLen; omega) (by omega) (by simp; omega) _ rfl ?_
  intro g cap w' q1 q2 q3 q4
  refine h g cap w' ?_ (Below.grown ((Below.refl _ _).alloc hbase _) q2 (by simp; omega) (fun j hj => (World.ownsRow.lt h1' _ hj).1))
  show w'.ownsRow base 25 5 _ (l ++ [y]).length (flat5 (l ++ [y]))
  rw [flat5_push, List.length_append]
  exact q1

theorem code_steps {l : List I5} (h : codeB l = true) : ∀ i, i < l.length → stX (l.getD i z5) l.length = true := by
  unfold codeB at h
  rw [Bool.and_eq_true, decide_eq_true_eq] at h
  exact h.1
theorem stX_mono {x : I5} {p q : Int} (h : stX x p = true) (hpq : p ≤ q) : stX x q = true := by
  unfold stX Plain.stepB at h ⊢
  rw [decide_eq_true_eq] at h ⊢
  obtain ⟨h1, h2, h3, h4, h5, h6, hd⟩ := h
  refine ⟨h1, h2, h3, h4, h5, h6, ?_⟩
  rcases hd with hd | hd | hd | hd | hd | hd | ⟨k1, k2, k3, k4⟩ | ⟨k1, k2, k3, k4⟩ | hd
  · exact .inl hd
  · exact .inr (.inl hd)
  · exact .inr (.inr (.inl hd))
  · exact .inr (.inr (.inr (.inl hd)))
  · exact .inr (.inr (.inr (.inr (.inl hd))))
  · exact .inr (.inr (.inr (.inr (.inr (.inl hd)))))
  · exact .inr (.inr (.inr (.inr (.inr (.inr (.inl ⟨k1, k2, Int.lt_of_lt_of_le k3 hpq, k4⟩))))))
  · exact .inr (.inr (.inr (.inr (.inr (.inr (.inr (.inl ⟨k1, k2, Int.lt_of_lt_of_le k3 hpq, k4⟩)))))))
  · exact .inr (.inr (.inr (.inr (.inr (.inr (.inr (.inr hd)))))))
theorem code_more {l : List I5} (h : codeB l = true) (hl : l.length ≤ 700) : codeB (l ++ [⟨12, 0, 0, 0, 0⟩]) = true := by
  have hs := code_steps h
  have e : (l ++ [(⟨12, 0, 0, 0, 0⟩ : I5)]).length = l.length + 1 := by simp
  have hlast : lastB (l ++ [⟨12, 0, 0, 0, 0⟩]) = true := by
    unfold lastB
    rw [e]
    have : (l ++ [(⟨12, 0, 0, 0, 0⟩ : I5)]).getD (l.length + 1 - 1) z5 = ⟨12, 0, 0, 0, 0⟩ := by simp [List.getD]
    rw [this]
    rfl
  rw [code_all, hlast, decide_eq_true (by omega)]
  · rfl
  · intro i hi
    rw [e] at hi ⊢
    by_cases hi' : i < l.length
    · have : (l ++ [(⟨12, 0, 0, 0, 0⟩ : I5)]).getD i z5 = l.getD i z5 := by simp [List.getD, List.getElem?_append_left hi']
      rw [this]
      exact stX_mono (hs i hi') (by omega)
    · have : (l ++ [(⟨12, 0, 0, 0, 0⟩ : I5)]).getD i z5 = ⟨12, 0, 0, 0, 0⟩ := by
        have : i = l.length := by omega
        subst this
        simp [List.getD]
      rw [this]
      simp [stX, Plain.stepB]

end Go.Proofs.Ytkmliphfelinjaa
