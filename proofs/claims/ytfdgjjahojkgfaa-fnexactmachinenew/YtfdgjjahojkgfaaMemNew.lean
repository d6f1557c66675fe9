/- Rows of rows of writes that append makes. No condition. MemoryNew of the program and of the specification. No condition. -/
import Derived.Test.YtfdgjjahojkgfaaMemDefs
import Derived.Test.YtfdgjjahojkgfaaAppN
namespace Go.Proofs.Ytfdgjjahojkgfaa
set_option linter.unusedSimpArgs false
set_option linter.unusedVariables false
set_option maxRecDepth 100000
section
open Go.RowKit

def RS.val (r : RS) : Value := .slice r.s r.vs.length r.c
structure OM (w : World) (B : Nat) (v : Value) (S : List RS) (m : List (List WD)) : Prop where
  n : S.length = m.length
  row : w.ownsRow B 86 1 v S.length (S.map RS.val)
  r : ∀ (i : Nat) (r : RS) (l : List WD), S[i]? = some r → m[i]? = some l → RO w B w.heap.size r l
  d : (mAs S).Nodup
  sep : ∀ a ∈ mAs S, v.ownBlock ≠ some a.block
theorem OM.nil (w : World) (B : Nat) : OM w B (.slice none 0 0) [] [] := ⟨rfl, World.ownsRow_nil _ _ _ _, fun i r l h => by simp at h, by simp [mAs], fun a ha => by simp [mAs] at ha⟩
theorem OM.mo {w : World} {B : Nat} {v : Value} {S : List RS} {m : List (List WD)} (h : OM w B v S m) : ∃ s c, v = .slice s m.length c ∧ MO w B w.heap.size s S m := by
  rcases Nat.eq_zero_or_pos S.length with h0 | hpos
  · obtain ⟨s, c, e⟩ := ownSl h.row
    have h1 := h.n
    have hm : m = [] := List.length_eq_zero_iff.1 (by omega)
    exact ⟨s, c, by rw [e, h1], h1, .inl hm, h.r, h.d⟩
  · obtain ⟨g, cap, rfl, -⟩ := World.ownsRow.form h.row hpos
    have hlt := World.ownsRow.lt h.row g rfl
    refine ⟨_, _, by rw [h.n], h.n, .inr ⟨g, 0, rfl, hlt.1, hlt.2, fun i r hr => ?_⟩, h.r, h.d⟩
    have hi' := (List.getElem?_eq_some_iff.1 hr).1
    rw [Nat.zero_add, World.ownsRow.cellAt h.row i (by omega), List.getElem?_map, hr]
    rfl
theorem OM.blk {w : World} {B : Nat} {v : Value} {S : List RS} {m : List (List WD)} (h : OM w B v S m) {a : Addr} (ha : a ∈ mAs S) : B ≤ a.block ∧ a.block < w.heap.size := by
  obtain ⟨s, c, -, hm⟩ := h.mo
  exact hm.blk ha
theorem OM.below {w w1 : World} {B : Nat} {v : Value} {S : List RS} {m : List (List WD)} (h : OM w B v S m) (hb : Below w.heap.size w w1) : OM w1 B v S m :=
  ⟨h.n, ownKeep' h.row (fun k hk => hb.block k (World.ownsRow.lt h.row _ hk).2), fun i r l hr hl => ((h.r i r l hr hl).keep (Keep.of_below hb (Nat.le_refl _))).mono (Nat.le_refl _) hb.size, h.d, h.sep⟩
theorem OM.push {w w1 w2 : World} {B g cap : Nat} {v : Value} {S : List RS} {m : List (List WD)} (r : RS) (l : List WD) (h : OM w B v S m) (hb : Below w.heap.size w w1) (hr : RO w1 w.heap.size w1.heap.size r l) (hB : B ≤ w.heap.size)
    (h2 : w2.ownsRow B 86 1 (.slice (some ⟨g, 0, none⟩) (S.length + 1) cap) (S.length + 1) (S.map RS.val ++ [r.val])) (hg : w1.grownBy w2 v.ownBlock) (hn : v.ownBlock = some g ∨ w1.heap.size ≤ g) : OM w2 B (.slice (some ⟨g, 0, none⟩) (S ++ [r]).length cap) (S ++ [r]) (m ++ [l]) := by
  have vb : ∀ k, v.ownBlock = some k → k < w.heap.size := fun k hk => (World.ownsRow.lt h.row _ hk).2
  have hn1 := h.n
  refine ⟨by simp [hn1], by simpa using h2, fun i r1 l1 e1 e2 => ?_, ?_, fun a ha => ?_⟩
  · rcases getElem?_push e1 with e1 | ⟨i1, rfl⟩
    · rcases getElem?_push e2 with e2 | ⟨i2, rfl⟩
      · have q := ((h.below hb).r i r1 l1 e1 e2).far2 (w' := w2) (fun a ha => by
          have hm : a ∈ mAs S := mem_mAs.2 ⟨r1, List.mem_of_getElem? e1, ha⟩
          exact hg.block _ (by have := (h.blk hm).2; have := hb.size; omega) (fun e => h.sep a hm e.symm))
        exact q.mono (Nat.le_refl _) hg.size
      · have := (List.getElem?_eq_some_iff.1 e1).1; omega
    · rcases getElem?_push e2 with e2 | ⟨i2, rfl⟩
      · have := (List.getElem?_eq_some_iff.1 e2).1; omega
      · have q := hr.far2 (w' := w2) (fun a ha => by
          have hb' := hr.blk ha
          exact hg.block _ hb'.2 (fun e => by have := vb a.block e.symm; omega))
        exact q.mono hB hg.size
  · rw [mAs_app]
    refine List.nodup_append.2 ⟨h.d, hr.d, fun a ha b hb' e => ?_⟩
    subst e
    have h1 := (h.blk ha).2
    have h3 := (hr.blk hb').1
    omega
  · intro e
    have e : g = a.block := by injection e
    rw [mAs_app] at ha
    rcases List.mem_append.1 ha with ha | ha
    · rcases hn with hn | hn
      · exact h.sep a ha (by rw [hn, e])
      · have h1 := (h.blk ha).2
        have := hb.size
        omega
    · have h3 := hr.blk ha
      rcases hn with hn | hn
      · have := vb g hn
        omega
      · omega

theorem OM.keepB {w w' : World} {B : Nat} {v : Value} {S : List RS} {m : List (List WD)} (h : OM w B v S m) (hk : ∀ b, B ≤ b → w'.heap[b]? = w.heap[b]?) (hs : w'.heap.size = w.heap.size) : OM w' B v S m :=
  ⟨h.n, ownKeep' h.row (fun k e => hk k (World.ownsRow.lt h.row _ e).1), fun i r l hr hl => by rw [hs]; exact (h.r i r l hr hl).keep (fun b h1 _ => hk b h1), h.d, h.sep⟩
theorem infoW : ∃ i, Try.prog.info? 86 = some i ∧ i.zero = some (.slice none 0 0) ∧ i.size = 1 ∧ i.bytes = 24 := ⟨_, rfl, rfl, rfl, rfl⟩
theorem wp_rowW {o : Oper} {a : Act} {w : World} {K : Act → World → Prop} {Q : Exit → Act → World → Prop} (s x : Operand) (ho : o.op = .call { callee := .builtin .append, args := #[s, x], argTypes := #[34, 34] })
    (base : Nat) (v : Value) (n : Nat) (xs : List Value) (hs : a.eval s = v) (hown : w.ownsRow base 86 1 v n xs) (g0 : Nat) (u : Value) (hu : u.oneCell' = true) (hx : a.eval x = .slice (some ⟨g0, 0, none⟩) 1 1) (hc : w.cell? ⟨g0, 0, none⟩ = some u) (hn : n ≤ 1073741824) (hbase : base ≤ w.heap.size)
    (h : ∀ g cap w', w'.ownsRow base 86 1 (.slice (some ⟨g, 0, none⟩) (n + 1) cap) (n + 1) (xs ++ [u]) → w.grownBy w' v.ownBlock → (v.ownBlock = some g ∨ w.heap.size ≤ g) → g < w'.heap.size → K (a.put o.dst (.slice (some ⟨g, 0, none⟩) (n + 1) cap)) w') : Oper.wp Try.prog o a w K Q := by
  obtain ⟨i0, hi, hz0, hz1, hz2⟩ := infoW
  refine wp_append_lies w s x 34 ho base 86 i0 _ 1 24 Try.underlying34 hi hz0 hz1 hz2 rfl (by decide) v n xs hs hown ⟨g0, 0, none⟩ 1 1 [u] hx rfl (fun j u' hj => ?_) (fun u' hu' => by simp at hu'; subst hu'; exact hu) (by decide) (by unfold maxLen; omega) (by omega) hbase _ rfl ?_
  · match j, hj with
    | 0, hj => simp at hj; subst hj; simpa [Addr.add] using hc
    | j + 1, hj => simp at hj
  · intro g cap w' q1 q2 q3 q4
    exact h g cap w' q1 q2 (by rcases q3 with q3 | q3 <;> first | exact .inl q3 | exact .inr (by omega)) q4
theorem step_rowW {ops : Array Oper} {o : Oper} {a : Act} {K : Act → World → Prop} {Q : Exit → Act → World → Prop} {E : Prop} (hgd : o.guard = none) (s x : Operand) (ho : o.op = .call { callee := .builtin .append, args := #[s, x], argTypes := #[34, 34] })
    (w : World) (base : Nat) (v : Value) (n : Nat) (xs : List Value) (hs : a.eval s = v) (hown : w.ownsRow base 86 1 v n xs) (g0 : Nat) (u : Value) (hu : u.oneCell' = true) (hx : a.eval x = .slice (some ⟨g0, 0, none⟩) 1 1) (hc : w.cell? ⟨g0, 0, none⟩ = some u) (hn : n ≤ 1073741824) (hbase : base ≤ w.heap.size)
    (h : ∀ g cap w', w'.ownsRow base 86 1 (.slice (some ⟨g, 0, none⟩) (n + 1) cap) (n + 1) (xs ++ [u]) → w.grownBy w' v.ownBlock → (v.ownBlock = some g ∨ w.heap.size ≤ g) → g < w'.heap.size → K (a.put o.dst (.slice (some ⟨g, 0, none⟩) (n + 1) cap)) w') : if Region.wanted o (yielded ops a.tmps) = true then Oper.wp Try.prog o a w K Q else E := by
  have hw : Region.wanted o (yielded ops a.tmps) = true := by simp [Region.wanted, hgd]
  rw [if_pos hw]
  exact wp_rowW s x ho base v n xs hs hown g0 u hu hx hc hn hbase h
theorem app_rowW {ops : Array Oper} {rest : List Oper} {o : Oper} {a : Act} {Q : Exit → Act → World → Prop} (hgd : o.guard = none) (s x : Operand) (ho : o.op = .call { callee := .builtin .append, args := #[s, x], argTypes := #[34, 34] })
    (w : World) (base : Nat) (v : Value) (n : Nat) (xs : List Value) (hs : a.eval s = v) (hown : w.ownsRow base 86 1 v n xs) (g0 : Nat) (u : Value) (hu : u.oneCell' = true) (hx : a.eval x = .slice (some ⟨g0, 0, none⟩) 1 1) (hc : w.cell? ⟨g0, 0, none⟩ = some u) (hn : n ≤ 1073741824) (hbase : base ≤ w.heap.size)
    (h : ∀ g cap w', w'.ownsRow base 86 1 (.slice (some ⟨g, 0, none⟩) (n + 1) cap) (n + 1) (xs ++ [u]) → w.grownBy w' v.ownBlock → (v.ownBlock = some g ∨ w.heap.size ≤ g) → g < w'.heap.size → wpList Try.prog ops Q rest (a.put o.dst (.slice (some ⟨g, 0, none⟩) (n + 1) cap)) w') : wpList Try.prog ops Q (o :: rest) a w :=
  wpList_plain hgd fun _ hK => wp_rowW s x ho base v n xs hs hown g0 u hu hx hc hn hbase fun g cap w' h1 h2 h3 h4 => hK _ _ (h g cap w' h1 h2 h3 h4)
end

section
open Go.RowKit

def zRow : List WD := [⟨0, List.replicate 24 0⟩]
def newM (k : Nat) : List (List WD) := List.replicate k zRow
theorem newM_len (k : Nat) : (newM k).length = k := by simp [newM]
theorem newM_succ (k : Nat) : newM (k + 1) = newM k ++ [zRow] := List.replicate_succ'
/- the three blocks of a new row -/
def W3 (w : World) : World := ((w.alloc (.cells (madeCells #[.int .i64 0] 24) 3)).alloc (.cells #[.int .i64 0, .slice (some ⟨w.heap.size, 0, none⟩) 24 24] 88)).alloc (.cells #[.slice (some ⟨w.heap.size + 1, 0, none⟩) 1 1] 86)
theorem W3_below (w : World) : Below w.heap.size w (W3 w) := (((Below.refl _ _).alloc (Nat.le_refl _) _).alloc (by simp) _).alloc (by simp; omega) _
theorem W3_size (w : World) : (W3 w).heap.size = w.heap.size + 3 := by simp [W3]
theorem W3_row (w : World) : RO (W3 w) w.heap.size (W3 w).heap.size ⟨some ⟨w.heap.size + 1, 0, none⟩, 1, [⟨some ⟨w.heap.size, 0, none⟩, 24, 24⟩]⟩ zRow := by
  have h := RO.push (w := W3 w) (w' := W3 w) (lo := w.heap.size) (hi := (W3 w).heap.size) (G := w.heap.size + 1) (O := 0) (c := 1) (vs := []) (l := []) ⟨some ⟨w.heap.size, 0, none⟩, 24, 24⟩ ⟨0, List.replicate 24 0⟩ (RO.nil _ _ _ _ _) ⟨by omega, by rw [W3_size]; omega⟩ (fun a _ _ => ⟨rfl, rfl⟩) (by simp [W3, go_sem]) (by simp [W3, go_sem]) (by simp [W3, go_sem]) ?_ ?_ (vAs_nodup (g := w.heap.size) (o := 0) rfl) (fun x hx => by simp at hx)
  · exact h
  · refine ⟨by simp, .inr ⟨w.heap.size, 0, rfl, Nat.le_refl _, by rw [W3_size]; omega, fun i hi' => ?_⟩⟩
    simp at hi'
    rw [Nat.zero_add]
    refine ⟨?_, by simp [W3, go_sem]⟩
    have e : (W3 w).cell? ⟨w.heap.size, i, none⟩ = (madeCells #[.int .i64 0] 24)[i]? := by simp [W3, go_sem]
    show _ = some (Value.int .i64 ((List.replicate 24 (0 : Int)).getD i 0))
    rw [e, ← Array.getElem?_toList, toList_madeCells_one, List.getElem?_replicate, if_pos hi', List.getD_eq_getElem?_getD, List.getElem?_replicate, if_pos hi']
    rfl
  · intro a ha
    obtain ⟨i, -, rfl⟩ := mem_vAs.1 ha
    show w.heap.size ≠ w.heap.size + 1
    omega

set_option maxHeartbeats 2000000 in
theorem implNew_any (w : World) : Calls Try.prog 40 #[] w fun e w' => ∃ s c S, e = .returned (.agg #[.slice s 24 c]) ∧ MO w' w.heap.size w'.heap.size s S (newM 24) ∧ Below w.heap.size w w' := by
  have hmk : ∀ w : World, (Instr.makeSlice 56 (.int .i64 24) (.int .i64 24)).run Try.prog w = .ok (.slice (some ⟨w.heap.size, 0, none⟩) 24 24) (w.alloc (.cells (madeCells #[.int .i64 0] 24) 3)) := fun w => mkInt 24 (by omega) w
  go_enter Try.func40, Try.ntmps40
  go_wp2
  go_loopw [2] (fun i wr => ∃ (k : Nat) (v : Value) (S : List RS), k ≤ 24 ∧ i = .int .i64 k ∧ S.length = k ∧ OM wr (w.heap.size + 2) v S (newM k) ∧ wr.cell? ⟨w.heap.size + 1, 0, none⟩ = some v ∧ (wr.cell? ⟨w.heap.size, 0, none⟩).isSome = true ∧ (∀ j, wr.frozen? ⟨w.heap.size + 1, j, none⟩ = false) ∧ (∀ j, wr.frozen? ⟨w.heap.size, j, none⟩ = false) ∧ w.heap.size + 1 < wr.heap.size ∧ Below w.heap.size w wr) (fun i _ => 24 - (intOf i).toNat)
  case atStart => exact ⟨0, .slice none 0 0, [], Nat.zero_le _, rfl, rfl, OM.nil _ _, by simp [go_sem], by simp [go_sem], fun j => by simp [go_sem], fun j => by simp [go_sem], by simp, ((Below.refl _ _).alloc (Nat.le_refl _) _).alloc (by simp) _⟩
  case round =>
    obtain ⟨k, v, S, hk, rfl, hS, ho, c1, c0, f1, f0, hz, hb⟩ := hrel
    obtain ⟨s, c, hv, -⟩ := ho.mo
    rw [newM_len] at hv
    subst hv
    have HO : Hid (OM wr (w.heap.size + 2) (.slice s k c) S (newM k)) := ho
    have HB : Hid (Below w.heap.size w wr) := hb
    have HS : Hid (S.length = k) := hS
    have hzz : w.heap.size < wr.heap.size := by omega
    have hz2 : w.heap.size + 2 ≤ wr.heap.size := by omega
    obtain ⟨u0, c0'⟩ := Option.isSome_iff_exists.1 c0
    clear ho hb hS c0
    by_cases hlt : k < 24
    · have b0 : (k : Int) < 24 := by omega
      go_wp2
      have HOX : Hid (OM (W3 wr.drew) (w.heap.size + 2) (.slice s k c) S (newM k)) := (HO.out.below (Below.drew (Below.refl _ _))).below (W3_below _)
      go_region_law (refine step_rowW rfl _ _ rfl (W3 wr.drew) (w.heap.size + 2) (.slice s k c) S.length (S.map RS.val) rfl HOX.out.row (wr.heap.size + 1 + 1) (.slice (some ⟨wr.heap.size + 1, 0, none⟩) 1 1) rfl rfl (by simp [W3, go_sem]) (by have := HS.out; omega) (by rw [W3_size]; show w.heap.size + 2 ≤ wr.heap.size + 3; omega) ?_; intro g1 cap1 w1 ho1 hg1 hn1 hl1; have hb1 : Below (w.heap.size + 2) wr w1 := ((Below.drew (Below.refl _ _)).trans ((W3_below wr.drew).mono (show w.heap.size + 2 ≤ wr.heap.size by omega))).trans (Below.grown (Below.refl _ _) hg1 (by rw [W3_size]; show w.heap.size + 2 ≤ wr.heap.size + 3; omega) (fun j hj => (World.ownsRow.lt HOX.out.row _ hj).1)); have t1 := (hb1.cell (p := ⟨w.heap.size + 1, 0, none⟩) (show w.heap.size + 1 < w.heap.size + 2 by omega)).trans c1; have t2 := (hb1.frozen (p := ⟨w.heap.size + 1, 0, none⟩) (show w.heap.size + 1 < w.heap.size + 2 by omega)).trans (f1 0); have HO1 := (show Hid _ from ho1); have HG1 := (show Hid _ from hg1); have HN1 := (show Hid _ from hn1); have HB1 := (show Hid _ from hb1); clear ho1 hg1 hn1 hb1)
      all_goals
        have HP := (HO.out.below (Below.drew (Below.refl _ _))).push _ zRow (W3_below _) (W3_row wr.drew) (show w.heap.size + 2 ≤ wr.heap.size by omega) HO1.out HG1.out HN1.out
        have HP1 : Hid (OM w1 (w.heap.size + 2) (.slice (some ⟨g1, 0, none⟩) (S.length + 1) cap1) (S ++ [⟨some ⟨wr.heap.size + 1, 0, none⟩, 1, [⟨some ⟨wr.heap.size, 0, none⟩, 24, 24⟩]⟩]) (newM (k + 1))) := by
          show OM _ _ _ _ _
          rw [newM_succ]
          have e : (S ++ [(⟨some ⟨wr.heap.size + 1, 0, none⟩, 1, [⟨some ⟨wr.heap.size, 0, none⟩, 24, 24⟩]⟩ : RS)]).length = S.length + 1 := by simp
          rw [← e]
          exact HP
        have t3 := (HB1.out.cell (p := ⟨w.heap.size, 0, none⟩) (show w.heap.size < w.heap.size + 2 by omega)).trans c0'
        have hz1 := HB1.out.size
        clear HP
        go_wp2
        go_roundw
        case rel =>
          refine ⟨k + 1, .slice (some ⟨g1, 0, none⟩) (S.length + 1) cap1, _, by omega, by go_num, by simp [HS.out], HP1.out.keepB (fun b hb => Below.heap_setCell _ _ _ b (by show b ≠ w.heap.size + 1; omega)) (by simp), setC_at (by rw [t1]; rfl), ?_, fun j => ?_, fun j => ?_, by simp; omega, ?_⟩
          · rw [setC_blk (by omega), t3]; rfl
          · rw [World.frozen?_setCell, HB1.out.frozen (p := ⟨w.heap.size + 1, j, none⟩) (show w.heap.size + 1 < w.heap.size + 2 by omega)]; exact f1 j
          · rw [World.frozen?_setCell, HB1.out.frozen (p := ⟨w.heap.size, j, none⟩) (show w.heap.size < w.heap.size + 2 by omega)]; exact f0 j
          · exact (HB.out.trans (HB1.out.mono (by omega))).setCell (p := ⟨w.heap.size + 1, 0, none⟩) (by show w.heap.size ≤ w.heap.size + 1; omega) _
        case measure => simp [intOf]; omega
    · have e24 : k = 24 := by omega
      subst e24
      go_wp2
      obtain ⟨s', c', ev, hmo⟩ := HO.out.mo
      injection ev with e1 e2 e3
      subst e1
      refine bodyPost_ret (v := .agg #[.slice s 24 c]) (by simp [results, Try.results40, go_sem, c0']) rfl ⟨s, c, S, rfl, ?_, ?_⟩
      · refine MO.mono (lo := w.heap.size + 2) (hi := wr.heap.size) ?_ (by omega) (by simp)
        exact hmo.keep (fun b h1 h2 => Below.heap_setCell _ _ _ b (by show b ≠ w.heap.size; omega))
      · exact HB.out.setCell (p := ⟨w.heap.size, 0, none⟩) (Nat.le_refl _) _

set_option maxHeartbeats 2000000 in
theorem specNew_any (w : World) : Calls Try.prog 37 #[] w fun e w' => ∃ s c S, e = .returned (.agg #[.slice s 24 c]) ∧ MO w' w.heap.size w'.heap.size s S (newM 24) ∧ Below w.heap.size w w' := by
  have hmk : ∀ w : World, (Instr.makeSlice 56 (.int .i64 24) (.int .i64 24)).run Try.prog w = .ok (.slice (some ⟨w.heap.size, 0, none⟩) 24 24) (w.alloc (.cells (madeCells #[.int .i64 0] 24) 3)) := fun w => mkInt 24 (by omega) w
  go_enter Try.func37, Try.ntmps37
  go_wp2
  go_loopw [2] (fun i wr => ∃ (k : Nat) (v : Value) (S : List RS), k ≤ 24 ∧ i = .int .i64 k ∧ S.length = k ∧ OM wr (w.heap.size + 2) v S (newM k) ∧ wr.cell? ⟨w.heap.size + 1, 0, none⟩ = some v ∧ (wr.cell? ⟨w.heap.size, 0, none⟩).isSome = true ∧ (∀ j, wr.frozen? ⟨w.heap.size + 1, j, none⟩ = false) ∧ (∀ j, wr.frozen? ⟨w.heap.size, j, none⟩ = false) ∧ w.heap.size + 1 < wr.heap.size ∧ Below w.heap.size w wr) (fun i _ => 24 - (intOf i).toNat)
  case atStart => exact ⟨0, .slice none 0 0, [], Nat.zero_le _, rfl, rfl, OM.nil _ _, by simp [go_sem], by simp [go_sem], fun j => by simp [go_sem], fun j => by simp [go_sem], by simp, ((Below.refl _ _).alloc (Nat.le_refl _) _).alloc (by simp) _⟩
  case round =>
    obtain ⟨k, v, S, hk, rfl, hS, ho, c1, c0, f1, f0, hz, hb⟩ := hrel
    obtain ⟨s, c, hv, -⟩ := ho.mo
    rw [newM_len] at hv
    subst hv
    have HO : Hid (OM wr (w.heap.size + 2) (.slice s k c) S (newM k)) := ho
    have HB : Hid (Below w.heap.size w wr) := hb
    have HS : Hid (S.length = k) := hS
    have hzz : w.heap.size < wr.heap.size := by omega
    have hz2 : w.heap.size + 2 ≤ wr.heap.size := by omega
    obtain ⟨u0, c0'⟩ := Option.isSome_iff_exists.1 c0
    clear ho hb hS c0
    by_cases hlt : k < 24
    · have b0 : (k : Int) < 24 := by omega
      go_wp2
      have HOX : Hid (OM (W3 wr.drew) (w.heap.size + 2) (.slice s k c) S (newM k)) := (HO.out.below (Below.drew (Below.refl _ _))).below (W3_below _)
      go_region_law (refine step_rowW rfl _ _ rfl (W3 wr.drew) (w.heap.size + 2) (.slice s k c) S.length (S.map RS.val) rfl HOX.out.row (wr.heap.size + 1 + 1) (.slice (some ⟨wr.heap.size + 1, 0, none⟩) 1 1) rfl rfl (by simp [W3, go_sem]) (by have := HS.out; omega) (by rw [W3_size]; show w.heap.size + 2 ≤ wr.heap.size + 3; omega) ?_; intro g1 cap1 w1 ho1 hg1 hn1 hl1; have hb1 : Below (w.heap.size + 2) wr w1 := ((Below.drew (Below.refl _ _)).trans ((W3_below wr.drew).mono (show w.heap.size + 2 ≤ wr.heap.size by omega))).trans (Below.grown (Below.refl _ _) hg1 (by rw [W3_size]; show w.heap.size + 2 ≤ wr.heap.size + 3; omega) (fun j hj => (World.ownsRow.lt HOX.out.row _ hj).1)); have t1 := (hb1.cell (p := ⟨w.heap.size + 1, 0, none⟩) (show w.heap.size + 1 < w.heap.size + 2 by omega)).trans c1; have t2 := (hb1.frozen (p := ⟨w.heap.size + 1, 0, none⟩) (show w.heap.size + 1 < w.heap.size + 2 by omega)).trans (f1 0); have HO1 := (show Hid _ from ho1); have HG1 := (show Hid _ from hg1); have HN1 := (show Hid _ from hn1); have HB1 := (show Hid _ from hb1); clear ho1 hg1 hn1 hb1)
      all_goals
        have HP := (HO.out.below (Below.drew (Below.refl _ _))).push _ zRow (W3_below _) (W3_row wr.drew) (show w.heap.size + 2 ≤ wr.heap.size by omega) HO1.out HG1.out HN1.out
        have HP1 : Hid (OM w1 (w.heap.size + 2) (.slice (some ⟨g1, 0, none⟩) (S.length + 1) cap1) (S ++ [⟨some ⟨wr.heap.size + 1, 0, none⟩, 1, [⟨some ⟨wr.heap.size, 0, none⟩, 24, 24⟩]⟩]) (newM (k + 1))) := by
          show OM _ _ _ _ _
          rw [newM_succ]
          have e : (S ++ [(⟨some ⟨wr.heap.size + 1, 0, none⟩, 1, [⟨some ⟨wr.heap.size, 0, none⟩, 24, 24⟩]⟩ : RS)]).length = S.length + 1 := by simp
          rw [← e]
          exact HP
        have t3 := (HB1.out.cell (p := ⟨w.heap.size, 0, none⟩) (show w.heap.size < w.heap.size + 2 by omega)).trans c0'
        have hz1 := HB1.out.size
        clear HP
        go_wp2
        go_roundw
        case rel =>
          refine ⟨k + 1, .slice (some ⟨g1, 0, none⟩) (S.length + 1) cap1, _, by omega, by go_num, by simp [HS.out], HP1.out.keepB (fun b hb => Below.heap_setCell _ _ _ b (by show b ≠ w.heap.size + 1; omega)) (by simp), setC_at (by rw [t1]; rfl), ?_, fun j => ?_, fun j => ?_, by simp; omega, ?_⟩
          · rw [setC_blk (by omega), t3]; rfl
          · rw [World.frozen?_setCell, HB1.out.frozen (p := ⟨w.heap.size + 1, j, none⟩) (show w.heap.size + 1 < w.heap.size + 2 by omega)]; exact f1 j
          · rw [World.frozen?_setCell, HB1.out.frozen (p := ⟨w.heap.size, j, none⟩) (show w.heap.size < w.heap.size + 2 by omega)]; exact f0 j
          · exact (HB.out.trans (HB1.out.mono (by omega))).setCell (p := ⟨w.heap.size + 1, 0, none⟩) (by show w.heap.size ≤ w.heap.size + 1; omega) _
        case measure => simp [intOf]; omega
    · have e24 : k = 24 := by omega
      subst e24
      go_wp2
      obtain ⟨s', c', ev, hmo⟩ := HO.out.mo
      injection ev with e1 e2 e3
      subst e1
      refine bodyPost_ret (v := .agg #[.slice s 24 c]) (by simp [results, Try.results37, go_sem, c0']) rfl ⟨s, c, S, rfl, ?_, ?_⟩
      · refine MO.mono (lo := w.heap.size + 2) (hi := wr.heap.size) ?_ (by omega) (by simp)
        exact hmo.keep (fun b h1 h2 => Below.heap_setCell _ _ _ b (by show b ≠ w.heap.size; omega))
      · exact HB.out.setCell (p := ⟨w.heap.size, 0, none⟩) (Nat.le_refl _) _
end

end Go.Proofs.Ytfdgjjahojkgfaa
