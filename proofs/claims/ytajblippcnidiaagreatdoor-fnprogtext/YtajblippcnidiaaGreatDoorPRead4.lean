/- readBodies of the program, at every row of lines. Conditions: at most 2^20 + 1 lines of at most 2^40 bytes; the tables hold what their initialisers lay (Env). -/
import Derived.Test.YtajblippcnidiaaGreatDoorPRead1
import Derived.Test.YtajblippcnidiaaGreatDoorBodOwn
import Derived.Deep.RegionLaw
namespace Go.Proofs.YtajblippcnidiaaGreatDoor
set_option linter.unusedSimpArgs false
set_option linter.unusedVariables false
set_option maxRecDepth 100000
open Go.RowKit

/- a call of a Go function, as a step of a region that draws its order -/
theorem stepC {ops : Array Oper} {o : Oper} {a : Act} {w : World} {K : Act → World → Prop} {Q : Exit → Act → World → Prop} {F : Prop} (f : FuncId) (args : Array Value) (hgd : o.guard = none) (xs : Array Operand) (ats : Array TypeId) (ho : o.op = .call { callee := .value (.func f), args := xs, argTypes := ats }) (hx : xs.map a.eval = args)
    (hent : ∀ (args : Array Value) (w : World), (callFunc f args).run Tryz.prog w = .ok (.enter f args) w) (h : Calls Tryz.prog f args w fun e w' => ∃ v, e = .returned v ∧ K (a.put o.dst v) w') :
    if Region.wanted o (yielded ops a.tmps) = true then Oper.wp Tryz.prog o a w K Q else F := by
  have hw : Region.wanted o (yielded ops a.tmps) = true := by simp [Region.wanted, hgd]
  rw [if_pos hw]
  obtain ⟨dst, op, ty, pos, after, guard⟩ := o
  simp only at ho
  subst ho
  unfold Oper.wp
  rw [execOp_call_go]
  have e : (#[] ++ xs.map a.eval ++ #[]) = args := by rw [hx]; simp
  rw [e, hent, Oper.upon_enter]
  refine h.mono ?_
  rintro e w' ⟨v, rfl, hk⟩
  exact hk
theorem entIns (args : Array Value) (w : World) : (callFunc 64 args).run Tryz.prog w = .ok (.enter 64 args) w := by kernel_rfl

theorem newB1 (w : World) (u : Value) : ∀ j v, [u][j]? = some v → (w.alloc (.cells #[u] 40)).cell? (Addr.add ⟨w.heap.size, 0, none⟩ j) = some v := by
  intro j v h
  match j, h with
  | 0, h => simpa [Addr.add, go_sem] using h
  | j + 1, h => simp at h
theorem newP5 (w : World) (x : I5) : ∀ j v, (cellsP x)[j]? = some v → (w.alloc (.cells #[.int .i64 x.o, .int .i64 x.r, .int .i64 x.a, .int .i64 x.b, .int .i64 x.n] 42)).cell? (Addr.add ⟨w.heap.size, 0, none⟩ j) = some v := by
  intro j v h
  match j, h with
  | 0, h => simpa [Addr.add, go_sem, cellsP] using h
  | 1, h => simpa [Addr.add, go_sem, cellsP] using h
  | 2, h => simpa [Addr.add, go_sem, cellsP] using h
  | 3, h => simpa [Addr.add, go_sem, cellsP] using h
  | 4, h => simpa [Addr.add, go_sem, cellsP] using h
  | j + 5, h => simp [cellsP] at h

/- append of an empty row -/
theorem app_nilrow {ops : Array Oper} {rest : List Oper} {o : Oper} {a : Act} {Q : Exit → Act → World → Prop} (hgd : o.guard = none) (s x : Operand) (ho : o.op = .call { callee := .builtin .append, args := #[s, x], argTypes := #[25, 25] })
    (w : World) (base : Nat) (v : Value) (bs : List (List I5)) (hs : a.eval s = v) (hown : OwnB w base v bs) (hx : a.eval x = .slice (some ⟨w.heap.size, 0, none⟩) 1 1) (hn : bs.length ≤ 1073741824) (hbase : base ≤ w.heap.size)
    (h : ∀ g cap w', OwnB w' base (.slice (some ⟨g, 0, none⟩) (bs.length + 1) cap) (bs ++ [[]]) → Below base w w' → w.heap.size ≤ w'.heap.size → wpList Tryz.prog ops Q rest (a.put o.dst (.slice (some ⟨g, 0, none⟩) (bs.length + 1) cap)) w') :
    wpList Tryz.prog ops Q (o :: rest) a (w.alloc (.cells #[.slice none 0 0] 40)) := by
  obtain ⟨i0, hi, hz0, hz1, hz2⟩ := infoB
  obtain ⟨xs, h1, h2, h3⟩ := hown
  have h1' : (w.alloc (.cells #[.slice none 0 0] 40)).ownsRow base 40 1 v bs.length xs := ownKeep h1 (fun k hk => Below.heap_alloc _ _ _ (World.ownsRow.lt h1 _ hk).2)
  refine wpList_append_lies _ hgd s x 25 ho base 40 i0 _ 1 24 Tryz.underlying25 hi hz0 hz1 hz2 rfl (by decide) v bs.length _ hs h1' ⟨w.heap.size, 0, none⟩ 1 1 [.slice none 0 0] hx rfl (newB1 w _) (fun u hu => by simp at hu; subst hu; rfl) (by decide) (by unfold maxLen; omega) (by omega) (by simp; omega) _ rfl ?_
  intro g cap w' q1 q2 q3 q4
  have hb : Below base w w' := Below.grown (((Below.refl _ _).alloc hbase _)) q2 (by simp; omega) (fun j hj => (World.ownsRow.lt h1' _ hj).1)
  refine h g cap w' (OwnB.grow h1 h2 h3 (.inl rfl) q1 (fun k _ hk hne => (q2.block k (by simp; omega) (fun e => hne e.symm)).trans (Below.heap_alloc _ _ _ hk)) (World.ownsRow_nil _ _ _ _)) hb hb.size

/- append of one place, as a step of a region that draws its order -/
theorem step_place {ops : Array Oper} {o : Oper} {a : Act} {K : Act → World → Prop} {Q : Exit → Act → World → Prop} {E : Prop} (hgd : o.guard = none) (s y : Operand) (ho : o.op = .call { callee := .builtin .append, args := #[s, y], argTypes := #[40, 40] })
    (w : World) (x : I5) (base : Nat) (v : Value) (b : List I5) (hs : a.eval s = v) (hown : OwnP w base v b) (hx : a.eval y = .slice (some ⟨w.heap.size, 0, none⟩) 1 1) (hn : b.length ≤ 1073741824) (hbase : base ≤ w.heap.size)
    (h : ∀ g cap w', OwnP w' base (.slice (some ⟨g, 0, none⟩) (b.length + 1) cap) (b ++ [x]) → (∀ k, k < w.heap.size → v.ownBlock ≠ some k → w'.heap[k]? = w.heap[k]?) → (v.ownBlock = some g ∨ w.heap.size ≤ g) → Below base w w' → K (a.put o.dst (.slice (some ⟨g, 0, none⟩) (b.length + 1) cap)) w') :
    if Region.wanted o (yielded ops a.tmps) = true then Oper.wp Tryz.prog o a (w.alloc (.cells #[.int .i64 x.o, .int .i64 x.r, .int .i64 x.a, .int .i64 x.b, .int .i64 x.n] 42)) K Q else E := by
  obtain ⟨i0, hi, hz0, hz1, hz2⟩ := infoP
  have h1' : (w.alloc (.cells #[.int .i64 x.o, .int .i64 x.r, .int .i64 x.a, .int .i64 x.b, .int .i64 x.n] 42)).ownsRow base 42 5 v b.length (flatP b) := ownKeep hown (fun k hk => Below.heap_alloc _ _ _ (World.ownsRow.lt hown _ hk).2)
  refine step_append_lies _ hgd s y 40 ho base 42 i0 _ 5 40 Tryz.underlying40 hi hz0 hz1 hz2 rfl (by decide) v b.length _ hs h1' ⟨w.heap.size, 0, none⟩ 1 1 (cellsP x) hx rfl (newP5 w x) (fun u hu => by simp [cellsP] at hu; rcases hu with rfl | rfl | rfl | rfl | rfl <;> rfl) (by decide) (by unfold maxLen; omega) (by omega) (by simp; omega) _ rfl ?_
  intro g cap w' q1 q2 q3 q4
  have hb : Below base w w' := Below.grown (((Below.refl _ _).alloc hbase _)) q2 (by simp; omega) (fun j hj => (World.ownsRow.lt h1' _ hj).1)
  refine h g cap w' ?_ (fun k hk hne => (q2.block k (by simp; omega) (fun e => hne e.symm)).trans (Below.heap_alloc _ _ _ hk)) ?_ hb
  · show w'.ownsRow base 42 5 _ (b ++ [x]).length (flatP (b ++ [x]))
    rw [flatP_snoc, List.length_append]
    exact q1
  · rcases q3 with q3 | q3
    · exact .inl q3
    · exact .inr (by rw [q3]; simp)

def TextsI (w : World) (B : Nat) (s : Option Addr) (ls : List (List UInt8)) : Prop :=
  ls = [] ∨ ∃ g o, s = some ⟨g, o, none⟩ ∧ g < B ∧ ∀ k, k < ls.length → w.cell? ⟨g, o + k, none⟩ = some (.string ⟨(ls.getD k []).toArray⟩)
def bodsPost (base N : Nat) (r : Option (List (List I5))) (e : Ending) (w' : World) : Prop :=
  match r with
  | none => e = .panicked [{ v := noT, recovered := false }]
  | some bs => ∃ v, e = .returned v ∧ OwnB w' base v bs ∧ bs.length ≤ N ∧ ∀ b ∈ bs, b.length ≤ N

theorem drop_line (ls : List (List UInt8)) (k : Nat) (h : k < ls.length) : ls.drop k = ls.getD k [] :: ls.drop (k + 1) := by
  rw [List.drop_eq_getElem_cons h]
  simp [List.getD_eq_getElem?_getD, h]
theorem push_set {bs : List (List I5)} (x : I5) (h : bs ≠ []) : pushI bs x = bs.set (bs.length - 1) (bs.getD (bs.length - 1) [] ++ [x]) := by
  obtain ⟨a, b, rfl⟩ : ∃ a b, bs = a ++ [b] := ⟨bs.dropLast, bs.getLast h, (List.dropLast_concat_getLast h).symm⟩
  rw [push_last2]
  have e : (a ++ [b]).length - 1 = a.length := by simp
  rw [e, getD_snoc, if_neg (Nat.lt_irrefl _), if_pos rfl]
  simp

set_option maxHeartbeats 4000000 in
theorem readBodies_any (s : Option Addr) (c : Nat) (lines : List (List UInt8)) (w : World) (hr : TextsI w w.heap.size s lines) (hn : lines.length ≤ 1048577) (hw : ∀ x ∈ lines, x.length ≤ 1099511627775) (hE : Env w w.heap.size) :
    Calls Tryz.prog 50 #[.slice s lines.length c] w fun e w' => bodsPost w.heap.size lines.length (bodsR [] lines) e w' ∧ Below w.heap.size w w' := by
  have HE : Hid (Env w w.heap.size) := hE
  have HR : Hid (TextsI w w.heap.size s lines) := hr
  have HW : Hid (∀ x ∈ lines, x.length ≤ 1099511627775) := hw
  clear hE hr hw
  go_enter Tryz.func50, Tryz.ntmps50
  go_wp2
  go_loopw [3, 9] (fun v i wr => ∃ (k : Nat) (bs : List (List I5)), k ≤ lines.length ∧ i = .int .i64 k ∧ OwnB wr w.heap.size v bs ∧ bs.length ≤ k ∧ (∀ b ∈ bs, b.length ≤ k) ∧ Hid (bodsR [] lines = bodsR bs (lines.drop k)) ∧ Below w.heap.size w wr) (fun _ i _ => lines.length - (intOf i).toNat)
  case atStart => exact ⟨0, [], Nat.zero_le _, rfl, OwnB.nil _ _, Nat.zero_le _, (fun b hb => by cases hb), (by rw [List.drop_zero]; exact rfl), Below.refl _ _⟩
  case round =>
    obtain ⟨k, bs, hk, rfl, hown, hbl, hbb, HEq, hbr⟩ := hrel
    have KR : Hid (Below w.heap.size w wr) := hbr
    have OR : Hid (OwnB wr w.heap.size u3 bs) := hown
    have HBB : Hid (∀ b ∈ bs, b.length ≤ k) := hbb
    have hsr : w.heap.size ≤ wr.heap.size := hbr.size
    have ER : Hid (∀ W, Below w.heap.size w W → Env W W.heap.size) := fun W hW => (HE.out.keep hW).mono (by have := hW.size; omega)
    clear hbr hown hbb
    by_cases hlt : k < lines.length
    · rcases HR.out with h | ⟨g, o, rfl, hg, hc⟩
      · rw [h] at hlt; simp at hlt
      have ck := (KR.out.cell (p := ⟨g, o + k, none⟩) hg).trans (hc k hlt)
      have hmem : lines.getD k [] ∈ lines := by
        rw [List.getD_eq_getElem?_getD, List.getElem?_eq_getElem hlt]
        exact List.getElem_mem _
      have hll := HW.out _ hmem
      have HD : Hid (lines.drop k = lines.getD k [] :: lines.drop (k + 1)) := drop_line lines k hlt
      clear hc hmem
      generalize lines.getD k [] = line at ck hll HD
      have b0 : (0 : Int) ≤ (k : Int) := by omega
      have b1 : (k : Int) < (lines.length : Int) := by omega
      by_cases hbd : line = bodyW
      · subst hbd
        have HQ : Hid (bodsR [] lines = bodsR (bs ++ [[]]) (lines.drop (k + 1))) := by show _ = _; rw [HEq.out, HD.out]; rfl
        obtain ⟨su, cu, rfl⟩ := OR.out.sl
        unfold bodyW at ck
        go_wp2_with (at_builtin; refine app_nilrow rfl _ _ rfl wr w.heap.size (.slice su bs.length cu) bs rfl OR.out rfl (by omega) hsr ?_; intro g5 cap5 w5 ho5 hb5 hs5; have O5 : Hid (OwnB w5 w.heap.size (.slice (some ⟨g5, 0, none⟩) (bs.length + 1) cap5) (bs ++ [[]])) := ho5; have B5 : Hid (Below w.heap.size wr w5) := hb5; clear ho5 hb5)
        go_roundw
        case rel => exact ⟨k + 1, bs ++ [[]], by omega, by go_num, O5.out, by simp; omega, (fun b hb => by rcases List.mem_append.1 hb with h | h; exact Nat.le_succ_of_le (HBB.out b h); (simp at h; subst h; simp)), HQ.out, KR.out.trans B5.out⟩
        case measure => simp [intOf]; omega
      · have hwd : (line == [98, 111, 100, 121]) = false := by simpa [bodyW] using hbd
        have HBD : Hid (¬ line = bodyW) := hbd
        clear hbd
        rcases Nat.eq_zero_or_pos bs.length with h0 | hpos
        · have hb0 : bs = [] := List.length_eq_zero_iff.1 h0
          subst hb0
          have HN : Hid (bodsR [] lines = none) := by show _ = _; rw [HEq.out, HD.out]; simp only [bodsR]; rw [if_neg HBD.out, if_pos trivial]
          obtain ⟨su, cu, rfl⟩ := OR.out.sl
          go_wp2
          refine ⟨rfl, ?_, KR.out⟩
          rw [HN.out]
          rfl
        · obtain ⟨m, hm⟩ : ∃ m, bs.length = m + 1 := ⟨bs.length - 1, by omega⟩
          have hbne : bs ≠ [] := fun h => by rw [h] at hpos; simp at hpos
          obtain ⟨xs, h1, h2, h3⟩ := OR.out
          obtain ⟨G, cap, rfl, hG0, hG1⟩ := World.ownsRow.form h1 hpos
          have hxl : xs.length = m + 1 := by have := h1.1; omega
          have cG : wr.cell? ⟨G, m, none⟩ = some (xs.getD m undef) := by
            rw [World.ownsRow.cellAt h1 m (by omega), List.getD_eq_getElem?_getD, List.getElem?_eq_getElem (by omega)]; rfl
          have fG : wr.frozen? ⟨G, m, none⟩ = false := World.ownsRow.frozenAt h1 m
          have HP : Hid (OwnP wr w.heap.size (xs.getD m undef) (bs.getD m [])) := h2 m (by omega)
          have H1 := (show Hid _ from h1)
          have H2 : Hid (∀ i, i < bs.length → OwnP wr w.heap.size (xs.getD i undef) (bs.getD i [])) := h2
          have H3 : Hid (∀ i j k, i < bs.length → j < bs.length → i ≠ j → (xs.getD i undef).ownBlock = some k → (xs.getD j undef).ownBlock ≠ some k) := h3
          have HM : Hid (bs.length = m + 1) := hm
          rw [hm]
          have hil : (bs.getD m []).length ≤ k := HBB.out _ (by rw [List.getD_eq_getElem?_getD, List.getElem?_eq_getElem (by omega)]; exact List.getElem_mem _)
          have hmk : m + 1 ≤ k := by omega
          obtain ⟨vl, hvl⟩ : ∃ vl, xs.getD m undef = vl := ⟨_, rfl⟩
          rw [hvl] at cG
          have HVL : Hid (xs.getD m undef = vl) := hvl
          have bm0 : (0 : Int) ≤ (m : Int) := by omega
          have bm1 : (m : Int) < (m : Int) + 1 := by omega
          clear h1 h2 h3 hm hvl hpos hxl
          cases hrl : readL line with
          | none =>
            have HN : Hid (bodsR [] lines = none) := by show _ = _; rw [HEq.out, HD.out]; simp only [bodsR]; rw [if_neg HBD.out, if_neg hbne, hrl]
            have HRL : Hid (readL line = none) := hrl
            have HPP : Hid (bodsPost w.heap.size lines.length (bodsR [] lines) (.panicked [{ v := noT, recovered := false }]) wr) := by show bodsPost _ _ _ _ _; rw [HN.out]; rfl
            clear hrl
            go_wp2_with fail
            go_region_with (first | (go_at_call 64; refine (readIns_any line hll _ (ER.out _ (Below.drew KR.out))).mono ?_; rintro e w4 ⟨he, hb4⟩; rw [HRL.out] at he; have he' : e = .panicked [{ v := noT, recovered := false }] := he; clear he; subst he'; refine (fun (_ : wpAny Tryz.prog Region.Mode.any #[] (fun _ _ _ => True) 1 #[] { tmps := #[], defers := [] } wr) => ⟨rfl, (by rw [HN.out]; rfl), (Below.drew KR.out).trans (hb4.mono hsr)⟩) ?_))
            all_goals trivial
          | some x =>
            have HQ : Hid (bodsR [] lines = bodsR (bs.set m (bs.getD m [] ++ [toI x])) (lines.drop (k + 1))) := by show _ = _; rw [HEq.out, HD.out]; simp only [bodsR]; rw [if_neg HBD.out, if_neg hbne, hrl]; show bodsR (pushI bs (toI x)) _ = _; rw [push_set _ hbne, HM.out]; rfl
            have HRL : Hid (readL line = some x) := hrl
            clear hrl
            go_wp2_with fail
            first | go_region_law (first
              | (refine step_place (by rfl) _ _ (by rfl) w5 (toI x) w.heap.size vl (bs.getD m []) (by rfl) (by have := P5; rw [HVL.out] at this; exact this) (by rfl) (by omega) (by omega) ?_; intro g6 cap6 w6 ho6 hk6 hg6 hb6; have q6 := ((World.ownsRow.cellAt (ownKeep O5 (fun k hk => hk6 k (World.ownsRow.lt O5 _ hk).2 (by rw [← HVL.out]; exact ownType O5 P5 (by decide) hk))) m (by have := HM.out; omega))); have f6 := World.ownsRow.frozenAt (ownKeep O5 (fun k hk => hk6 k (World.ownsRow.lt O5 _ hk).2 (by rw [← HVL.out]; exact ownType O5 P5 (by decide) hk))) m; rw [← World.ownsRow.cellAt H1.out m (by have := HM.out; omega), cG] at q6)
              | (refine stepC 64 #[.string ⟨line.toArray⟩] (by rfl) _ _ (by rfl) (by simp [go_sem]) entIns ?_; refine (readIns_any line hll wr.drew (ER.out _ (Below.drew KR.out))).mono ?_; rintro e w5 ⟨he, hb5⟩; rw [HRL.out] at he; have he' : e = .returned (.agg #[.int .i64 x.o, .int .i64 x.r, .int .i64 x.a, .int .i64 x.b, .int .i64 x.n]) := he; clear he; subst he'; have B5 : Below wr.heap.size wr w5 := (Below.drew (Below.refl _ _)).trans hb5; have hs5 : w.heap.size ≤ w5.heap.size := Nat.le_trans hsr B5.size; have O5 := ownKeep H1.out (w' := w5) (fun k hk => B5.block k (World.ownsRow.lt H1.out _ hk).2); have P5 := ownKeep HP.out (w' := w5) (fun k hk => B5.block k (World.ownsRow.lt HP.out _ hk).2); have c5 := (B5.cell (p := ⟨G, m, none⟩) hG1).trans cG; have l5 : G < w5.heap.size := Nat.lt_of_lt_of_le hG1 B5.size; refine ⟨_, rfl, ?_⟩)) | fail
            all_goals
              have hml : bs.length - 1 = m := by have := HM.out; omega
              have N6 : OwnB (w6.setCell ⟨G, bs.length - 1, none⟩ (.slice (some ⟨g6, 0, none⟩) ((bs.getD (bs.length - 1) []).length + 1) cap6)) w.heap.size (.slice (some ⟨G, 0, none⟩) bs.length cap) (bs.set (bs.length - 1) (bs.getD (bs.length - 1) [] ++ [toI x])) :=
                OwnB.push (w := w5) (w' := w6) (by have := HM.out; omega) O5 (fun i hi => ownKeep (H2.out i hi) (fun k hk => B5.block k (World.ownsRow.lt (H2.out i hi) _ hk).2)) H3.out (fun k _ hk hne => hk6 k hk (by rw [hml, HVL.out] at hne; exact hne)) (by rw [hml, HVL.out]; exact hg6) (by rw [hml]; exact ho6)
              rw [hml, HM.out] at N6
              have HN6 : Hid (OwnB (w6.setCell ⟨G, m, none⟩ (.slice (some ⟨g6, 0, none⟩) ((bs.getD m []).length + 1) cap6)) w.heap.size (.slice (some ⟨G, 0, none⟩) (m + 1) cap) (bs.set m (bs.getD m [] ++ [toI x]))) := N6
              have K6 : Hid (Below w.heap.size w (w6.setCell ⟨G, m, none⟩ (.slice (some ⟨g6, 0, none⟩) ((bs.getD m []).length + 1) cap6))) := ((KR.out.trans (B5.mono hsr)).trans hb6).setCell (p := ⟨G, m, none⟩) hG0 _
              clear N6 hb6 hk6 hg6 ho6 q6 f6 O5 P5 c5 B5 hb5 hml
              go_wp2
              go_roundw
              case rel =>
                refine ⟨k + 1, bs.set m (bs.getD m [] ++ [toI x]), by omega, by go_num, ?_, by simp; omega, ?_, HQ.out, K6.out⟩
                · have := HN6.out; exact this
                · intro b hb
                  rcases List.mem_or_eq_of_mem_set hb with h | h
                  · exact Nat.le_succ_of_le (HBB.out b h)
                  · rw [h, List.length_append]; exact Nat.succ_le_succ hil
              case measure => simp [intOf]; omega
    · go_wp2
      go_ret
      have e : lines.drop k = [] := List.drop_eq_nil_of_le (by omega)
      refine ⟨?_, KR.out⟩
      rw [HEq.out, e]
      exact ⟨_, rfl, OR.out, by omega, fun b hb => by have := HBB.out b hb; omega⟩

end Go.Proofs.YtajblippcnidiaaGreatDoor
