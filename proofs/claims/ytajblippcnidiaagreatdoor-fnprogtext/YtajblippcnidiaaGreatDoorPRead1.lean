/- The plain reading of a program's text, by the program's way and by the specification's: they are one. No program in this text. -/
import Derived.Test.YtajblippcnidiaaGreatDoorSRead4
import Derived.Test.YtajblippcnidiaaGreatDoorPTextL
import Derived.Test.YtajblippcnidiaaGreatDoorPRead3
namespace Go.Proofs.YtajblippcnidiaaGreatDoor
set_option linter.unusedSimpArgs false
set_option linter.unusedVariables false
set_option maxRecDepth 100000
open Go.RowKit

def bodyW : List UInt8 := [98, 111, 100, 121]
def toI (x : R5) : I5 := ⟨x.o, x.r, x.a, x.b, x.n⟩
def pushI (acc : List (List I5)) (x : I5) : List (List I5) := acc.dropLast ++ [acc.getLastD [] ++ [x]]
def bodsR : List (List I5) → List (List UInt8) → Option (List (List I5))
  | acc, [] => some acc
  | acc, line :: r => if line = bodyW then bodsR (acc ++ [[]]) r else if acc = [] then none else match readL line with
    | none => none
    | some x => bodsR (pushI acc (toI x)) r
def readPL (lines : List (List UInt8)) : Option PD :=
  match capsR (lines.headD []) with
  | none => none
  | some caps => match bodsR [] lines.tail with
    | none => none
    | some bods => if progB ⟨caps, bods⟩ = true then some ⟨caps, bods⟩ else none
def readP (l : List UInt8) : Option PD := if (splitA 10 [] l).length < 2 ∨ (splitA 10 [] l).getLastD [] ≠ [] then none else readPL (splitA 10 [] l).dropLast

theorem split_ends : ∀ (ls : List (List UInt8)) (acc : List UInt8), (∀ y ∈ ls, ∀ x ∈ y, x ≠ 10) → splitA 10 [] (endsL ls) = ls ++ [[]]
  | [], _, _ => rfl
  | y :: r, acc, h => by
    have e : endsL (y :: r) = y ++ (10 :: endsL r) := by simp [endsL]
    rw [e, splitA_skip 10 y _ [] (h y (by simp)), List.nil_append, splitA, if_pos rfl, split_ends r acc (fun z hz => h z (by simp [hz]))]
    rfl
theorem itoa_no10 (v : Int) : ∀ x ∈ Lib.itoa v, x ≠ 10 := by
  intro x hx
  unfold Lib.itoa at hx
  split at hx
  · rcases List.mem_cons.1 hx with hx | hx
    · subst hx; decide
    · have := dec_all _ x hx; rintro rfl; revert this; decide
  · have := dec_all _ x hx; rintro rfl; revert this; decide
theorem numText_no10 (vs : List Int) : ∀ x ∈ numText vs, x ≠ 10 := by
  intro x hx
  obtain ⟨v, -, hv⟩ := List.mem_flatMap.1 hx
  rcases List.mem_cons.1 hv with h | h
  · subst h; decide
  · exact itoa_no10 v x h
theorem word_no10 (q : Nat) : ∀ x ∈ wordL q, x ≠ 10 := by
  by_cases h : q < 14
  · have : ∀ i : Fin 14, ∀ x ∈ wordL i.val, x ≠ 10 := by decide
    exact this ⟨q, h⟩
  · unfold wordL
    rw [List.getD_eq_getElem?_getD, List.getElem?_eq_none (by simp [words14]; omega)]
    simp
theorem line_no10 (x : I5) : ∀ y ∈ lineX x, y ≠ 10 := by
  intro y hy
  unfold lineX textL at hy
  split at hy
  · rcases List.mem_append.1 hy with h | h
    · exact word_no10 _ y h
    · exact numText_no10 _ y h
  · simp at hy
theorem caps_no10 (l : List Int) : ∀ y ∈ capsL l, y ≠ 10 := by
  intro y hy
  rcases List.mem_append.1 hy with h | h
  · have : ∀ y ∈ ([99, 97, 112, 115] : List UInt8), y ≠ 10 := by decide
    exact this y h
  · exact numText_no10 _ y h
theorem lines_no10 (p : PD) : ∀ y ∈ capsL p.caps :: linesB p.bods, ∀ x ∈ y, x ≠ 10 := by
  intro y hy
  rcases List.mem_cons.1 hy with h | h
  · subst h; exact caps_no10 _
  · obtain ⟨b, -, hb⟩ := List.mem_flatMap.1 h
    rcases List.mem_cons.1 hb with h | h
    · subst h; decide
    · obtain ⟨z, -, rfl⟩ := List.mem_map.1 h
      exact line_no10 z

/- a right place is read from its line as it was, and its line is not the word 'body' -/
theorem line_read {x : I5} (h : Plain.insB x.o x.r x.a x.b x.n 24 3 = true) : ∃ y, readL (lineX x) = some y ∧ toI y = x := by
  obtain ⟨o, r, a, b, n⟩ := x
  have ho : 1 ≤ o ∧ o ≤ 13 := op_in h
  obtain ⟨q, hq⟩ : ∃ q : Nat, o = q := ⟨o.toNat, by omega⟩
  subst hq
  refine ⟨⟨q, r, a, b, n⟩, ?_, rfl⟩
  show readL (textL q r a b n) = _
  unfold textL
  rw [if_pos h]
  simpa using read_of_text h
theorem body_none : readL bodyW = none := by
  unfold readL readW
  have : opL ((splitA 32 [] bodyW).headD []) = 0 := by decide
  rw [if_pos this]
theorem line_not_body {x : I5} (h : Plain.insB x.o x.r x.a x.b x.n 24 3 = true) : lineX x ≠ bodyW := by
  intro e
  obtain ⟨y, hy, -⟩ := line_read h
  rw [e, body_none] at hy
  cases hy
theorem push_last2 (acc : List (List I5)) (b : List I5) (x : I5) : pushI (acc ++ [b]) x = acc ++ [b ++ [x]] := by simp [pushI]
theorem bods_ins (b : List I5) (h : ∀ x ∈ b, Plain.insB x.o x.r x.a x.b x.n 24 3 = true) : ∀ (acc : List (List I5)) (b0 : List I5) (r : List (List UInt8)), bodsR (acc ++ [b0]) (b.map lineX ++ r) = bodsR (acc ++ [b0 ++ b]) r := by
  induction b with
  | nil => intro acc b0 r; simp
  | cons x b ih =>
    intro acc b0 r
    have hx := h x (by simp)
    obtain ⟨y, hy, ey⟩ := line_read hx
    rw [List.map_cons, List.cons_append, bodsR, if_neg (line_not_body hx), if_neg (by simp), hy]
    show bodsR (pushI (acc ++ [b0]) (toI y)) _ = _
    rw [ey, push_last2, ih (fun z hz => h z (by simp [hz])) acc (b0 ++ [x]) r]
    simp
theorem bods_lines (bs : List (List I5)) (h : ∀ b ∈ bs, ∀ x ∈ b, Plain.insB x.o x.r x.a x.b x.n 24 3 = true) : ∀ acc : List (List I5), bodsR acc (linesB bs) = some (acc ++ bs) := by
  induction bs with
  | nil => intro acc; simp [linesB, bodsR]
  | cons b bs ih =>
    intro acc
    have e : linesB (b :: bs) = bodyW :: (b.map lineX ++ linesB bs) := by simp [linesB, bodyW]
    rw [e, bodsR, if_pos rfl, bods_ins b (h b (by simp)) acc [] (linesB bs), List.nil_append, ih (fun c hc => h c (by simp [hc]))]
    simp
theorem caps_read {l : List Int} (h : ∀ v ∈ l, -1000000000 ≤ v ∧ v ≤ 1000000000) : capsR (capsL l) = some l := by
  unfold capsR
  have e : splitA 32 [] (capsL l) = capsW :: l.map Lib.itoa := by
    show splitA 32 [] (capsW ++ numText l) = _
    rw [splitA_skip 32 _ _ _ (by decide), List.nil_append, numText_tail]
    exact split_join _ _ (fun y hy => by obtain ⟨v, -, rfl⟩ := List.mem_map.1 hy; exact itoa_no32 v)
  rw [e, if_neg (by simp)]
  exact (nums_back h).1
theorem ins_up {o r a b n pl ch : Int} (h : Plain.insB o r a b n pl ch = true) (hp : pl ≤ 24) (hc : ch ≤ 3) : Plain.insB o r a b n 24 3 = true := by
  obtain ⟨a1, a2, a3, a4, a5, a6, a7, a8, d⟩ := of_decide_eq_true h
  refine decide_eq_true ⟨a1, a2, a3, a4, a5, a6, by omega, by omega, ?_⟩
  rcases d with d | d | d | d | d | d | d | d | d | d
  · exact .inl d
  · exact .inr (.inl d)
  · exact .inr (.inr (.inl ⟨d.1, d.2.1, by have := d.2.2.1; omega, d.2.2.2⟩))
  · exact .inr (.inr (.inr (.inl ⟨d.1, d.2.1, by have := d.2.2.1; omega, d.2.2.2⟩)))
  · exact .inr (.inr (.inr (.inr (.inl ⟨d.1, d.2.1, by have := d.2.2.1; omega, d.2.2.2⟩))))
  · exact .inr (.inr (.inr (.inr (.inr (.inl ⟨d.1, d.2.1, by have := d.2.2.1; omega, d.2.2.2⟩)))))
  · exact .inr (.inr (.inr (.inr (.inr (.inr (.inl d))))))
  · exact .inr (.inr (.inr (.inr (.inr (.inr (.inr (.inl ⟨d.1, d.2.1, by have := d.2.2.1; omega, d.2.2.2⟩)))))))
  · exact .inr (.inr (.inr (.inr (.inr (.inr (.inr (.inr (.inl ⟨d.1, d.2.1, by have := d.2.2.1; omega, d.2.2.2⟩))))))))
  · exact .inr (.inr (.inr (.inr (.inr (.inr (.inr (.inr (.inr d))))))))
theorem prog_ins {p : PD} (h : progB p = true) : ∀ b ∈ p.bods, ∀ x ∈ b, Plain.insB x.o x.r x.a x.b x.n 24 3 = true := by
  obtain ⟨n1, -, -, -, n5⟩ := prog_parts h
  unfold progB at h
  rw [Bool.and_eq_true, Bool.and_eq_true, Bool.and_eq_true] at h
  have e2 := of_decide_eq_true h.2.1
  intro b hb x hx
  obtain ⟨i, hi, rfl⟩ := List.getElem_of_mem hb
  have h5 := n5 i hi
  have h2 := e2 i hi
  have eg : p.bods.getD i [] = p.bods[i] := by rw [List.getD_eq_getElem?_getD, List.getElem?_eq_getElem hi]; rfl
  rw [eg] at h2 h5
  unfold bodyB at h2
  rw [Bool.and_eq_true] at h2
  have h3 := of_decide_eq_true h2.1
  obtain ⟨j, hj, rfl⟩ := List.getElem_of_mem hx
  have h4 := h3 j hj
  have ej : (p.bods[i]).getD j z5 = (p.bods[i])[j] := by rw [List.getD_eq_getElem?_getD, List.getElem?_eq_getElem hj]; rfl
  rw [ej] at h4
  exact ins_up h4 (by omega) (by omega)
theorem readP_text {p : PD} (h : progB p = true) : readP (progT p) = some p := by
  obtain ⟨n1, n2, n3, n4, n5⟩ := prog_parts h
  have e := prog_lines h
  unfold readP
  rw [← e, split_ends _ [] (lines_no10 p)]
  have hlen : ¬ (((capsL p.caps :: linesB p.bods) ++ [[]]).length < 2 ∨ ((capsL p.caps :: linesB p.bods) ++ [[]]).getLastD [] ≠ []) := by
    generalize linesB p.bods = X
    rintro (h | h)
    · simp at h; omega
    · exact h (by rw [List.getLastD_eq_getLast?, List.getLast?_concat]; rfl)
  rw [if_neg hlen, List.dropLast_concat]
  unfold readPL
  show (match capsR (capsL p.caps) with | none => none | some caps => _) = _
  rw [caps_read n2]
  show (match bodsR [] (linesB p.bods) with | none => none | some bods => _) = _
  rw [bods_lines p.bods (prog_ins h) [], List.nil_append]
  exact if_pos h


/- the specification's way -/
def specLine (p : PD) (line : List UInt8) : Option PD :=
  if (splitA 32 [] line).headD [] = capsW then ((splitA 32 [] line).tail.take 8).mapM numS |>.map fun vs => ⟨p.caps ++ vs, p.bods⟩
  else if line = bodyW then (if p.bods.length + 1 ≤ 4 then some ⟨p.caps, p.bods ++ [[]]⟩ else none)
  else if p.bods = [] then none else (readL line).map fun x => ⟨p.caps, pushI p.bods (toI x)⟩
def specF : PD → List (List UInt8) → Option PD
  | p, [] => some p
  | p, line :: r => match specLine p line with
    | none => none
    | some q => specF q r
def specP (l : List UInt8) : Option PD :=
  match specF ⟨[], []⟩ (splitA 10 [] l).dropLast with
  | none => none
  | some p => if l = [] ∨ progT p ≠ l then none else some p

theorem line_head {x : I5} (h : Plain.insB x.o x.r x.a x.b x.n 24 3 = true) : (splitA 32 [] (lineX x)).headD [] ≠ capsW := by
  have ho := op_in h
  show (splitA 32 [] (textL _ _ _ _ _)).headD [] ≠ capsW
  unfold textL
  rw [if_pos h, split_text]
  show wordL x.o.toNat ≠ capsW
  have : ∀ i : Fin 14, wordL i.val ≠ capsW := by decide
  exact this ⟨x.o.toNat, by omega⟩
theorem specF_ins (b : List I5) (h : ∀ x ∈ b, Plain.insB x.o x.r x.a x.b x.n 24 3 = true) : ∀ (cs : List Int) (acc : List (List I5)) (b0 : List I5) (r : List (List UInt8)), specF ⟨cs, acc ++ [b0]⟩ (b.map lineX ++ r) = specF ⟨cs, acc ++ [b0 ++ b]⟩ r := by
  induction b with
  | nil => intro cs acc b0 r; simp
  | cons x b ih =>
    intro cs acc b0 r
    have hx := h x (by simp)
    obtain ⟨y, hy, ey⟩ := line_read hx
    have e : specLine ⟨cs, acc ++ [b0]⟩ (lineX x) = some ⟨cs, acc ++ [b0 ++ [x]]⟩ := by
      unfold specLine
      rw [if_neg (line_head hx), if_neg (line_not_body hx), if_neg (by simp), hy]
      show some (PD.mk cs (pushI (acc ++ [b0]) (toI y))) = _
      rw [ey, push_last2]
    rw [List.map_cons, List.cons_append, specF, e]
    show specF _ _ = _
    rw [ih (fun z hz => h z (by simp [hz])) cs acc (b0 ++ [x]) r]
    simp
theorem specF_bods (bs : List (List I5)) (h : ∀ b ∈ bs, ∀ x ∈ b, Plain.insB x.o x.r x.a x.b x.n 24 3 = true) : ∀ (cs : List Int) (acc : List (List I5)), acc.length + bs.length ≤ 4 → specF ⟨cs, acc⟩ (linesB bs) = some ⟨cs, acc ++ bs⟩ := by
  induction bs with
  | nil => intro cs acc _; simp [linesB, specF]
  | cons b bs ih =>
    intro cs acc hl
    simp at hl
    have e : linesB (b :: bs) = bodyW :: (b.map lineX ++ linesB bs) := by simp [linesB, bodyW]
    have e1 : specLine ⟨cs, acc⟩ bodyW = some ⟨cs, acc ++ [[]]⟩ := by
      unfold specLine
      rw [if_neg (by decide), if_pos rfl]
      show (if acc.length + 1 ≤ 4 then _ else _) = _
      rw [if_pos (by omega)]
    rw [e, specF, e1]
    show specF _ _ = _
    rw [specF_ins b (h b (by simp)) cs acc [] (linesB bs), List.nil_append, ih (fun c hc => h c (by simp [hc])) cs (acc ++ [b]) (by simp; omega)]
    simp
theorem specF_text {p : PD} (h : progB p = true) : specF ⟨[], []⟩ (capsL p.caps :: linesB p.bods) = some p := by
  obtain ⟨n1, n2, n3, n4, n5⟩ := prog_parts h
  have es : splitA 32 [] (capsL p.caps) = capsW :: p.caps.map Lib.itoa := by
    show splitA 32 [] (capsW ++ numText p.caps) = _
    rw [splitA_skip 32 _ _ _ (by decide), List.nil_append, numText_tail]
    exact split_join _ _ (fun y hy => by obtain ⟨v, -, rfl⟩ := List.mem_map.1 hy; exact itoa_no32 v)
  have e : specLine ⟨[], []⟩ (capsL p.caps) = some ⟨p.caps, []⟩ := by
    unfold specLine
    rw [es, if_pos rfl]
    show (((p.caps.map Lib.itoa).take 8).mapM numS).map _ = _
    rw [List.take_of_length_le (by simp; omega), (nums_back n2).2]
    rfl
  rw [specF, e]
  show specF _ _ = _
  rw [specF_bods p.bods (prog_ins h) p.caps [] (by simp; omega)]
  rfl


theorem ends_split : ∀ (l acc : List UInt8), endsL (splitA 10 acc l).dropLast ++ (splitA 10 acc l).getLastD [] = acc ++ l
  | [], acc => by simp [splitA, endsL]
  | c :: r, acc => by
    by_cases h : c = 10
    · subst h
      rw [splitA, if_pos rfl]
      have ih := ends_split r []
      cases hs : splitA 10 [] r with
      | nil => have := (splitA_len 10 r []).1; rw [hs] at this; simp at this
      | cons a t =>
        rw [hs] at ih
        have e1 : (acc :: a :: t).dropLast = acc :: (a :: t).dropLast := rfl
        have e2 : (acc :: a :: t).getLastD [] = (a :: t).getLastD [] := by simp [List.getLastD_eq_getLast?]
        rw [e1, e2]
        have e3 : endsL (acc :: (a :: t).dropLast) = acc ++ (10 :: endsL (a :: t).dropLast) := by simp [endsL]
        rw [e3, List.append_assoc, List.cons_append, ih]
        simp
    · rw [splitA, if_neg h, ends_split r (acc ++ [c])]
      simp
theorem read_line {l : List UInt8} {x : R5} (h : readL l = some x) : l = lineX (toI x) := by
  have h2 := spec_of_read h
  unfold specW at h2
  split at h2
  · cases h2
  · rename_i vs hvs
    by_cases hc : l = [] ∨ textR (putX (opL ((splitA 32 [] l).headD [])) (vs.getD 0 0) (vs.getD 1 0) (vs.getD 2 0)) ≠ l
    · rw [if_pos hc] at h2; cases h2
    · rw [if_neg hc] at h2
      injection h2 with h2
      have ht : textR x = l := by rw [← h2]; exact Classical.byContradiction fun e => hc (.inr e)
      exact ht.symm
theorem caps_inv {line : List UInt8} {caps : List Int} (h : capsR line = some caps) : line = capsL caps := by
  unfold capsR at h
  have hj := join_split line []
  generalize splitA 32 [] line = ws at h hj
  by_cases hc : ws.headD [] ≠ capsW
  · rw [if_pos hc] at h; cases h
  · rw [if_neg hc] at h
    have e := nums_itoa h
    have hc' : ws.headD [] = capsW := Classical.byContradiction hc
    rw [List.nil_append] at hj
    rw [← hj]
    cases ws with
    | nil => simp [capsW] at hc'
    | cons a t =>
      have ea : a = capsW := hc'
      have et : t = caps.map Lib.itoa := e
      show a ++ tailW t = capsW ++ numText caps
      rw [ea, numText_tail, ← et]
theorem linesB_snoc (acc : List (List I5)) (b : List I5) : linesB (acc ++ [b]) = linesB acc ++ (bodyW :: b.map lineX) := by simp [linesB, bodyW]
theorem linesB_push {acc : List (List I5)} (h : acc ≠ []) (x : I5) : linesB (pushI acc x) = linesB acc ++ [lineX x] := by
  obtain ⟨a, b, rfl⟩ : ∃ a b, acc = a ++ [b] := ⟨acc.dropLast, acc.getLast h, (List.dropLast_concat_getLast h).symm⟩
  rw [push_last2, linesB_snoc, linesB_snoc]
  simp
theorem bods_inv : ∀ (lines : List (List UInt8)) (acc bs : List (List I5)), bodsR acc lines = some bs → linesB acc ++ lines = linesB bs
  | [], acc, bs, h => by simp [bodsR] at h; subst h; simp
  | line :: r, acc, bs, h => by
    rw [bodsR] at h
    by_cases h1 : line = bodyW
    · rw [if_pos h1] at h
      have := bods_inv r _ bs h
      rw [linesB_snoc] at this
      rw [← this, h1]
      simp
    · rw [if_neg h1] at h
      by_cases h2 : acc = []
      · rw [if_pos h2] at h; cases h
      · rw [if_neg h2] at h
        cases hr : readL line with
        | none => rw [hr] at h; cases h
        | some x =>
          rw [hr] at h
          have := bods_inv r _ bs h
          rw [linesB_push h2, ← read_line hr] at this
          rw [← this]
          simp
theorem readP_inv {l : List UInt8} {p : PD} (h : readP l = some p) : l = progT p ∧ progB p = true := by
  have hj := ends_split l []
  unfold readP at h
  by_cases hc : (splitA 10 [] l).length < 2 ∨ (splitA 10 [] l).getLastD [] ≠ []
  · rw [if_pos hc] at h; cases h
  · rw [if_neg hc] at h
    have hlast : (splitA 10 [] l).getLastD [] = [] := Classical.byContradiction fun e => hc (.inr e)
    have hlen : ¬ (splitA 10 [] l).length < 2 := fun e => hc (.inl e)
    have hdl : (splitA 10 [] l).dropLast.length = (splitA 10 [] l).length - 1 := by simp
    rw [hlast, List.append_nil, List.nil_append] at hj
    generalize (splitA 10 [] l).dropLast = lines at h hj hdl
    unfold readPL at h
    cases h1 : capsR (lines.headD []) with
    | none => rw [h1] at h; cases h
    | some caps =>
      rw [h1] at h
      cases h2 : bodsR [] lines.tail with
      | none => simp only [h2] at h; cases h
      | some bods =>
        simp only [h2] at h
        by_cases hb : progB ⟨caps, bods⟩ = true
        · rw [if_pos hb] at h
          injection h with h
          subst h
          refine ⟨?_, hb⟩
          have e1 := caps_inv h1
          have e2 := bods_inv _ _ _ h2
          rw [← prog_lines hb, ← hj]
          cases lines with
          | nil => simp at hdl; omega
          | cons a t =>
            have ea : a = capsL caps := e1
            have et : t = linesB bods := by simpa [linesB] using e2
            rw [ea, et]
        · rw [if_neg hb] at h; cases h
theorem specP_eq (l : List UInt8) : specP l = readP l := by
  cases h : readP l with
  | some p =>
    obtain ⟨e, hb⟩ := readP_inv h
    have hne : progT p ≠ [] := by
      rw [← prog_lines hb]
      simp [endsL, capsL]
    unfold specP
    have es : splitA 10 [] l = (capsL p.caps :: linesB p.bods) ++ [[]] := by rw [e, ← prog_lines hb]; exact split_ends _ [] (lines_no10 p)
    rw [es, List.dropLast_concat, specF_text hb]
    show (if l = [] ∨ progT p ≠ l then none else some p) = some p
    rw [if_neg]
    rintro (h1 | h1)
    · exact hne (by rw [← e]; exact h1)
    · exact h1 e.symm
  | none =>
    cases h2 : specP l with
    | none => rfl
    | some p =>
      unfold specP at h2
      split at h2
      · cases h2
      · rename_i q hq
        by_cases hc : l = [] ∨ progT q ≠ l
        · rw [if_pos hc] at h2; cases h2
        · rw [if_neg hc] at h2
          have hl : l ≠ [] := fun e => hc (.inl e)
          have ht : progT q = l := Classical.byContradiction fun e => hc (.inr e)
          have hb : progB q = true := by
            cases hb : progB q with
            | true => rfl
            | false =>
              have : progT q = [] := by unfold progT; rw [hb]; rfl
              rw [this] at ht
              exact absurd ht.symm hl
          rw [← ht, readP_text hb] at h
          cases h

end Go.Proofs.YtajblippcnidiaaGreatDoor
