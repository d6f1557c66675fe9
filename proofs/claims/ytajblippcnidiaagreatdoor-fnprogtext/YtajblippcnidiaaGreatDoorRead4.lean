/- readIns of the program, at every line of at most 2^20 bytes. Condition: the tables hold what their initialisers lay (Env). -/
import Derived.Test.YtajblippcnidiaaGreatDoorRead3
import Derived.Deep.RegionWith
namespace Go.Proofs.YtajblippcnidiaaGreatDoor
set_option linter.unusedSimpArgs false
set_option linter.unusedVariables false
set_option maxRecDepth 100000
open Go.RowKit

def insPost (x : Option R5) (e : Ending) : Prop :=
  match x with
  | some x => e = .returned (.agg #[.int .i64 x.o, .int .i64 x.r, .int .i64 x.a, .int .i64 x.b, .int .i64 x.n])
  | none => e = .panicked [{ v := noT, recovered := false }]

theorem cell_of_block {w : World} {b i : Nat} {cs : Array Value} {t : TypeId} {fr : Nat × Nat} (h : w.heap[b]? = some (.cells cs t fr)) : w.cell? ⟨b, i, none⟩ = cs[i]? := by simp [World.cell?, h]
theorem set_block {w : World} {b i : Nat} {cs : Array Value} {t : TypeId} {fr : Nat × Nat} (v : Value) (h : w.heap[b]? = some (.cells cs t fr)) : (w.setCell ⟨b, i, none⟩ v).heap[b]? = some (.cells (cs.setIfInBounds i v) t fr) := by
  simp [World.setCell, Array.getElem?_modify, h]
def box5 (o r a b n : Int) : Obj := .cells #[.int .i64 o, .int .i64 r, .int .i64 a, .int .i64 b, .int .i64 n] 42
theorem box5_cells {w : World} {X : Nat} {o r a b n : Int} (h : w.heap[X]? = some (box5 o r a b n)) :
    w.cell? ⟨X, 0, none⟩ = some (.int .i64 o) ∧ w.cell? ⟨X, 1, none⟩ = some (.int .i64 r) ∧ w.cell? ⟨X, 2, none⟩ = some (.int .i64 a) ∧ w.cell? ⟨X, 3, none⟩ = some (.int .i64 b) ∧ w.cell? ⟨X, 4, none⟩ = some (.int .i64 n) := by
  refine ⟨?_, ?_, ?_, ?_, ?_⟩ <;> (rw [cell_of_block h]; rfl)
theorem box5_frozen {w : World} {X : Nat} {o r a b n : Int} (h : w.heap[X]? = some (box5 o r a b n)) (i : Nat) : w.frozen? ⟨X, i, none⟩ = false := by
  simp [World.frozen?, h, box5]
theorem box5_set {w : World} {X : Nat} {o r a b n : Int} (c : UInt8) (v : Int) (h : w.heap[X]? = some (box5 o r a b n)) :
    (w.setCell ⟨X, idxL c, none⟩ (.int .i64 v)).heap[X]? = some (box5 o (if c = 82 then v else r) (if c = 82 then a else if c = 65 then v else a) (if c = 82 then b else if c = 65 then b else if c = 66 then v else b) (if c = 82 then n else if c = 65 then n else if c = 66 then n else v)) := by
  rw [set_block _ h]
  unfold idxL
  by_cases h1 : c = 82
  · simp [h1, box5]
  · by_cases h2 : c = 65
    · simp [h2, box5]
    · by_cases h3 : c = 66
      · simp [h3, box5]
      · simp [h1, h2, h3, box5]

theorem store5 {w : World} {X : Nat} (h : w.heap[X]? = some (box5 0 0 0 0 0)) (o r a b n : Int) : (((((w.setCell ⟨X, 0, none⟩ (.int .i64 o)).setCell ⟨X, 1, none⟩ (.int .i64 r)).setCell ⟨X, 2, none⟩ (.int .i64 a)).setCell ⟨X, 3, none⟩ (.int .i64 b)).setCell ⟨X, 4, none⟩ (.int .i64 n)).heap[X]? = some (box5 o r a b n) := by
  rw [set_block _ (set_block _ (set_block _ (set_block _ (set_block _ h))))]
  rfl
theorem words_ne (l : List UInt8) : splitA 32 [] l ≠ [] := by
  have := (splitA_len 32 l []).1
  intro h
  rw [h] at this
  simp at this
theorem head_getD {ls : List (List UInt8)} (h : ls ≠ []) : ls.getD 0 [] = ls.headD [] := by
  cases ls with
  | nil => exact absurd rfl h
  | cons a r => rfl
theorem split_word_le (m : UInt8) : ∀ (l acc : List UInt8), ∀ x ∈ splitA m acc l, x.length ≤ acc.length + l.length
  | [], acc, x, h => by simp [splitA] at h; subst h; simp
  | c :: r, acc, x, h => by
    by_cases hc : c = m
    · rw [splitA, if_pos hc] at h
      rcases List.mem_cons.1 h with h | h
      · subst h; simp
      · have := split_word_le m r [] x h
        simp at this ⊢; omega
    · rw [splitA, if_neg hc] at h
      have := split_word_le m r (acc ++ [c]) x h
      simp at this ⊢; omega

theorem wrap_id {x : Int} (h0 : -9223372036854775808 ≤ x) (h1 : x ≤ 9223372036854775807) : wrap64 x = x := by unfold wrap64; omega
theorem idx_facts {k n m : Nat} (h : k < n) (hn : n ≤ 3) (hm : m = 1 + n) : (0 : Int) ≤ 1 + (k : Int) ∧ 1 + (k : Int) < (m : Int) ∧ IntKind.i64.wrap (1 + (k : Int)) = 1 + (k : Int) ∧ (1 + (k : Int)).toNat = k + 1 := by
  refine ⟨by omega, by omega, ?_, by omega⟩
  rw [IntKind.wrap_i64]
  omega
theorem idx_run (g n cap k : Nat) (h : k + 1 < n) (w : World) : (Instr.indexAt 39 (.slice (some ⟨g, 0, none⟩) n cap) (.int .i64 (1 + (k : Int)))).run Tryz.prog w = .ok (.pointer (some ⟨g, k + 1, none⟩)) w := by
  have j0 : (0 : Int) ≤ 1 + (k : Int) ∧ 1 + (k : Int) < (n : Int) := by omega
  have j3 : (1 + (k : Int)).toNat = k + 1 := by omega
  simp [go_sem]
  rw [if_pos j0, j3]
theorem idx_nat {k n m : Nat} (h : k < n) (hm : m = 1 + n) : k + 1 < m := by omega
theorem tail_take_len {ws : List (List UInt8)} {k n : Nat} (h : ws.length = 1 + n) (hk : k ≤ n) : (ws.tail.take k).length = k := by simp; omega
theorem tail_all {ws : List (List UInt8)} {k n : Nat} (h : ws.length = 1 + n) (hk : n ≤ k) : ws.tail.take k = ws.tail := List.take_of_length_le (by simp; omega)
theorem nums_snoc {xs : List (List UInt8)} {x : List UInt8} {vs : List Int} {v : Int} (h : numsO xs = some vs) (hx : numI x = some v) : numsO (xs ++ [x]) = some (vs ++ [v]) := by
  unfold numsO at h ⊢
  rw [List.mapM_append, h]
  simp [hx]
theorem nums_fail {xs ys : List (List UInt8)} {x : List UInt8} {vs : List Int} (h : numsO xs = some vs) (hx : numI x = none) : numsO (xs ++ x :: ys) = none := by
  unfold numsO at h ⊢
  rw [List.mapM_append, h]
  simp [hx]
theorem nums_len {xs : List (List UInt8)} {vs : List Int} (h : numsO xs = some vs) : vs.length = xs.length := by
  unfold numsO at h
  exact Lib.mapM_length h
theorem tail_split {ws : List (List UInt8)} {k : Nat} (h : k + 1 < ws.length) : ws.tail = ws.tail.take k ++ ws.getD (k + 1) [] :: ws.tail.drop (k + 1) ∧ ws.tail.take (k + 1) = ws.tail.take k ++ [ws.getD (k + 1) []] := by
  cases ws with
  | nil => simp at h
  | cons a r =>
    have hk : k < r.length := by simpa using h
    have e : (a :: r).getD (k + 1) [] = r[k] := by simp [hk]
    rw [e]
    simp only [List.tail_cons]
    constructor
    · rw [← List.drop_eq_getElem_cons hk, List.take_append_drop]
    · rw [List.take_add_one, List.getElem?_eq_getElem hk]; rfl
theorem lets_take {q k : Nat} (h : k < (letL q).length) : (letL q).take (k + 1) = (letL q).take k ++ [(letL q)[k]] ∧ (letL q)[k] ∉ (letL q).take k := by
  constructor
  · rw [List.take_add_one, List.getElem?_eq_getElem h]; rfl
  · intro hm
    obtain ⟨i, hi, he⟩ := List.getElem_of_mem hm
    have hi' : i < k := by simp at hi; omega
    rw [List.getElem_take] at he
    exact (List.pairwise_iff_getElem.1 (lets_nodup q)) i k (by omega) h hi' he
theorem box5_next {q k : Nat} {vs : List Int} {v : Int} {c : UInt8} (hk : k < (letL q).length) (hc : (letL q)[k] = c) (hv : vs.length = k) :
    box5 q (if c = 82 then v else getF ((letL q).take k) vs 82) (if c = 82 then getF ((letL q).take k) vs 65 else if c = 65 then v else getF ((letL q).take k) vs 65) (if c = 82 then getF ((letL q).take k) vs 66 else if c = 65 then getF ((letL q).take k) vs 66 else if c = 66 then v else getF ((letL q).take k) vs 66) (if c = 82 then getF ((letL q).take k) vs 78 else if c = 65 then getF ((letL q).take k) vs 78 else if c = 66 then getF ((letL q).take k) vs 78 else v) =
    box5 q (getF ((letL q).take (k + 1)) (vs ++ [v]) 82) (getF ((letL q).take (k + 1)) (vs ++ [v]) 65) (getF ((letL q).take (k + 1)) (vs ++ [v]) 66) (getF ((letL q).take (k + 1)) (vs ++ [v]) 78) := by
  obtain ⟨h1, h2⟩ := lets_take hk
  rw [hc] at h1 h2
  have hl : ((letL q).take k).length = vs.length := by simp; omega
  have h4 := lets_four q c (by rw [← hc]; exact List.getElem_mem hk)
  rw [h1, getF_snoc _ _ _ _ _ hl h2, getF_snoc _ _ _ _ _ hl h2, getF_snoc _ _ _ _ _ hl h2, getF_snoc _ _ _ _ _ hl h2]
  rcases h4 with rfl | rfl | rfl | rfl <;> simp

set_option maxHeartbeats 4000000 in
theorem readIns_any (l : List UInt8) (hl : l.length ≤ 1099511627775) (w : World) (hE : Env w w.heap.size) : Calls Tryz.prog 64 #[.string ⟨l.toArray⟩] w fun e w' => insPost (readL l) e ∧ Below w.heap.size w w' := by
  have HE : Hid (Env w w.heap.size) := hE
  have HRL : Hid (readL l = readW (splitA 32 [] l)) := rfl
  have hne := words_ne l
  have hln := (splitA_len 32 l []).2
  have HW : Hid (∀ x ∈ splitA 32 [] l, x.length ≤ 1099511627775) := fun x hx => by have := split_word_le 32 l [] x hx; simp at this; omega
  have KA : Hid (Below w.heap.size w (w.alloc (box5 0 0 0 0 0))) := (Below.refl _ _).alloc (Nat.le_refl _) _
  clear hE
  go_enter Tryz.func64, Tryz.ntmps64
  go_wp2_with fail
  refine (cut_any l 32 (by decide) hl _).mono ?_
  rintro e w1 ⟨g, cap, rfl, ho1, hb1, hs1⟩
  generalize splitA 32 [] l = ws at HRL hne hln ho1 HW
  have O1 : Hid (OwnT w1 _ (.slice (some ⟨g, 0, none⟩) ws.length cap) ws) := ho1
  have K1 : Hid (Below w.heap.size w w1) := KA.out.trans (hb1.mono (by simp))
  have RV : Hid (w1.heap[w.heap.size]? = some (box5 0 0 0 0 0)) := by
    show _ = _
    rw [hb1.block _ (by simp)]
    show (w.heap.push (box5 0 0 0 0 0))[w.heap.size]? = _
    simp
  have z1 : w.heap.size < w1.heap.size := by simp at hs1; omega
  have hg1 : g < w1.heap.size := by
    obtain ⟨g', cap', hv, -, hlt⟩ := ho1.form (by cases ws with | nil => exact absurd rfl hne | cons a r => simp)
    cases hv; exact hlt
  have c0 := ho1.cell (i := 0) (by cases ws with | nil => exact absurd rfl hne | cons a r => simp)
  rw [head_getD hne] at c0
  obtain ⟨w0, hw0⟩ : ∃ w0, ws.headD [] = w0 := ⟨_, rfl⟩
  rw [hw0] at c0
  have HW0 : Hid (ws.headD [] = w0) := hw0
  clear hw0
  have hwl : 0 < ws.length := by cases ws with | nil => exact absurd rfl hne | cons a r => simp
  have i0 : (0 : Int) < (ws.length : Int) := by omega
  clear ho1 hb1 hs1 hne
  have E1 : Hid (Env w1 w1.heap.size) := (HE.out.keep K1.out).mono (by omega)
  cases ho : opO w0 with
  | none =>
    have HN : Hid (readL l = none) := by
      show _ = _
      have h0 : opL w0 = 0 := by unfold opO at ho; split at ho; assumption; cases ho
      rw [HRL.out, readW, HW0.out, if_pos h0]
    have HO : Hid (opO w0 = none) := ho
    clear ho
    go_wp2_with (go_at_call 77; refine (readOp_any _ _ E1.out).mono ?_; rintro e w2 ⟨he, hb2⟩; rw [HO.out] at he; have he' : e = .panicked [{ v := noT, recovered := false }] := he; clear he; subst he'; have K2 : Hid (Below w1.heap.size w1 w2) := hb2; clear hb2)
    refine ⟨rfl, ?_, K1.out.trans (K2.out.mono (by omega))⟩
    rw [HN.out]
    rfl
  | some o =>
    have h0 : opL w0 ≠ 0 := by unfold opO at ho; split at ho; cases ho; assumption
    have hq := op_lt w0
    have ho' : o = (opL w0 : Int) := by unfold opO at ho; rw [if_neg h0] at ho; injection ho with ho; exact ho.symm
    have HO : Hid (opO w0 = some (opL w0 : Int)) := by show _ = _; rw [ho, ho']
    clear ho
    subst ho'
    have HR1 : Hid (readL l = if ws.length ≠ 1 + (letL (opL w0)).length then none else readT (opL w0) ws) := by
      show _ = _
      rw [HRL.out, readW, HW0.out, if_neg h0]
    generalize opL w0 = q at h0 hq HO HR1
    have hq0 : (0 : Int) ≤ (q : Int) := by omega
    have hq1 : (q : Int) < 14 := by omega
    have hlq := lets_le q
    by_cases hlen : ws.length = 1 + (letL q).length
    · have HR2 : Hid (readL l = readT q ws) := by show _ = _; rw [HR1.out, if_neg (by simpa using hlen)]
      clear HR1
      have hl2 : ((ws.length : Int) != 1 + ((letL q).length : Int)) = false := by simp; omega
      have HLEN : Hid (ws.length = 1 + (letL q).length) := hlen
      clear hlen
      go_wp2_with (go_at_call 77; refine (readOp_any _ _ E1.out).mono ?_; rintro e w2 ⟨he, hb2⟩; rw [HO.out] at he; have he' : e = .returned (.int .i64 (q : Int)) := he; clear he; subst he'; have K2 : Hid (Below w1.heap.size w1 w2) := hb2; have z2 : w1.heap.size ≤ w2.heap.size := hb2.size; have E2 : Hid (Env w2 w1.heap.size) := E1.out.keep hb2; have f1 := (E2.out.forms q hq).2; have lo := Nat.lt_of_lt_of_le E2.out.lo1 z2; clear hb2)
      clear f1 hl2
      go_loopw [6] (fun _ wr => ∃ (k : Nat) (vs : List Int), k ≤ (letL q).length ∧ Hid (numsO (ws.tail.take k) = some vs) ∧ wr.heap[w2.heap.size]? = some (box5 q (getF ((letL q).take k) vs 82) (getF ((letL q).take k) vs 65) (getF ((letL q).take k) vs 66) (getF ((letL q).take k) vs 78)) ∧ wr.heap[w2.heap.size + 1]? = some (.stringIter ⟨(letL q).toArray⟩ k) ∧ Below w2.heap.size w2 wr) (fun _ wr => (letL q).length - wr.iterPos (w2.heap.size + 1))
      case atStart =>
        refine ⟨0, [], Nat.zero_le _, rfl, ?_, ?_, ((Below.refl _ w2).alloc (Nat.le_refl _) _).alloc (by simp) _⟩
        · show ((w2.heap.push (box5 q 0 0 0 0)).push _)[w2.heap.size]? = _
          rw [Array.getElem?_push_lt (by simp)]
          simp [getF]
        · have := World.iter_heap (w2.alloc (box5 q 0 0 0 0)) ⟨(letL q).toArray⟩ 0
          simp only [box5] at this
          simpa using this
      case round =>
        obtain ⟨k, vs, hk, HV, hxb, hit, hbr⟩ := hrel
        have KR : Hid (Below w2.heap.size w2 wr) := hbr
        have hKs : w2.heap.size + 1 < wr.heap.size := (Array.getElem?_eq_some_iff.1 hit).1
        have hvl := nums_len HV.out
        have hvk : vs.length = k := by rw [hvl]; exact tail_take_len HLEN.out hk
        clear hbr hvl
        by_cases hlt : k < (letL q).length
        · obtain ⟨c, hc⟩ : ∃ c, (letL q)[k] = c := ⟨_, rfl⟩
          have hcm : c ∈ letL q := hc ▸ List.getElem_mem hlt
          have hnx : ∀ ty, (Instr.next (.pointer (some ⟨w2.heap.size + 1, 0, none⟩)) true ty).run Tryz.prog wr = .ok (.tuple #[.bool true, .int .i64 k, .int .i32 c.toNat]) (wr.iterAt (w2.heap.size + 1) ⟨(letL q).toArray⟩ (k + 1)) := fun ty => by
            have h1 := Lib.run_next_ascii_at (P := Tryz.prog) wr (w2.heap.size + 1) ⟨(letL q).toArray⟩ k ty hit (by simpa [ByteArray.size] using hlt) (by show ((letL q)[k]).toNat < 128; rw [hc]; exact lets_ascii c hcm)
            rw [h1]
            show Result.ok (Value.tuple #[.bool true, .int .i64 k, .int .i32 (((letL q)[k]).toNat : Int)]) _ = _
            rw [hc]
          have hbi : Below w2.heap.size w2 (wr.iterAt (w2.heap.size + 1) ⟨(letL q).toArray⟩ (k + 1)) := Lib.below_iterAt KR.out (by omega) _ _
          have hii := Lib.iterAt_heap wr (w2.heap.size + 1) ⟨(letL q).toArray⟩ k (k + 1) hit
          have hsi := Lib.iterAt_size wr (w2.heap.size + 1) ⟨(letL q).toArray⟩ (k + 1)
          have hxi := (Lib.iterAt_other wr (w2.heap.size + 1) w2.heap.size ⟨(letL q).toArray⟩ (k + 1) (by omega)).trans hxb
          have hp0 : wr.iterPos (w2.heap.size + 1) = k := by simp only [World.iterPos, hit]
          generalize wr.iterAt (w2.heap.size + 1) ⟨(letL q).toArray⟩ (k + 1) = wi at hnx hbi hii hsi hxi
          have KI : Hid (Below w2.heap.size w2 wi) := hbi
          have HII : Hid (wi.heap[w2.heap.size + 1]? = some (.stringIter ⟨(letL q).toArray⟩ (k + 1))) := hii
          have HXI : Hid (wi.heap[w2.heap.size]? = some (box5 q (getF ((letL q).take k) vs 82) (getF ((letL q).take k) vs 65) (getF ((letL q).take k) vs 66) (getF ((letL q).take k) vs 78))) := hxi
          have HP : Hid (wr.iterPos (w2.heap.size + 1) = k) := hp0
          have hzi : w2.heap.size + 1 < wi.heap.size := (Array.getElem?_eq_some_iff.1 hii).1
          have EI : Hid (∀ W, Below wi.heap.size wi W → Env W W.heap.size) := fun W hW => (((E2.out.keep (KI.out.mono z2)).keep (hW.mono (by omega))).mono (by have := hW.size; omega))
          have hword : ws.getD (k + 1) [] ∈ ws := by
            rw [List.getD_eq_getElem?_getD, List.getElem?_eq_getElem (idx_nat hlt HLEN.out)]
            exact List.getElem_mem _
          have hwl1 : (ws.getD (k + 1) []).length ≤ 1099511627776 := Nat.le_trans (HW.out _ hword) (by decide)
          have wc : wi.cell? ⟨g, k + 1, none⟩ = some (.string ⟨(ws.getD (k + 1) []).toArray⟩) := (KI.out.cell (p := ⟨g, k + 1, none⟩) (by show g < _; omega)).trans ((K2.out.cell (p := ⟨g, k + 1, none⟩) hg1).trans (O1.out.cell (idx_nat hlt HLEN.out)))
          obtain ⟨ts1, ts2⟩ := tail_split (ws := ws) (k := k) (idx_nat hlt HLEN.out)
          have TS1 := (show Hid _ from ts1)
          have TS2 := (show Hid _ from ts2)
          clear hit hxb hbi hii hxi hp0 hword ts1 ts2
          generalize ws.getD (k + 1) [] = wk at wc hwl1 TS1 TS2
          have wc2 : wi.cell? ⟨g, 1 + k, none⟩ = some (.string ⟨wk.toArray⟩) := by rw [Nat.add_comm]; exact wc
          obtain ⟨j0, j1, j2, j3⟩ := idx_facts hlt hlq HLEN.out
          have KW : Hid (Below w.heap.size w wi) := K1.out.trans ((K2.out.trans (KI.out.mono z2)).mono (Nat.le_of_lt z1))
          have hwi : w.heap.size ≤ wi.heap.size := KW.out.size
          cases hn : numI wk with
          | none =>
            have HN : Hid (readL l = none) := by show _ = _; rw [HR2.out]; exact readT_none (by rw [TS1.out]; exact nums_fail HV.out hn)
            have HNI : Hid (numI wk = none) := hn
            have HPP : Hid (insPost (readL l) (.panicked [{ v := noT, recovered := false }])) := by show insPost _ _; rw [HN.out]; rfl
            clear hn
            go_wp2_with fail
            go_region_with (first
              | (go_at_call 35; refine (fieldAt_any _ c _).mono ?_; rintro e w' ⟨rfl, rfl⟩)
              | (go_at_call 63; refine (readNumber_any wk hwl1 _ (EI.out _ ((Below.refl _ _).drew))).mono ?_; rintro e w4 ⟨he, hb4⟩; rw [HNI.out] at he; have he' : e = .panicked [{ v := noT, recovered := false }] := he; clear he; subst he'; refine (fun (_ : wpAny Tryz.prog Region.Mode.any #[] (fun _ _ _ => True) 1 #[] { tmps := #[], defers := [] } wi) => ⟨rfl, HPP.out, (Below.drew KW.out).trans (hb4.mono hwi)⟩) ?_))
            all_goals trivial
          | some v =>
            have HNI : Hid (numI wk = some v) := hn
            have HV2 : Hid (numsO (ws.tail.take (k + 1)) = some (vs ++ [v])) := by show _ = _; rw [TS2.out]; exact nums_snoc HV.out hn
            have hfz := box5_frozen HXI.out (idxL c)
            have hfc := fld_cell (box5_cells HXI.out) c
            clear hn
            go_wp2_with fail
            go_region_with (first
              | (go_at_call 35; refine (fieldAt_any _ c _).mono ?_; rintro e w' ⟨rfl, rfl⟩)
              | (go_at_call 63; refine (readNumber_any wk hwl1 _ (EI.out _ ((Below.refl _ _).drew))).mono ?_; rintro e w4 ⟨he, hb4⟩; rw [HNI.out] at he; have he' : e = .returned (.int .i64 v) := he; clear he; subst he'; have K4 : Hid (Below wi.heap.size wi w4) := ⟨hb4.os, hb4.tape, hb4.output, hb4.size, hb4.block⟩; have hf4 : w4.frozen? ⟨w2.heap.size, idxL c, none⟩ = false := (K4.out.frozen (p := ⟨w2.heap.size, idxL c, none⟩) (Nat.lt_of_succ_lt hzi)).trans hfz; have hc4 := (K4.out.cell (p := ⟨w2.heap.size, idxL c, none⟩) (Nat.lt_of_succ_lt hzi)).trans hfc; clear hb4))
            all_goals
              go_roundw
              case rel =>
                have hxx := (K4.out.block _ (Nat.lt_of_succ_lt hzi)).trans HXI.out
                have hii4 := (K4.out.block _ hzi).trans HII.out
                refine ⟨_, _, _, _, _, _, _, _, _, _, _, _, _, _, _, ⟨k + 1, vs ++ [v], hlt, HV2.out, ?_, ?_, ?_⟩, rfl⟩
                · rw [box5_set c v hxx, box5_next hlt hc hvk]
                · rw [Below.heap_setCell _ _ _ _ (Nat.succ_ne_self _)]; exact hii4
                · exact (KI.out.trans (K4.out.mono (Nat.le_of_lt (Nat.lt_of_succ_lt hzi)))).setCell (Nat.le_refl _) _
              case measure =>
                have hii4 : (w4.setCell ⟨w2.heap.size, idxL c, none⟩ (.int .i64 v)).heap[w2.heap.size + 1]? = some (.stringIter ⟨(letL q).toArray⟩ (k + 1)) := by
                  rw [Below.heap_setCell _ _ _ _ (Nat.succ_ne_self _)]; exact (K4.out.block _ hzi).trans HII.out
                have e4 : (w4.setCell ⟨w2.heap.size, idxL c, none⟩ (.int .i64 v)).iterPos (w2.heap.size + 1) = k + 1 := by simp only [World.iterPos, hii4]
                rw [e4, HP.out]
                exact Nat.sub_lt_sub_left hlt (Nat.lt_succ_self _)
        · have hkk : k = (letL q).length := Nat.le_antisymm hk (Nat.le_of_not_lt hlt)
          have hnx : ∀ ty, (Instr.next (.pointer (some ⟨w2.heap.size + 1, 0, none⟩)) true ty).run Tryz.prog wr = .ok (.tuple #[.bool false]) wr := fun ty => Lib.run_next_end_at (P := Tryz.prog) wr (w2.heap.size + 1) ⟨(letL q).toArray⟩ k ty hit (by simpa [ByteArray.size] using hlt)
          have e1 : (letL q).take k = letL q := List.take_of_length_le (Nat.le_of_not_lt hlt)
          have e2 : ws.tail.take k = ws.tail := tail_all HLEN.out (Nat.le_of_not_lt hlt)
          have HVV : Hid (numsO ws.tail = some vs) := by show _ = _; rw [← e2]; exact HV.out
          rw [e1] at hxb
          have HXB : Hid (wr.heap[w2.heap.size]? = some (box5 q (getF (letL q) vs 82) (getF (letL q) vs 65) (getF (letL q) vs 66) (getF (letL q) vs 78))) := hxb
          have HR3 : Hid (readL l = if (putF q vs).ok = true then some (putF q vs) else none) := by show _ = _; rw [HR2.out, readT_some HVV.out]
          have HOK : Hid ((putF q vs).ok = Plain.insB q (getF (letL q) vs 82) (getF (letL q) vs 65) (getF (letL q) vs 66) (getF (letL q) vs 78) 24 3) := rfl
          have HPF : Hid (putF q vs = ⟨q, getF (letL q) vs 82, getF (letL q) vs 65, getF (letL q) vs 66, getF (letL q) vs 78⟩) := rfl
          have KW : Hid (Below w.heap.size w wr) := K1.out.trans ((K2.out.trans (KR.out.mono z2)).mono (Nat.le_of_lt z1))
          have RVR : Hid (wr.heap[w.heap.size]? = some (box5 0 0 0 0 0)) := (KR.out.block _ (Nat.lt_of_lt_of_le z1 z2)).trans ((K2.out.block _ z1).trans RV.out)
          clear hit hxb e1 e2 hkk
          generalize getF (letL q) vs 82 = xr at HXB HOK HPF
          generalize getF (letL q) vs 65 = xa at HXB HOK HPF
          generalize getF (letL q) vs 66 = xb at HXB HOK HPF
          generalize getF (letL q) vs 78 = xn at HXB HOK HPF
          obtain ⟨c0', c1', c2', c3', c4'⟩ := box5_cells HXB.out
          go_wp2_with fail
          refine (insFits_any q xr xa xb xn _).mono ?_
          rintro e w5 ⟨rfl, hb5⟩
          have K5 : Hid (Below wr.heap.size wr w5) := hb5
          clear hb5
          cases hv : Plain.insB q xr xa xb xn 24 3
          · have HN : Hid (readL l = none) := by show _ = _; rw [HR3.out, HOK.out, hv]; rfl
            clear hv
            go_wp2
            refine ⟨rfl, ?_, KW.out.trans (K5.out.mono KW.out.size)⟩
            rw [HN.out]
            rfl
          · have HN : Hid (readL l = some ⟨q, xr, xa, xb, xn⟩) := by show _ = _; rw [HR3.out, HOK.out, hv, if_pos rfl, HPF.out]
            have hzw : w2.heap.size < wr.heap.size := Nat.lt_of_succ_lt hKs
            have XB5 := (K5.out.block _ hzw).trans HXB.out
            have RV5 := (K5.out.block _ (Nat.lt_of_lt_of_le (Nat.lt_of_lt_of_le z1 z2) (Nat.le_of_lt hzw))).trans RVR.out
            clear c0' c1' c2' c3' c4' hv
            obtain ⟨c0', c1', c2', c3', c4'⟩ := box5_cells XB5
            obtain ⟨d0, d1, d2, d3, d4⟩ := box5_cells RV5
            have fz := box5_frozen RV5
            have hbne : ¬ w2.heap.size = w.heap.size := Nat.ne_of_gt (Nat.lt_of_lt_of_le z1 z2)
            clear XB5
            have RR := (show Hid _ from RV5)
            clear RV5
            go_wp2
            have hblk := store5 RR.out q xr xa xb xn
            have KF : Below w.heap.size w w5 := KW.out.trans (K5.out.mono KW.out.size)
            have KG := ((((KF.setCell (p := ⟨w.heap.size, 0, none⟩) (Nat.le_refl _) (.int .i64 q)).setCell (p := ⟨w.heap.size, 1, none⟩) (Nat.le_refl _) (.int .i64 xr)).setCell (p := ⟨w.heap.size, 2, none⟩) (Nat.le_refl _) (.int .i64 xa)).setCell (p := ⟨w.heap.size, 3, none⟩) (Nat.le_refl _) (.int .i64 xb)).setCell (p := ⟨w.heap.size, 4, none⟩) (Nat.le_refl _) (.int .i64 xn)
            revert hblk KG
            generalize ((((w5.setCell ⟨w.heap.size, 0, none⟩ (.int .i64 q)).setCell ⟨w.heap.size, 1, none⟩ (.int .i64 xr)).setCell ⟨w.heap.size, 2, none⟩ (.int .i64 xa)).setCell ⟨w.heap.size, 3, none⟩ (.int .i64 xb)).setCell ⟨w.heap.size, 4, none⟩ (.int .i64 xn) = wz
            intro hblk KG
            obtain ⟨g0, g1, g2, g3, g4⟩ := box5_cells hblk
            exact bodyPost_ret (v := .agg #[.int .i64 q, .int .i64 xr, .int .i64 xa, .int .i64 xb, .int .i64 xn]) (by simp [results, Tryz.results64, go_sem, g0, g1, g2, g3, g4]) rfl ⟨by rw [HN.out]; rfl, KG⟩
    · have HN : Hid (readL l = none) := by show _ = _; rw [HR1.out, if_pos hlen]
      clear HR1
      have hl2 : ((ws.length : Int) != 1 + ((letL q).length : Int)) = true := by simp; omega
      clear hlen
      go_wp2_with (go_at_call 77; refine (readOp_any _ _ E1.out).mono ?_; rintro e w2 ⟨he, hb2⟩; rw [HO.out] at he; have he' : e = .returned (.int .i64 (q : Int)) := he; clear he; subst he'; have K2 : Hid (Below w1.heap.size w1 w2) := hb2; have z2 : w1.heap.size ≤ w2.heap.size := hb2.size; have E2 : Hid (Env w2 w1.heap.size) := E1.out.keep hb2; have f1 := (E2.out.forms q hq).2; have lo := Nat.lt_of_lt_of_le E2.out.lo1 z2; clear hb2)
      refine ⟨rfl, ?_, (K1.out.trans (K2.out.mono (by omega))).alloc (by omega) _⟩
      rw [HN.out]
      rfl

end Go.Proofs.YtajblippcnidiaaGreatDoor
