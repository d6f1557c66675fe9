/- Rows of rows of steps that a call has made: marked, and looked at again. Conditions: as with rows of rows of places. -/
import Derived.Test.YthkpkdehicoikaaGreatMarkAll
import Derived.Test.YthkpkdehicoikaaGreatJ28
import Derived.Deep.RegionWith
namespace Go.Proofs.YthkpkdehicoikaaGreat
set_option linter.unusedSimpArgs false
set_option linter.unusedVariables false
set_option maxRecDepth 100000
open Go.RowKit

def OwnP6 (w : World) (base : Nat) (v : Value) (b : List I5) : Prop := w.ownsRow base 64 5 v b.length (flatP b)
def OwnB6 (w : World) (base : Nat) (v : Value) (bs : List (List I5)) : Prop :=
  ∃ xs : List Value, w.ownsRow base 44 1 v bs.length xs ∧ (∀ i, i < bs.length → OwnP6 w base (xs.getD i undef) (bs.getD i [])) ∧ ∀ i j k, i < bs.length → j < bs.length → i ≠ j → (xs.getD i undef).ownBlock = some k → (xs.getD j undef).ownBlock ≠ some k

theorem infoB6 : ∃ i, Tryz.prog.info? 44 = some i ∧ i.zero = some (.slice none 0 0) ∧ i.size = 1 ∧ i.bytes = 24 := ⟨_, rfl, rfl, rfl, rfl⟩

theorem OwnB6.keep {w w' : World} {base : Nat} {v : Value} {bs : List (List I5)} (h : OwnB6 w base v bs) (hb : ∀ k, base ≤ k → k < w.heap.size → w'.heap[k]? = w.heap[k]?) : OwnB6 w' base v bs := by
  obtain ⟨xs, h1, h2, h3⟩ := h
  exact ⟨xs, ownKeep h1 (fun k hk => hb k (World.ownsRow.lt h1 _ hk).1 (World.ownsRow.lt h1 _ hk).2), fun i hi => ownKeep (h2 i hi) (fun k hk => hb k (World.ownsRow.lt (h2 i hi) _ hk).1 (World.ownsRow.lt (h2 i hi) _ hk).2), h3⟩
theorem OwnB6.below {w w' : World} {base : Nat} {v : Value} {bs : List (List I5)} (h : OwnB6 w base v bs) (hb : Below w.heap.size w w') : OwnB6 w' base v bs := h.keep fun k _ hk => hb.block k hk
theorem OwnB6.nil (w : World) (base : Nat) : OwnB6 w base (.slice none 0 0) [] := ⟨[], World.ownsRow_nil _ _ _ _, fun i hi => absurd hi (Nat.not_lt_zero _), fun i j k hi => absurd hi (Nat.not_lt_zero _)⟩
theorem OwnB6.sl {w : World} {base : Nat} {v : Value} {bs : List (List I5)} (h : OwnB6 w base v bs) : ∃ s c, v = .slice s bs.length c := by
  obtain ⟨xs, h, -⟩ := h
  rcases h.2 with ⟨h1, h2⟩ | ⟨g, cap, cur, a, -⟩
  · exact ⟨none, 0, by rw [h1, h2]⟩
  · exact ⟨_, _, a⟩
theorem OwnB6.low {w : World} {b b' : Nat} {v : Value} {bs : List (List I5)} (h : OwnB6 w b v bs) (hb : b' ≤ b) : OwnB6 w b' v bs := by
  obtain ⟨xs, h1, h2, h3⟩ := h
  exact ⟨xs, ownLow h1 hb, fun i hi => ownLow (h2 i hi) hb, h3⟩

/- append of an empty row: what it makes of the rows -/
theorem OwnB6.grow {w w' : World} {base g cap : Nat} {v u : Value} {bs : List (List I5)} {xs : List Value} (h1 : w.ownsRow base 44 1 v bs.length xs) (h2 : ∀ i, i < bs.length → OwnP6 w base (xs.getD i undef) (bs.getD i []))
    (h3 : ∀ i j k, i < bs.length → j < bs.length → i ≠ j → (xs.getD i undef).ownBlock = some k → (xs.getD j undef).ownBlock ≠ some k) (hu : u.ownBlock = none ∨ ∃ k, u.ownBlock = some k ∧ w.heap.size ≤ k)
    (q1 : w'.ownsRow base 44 1 (.slice (some ⟨g, 0, none⟩) (bs.length + 1) cap) (bs.length + 1) (xs ++ [u])) (hk : ∀ k, base ≤ k → k < w.heap.size → v.ownBlock ≠ some k → w'.heap[k]? = w.heap[k]?) {b : List I5} (hP : OwnP6 w' base u b) :
    OwnB6 w' base (.slice (some ⟨g, 0, none⟩) (bs.length + 1) cap) (bs ++ [b]) := by
  have hxl : xs.length = bs.length := by have := h1.1; omega
  refine ⟨xs ++ [u], by rw [List.length_append]; exact q1, ?_, ?_⟩
  · intro i hi
    rw [getD_snoc, getD_snoc, hxl]
    by_cases e : i < bs.length
    · rw [if_pos e, if_pos e]
      exact ownKeep (h2 i e) (fun k hk' => hk k (World.ownsRow.lt (h2 i e) _ hk').1 (World.ownsRow.lt (h2 i e) _ hk').2 (ownType (h2 i e) h1 (by decide) hk'))
    · have : i = bs.length := by simp at hi; omega
      rw [if_neg e, if_pos this, if_neg e, if_pos this]
      exact hP
  · intro i j k hi hj hne
    simp only [List.length_append, List.length_cons, List.length_nil] at hi hj
    rw [getD_snoc, getD_snoc, hxl]
    by_cases e : i < bs.length <;> by_cases e' : j < bs.length
    · rw [if_pos e, if_pos e']; exact h3 i j k e e' hne
    · rw [if_pos e, if_neg e', if_pos (by omega)]
      intro hk' hk''
      have := (World.ownsRow.lt (h2 i e) _ hk').2
      rcases hu with hu | ⟨k', hu, hk2⟩
      · rw [hu] at hk''; cases hk''
      · rw [hu] at hk''; injection hk'' with hk''; omega
    · rw [if_neg e, if_pos (by omega), if_pos e']
      intro hk' hk''
      have := (World.ownsRow.lt (h2 j e') _ hk'').2
      rcases hu with hu | ⟨k', hu, hk2⟩
      · rw [hu] at hk'; cases hk'
      · rw [hu] at hk'; injection hk' with hk'; omega
    · omega

set_option maxHeartbeats 2000000 in
theorem markP6_any (base : Nat) (v : Value) (b : List I5) (q : Int) (w : World) (h : OwnP6 w base v b) (hn : b.length ≤ 1048577) (hq : 0 ≤ q) (hq' : q ≤ 1000000000000000) :
    Calls Tryz.prog 31 #[v, .int .i64 q] w fun e w' => e = .returned (.int .i64 (q + 5 * b.length)) ∧ OwnP6 w' base v (relP q b.length) ∧ w'.heap.size = w.heap.size ∧ w'.os = w.os ∧ w'.tape = w.tape ∧ w'.output = w.output ∧ (∀ k, v.ownBlock ≠ some k → w'.heap[k]? = w.heap[k]?) := by
  rcases Nat.eq_zero_or_pos b.length with h0 | hpos
  · have hb : b = [] := List.length_eq_zero_iff.1 h0
    subst hb
    obtain ⟨s, c, rfl⟩ : ∃ s c, v = .slice s 0 c := by
      rcases h.2 with ⟨h1, h2⟩ | ⟨g, cap, cur, a, -⟩
      · exact ⟨none, 0, h1⟩
      · exact ⟨_, _, a⟩
    have H : Hid (OwnP6 w base (.slice s 0 c) []) := h
    clear h h0
    go_enter Tryz.func31, Tryz.ntmps31
    go_wp2
    go_loop [1, 5] (fun a i => i = .int .i64 0 ∧ a = .int .i64 q) (fun _ _ => 0)
    case atStart => exact ⟨rfl, rfl⟩
    case round =>
      obtain ⟨rfl, rfl⟩ := hrel
      go_wp2
      go_ret
      exact ⟨by simp, H.out, rfl, rfl, rfl, rfl, fun _ _ => rfl⟩
  · obtain ⟨g, cap, rfl, hg0, hg1⟩ := World.ownsRow.form h hpos
    have H : Hid (OwnP6 w base (.slice (some ⟨g, 0, none⟩) b.length cap) b) := h
    clear h
    go_enter Tryz.func31, Tryz.ntmps31
    go_wp2
    go_loopw [1, 5] (fun a i wr => ∃ k : Nat, k ≤ b.length ∧ i = .int .i64 k ∧ a = .int .i64 (q + 5 * k) ∧ OwnP6 wr base (.slice (some ⟨g, 0, none⟩) b.length cap) (relP q k ++ b.drop k) ∧ wr.heap.size = w.heap.size ∧ wr.os = w.os ∧ wr.tape = w.tape ∧ wr.output = w.output ∧ (∀ k, k ≠ g → wr.heap[k]? = w.heap[k]?)) (fun _ i _ => b.length - (intOf i).toNat)
    case atStart => exact ⟨0, Nat.zero_le _, rfl, by simp, by simpa [relP] using H.out, rfl, rfl, rfl, rfl, fun _ _ => rfl⟩
    case round =>
      obtain ⟨k, hk, rfl, rfl, ho, hs, h1, h2, h3, hf⟩ := hrel
      have HO : Hid (OwnP6 wr base (.slice (some ⟨g, 0, none⟩) b.length cap) (relP q k ++ b.drop k)) := ho
      have HZ : Hid (wr.heap.size = w.heap.size) := hs
      have H1 : Hid (wr.os = w.os ∧ wr.tape = w.tape ∧ wr.output = w.output) := ⟨h1, h2, h3⟩
      have HF : Hid (∀ k, k ≠ g → wr.heap[k]? = w.heap[k]?) := hf
      have hlen : (relP q k ++ b.drop k).length = b.length := by rw [List.length_append, relP_len, List.length_drop]; omega
      clear ho hs h1 h2 h3 hf
      by_cases hlt : k < b.length
      · have hr : wr.ownsRow base 64 5 (.slice (some ⟨g, 0, none⟩) b.length cap) b.length (flatP (relP q k ++ b.drop k)) := by have h := HO.out; unfold OwnP6 at h; rw [hlen] at h; exact h
        have HRo := (show Hid _ from hr)
        have hc : ∀ j, j < 5 → ∃ u, wr.cell? ⟨g, k * 5 + j, none⟩ = some u := fun j hj => by
          rw [World.ownsRow.cellAt hr (k * 5 + j) (by omega)]
          exact ⟨_, List.getElem?_eq_getElem (by rw [flatP_len, hlen]; omega)⟩
        have hfz : ∀ j, wr.frozen? ⟨g, j, none⟩ = false := fun j => World.ownsRow.frozenAt hr j
        obtain ⟨u0, c0⟩ := hc 0 (by omega)
        obtain ⟨u1, c1⟩ := hc 1 (by omega)
        obtain ⟨u2, c2⟩ := hc 2 (by omega)
        obtain ⟨u3, c3⟩ := hc 3 (by omega)
        obtain ⟨u4, c4⟩ := hc 4 (by omega)
        rw [Nat.add_zero] at c0
        clear hc hr hlen
        have b0 : (0 : Int) ≤ (k : Int) := by omega
        have b1 : (k : Int) < (b.length : Int) := by omega
        go_wp2
        go_roundw
        case rel =>
          have hd : b.drop k = b[k] :: b.drop (k + 1) := List.drop_eq_getElem_cons hlt
          have p5 := (World.ownsRow.stored (World.ownsRow.stored (World.ownsRow.stored (World.ownsRow.stored (World.ownsRow.stored HRo.out (k * 5) (.int .i64 (q + 5 * k))).1 (k * 5 + 1) (.int .i64 (q + 5 * k + 1))).1 (k * 5 + 2) (.int .i64 (q + 5 * k + 1 + 1))).1 (k * 5 + 3) (.int .i64 (q + 5 * k + 1 + 1 + 1))).1 (k * 5 + 4) (.int .i64 (q + 5 * k + 1 + 1 + 1 + 1))).1
          have fp := flatP_put (relP q k) (b.drop (k + 1)) b[k] (run5 (q + 5 * k))
          rw [relP_len] at fp
          rw [hd] at p5
          have p6 := fp ▸ p5
          refine ⟨k + 1, by omega, by go_num, ?_, ?_, by simpa using HZ.out, H1.out.1, H1.out.2.1, H1.out.2.2, fun j hj => ?_⟩
          · congr 1
            rw [Int.natCast_add]
            omega
          · show World.ownsRow _ base 64 5 _ (relP q (k + 1) ++ b.drop (k + 1)).length (flatP (relP q (k + 1) ++ b.drop (k + 1)))
            have e1 : relP q (k + 1) ++ b.drop (k + 1) = relP q k ++ run5 (q + 5 * k) :: b.drop (k + 1) := by simp [relP]
            have e2 : (relP q (k + 1) ++ b.drop (k + 1)).length = b.length := by rw [List.length_append, relP_len, List.length_drop]; omega
            rw [e2, e1]
            exact p6
          · rw [Below.heap_setCell _ _ _ j hj, Below.heap_setCell _ _ _ j hj, Below.heap_setCell _ _ _ j hj, Below.heap_setCell _ _ _ j hj, Below.heap_setCell _ _ _ j hj]
            exact HF.out j hj
        case measure => simp [intOf]; omega
      · go_wp2
        go_ret
        have e : k = b.length := by omega
        subst e
        have ho := HO.out
        rw [List.drop_length, List.append_nil] at ho
        refine ⟨rfl, ?_, HZ.out, H1.out.1, H1.out.2.1, H1.out.2.2, fun k hne => HF.out k (fun e => hne (by rw [e]; rfl))⟩
        exact ho


def OwnK6 (w : World) (base : Nat) (v : Value) (xs : List Value) (n : Nat) (f : Nat → List I5) : Prop := w.ownsRow base 44 1 v n xs ∧ ∀ i, i < n → OwnP6 w base (xs.getD i undef) (f i)

set_option maxHeartbeats 2000000 in
theorem markB6_any (base : Nat) (v : Value) (xs : List Value) (bs : List (List I5)) (q : Int) (w : World) (h : OwnK6 w base v xs bs.length (bs.getD · []))
    (h3 : ∀ i j k, i < bs.length → j < bs.length → i ≠ j → (xs.getD i undef).ownBlock = some k → (xs.getD j undef).ownBlock ≠ some k)
    (hn : bs.length ≤ 1048577) (hls : ∀ i, i < bs.length → (bs.getD i []).length ≤ 1048577) (hq : 0 ≤ q) (hq' : q + 5 * (tot bs bs.length : Int) ≤ 1000000000000000) :
    Calls Tryz.prog 11 #[v, .int .i64 q] w fun e w' => e = .returned (.int .i64 (q + 5 * (tot bs bs.length : Int))) ∧ OwnK6 w' base v xs bs.length (relAt q bs bs.length) ∧ w'.heap.size = w.heap.size ∧ w'.os = w.os ∧ w'.tape = w.tape ∧ w'.output = w.output ∧ (∀ k, (∀ i, i < bs.length → (xs.getD i undef).ownBlock ≠ some k) → w'.heap[k]? = w.heap[k]?) := by
  have hst : OwnK6 w base v xs bs.length (relAt q bs 0) := ⟨h.1, fun i hi => by have := h.2 i hi; simpa [relAt] using this⟩
  obtain ⟨s, c, rfl⟩ : ∃ s c, v = .slice s bs.length c := by
    rcases h.1.2 with ⟨h1, h2⟩ | ⟨g, cap, cur, a, -⟩
    · exact ⟨none, 0, by rw [h1, h2]⟩
    · exact ⟨_, _, a⟩
  have H : Hid (OwnK6 w base (.slice s bs.length c) xs bs.length (relAt q bs 0)) := hst
  have H3 : Hid (∀ i j k, i < bs.length → j < bs.length → i ≠ j → (xs.getD i undef).ownBlock = some k → (xs.getD j undef).ownBlock ≠ some k) := h3
  have HL : Hid (∀ i, i < bs.length → (bs.getD i []).length ≤ 1048577) := hls
  clear h h3 hls hst
  go_enter Tryz.func11, Tryz.ntmps11
  go_wp2
  go_loopw [1, 5] (fun a i wr => ∃ k : Nat, k ≤ bs.length ∧ i = .int .i64 k ∧ a = .int .i64 (q + 5 * (tot bs k : Int)) ∧ OwnK6 wr base (.slice s bs.length c) xs bs.length (relAt q bs k) ∧ wr.heap.size = w.heap.size ∧ wr.os = w.os ∧ wr.tape = w.tape ∧ wr.output = w.output ∧ (∀ k, (∀ i, i < bs.length → (xs.getD i undef).ownBlock ≠ some k) → wr.heap[k]? = w.heap[k]?)) (fun _ i _ => bs.length - (intOf i).toNat)
  case atStart => exact ⟨0, Nat.zero_le _, rfl, by simp [tot], H.out, rfl, rfl, rfl, rfl, fun _ _ => rfl⟩
  case round =>
    obtain ⟨k, hk, rfl, rfl, ho, hr⟩ := hrel
    have HO : Hid (OwnK6 wr base (.slice s bs.length c) xs bs.length (relAt q bs k)) := ho
    have HR := (show Hid _ from hr)
    clear ho hr
    by_cases hlt : k < bs.length
    · obtain ⟨g, hs⟩ : ∃ g, s = some ⟨g, 0, none⟩ := by
        obtain ⟨g, cap, e, -⟩ := World.ownsRow.form HO.out.1 (by omega)
        injection e with e1 e2 e3
        exact ⟨g, e1⟩
      subst hs
      have hxl : xs.length = bs.length := by have := HO.out.1.1; omega
      have c0 : wr.cell? ⟨g, k, none⟩ = some (xs.getD k undef) := by
        rw [World.ownsRow.cellAt HO.out.1 k (by omega), List.getD_eq_getElem?_getD, List.getElem?_eq_getElem (by omega)]
        rfl
      have hin : OwnP6 wr base (xs.getD k undef) (bs.getD k []) := by have := HO.out.2 k hlt; simpa [relAt] using this
      have hlen := HL.out k hlt
      have ht1 : tot bs (k + 1) = tot bs k + (bs.getD k []).length := rfl
      have ht2 := tot_le bs (k + 1) bs.length (by omega)
      have HI : Hid (OwnP6 wr base (xs.getD k undef) (bs.getD k [])) := hin
      obtain ⟨u, hu⟩ : ∃ u, xs.getD k undef = u := ⟨_, rfl⟩
      obtain ⟨b, hb⟩ : ∃ b, bs.getD k [] = b := ⟨_, rfl⟩
      have HU : Hid (xs.getD k undef = u) := hu
      have HBk : Hid (bs.getD k [] = b) := hb
      rw [hu] at c0
      rw [hb] at hlen ht1
      clear hin hu hb hxl
      have b0 : (0 : Int) ≤ (k : Int) := by omega
      have b1 : (k : Int) < (bs.length : Int) := by omega
      go_wp2_with (go_at_call 31; refine (markP6_any base u b (q + 5 * (tot bs k : Int)) _ (show OwnP6 _ base u b by have h := HI.out; rw [HU.out, HBk.out] at h; exact h) hlen (by omega) (by omega)).mono ?_; rintro e w1 ⟨rfl, ho1, hz1, h11, h12, h13, hf1⟩)
      all_goals
        have HW := (show Hid _ from And.intro ho1 (And.intro hz1 (And.intro h11 (And.intro h12 (And.intro h13 hf1)))))
        clear ho1 hz1 h11 h12 h13 hf1
        go_wp2
        go_roundw
        case rel =>
          obtain ⟨ho1, hz1, h11, h12, h13, hf1⟩ := HW.out
          obtain ⟨r1, r2, r3, r4, r5⟩ := HR.out
          refine ⟨k + 1, by omega, by go_num, by rw [ht1]; congr 1; rw [Int.natCast_add]; omega, ⟨?_, fun i hi => ?_⟩, hz1.trans r1, h11.trans r2, h12.trans r3, h13.trans r4, fun j hj => (hf1 j (by rw [← HU.out]; exact hj k hlt)).trans (r5 j hj)⟩
          · exact ownKeep HO.out.1 (fun j hj => hf1 j (by rw [← HU.out]; exact ownType HO.out.1 HI.out (by decide) hj))
          · by_cases e : i = k
            · subst e
              rw [HU.out, relAt, if_pos (by omega), HBk.out]
              exact ho1
            · have e2 : relAt q bs (k + 1) i = relAt q bs k i := by
                unfold relAt
                by_cases g1 : i < k
                · rw [if_pos g1, if_pos (by omega)]
                · rw [if_neg g1, if_neg (by omega)]
              rw [e2]
              exact ownKeep (HO.out.2 i hi) (fun j hj => hf1 j (by rw [← HU.out]; exact H3.out i k j hi hlt e hj))
        case measure => simp [intOf]; omega
    · go_wp2
      go_ret
      have e : k = bs.length := by omega
      subst e
      exact ⟨rfl, HO.out, HR.out⟩



theorem OwnP6.ins {w : World} {base : Nat} {v : Value} {l : List I5} (h : OwnP6 w base v l) : ∃ s c, v = .slice s l.length c ∧ InsR w base w.heap.size s l := by
  rcases Nat.eq_zero_or_pos l.length with h0 | hpos
  · rcases h.2 with ⟨h1, h2⟩ | ⟨g, cap, cur, a, -⟩
    · exact ⟨none, 0, by rw [h1, h2], .inl (List.length_eq_zero_iff.1 h0)⟩
    · exact ⟨_, _, a, .inl (List.length_eq_zero_iff.1 h0)⟩
  · obtain ⟨g, cap, rfl, -⟩ := World.ownsRow.form h hpos
    have hlt := World.ownsRow.lt h g rfl
    refine ⟨_, _, rfl, .inr ⟨g, 0, rfl, hlt.1, hlt.2, fun i hi => ?_⟩⟩
    have hc : ∀ j, j < 5 → w.cell? ⟨g, i * 5 + j, none⟩ = (cellsP (l.getD i z5))[j]? := fun j hj => by
      rw [World.ownsRow.cellAt h (i * 5 + j) (by omega)]
      exact flatP_at l i j hi hj
    rw [Nat.zero_add]
    exact ⟨hc 0 (by omega), hc 1 (by omega), hc 2 (by omega), hc 3 (by omega), hc 4 (by omega)⟩
theorem OwnB6.bods {w : World} {base : Nat} {v : Value} {l : List (List I5)} (h : OwnB6 w base v l) : ∃ s c, v = .slice s l.length c ∧ BodsR w base w.heap.size s l := by
  obtain ⟨xs, h1, h2, -⟩ := h
  rcases Nat.eq_zero_or_pos l.length with h0 | hpos
  · rcases h1.2 with ⟨h1, h2⟩ | ⟨g, cap, cur, a, -⟩
    · exact ⟨none, 0, by rw [h1, h2], .inl (List.length_eq_zero_iff.1 h0)⟩
    · exact ⟨_, _, a, .inl (List.length_eq_zero_iff.1 h0)⟩
  · obtain ⟨g, cap, rfl, -⟩ := World.ownsRow.form h1 hpos
    have hlt := World.ownsRow.lt h1 g rfl
    have hxl : xs.length = l.length := by have := h1.1; omega
    refine ⟨_, _, rfl, .inr ⟨g, 0, rfl, hlt.1, hlt.2, fun i hi => ?_⟩⟩
    obtain ⟨s, c, e, hi'⟩ := OwnP6.ins (h2 i hi)
    refine ⟨s, c, ?_, hi'⟩
    rw [Nat.zero_add, World.ownsRow.cellAt h1 i (by omega), ← e, List.getD_eq_getElem?_getD, List.getElem?_eq_getElem (by omega)]
    rfl
set_option maxHeartbeats 2000000 in
theorem heldP6_any (base : Nat) (v : Value) (n : Nat) (q : Int) (w : World) (h : OwnP6 w base v (relP q n)) (hn : n ≤ 1048577) (hq : 0 ≤ q) (hq' : q ≤ 1000000000000000) :
    Calls Tryz.prog 32 #[v, .int .i64 q] w fun e w' => e = .returned (.int .i64 (q + 5 * n)) ∧ w' = w := by
  rcases Nat.eq_zero_or_pos n with h0 | hpos
  · subst h0
    obtain ⟨s, c, rfl⟩ : ∃ s c, v = .slice s 0 c := by
      rcases h.2 with ⟨h1, h2⟩ | ⟨g, cap, cur, a, -⟩
      · exact ⟨none, 0, h1⟩
      · exact ⟨_, _, a⟩
    clear h
    go_enter Tryz.func32, Tryz.ntmps32
    go_wp2
    go_loop [1, 5] (fun a i => i = .int .i64 0 ∧ a = .int .i64 q) (fun _ _ => 0)
    case atStart => exact ⟨rfl, rfl⟩
    case round =>
      obtain ⟨rfl, rfl⟩ := hrel
      go_wp2
      go_ret
      exact ⟨by simp, rfl⟩
  · have h' : w.ownsRow base 64 5 v n (flatP (relP q n)) := by unfold OwnP6 at h; rw [relP_len] at h; exact h
    obtain ⟨g, cap, rfl, hg0, hg1⟩ := World.ownsRow.form h' hpos
    have H : Hid (∀ k, k < n → ∀ j, j < 5 → w.cell? ⟨g, k * 5 + j, none⟩ = (flatP [run5 (q + 5 * k)])[j]?) := fun k hk j hj => by
      rw [World.ownsRow.cellAt h' (k * 5 + j) (by omega)]
      exact flatP_rel q n k hk j hj
    clear h h'
    go_enter Tryz.func32, Tryz.ntmps32
    go_wp2
    go_loop [1, 5] (fun a i => ∃ k : Nat, k ≤ n ∧ i = .int .i64 k ∧ a = .int .i64 (q + 5 * k)) (fun _ i => n - (intOf i).toNat)
    case atStart => exact ⟨0, Nat.zero_le _, rfl, by simp⟩
    case round =>
      obtain ⟨k, hk, rfl, rfl⟩ := hrel
      by_cases hlt : k < n
      · have c0 : w.cell? ⟨g, k * 5, none⟩ = some (.int .i64 (q + 5 * k)) := H.out k hlt 0 (by omega)
        have c1 : w.cell? ⟨g, k * 5 + 1, none⟩ = some (.int .i64 (q + 5 * k + 1)) := H.out k hlt 1 (by omega)
        have c2 : w.cell? ⟨g, k * 5 + 2, none⟩ = some (.int .i64 (q + 5 * k + 1 + 1)) := H.out k hlt 2 (by omega)
        have c3 : w.cell? ⟨g, k * 5 + 3, none⟩ = some (.int .i64 (q + 5 * k + 1 + 1 + 1)) := H.out k hlt 3 (by omega)
        have c4 : w.cell? ⟨g, k * 5 + 4, none⟩ = some (.int .i64 (q + 5 * k + 1 + 1 + 1 + 1)) := H.out k hlt 4 (by omega)
        have b0 : (0 : Int) ≤ (k : Int) := by omega
        have b1 : (k : Int) < (n : Int) := by omega
        go_wp2
        go_round
        case rel =>
          refine ⟨k + 1, by omega, by go_num, ?_⟩
          congr 1
          rw [Int.natCast_add]
          omega
        case measure => simp [intOf]; omega
      · go_wp2
        go_ret
        have e : k = n := by omega
        subst e
        exact ⟨rfl, rfl⟩



set_option maxHeartbeats 2000000 in
theorem heldB6_any (base : Nat) (v : Value) (xs : List Value) (bs : List (List I5)) (q : Int) (w : World) (h : OwnK6 w base v xs bs.length (relAt q bs bs.length))
    (hn : bs.length ≤ 1048577) (hls : ∀ i, i < bs.length → (bs.getD i []).length ≤ 1048577) (hq : 0 ≤ q) (hq' : q + 5 * (tot bs bs.length : Int) ≤ 1000000000000000) :
    Calls Tryz.prog 12 #[v, .int .i64 q] w fun e w' => e = .returned (.int .i64 (q + 5 * (tot bs bs.length : Int))) ∧ w' = w := by
  obtain ⟨s, c, rfl⟩ : ∃ s c, v = .slice s bs.length c := by
    rcases h.1.2 with ⟨h1, h2⟩ | ⟨g, cap, cur, a, -⟩
    · exact ⟨none, 0, by rw [h1, h2]⟩
    · exact ⟨_, _, a⟩
  have HO : Hid (OwnK6 w base (.slice s bs.length c) xs bs.length (relAt q bs bs.length)) := h
  have HL : Hid (∀ i, i < bs.length → (bs.getD i []).length ≤ 1048577) := hls
  clear h hls
  go_enter Tryz.func12, Tryz.ntmps12
  go_wp2
  go_loop [1, 5] (fun a i => ∃ k : Nat, k ≤ bs.length ∧ i = .int .i64 k ∧ a = .int .i64 (q + 5 * (tot bs k : Int))) (fun _ i => bs.length - (intOf i).toNat)
  case atStart => exact ⟨0, Nat.zero_le _, rfl, by simp [tot]⟩
  case round =>
    obtain ⟨k, hk, rfl, rfl⟩ := hrel
    by_cases hlt : k < bs.length
    · obtain ⟨g, hs⟩ : ∃ g, s = some ⟨g, 0, none⟩ := by
        obtain ⟨g, cap, e, -⟩ := World.ownsRow.form HO.out.1 (by omega)
        injection e with e1 e2 e3
        exact ⟨g, e1⟩
      subst hs
      have hxl : xs.length = bs.length := by have := HO.out.1.1; omega
      have c0 : w.cell? ⟨g, k, none⟩ = some (xs.getD k undef) := by
        rw [World.ownsRow.cellAt HO.out.1 k (by omega), List.getD_eq_getElem?_getD, List.getElem?_eq_getElem (by omega)]
        rfl
      have hin : OwnP6 w base (xs.getD k undef) (relP (q + 5 * (tot bs k : Int)) (bs.getD k []).length) := by have := HO.out.2 k hlt; rw [relAt, if_pos hlt] at this; exact this
      have hlen := HL.out k hlt
      have ht1 : tot bs (k + 1) = tot bs k + (bs.getD k []).length := rfl
      have ht2 := tot_le bs (k + 1) bs.length (by omega)
      generalize xs.getD k undef = u at c0 hin
      generalize (bs.getD k []).length = n at hin hlen ht1
      have HI : Hid (OwnP6 w base u (relP (q + 5 * (tot bs k : Int)) n)) := hin
      clear hin hxl
      have b0 : (0 : Int) ≤ (k : Int) := by omega
      have b1 : (k : Int) < (bs.length : Int) := by omega
      have b2 : ¬ (q + 5 * (tot bs k : Int) + 5 * (n : Int) < 0) := by omega
      go_wp2_with (go_at_call 32; refine (heldP6_any base u n (q + 5 * (tot bs k : Int)) _ HI.out hlen (by omega) (by omega)).mono ?_; rintro e w1 ⟨rfl, rfl⟩)
      all_goals
        go_round
        case rel => exact ⟨k + 1, by omega, by go_num, by rw [ht1]; congr 1; rw [Int.natCast_add]; omega⟩
        case measure => simp [intOf]; omega
    · go_wp2
      go_ret
      have e : k = bs.length := by omega
      subst e
      exact ⟨rfl, rfl⟩



end Go.Proofs.YthkpkdehicoikaaGreat
