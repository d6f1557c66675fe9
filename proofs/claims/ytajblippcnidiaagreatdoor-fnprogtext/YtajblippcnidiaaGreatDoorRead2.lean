/- Texts cut at a mark: impl.cut, at every text of at most 2^40 bytes and every mark that is a byte below 128. -/
import Derived.Test.YtajblippcnidiaaGreatDoorOwnT
import Derived.Laws.RangeAny
import Derived.Lib.OthersKept
import Derived.WalkSmall
namespace Go.Proofs.YtajblippcnidiaaGreatDoor
set_option linter.unusedSimpArgs false
set_option linter.unusedVariables false
set_option maxRecDepth 100000
open Go.RowKit

def splitA (m : UInt8) : List UInt8 → List UInt8 → List (List UInt8)
  | acc, [] => [acc]
  | acc, c :: r => if c = m then acc :: splitA m [] r else splitA m (acc ++ [c]) r
theorem splitA_skip (m : UInt8) : ∀ (xs r acc : List UInt8), (∀ x ∈ xs, x ≠ m) → splitA m acc (xs ++ r) = splitA m (acc ++ xs) r
  | [], r, acc, _ => by simp
  | x :: xs, r, acc, h => by
    have h1 : x ≠ m := h x (by simp)
    rw [List.cons_append, splitA, if_neg h1, splitA_skip m xs r _ (fun y hy => h y (by simp [hy]))]
    simp
theorem splitA_len (m : UInt8) : ∀ (l acc : List UInt8), 1 ≤ (splitA m acc l).length ∧ (splitA m acc l).length ≤ l.length + 1
  | [], acc => by simp [splitA]
  | c :: r, acc => by
    by_cases h : c = m
    · have := splitA_len m r []
      rw [splitA, if_pos h]; simp; omega
    · have := splitA_len m r (acc ++ [c])
      rw [splitA, if_neg h]; simp; omega
def accL (l : List UInt8) (fr pos : Nat) : List UInt8 := (l.drop fr).take (pos - fr)
theorem accL_self (l : List UInt8) (p : Nat) : accL l p p = [] := by simp [accL]
theorem accL_step {l : List UInt8} {fr pos wd : Nat} (h : fr ≤ pos) : accL l fr (pos + wd) = accL l fr pos ++ (l.drop pos).take wd := by
  unfold accL
  have e : pos + wd - fr = (pos - fr) + wd := by omega
  rw [e, List.take_add, List.drop_drop]
  congr 3
  omega
theorem extract_acc (l : List UInt8) (fr pos : Nat) : (⟨l.toArray⟩ : ByteArray).extract fr pos = ⟨(accL l fr pos).toArray⟩ := by
  apply ByteArray.ext
  apply Array.toList_inj.1
  rw [ByteArray.data_extract]
  simp [accL, List.extract_eq_take_drop]
theorem decode_cont (s : ByteArray) (pos : Nat) (h : pos < s.size) (ha : 128 ≤ (s[pos]'h).toNat) : ∀ i, i < (Utf8.decode s pos).2 → pos + i < s.size ∧ 128 ≤ (s.get! (pos + i)).toNat := by
  have h0 : 128 ≤ (s.get! (pos + 0)).toNat := by rw [get_at s pos h]; exact ha
  have hn : ¬ (s.get! (pos + 0)).toNat < 128 := by omega
  simp only [Utf8.decode, hn, if_false]
  intro i hi
  match i, hi with
  | 0, _ => exact ⟨by omega, h0⟩
  | i + 1, hi =>
    have q1 : ∀ k, (decide (pos + k < s.size) && (s.get! (pos + k)).toNat / 64 == 2) = true → pos + k < s.size ∧ 128 ≤ (s.get! (pos + k)).toNat := by
      intro k hk
      simp at hk
      omega
    by_cases c1 : ((s.get! (pos + 0)).toNat / 32 == 6 && (decide (pos + 1 < s.size) && (s.get! (pos + 1)).toNat / 64 == 2)) = true
    · rw [if_pos c1] at hi
      have c1' := q1 1 (by rw [Bool.and_eq_true] at c1; exact c1.2)
      split at hi
      · have : i = 0 := by simp at hi; omega
        subst this; exact c1'
      · simp at hi
    · rw [if_neg c1] at hi
      by_cases c2 : ((s.get! (pos + 0)).toNat / 16 == 14 && (decide (pos + 1 < s.size) && (s.get! (pos + 1)).toNat / 64 == 2) && (decide (pos + 2 < s.size) && (s.get! (pos + 2)).toNat / 64 == 2)) = true
      · rw [if_pos c2] at hi
        rw [Bool.and_eq_true, Bool.and_eq_true] at c2
        have d1 := q1 1 c2.1.2
        have d2 := q1 2 c2.2
        split at hi
        · have : i = 0 ∨ i = 1 := by simp at hi; omega
          rcases this with rfl | rfl
          · exact d1
          · exact d2
        · simp at hi
      · rw [if_neg c2] at hi
        by_cases c3 : ((s.get! (pos + 0)).toNat / 8 == 30 && (decide (pos + 1 < s.size) && (s.get! (pos + 1)).toNat / 64 == 2) && (decide (pos + 2 < s.size) && (s.get! (pos + 2)).toNat / 64 == 2) && (decide (pos + 3 < s.size) && (s.get! (pos + 3)).toNat / 64 == 2)) = true
        · rw [if_pos c3] at hi
          rw [Bool.and_eq_true, Bool.and_eq_true, Bool.and_eq_true] at c3
          have d1 := q1 1 c3.1.1.2
          have d2 := q1 2 c3.1.2
          have d3 := q1 3 c3.2
          split at hi
          · have : i = 0 ∨ i = 1 ∨ i = 2 := by simp at hi; omega
            rcases this with rfl | rfl | rfl
            · exact d1
            · exact d2
            · exact d3
          · simp at hi
        · rw [if_neg c3] at hi
          simp at hi
theorem high_bytes {l : List UInt8} {pos : Nat} (h : pos < l.length) (ha : 128 ≤ (l[pos]).toNat) : pos + (Utf8.decode ⟨l.toArray⟩ pos).2 ≤ l.length ∧ ∀ x ∈ (l.drop pos).take (Utf8.decode ⟨l.toArray⟩ pos).2, 128 ≤ x.toNat := by
  have hp : pos < (⟨l.toArray⟩ : ByteArray).size := by simpa [ByteArray.size] using h
  have hc := decode_cont ⟨l.toArray⟩ pos hp ha
  have hw := (decode_high ⟨l.toArray⟩ pos hp ha).2
  generalize (Utf8.decode ⟨l.toArray⟩ pos).2 = wd at hc hw
  have hsz : (⟨l.toArray⟩ : ByteArray).size = l.length := by simp [ByteArray.size]
  rw [hsz] at hc
  refine ⟨by have := (hc (wd - 1) (by omega)).1; omega, ?_⟩
  intro x hx
  obtain ⟨i, hi, rfl⟩ := List.getElem_of_mem hx
  have hi2 : i < wd := by simp at hi; omega
  have := (hc i hi2)
  have e : (⟨l.toArray⟩ : ByteArray).get! (pos + i) = l[pos + i]'this.1 := by
    exact get_at ⟨l.toArray⟩ (pos + i) (by rw [hsz]; exact this.1)
  rw [e] at this
  simpa using this.2


set_option maxHeartbeats 4000000 in
theorem cut_any (l : List UInt8) (m : UInt8) (hm : m.toNat < 128) (hl : l.length ≤ 1099511627775) (w : World) :
    Calls Tryz.prog 62 #[.string ⟨l.toArray⟩, .int .i32 m.toNat] w fun e w' => ∃ g cap, e = .returned (.slice (some ⟨g, 0, none⟩) (splitA m [] l).length cap) ∧ OwnT w' (w.heap.size + 1) (.slice (some ⟨g, 0, none⟩) (splitA m [] l).length cap) (splitA m [] l) ∧ Below w.heap.size w w' ∧ w.heap.size < w'.heap.size := by
  go_enter Tryz.func62, Tryz.ntmps62
  go_wp2
  go_loopw [5, 6] (fun v f wr => ∃ (pos fr : Nat) (P : List (List UInt8)), pos ≤ l.length ∧ fr ≤ pos ∧ f = .int .i64 fr ∧ OwnT wr (w.heap.size + 1) v P ∧ wr.heap[w.heap.size]? = some (.stringIter ⟨l.toArray⟩ pos) ∧ Below w.heap.size w wr ∧ Hid (P ++ splitA m (accL l fr pos) (l.drop pos) = splitA m [] l) ∧ P.length ≤ pos) (fun _ _ wr => l.length - wr.iterPos w.heap.size)
  case atStart =>
    refine ⟨0, 0, [], Nat.zero_le _, Nat.le_refl _, rfl, ownT_nil _ _, World.iter_heap w _ 0, (Below.refl _ _).alloc (Nat.le_refl _) _, ?_, Nat.zero_le _⟩
    show _ = _
    rw [accL_self]
    rfl
  case round =>
    obtain ⟨pos, fr, P, hk, hfr, rfl, hown, hit, hbr, HD, hPl⟩ := hrel
    have KR : Hid (Below w.heap.size w wr) := hbr
    have OR : Hid (OwnT wr (w.heap.size + 1) u5 P) := hown
    have hsr : w.heap.size < wr.heap.size := (Array.getElem?_eq_some_iff.1 hit).1
    clear hbr hown
    have hex : (⟨l.toArray⟩ : ByteArray).extract fr pos = ⟨(accL l fr pos).toArray⟩ := extract_acc l fr pos
    have hsz : (⟨l.toArray⟩ : ByteArray).size = l.length := by simp [ByteArray.size]
    by_cases hlt : pos < l.length
    · obtain ⟨c, hc⟩ : ∃ c, l[pos] = c := ⟨_, rfl⟩
      have hdr : l.drop pos = c :: l.drop (pos + 1) := by rw [List.drop_eq_getElem_cons hlt, hc]
      have HR : Hid (l.drop pos = c :: l.drop (pos + 1)) := hdr
      clear hdr
      have hp : pos < (⟨l.toArray⟩ : ByteArray).size := by rw [hsz]; exact hlt
      have hsc : ((⟨l.toArray⟩ : ByteArray)[pos]'hp).toNat = c.toNat := by show (l[pos]).toNat = _; rw [hc]
      have hp0 : wr.iterPos w.heap.size = pos := by simp only [World.iterPos, hit]
      have HP0 : Hid (wr.iterPos w.heap.size = pos) := hp0
      clear hp0
      by_cases ha : c.toNat < 128
      · have hnx : ∀ ty, (Instr.next (.pointer (some ⟨w.heap.size, 0, none⟩)) true ty).run Tryz.prog wr = .ok (.tuple #[.bool true, .int .i64 pos, .int .i32 c.toNat]) (wr.iterAt w.heap.size ⟨l.toArray⟩ (pos + 1)) := fun ty => by
          have h1 := Lib.run_next_ascii_at (P := Tryz.prog) wr w.heap.size ⟨l.toArray⟩ pos ty hit hp (by rw [hsc]; exact ha)
          rw [h1, hsc]
        have hbi : Below w.heap.size w (wr.iterAt w.heap.size ⟨l.toArray⟩ (pos + 1)) := Lib.below_iterAt KR.out (Nat.le_refl _) _ _
        have hii := Lib.iterAt_heap wr w.heap.size ⟨l.toArray⟩ pos (pos + 1) hit
        have hoi : OwnT (wr.iterAt w.heap.size ⟨l.toArray⟩ (pos + 1)) (w.heap.size + 1) u5 P := OR.out.keep fun k hk _ => Lib.iterAt_other wr w.heap.size k _ _ (by omega)
        generalize wr.iterAt w.heap.size ⟨l.toArray⟩ (pos + 1) = wi at hnx hbi hii hoi
        have KI : Hid (Below w.heap.size w wi) := hbi
        have HII : Hid (wi.heap[w.heap.size]? = some (.stringIter ⟨l.toArray⟩ (pos + 1))) := hii
        have OI : Hid (OwnT wi (w.heap.size + 1) u5 P) := hoi
        have hsi : w.heap.size < wi.heap.size := (Array.getElem?_eq_some_iff.1 hii).1
        clear hit hbi hii hsc hc hoi
        by_cases hcm : c = m
        · subst hcm
          have HS : Hid ((P ++ [accL l fr pos]) ++ splitA c (accL l (pos + 1) (pos + 1)) (l.drop (pos + 1)) = splitA c [] l) := by
            show _ = _
            rw [← HD.out, HR.out, splitA, if_pos rfl, accL_self]
            simp
          have s1 : (0 : Int) ≤ (fr : Int) := by omega
          have s2 : (fr : Int) ≤ (pos : Int) := by omega
          have s3 : (pos : Int) ≤ (l.length : Int) := by omega
          go_wp2_with (at_builtin; refine app_str rfl _ _ rfl wi (accL l fr pos) (w.heap.size + 1) u5 P rfl OI.out rfl (by omega) (by omega) ?_; intro g1 cap1 w3 ho3 hb3 hs3 hg3; have O3 := (show Hid _ from ho3); have B3 := (show Hid _ from hb3); clear ho3 hb3)
          have HI3 : Hid (w3.heap[w.heap.size]? = some (.stringIter ⟨l.toArray⟩ (pos + 1))) := (B3.out.block _ (by omega)).trans HII.out
          go_roundw
          case rel => exact ⟨pos + 1, pos + 1, P ++ [accL l fr pos], by omega, Nat.le_refl _, by go_num, O3.out, HI3.out, KI.out.trans (B3.out.mono (by omega)), HS.out, by simp; omega⟩
          case measure =>
            have e4 : w3.iterPos w.heap.size = pos + 1 := by simp only [World.iterPos, HI3.out]
            rw [e4, HP0.out]
            omega
        · have HS : Hid (P ++ splitA m (accL l fr (pos + 1)) (l.drop (pos + 1)) = splitA m [] l) := by
            show _ = _
            have e1 : (l.drop pos).take 1 = [c] := by rw [HR.out]; rfl
            rw [← HD.out, accL_step hfr, e1, HR.out, splitA, if_neg hcm]
          have hne : ¬ (c.toNat : Int) = (m.toNat : Int) := fun h => hcm (UInt8.toNat_inj.1 (by omega))
          go_wp2
          go_roundw
          case rel => exact ⟨pos + 1, fr, P, by omega, by omega, rfl, OI.out, HII.out, KI.out, HS.out, by omega⟩
          case measure =>
            have e4 : wi.iterPos w.heap.size = pos + 1 := by simp only [World.iterPos, HII.out]
            rw [e4, HP0.out]
            omega
      · have hnx : ∀ ty, (Instr.next (.pointer (some ⟨w.heap.size, 0, none⟩)) true ty).run Tryz.prog wr = .ok (.tuple #[.bool true, .int .i64 pos, .int .i32 (Utf8.decode ⟨l.toArray⟩ pos).1]) (wr.iterAt w.heap.size ⟨l.toArray⟩ (pos + (Utf8.decode ⟨l.toArray⟩ pos).2)) := fun ty => Lib.run_next_any_at (P := Tryz.prog) wr w.heap.size ⟨l.toArray⟩ pos ty hit hp
        have hhi := decode_high ⟨l.toArray⟩ pos hp (by rw [hsc]; omega)
        obtain ⟨hb1, hb2⟩ := high_bytes hlt (by rw [hc]; omega)
        have HS : Hid (P ++ splitA m (accL l fr (pos + (Utf8.decode ⟨l.toArray⟩ pos).2)) (l.drop (pos + (Utf8.decode ⟨l.toArray⟩ pos).2)) = splitA m [] l) := by
          show _ = _
          have e1 : l.drop pos = (l.drop pos).take (Utf8.decode ⟨l.toArray⟩ pos).2 ++ l.drop (pos + (Utf8.decode ⟨l.toArray⟩ pos).2) := by rw [← List.drop_drop, List.take_append_drop]
          rw [← HD.out, accL_step hfr, ← splitA_skip m _ _ _ (fun x hx => by have := hb2 x hx; rintro rfl; omega), ← e1]
        have hbi : Below w.heap.size w (wr.iterAt w.heap.size ⟨l.toArray⟩ (pos + (Utf8.decode ⟨l.toArray⟩ pos).2)) := Lib.below_iterAt KR.out (Nat.le_refl _) _ _
        have hii := Lib.iterAt_heap wr w.heap.size ⟨l.toArray⟩ pos (pos + (Utf8.decode ⟨l.toArray⟩ pos).2) hit
        have hoi : OwnT (wr.iterAt w.heap.size ⟨l.toArray⟩ (pos + (Utf8.decode ⟨l.toArray⟩ pos).2)) (w.heap.size + 1) u5 P := OR.out.keep fun k hk _ => Lib.iterAt_other wr w.heap.size k _ _ (by omega)
        clear hb2
        generalize wr.iterAt w.heap.size ⟨l.toArray⟩ (pos + (Utf8.decode ⟨l.toArray⟩ pos).2) = wi at hnx hbi hii hoi
        generalize (Utf8.decode ⟨l.toArray⟩ pos).1 = rn at hnx hhi
        generalize (Utf8.decode ⟨l.toArray⟩ pos).2 = wd at hhi hb1 HS hii
        have KI : Hid (Below w.heap.size w wi) := hbi
        have HII : Hid (wi.heap[w.heap.size]? = some (.stringIter ⟨l.toArray⟩ (pos + wd))) := hii
        have OI : Hid (OwnT wi (w.heap.size + 1) u5 P) := hoi
        clear hit hbi hii hsc hc hoi
        have hne : ¬ (rn : Int) = (m.toNat : Int) := by omega
        go_wp2
        go_roundw
        case rel => exact ⟨pos + wd, fr, P, hb1, by omega, rfl, OI.out, HII.out, KI.out, HS.out, by omega⟩
        case measure =>
          have e4 : wi.iterPos w.heap.size = pos + wd := by simp only [World.iterPos, HII.out]
          rw [e4, HP0.out]
          omega
    · have hnx : ∀ ty, (Instr.next (.pointer (some ⟨w.heap.size, 0, none⟩)) true ty).run Tryz.prog wr = .ok (.tuple #[.bool false]) wr := fun ty => Lib.run_next_end_at (P := Tryz.prog) wr w.heap.size ⟨l.toArray⟩ pos ty hit (by simpa [ByteArray.size] using hlt)
      have e : pos = l.length := by omega
      subst e
      have HS : Hid (P ++ [accL l fr l.length] = splitA m [] l) := by
        show _ = _
        rw [← HD.out, List.drop_length]
        rfl
      have s1 : (0 : Int) ≤ (fr : Int) := by omega
      have s2 : (fr : Int) ≤ (l.length : Int) := by omega
      go_wp2_with (at_builtin; refine app_str rfl _ _ rfl wr (accL l fr l.length) (w.heap.size + 1) u5 P rfl OR.out rfl (by omega) (by omega) ?_; intro g1 cap1 w3 ho3 hb3 hs3 hg3; have O3 := (show Hid _ from ho3); have B3 := (show Hid _ from hb3); clear ho3 hb3)
      go_ret
      have hlen : P.length + 1 = (splitA m [] l).length := by rw [← HS.out]; simp
      have O4 := O3.out
      rw [HS.out] at O4
      rw [← hlen]
      exact ⟨g1, cap1, rfl, O4, KR.out.trans (B3.out.mono (by omega)), by omega⟩

end Go.Proofs.YtajblippcnidiaaGreatDoor
