/- How the laws copy notes and sources into new memory. Conditions: each list of at most 1048576. -/
import Derived.Test.YthgefddocenjmaaDoorQuietC
import Derived.Test.YthgefddocenjmaaDoorSrcPure
import Derived.Test.YthgefddocenjmaaDoorSrcDefs
import Derived.Test.YthgefddocenjmaaDoorSrcCopy
namespace Go.Proofs.YthgefddocenjmaaDoor
set_option linter.unusedSimpArgs false
set_option linter.unusedVariables false
set_option maxRecDepth 100000
open Go.RowKit

theorem toNote_any (a b : Int) (w : World) : Calls Tryd.prog 37 #[.agg #[.int .i64 a, .int .i64 b]] w fun e w' => e = .returned (.agg #[.int .i64 a, .int .i64 b]) ∧ Below w.heap.size w w' := by
  go_enter Tryd.func37, Tryd.ntmps37
  go_wp2
  exact bodyPost_ret (v := .agg #[.int .i64 a, .int .i64 b]) (by simp [results, Tryd.results37, go_sem]) rfl ⟨rfl, (((Below.refl _ _).alloc (Nat.le_refl _) _).alloc (by simp) _).alloc (by simp; omega) _⟩

theorem mkN (n : Nat) (hn : n ≤ 1048576) (w : World) : (Instr.makeSlice 38 (.int .i64 (n : Int)) (.int .i64 (n : Int))).run Tryd.prog w = .ok (.slice (some ⟨w.heap.size, 0, none⟩) n n) (w.alloc (.cells (madeCells #[.int .i64 0, .int .i64 0] (n * 2)) 77)) := by
  have h := run_make (P := Tryd.prog) w 38 77 _ (.agg #[.int .i64 0, .int .i64 0]) Tryd.underlying38 rfl rfl .i64 .i64 n n (by omega) (Int.le_refl _) (by show (16 : Int) * _ ≤ _; omega) (by omega)
  have e : (Value.agg #[.int .i64 0, .int .i64 0]).cells = #[.int .i64 0, .int .i64 0] := rfl
  have e' : ∀ t, Tryd.prog.info? 77 = some t → t.size = 2 := by intro t h; cases h; rfl
  rw [e, e' _ rfl] at h
  simpa using h

set_option maxHeartbeats 1000000 in
theorem toNoteS_own (s : Option Addr) (c lo hi : Nat) (l : List ND) (w : World) (h : NtsR w lo hi s l) (hB : hi ≤ w.heap.size) (hl : l.length ≤ 1048576) :
    Calls Tryd.prog 17 #[.slice s l.length c] w fun e w' => e = .returned (.slice (some ⟨w.heap.size, 0, none⟩) l.length l.length) ∧ OwnD w' w.heap.size (.slice (some ⟨w.heap.size, 0, none⟩) l.length l.length) l ∧ Below w.heap.size w w' ∧ w.heap.size < w'.heap.size := by
  have hmk := mkN l.length hl
  have HC : Hid (NtsR w lo hi s l) := h
  clear h
  go_enter Tryd.func17, Tryd.ntmps17
  go_wp2
  clear hmk
  go_loopw [4] (fun i wr => ∃ k : Nat, k ≤ l.length ∧ i = .int .i64 k ∧ Below w.heap.size w wr ∧ w.heap.size < wr.heap.size ∧ wr.ownsRow w.heap.size 77 2 (.slice (some ⟨w.heap.size, 0, none⟩) l.length l.length) l.length (flatN (l.take k ++ List.replicate (l.length - k) ⟨0, 0⟩))) (fun i _ => l.length - (intOf i).toNat)
  case atStart =>
    refine ⟨0, Nat.zero_le _, rfl, (Below.refl _ _).alloc (Nat.le_refl _) _, by simp, ?_⟩
    have h0 := World.ownsRow_lit (base := w.heap.size) (e := 77) (size := 2) w (madeCells #[.int .i64 0, .int .i64 0] (l.length * 2)) l.length (Nat.le_refl _) (by unfold maxLen; omega) (size_madeCells _ _)
    rw [← flatN_rep] at h0
    simpa using h0
  case round =>
    obtain ⟨k, hk, rfl, hb, hsz, ho⟩ := hrel
    have HB : Hid (Below w.heap.size w wr) := hb
    have HO := (show Hid _ from ho)
    clear hb ho
    by_cases hlt : k < l.length
    · obtain ⟨t, ht⟩ : ∃ t, l[k]? = some t := ⟨_, List.getElem?_eq_getElem hlt⟩
      obtain ⟨g, off, hs, hg, hc⟩ : ∃ g off, s = some ⟨g, off, none⟩ ∧ g < w.heap.size ∧ NtR w g (off + k * 2) t := by
        rcases HC.out with h | ⟨g, off, a, b, d, e⟩
        · rw [h] at hlt; simp at hlt
        · exact ⟨g, off, a, by omega, e k t ht⟩
      subst hs
      have f0 := (HB.out.cell (p := ⟨g, off + k * 2, none⟩) hg).trans hc.1
      have f1 := (HB.out.cell (p := ⟨g, off + k * 2 + 1, none⟩) hg).trans hc.2
      have HT : Hid (l[k]? = some t) := ht
      clear ht hc
      obtain ⟨ta, tb⟩ := t
      simp only at f0 f1
      have b0 : (0 : Int) ≤ (k : Int) := by omega
      have b1 : (k : Int) < (l.length : Int) := by omega
      go_wp2_with fail
      refine (toNote_any ta tb _).mono ?_
      rintro e w1 ⟨rfl, hb1⟩
      have HB1 : Hid (Below wr.heap.size wr w1) := hb1
      have hlr : (l.take k ++ List.replicate (l.length - k) (⟨0, 0⟩ : ND)).length = l.length := by simp; omega
      have HO1 : Hid (w1.ownsRow w.heap.size 77 2 (.slice (some ⟨w.heap.size, 0, none⟩) l.length l.length) l.length (flatN (l.take k ++ List.replicate (l.length - k) ⟨0, 0⟩))) := ownKeep' HO.out (fun k hk => hb1.block k (World.ownsRow.lt HO.out _ hk).2)
      clear hb1 f0 f1
      have cc : ∀ j, j < 2 → ∃ u, w1.cell? ⟨w.heap.size, k * 2 + j, none⟩ = some u := fun j hj => by
        rw [World.ownsRow.cellAt HO1.out (k * 2 + j) (by omega)]
        exact ⟨_, List.getElem?_eq_getElem (by rw [flatN_len, hlr]; omega)⟩
      have hfz : ∀ j, w1.frozen? ⟨w.heap.size, j, none⟩ = false := fun j => World.ownsRow.frozenAt HO1.out j
      obtain ⟨u0, g0⟩ := cc 0 (by omega)
      obtain ⟨u1, g1⟩ := cc 1 (by omega)
      rw [Nat.add_zero] at g0
      clear cc hlr
      go_wp2
      go_roundw
      case rel =>
        have hs1 := HB1.out.size
        show ∃ k' : Nat, _ ∧ _ ∧ Below w.heap.size w (set2 w1 w.heap.size (k * 2) (.int .i64 ta) (.int .i64 tb)) ∧ _ < (set2 w1 w.heap.size (k * 2) (.int .i64 ta) (.int .i64 tb)).heap.size ∧ World.ownsRow (set2 w1 w.heap.size (k * 2) (.int .i64 ta) (.int .i64 tb)) _ _ _ _ _ _
        refine ⟨k + 1, by omega, by go_num, set2_below (HB.out.trans (HB1.out.mono (by omega))) (Nat.le_refl _), by rw [set2_size]; omega, ?_⟩
        have p := (World.ownsRow.stored (World.ownsRow.stored HO1.out (k * 2) (.int .i64 ta)).1 (k * 2 + 1) (.int .i64 tb)).1
        have e3 : l.length - k = (l.length - (k + 1)) + 1 := by omega
        have e4 : l.take (k + 1) = l.take k ++ [⟨ta, tb⟩] := by rw [List.take_add_one, HT.out]; rfl
        have e5 : (l.take k).length = k := by rw [List.length_take]; omega
        have fp := flatN_put (l.take k) (List.replicate (l.length - (k + 1)) ⟨0, 0⟩) ⟨0, 0⟩ ⟨ta, tb⟩
        rw [e5] at fp
        rw [e3, List.replicate_succ, fp] at p
        rw [e4, List.append_assoc]
        exact p
      case measure => simp [intOf]; omega
    · go_wp2
      go_ret
      have : k = l.length := by omega
      subst this
      have h1 := HO.out
      simp only [List.take_length, Nat.sub_self, List.replicate_zero, List.append_nil] at h1
      exact ⟨rfl, h1, HB.out, hsz⟩

end Go.Proofs.YthgefddocenjmaaDoor
