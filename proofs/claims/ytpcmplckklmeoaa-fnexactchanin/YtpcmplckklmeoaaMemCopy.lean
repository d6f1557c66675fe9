/- How the laws copy memories into new memory. Conditions: they are counted. -/
import Derived.Test.YtpcmplckklmeoaaMemDefs
namespace Go.Proofs.Ytpcmplckklmeoaa
set_option linter.unusedSimpArgs false
set_option linter.unusedVariables false
set_option maxRecDepth 100000
open Go.RowKit

set_option maxHeartbeats 1000000 in
theorem toWrite_own (pc : Int) (s : Option Addr) (c lo hi : Nat) (l : List Int) (w : World) (h : IntsR w lo hi s l) (hB : hi ≤ w.heap.size) (hl : l.length ≤ 1048576) :
    Calls Try.prog 50 #[.agg #[.int .i64 pc, .slice s l.length c]] w fun e w' => ∃ g, e = .returned (.agg #[.int .i64 pc, .slice (some ⟨g, 0, none⟩) l.length l.length]) ∧ OwnN w' w.heap.size (.slice (some ⟨g, 0, none⟩) l.length l.length) l ∧ Below w.heap.size w w' ∧ g < w'.heap.size ∧ w.heap.size ≤ g := by
  have HR : Hid (IntsR w lo hi s l) := h
  clear h
  go_enter Try.func50, Try.ntmps50
  go_wp2_with fail
  refine (toIntS_own s c lo hi l _ (HR.out.keep (Keep.of_below ((((Below.refl w.heap.size w).alloc (Nat.le_refl _) _).alloc (by simp) _).alloc (by simp; omega) _) hB)) (by simp; omega) hl).mono ?_
  rintro e w1 ⟨rfl, ho1, hb1, hz1⟩
  have z3 : w.heap.size + 3 < w1.heap.size := by simp at hz1; omega
  have z0 : w.heap.size < w1.heap.size := by omega
  have z1 : w.heap.size + 1 < w1.heap.size := by omega
  have z2 : w.heap.size + 1 + 1 < w1.heap.size := by omega
  have d0 : w1.cell? ⟨w.heap.size + 1, 0, none⟩ = some (.int .i64 0) := by rw [hb1.cell (by simp)]; simp [go_sem]
  have d1 : w1.cell? ⟨w.heap.size + 1, 1, none⟩ = some (.slice none 0 0) := by rw [hb1.cell (by simp)]; simp [go_sem]
  have e0 : w1.cell? ⟨w.heap.size + 1 + 1, 0, none⟩ = some (.int .i64 pc) := by rw [hb1.cell (by simp)]; simp [go_sem]
  have e1 : w1.cell? ⟨w.heap.size + 1 + 1, 1, none⟩ = some (.slice none 0 0) := by rw [hb1.cell (by simp)]; simp [go_sem]
  have y0 : ∀ j, w1.frozen? ⟨w.heap.size + 1, j, none⟩ = false := fun j => by rw [hb1.frozen (by simp)]; simp [go_sem]
  have y1 : ∀ j, w1.frozen? ⟨w.heap.size + 1 + 1, j, none⟩ = false := fun j => by rw [hb1.frozen (by simp)]; simp [go_sem]
  have k1 : Below w.heap.size w w1 := ((((Below.refl _ w).alloc (Nat.le_refl _) _).alloc (by simp) _).alloc (by simp; omega) _).trans (hb1.mono (by simp; omega))
  obtain ⟨G, hG, hGb⟩ : ∃ G, G = w.heap.size + 1 + 1 + 1 ∧ w.heap.size + 3 ≤ G := ⟨_, rfl, Nat.le_refl _⟩
  have HI : Hid (OwnN w1 w.heap.size (.slice (some ⟨G, 0, none⟩) l.length l.length) l) := by
    have h := ho1
    simp at h
    rw [hG]
    exact ownLow' h (by omega)
  have HGs : Hid (G < w1.heap.size) := by show G < w1.heap.size; omega
  have e3 : (((w.alloc (.cells #[.int .i64 pc, .slice s l.length c] 74)).alloc (.cells #[.int .i64 0, .slice none 0 0] 66)).alloc (.cells #[.int .i64 pc, .slice none 0 0] 66)).heap.size = G := by simp [hG]
  first | rw [e3] | (simp only [World.size_alloc]; rw [← hG]) | skip
  clear hb1 ho1 hz1 hG e3
  go_wp2
  have fin : ∀ k, w.heap.size + 3 ≤ k → (((w1.setCell ⟨w.heap.size + 1 + 1, 1, none⟩ (.slice (some ⟨G, 0, none⟩) l.length l.length)).setCell ⟨w.heap.size + 1, 0, none⟩ (.int .i64 pc)).setCell ⟨w.heap.size + 1, 1, none⟩ (.slice (some ⟨G, 0, none⟩) l.length l.length)).heap[k]? = w1.heap[k]? := fun k hk => by
    rw [Below.heap_setCell _ _ _ k (by simp; omega), Below.heap_setCell _ _ _ k (by simp; omega), Below.heap_setCell _ _ _ k (by simp; omega)]
  refine bodyPost_ret (v := .agg #[.int .i64 pc, .slice (some ⟨G, 0, none⟩) l.length l.length]) (by simp [results, Try.results50, go_sem, d0, d1]) rfl ⟨G, rfl, ?_, ?_, by have := HGs.out; simp; omega, by omega⟩
  · exact ownKeep' HI.out (fun k hk => fin k (by have hk2 : some G = some k := hk; injection hk2 with hk2; omega))
  · exact (((k1.setCell (p := ⟨w.heap.size + 1 + 1, 1, none⟩) (by simp; omega) _).setCell (p := ⟨w.heap.size + 1, 0, none⟩) (by simp) _).setCell (p := ⟨w.heap.size + 1, 1, none⟩) (by simp) _)

theorem mkW (n : Nat) (hn : n ≤ 1048576) (w : World) : (Instr.makeSlice 63 (.int .i64 (n : Int)) (.int .i64 (n : Int))).run Try.prog w = .ok (.slice (some ⟨w.heap.size, 0, none⟩) n n) (w.alloc (.cells (madeCells #[.int .i64 0, .slice none 0 0] (n * 2)) 66)) := by
  have h := run_make (P := Try.prog) w 63 66 _ (.agg #[.int .i64 0, .slice none 0 0]) Try.underlying63 rfl rfl .i64 .i64 n n (by omega) (Int.le_refl _) (by show (32 : Int) * _ ≤ _; omega) (by omega)
  have e : (Value.agg #[.int .i64 0, .slice none 0 0]).cells = #[.int .i64 0, .slice none 0 0] := rfl
  have e' : ∀ t, Try.prog.info? 66 = some t → t.size = 2 := by intro t h; cases h; rfl
  rw [e, e' _ rfl] at h
  simpa using h
theorem mkWW (n : Nat) (hn : n ≤ 1048576) (w : World) : (Instr.makeSlice 35 (.int .i64 (n : Int)) (.int .i64 (n : Int))).run Try.prog w = .ok (.slice (some ⟨w.heap.size, 0, none⟩) n n) (w.alloc (.cells (madeCells #[.slice none 0 0] (n * 1)) 63)) := by
  have h := run_make (P := Try.prog) w 35 63 _ (.slice none 0 0) Try.underlying35 rfl rfl .i64 .i64 n n (by omega) (Int.le_refl _) (by show (24 : Int) * _ ≤ _; omega) (by omega)
  have e : (Value.slice none 0 0).cells = #[.slice none 0 0] := rfl
  have e' : ∀ t, Try.prog.info? 63 = some t → t.size = 1 := by intro t h; cases h; rfl
  rw [e, e' _ rfl] at h
  simpa using h

def set2 (w : World) (g o : Nat) (a b : Value) : World := (w.setCell ⟨g, o, none⟩ a).setCell ⟨g, o + 1, none⟩ b
theorem set2_below {B g o : Nat} {w w' : World} {a b : Value} (h : Below B w w') (hg : B ≤ g) : Below B w (set2 w' g o a b) := (h.setCell (p := ⟨g, o, none⟩) hg _).setCell (p := ⟨g, o + 1, none⟩) hg _
theorem set2_size {g o : Nat} {w : World} {a b : Value} : (set2 w g o a b).heap.size = w.heap.size := by simp [set2]
theorem set2_block {g o k : Nat} {w : World} {a b : Value} (h : k ≠ g) : (set2 w g o a b).heap[k]? = w.heap[k]? := by
  unfold set2
  rw [Below.heap_setCell _ _ _ k h, Below.heap_setCell _ _ _ k h]
theorem set2_frozen {g o : Nat} {w : World} {a b : Value} (p : Addr) : (set2 w g o a b).frozen? p = w.frozen? p := by simp [set2, World.frozen?_setCell]
theorem set2_off {g o : Nat} {w : World} {a b : Value} (p : Addr) (h1 : p ≠ ⟨g, o, none⟩) (h2 : p ≠ ⟨g, o + 1, none⟩) : (set2 w g o a b).cell? p = w.cell? p := by
  unfold set2
  rw [World.cell?_setCell_other _ _ _ _ (fun e => h2 e.symm), World.cell?_setCell_other _ _ _ _ (fun e => h1 e.symm)]
theorem set2_at {g o : Nat} {w : World} {a b : Value} (h1 : (w.cell? ⟨g, o, none⟩).isSome = true) (h2 : (w.cell? ⟨g, o + 1, none⟩).isSome = true) : (set2 w g o a b).cell? ⟨g, o, none⟩ = some a ∧ (set2 w g o a b).cell? ⟨g, o + 1, none⟩ = some b := by
  unfold set2
  refine ⟨?_, setC_at (setC_some h2)⟩
  rw [setC_off (by omega)]
  exact setC_at h1

set_option maxHeartbeats 1000000 in
theorem toWriteS_own (s : Option Addr) (c lo hi : Nat) (l : List WD) (w : World) (h : WsR w lo hi s l) (hB : hi ≤ w.heap.size) (hl : l.length + szV l ≤ 1048576) :
    Calls Try.prog 43 #[.slice s l.length c] w fun e w' => ∃ vs, e = .returned (.slice (some ⟨w.heap.size, 0, none⟩) l.length l.length) ∧ RO w' w.heap.size w'.heap.size ⟨some ⟨w.heap.size, 0, none⟩, l.length, vs⟩ l ∧ Below w.heap.size w w' ∧ w.heap.size < w'.heap.size := by
  have hl1 : l.length ≤ 1048576 := by omega
  have hmk := mkW l.length hl1
  have HC : Hid (WsR w lo hi s l) := h
  have HLS : Hid (∀ (i : Nat) (t : WD), l[i]? = some t → t.vw.length ≤ 1048576) := fun i t ht => by have := szV_at l i t ht; omega
  clear h hl
  go_enter Try.func43, Try.ntmps43
  go_wp2
  clear hmk
  go_loopw [4] (fun i wr => ∃ k : Nat, k ≤ l.length ∧ i = .int .i64 k ∧ Below w.heap.size w wr ∧ w.heap.size < wr.heap.size ∧ (∀ j, j < l.length * 2 → (wr.cell? ⟨w.heap.size, j, none⟩).isSome = true) ∧ (∀ j, wr.frozen? ⟨w.heap.size, j, none⟩ = false) ∧ ∃ vs, RO wr w.heap.size wr.heap.size ⟨some ⟨w.heap.size, 0, none⟩, l.length, vs⟩ (l.take k)) (fun i _ => l.length - (intOf i).toNat)
  case atStart =>
    exact ⟨0, Nat.zero_le _, rfl, (Below.refl _ _).alloc (Nat.le_refl _) _, by simp, fun j hj => new_cell (by rw [size_madeCells]; omega), fun j => new_frozen, [], RO.nil _ _ _ _ _⟩
  case round =>
    obtain ⟨k, hk, rfl, hb, hsz, hso, hfz, vs, hro⟩ := hrel
    have HB : Hid (Below w.heap.size w wr) := hb
    have HSO : Hid (∀ j, j < l.length * 2 → (wr.cell? ⟨w.heap.size, j, none⟩).isSome = true) := hso
    have HFZ : Hid (∀ j, wr.frozen? ⟨w.heap.size, j, none⟩ = false) := hfz
    have HRO : Hid (RO wr w.heap.size wr.heap.size ⟨some ⟨w.heap.size, 0, none⟩, l.length, vs⟩ (l.take k)) := hro
    clear hb hso hfz hro
    by_cases hlt : k < l.length
    · obtain ⟨t, ht⟩ : ∃ t, l[k]? = some t := ⟨_, List.getElem?_eq_getElem hlt⟩
      obtain ⟨g, off, s1, c1, hs, hg1, hg, f0, f1, hin⟩ := (HC.out.keep (Keep.of_below HB.out hB)).at ht
      subst hs
      have hlen := HLS.out k t ht
      have HT : Hid (l.take (k + 1) = l.take k ++ [t]) := by show l.take (k + 1) = l.take k ++ [t]; rw [List.take_add_one, ht]; rfl
      have TL : Hid ((l.take k).length = k) := by show (l.take k).length = k; simp; omega
      obtain ⟨v, rg⟩ := t
      simp only at f0 f1 hin hlen
      have HIN : Hid (IntsR wr lo hi s1 rg) := hin
      clear ht hin
      have b0 : (0 : Int) ≤ (k : Int) := by omega
      have b1 : (k : Int) < (l.length : Int) := by omega
      go_wp2_with fail
      refine (toWrite_own v s1 c1 lo hi rg wr HIN.out (by omega) hlen).mono ?_
      rintro e w1 ⟨G, rfl, ho1, hb1, hz1, hG⟩
      have HB1 : Hid (Below wr.heap.size wr w1) := hb1
      have HO1 : Hid (OwnN w1 wr.heap.size (.slice (some ⟨G, 0, none⟩) rg.length rg.length) rg) := ho1
      have HG : Hid (wr.heap.size ≤ G ∧ G < w1.heap.size) := ⟨hG, hz1⟩
      have HSO1 : Hid (∀ j, j < l.length * 2 → (w1.cell? ⟨w.heap.size, j, none⟩).isSome = true) := fun j hj => by rw [hb1.cell (p := ⟨w.heap.size, j, none⟩) hsz]; exact HSO.out j hj
      have hfz : ∀ j, w1.frozen? ⟨w.heap.size, j, none⟩ = false := fun j => by rw [hb1.frozen (p := ⟨w.heap.size, j, none⟩) hsz]; exact HFZ.out j
      obtain ⟨u0, g0⟩ := Option.isSome_iff_exists.1 (HSO1.out (k * 2) (by omega))
      obtain ⟨u1, g1⟩ := Option.isSome_iff_exists.1 (HSO1.out (k * 2 + 1) (by omega))
      clear hb1 ho1 hG hz1 f0 f1
      go_wp2
      go_roundw
      case rel =>
        have hs1 := HB1.out.size
        have hg := HG.out
        show ∃ k' : Nat, _ ∧ _ ∧ Below w.heap.size w (set2 w1 w.heap.size (k * 2) (.int .i64 v) (.slice (some ⟨G, 0, none⟩) rg.length rg.length)) ∧ _ < (set2 w1 w.heap.size (k * 2) (.int .i64 v) (.slice (some ⟨G, 0, none⟩) rg.length rg.length)).heap.size ∧ (∀ j, _ → ((set2 w1 w.heap.size (k * 2) (.int .i64 v) (.slice (some ⟨G, 0, none⟩) rg.length rg.length)).cell? _).isSome = true) ∧ (∀ j, (set2 w1 w.heap.size (k * 2) (.int .i64 v) (.slice (some ⟨G, 0, none⟩) rg.length rg.length)).frozen? _ = false) ∧ ∃ vs', RO (set2 w1 w.heap.size (k * 2) (.int .i64 v) (.slice (some ⟨G, 0, none⟩) rg.length rg.length)) _ (set2 w1 w.heap.size (k * 2) (.int .i64 v) (.slice (some ⟨G, 0, none⟩) rg.length rg.length)).heap.size _ _
        have ats := set2_at (w := w1) (g := w.heap.size) (o := k * 2) (a := .int .i64 v) (b := .slice (some ⟨G, 0, none⟩) rg.length rg.length) (by rw [g0]; rfl) (by rw [g1]; rfl)
        refine ⟨k + 1, by omega, by go_num, set2_below (HB.out.trans (HB1.out.mono (by omega))) (Nat.le_refl _), by rw [set2_size]; omega, fun j hj => setC_some (setC_some (HSO1.out j hj)), fun j => by rw [set2_frozen]; exact hfz j, vs ++ [⟨some ⟨G, 0, none⟩, rg.length, rg.length⟩], ?_⟩
        rw [HT.out, set2_size]
        have hr := (HRO.out.keep (Keep.of_below HB1.out (Nat.le_refl _))).mono (Nat.le_refl _) hs1
        have tl := TL.out
        refine RO.push (w := w1) ⟨some ⟨G, 0, none⟩, rg.length, rg.length⟩ ⟨v, rg⟩ hr ⟨Nat.le_refl _, by omega⟩ (fun a h1 h2 => ⟨set2_off a (by rw [tl, Nat.zero_add] at h1; exact h1) (by rw [tl, Nat.zero_add] at h2; exact h2), set2_frozen a⟩) ?_ ?_ ?_ ?_ ?_ (vAs_nodup (g := G) (o := 0) rfl) ?_
        · rw [tl, Nat.zero_add]; exact ats.1
        · rw [set2_frozen]; exact hfz _
        · rw [tl, Nat.zero_add]; exact ats.2
        · exact vAs_of_ints (ownKeep' HO1.out (fun b hb => set2_block (by have hb2 : some G = some b := hb; injection hb2 with hb2; omega))) (by omega) hg.2
        · intro a ha
          obtain ⟨i, -, rfl⟩ := mem_vAs.1 ha
          show G ≠ _
          omega
        · intro x' hx' a ha ha'
          obtain ⟨i, -, rfl⟩ := mem_vAs.1 ha'
          have hm : adr (some ⟨G, 0, none⟩) i ∈ rAs (some ⟨w.heap.size, 0, none⟩) vs 0 := mem_rAs.2 (.inr ⟨x', hx', ha⟩)
          have := (HRO.out.blk (a := adr (some ⟨G, 0, none⟩) i) hm).2
          have h9 : G < wr.heap.size := this
          omega
      case measure => simp [intOf]; omega
    · go_wp2
      go_ret
      have : k = l.length := by omega
      subst this
      have h1 := HRO.out
      rw [List.take_length] at h1
      exact ⟨vs, rfl, h1, HB.out, hsz⟩

set_option maxHeartbeats 1000000 in
theorem toWriteSS_own (s : Option Addr) (c lo hi : Nat) (m : List (List WD)) (w : World) (h : MemR w lo hi s m) (hB : hi ≤ w.heap.size) (hl : MFits m) :
    Calls Try.prog 30 #[.slice s m.length c] w fun e w' => ∃ S, e = .returned (.slice (some ⟨w.heap.size, 0, none⟩) m.length m.length) ∧ MO w' w.heap.size w'.heap.size (some ⟨w.heap.size, 0, none⟩) S m ∧ Below w.heap.size w w' ∧ w.heap.size < w'.heap.size := by
  have hl1 := hl.n
  have hmk := mkWW m.length hl1
  have HC : Hid (MemR w lo hi s m) := h
  have HLS : Hid (∀ (i : Nat) (t : List WD), m[i]? = some t → t.length + szV t ≤ 1048576) := fun i t ht => hl.r ht
  clear h hl
  go_enter Try.func30, Try.ntmps30
  go_wp2
  clear hmk
  go_loopw [4] (fun i wr => ∃ k : Nat, k ≤ m.length ∧ i = .int .i64 k ∧ Below w.heap.size w wr ∧ w.heap.size < wr.heap.size ∧ (∀ j, j < m.length → (wr.cell? ⟨w.heap.size, j, none⟩).isSome = true) ∧ (∀ j, wr.frozen? ⟨w.heap.size, j, none⟩ = false) ∧ ∃ S, MO wr w.heap.size wr.heap.size (some ⟨w.heap.size, 0, none⟩) S (m.take k) ∧ ∀ a ∈ mAs S, a.block ≠ w.heap.size) (fun i _ => m.length - (intOf i).toNat)
  case atStart =>
    exact ⟨0, Nat.zero_le _, rfl, (Below.refl _ _).alloc (Nat.le_refl _) _, by simp, fun j hj => new_cell (by rw [size_madeCells]; omega), fun j => new_frozen, [], MO.nil _ _ _ _, fun a ha => by simp [mAs] at ha⟩
  case round =>
    obtain ⟨k, hk, rfl, hb, hsz, hso, hfz, S, hro, hne⟩ := hrel
    have HB : Hid (Below w.heap.size w wr) := hb
    have HSO : Hid (∀ j, j < m.length → (wr.cell? ⟨w.heap.size, j, none⟩).isSome = true) := hso
    have HFZ : Hid (∀ j, wr.frozen? ⟨w.heap.size, j, none⟩ = false) := hfz
    have HRO : Hid (MO wr w.heap.size wr.heap.size (some ⟨w.heap.size, 0, none⟩) S (m.take k)) := hro
    have HNE : Hid (∀ a ∈ mAs S, a.block ≠ w.heap.size) := hne
    clear hb hso hfz hro hne
    by_cases hlt : k < m.length
    · obtain ⟨t, ht⟩ : ∃ t, m[k]? = some t := ⟨_, List.getElem?_eq_getElem hlt⟩
      obtain ⟨g, off, s1, c1, hs, hg1, hg, f0, hin⟩ := (HC.out.keep (Keep.of_below HB.out hB)).row ht
      subst hs
      have HL : Hid (t.length + szV t ≤ 1048576) := HLS.out k t ht
      have HT : Hid (m.take (k + 1) = m.take k ++ [t]) := by show m.take (k + 1) = m.take k ++ [t]; rw [List.take_add_one, ht]; rfl
      have TL : Hid ((m.take k).length = k) := by show (m.take k).length = k; simp; omega
      have HIN : Hid (WsR wr lo hi s1 t) := hin
      clear ht hin
      have b0 : (0 : Int) ≤ (k : Int) := by omega
      have b1 : (k : Int) < (m.length : Int) := by omega
      go_wp2_with fail
      refine (toWriteS_own s1 c1 lo hi t wr HIN.out (by omega) HL.out).mono ?_
      rintro e w1 ⟨vs, rfl, ho1, hb1, hz1⟩
      have HB1 : Hid (Below wr.heap.size wr w1) := hb1
      have HO1 : Hid (RO w1 wr.heap.size w1.heap.size ⟨some ⟨wr.heap.size, 0, none⟩, t.length, vs⟩ t) := ho1
      have HSO1 : Hid (∀ j, j < m.length → (w1.cell? ⟨w.heap.size, j, none⟩).isSome = true) := fun j hj => by rw [hb1.cell (p := ⟨w.heap.size, j, none⟩) hsz]; exact HSO.out j hj
      have hfz : ∀ j, w1.frozen? ⟨w.heap.size, j, none⟩ = false := fun j => by rw [hb1.frozen (p := ⟨w.heap.size, j, none⟩) hsz]; exact HFZ.out j
      obtain ⟨u0, g0⟩ := Option.isSome_iff_exists.1 (HSO1.out k (by omega))
      have HZ1 : Hid (wr.heap.size < w1.heap.size) := hz1
      clear hb1 ho1 f0 hz1
      go_wp2
      go_roundw
      case rel =>
        have hs1 := HB1.out.size
        have tl := TL.out
        have hz := HZ1.out
        have n1 := HO1.out.n
        simp only at n1
        have at0 : (w1.setCell ⟨w.heap.size, k, none⟩ (.slice (some ⟨wr.heap.size, 0, none⟩) t.length t.length)).cell? ⟨w.heap.size, k, none⟩ = some (.slice (some ⟨wr.heap.size, 0, none⟩) t.length t.length) := setC_at (by rw [g0]; rfl)
        have kp : Keep (w.heap.size + 1) w1.heap.size w1 (w1.setCell ⟨w.heap.size, k, none⟩ (.slice (some ⟨wr.heap.size, 0, none⟩) t.length t.length)) := fun b h1 h2 => Below.heap_setCell _ _ _ b (by show b ≠ w.heap.size; omega)
        have hr1 : RO (w1.setCell ⟨w.heap.size, k, none⟩ (.slice (some ⟨wr.heap.size, 0, none⟩) t.length t.length)) w.heap.size w1.heap.size ⟨some ⟨wr.heap.size, 0, none⟩, t.length, vs⟩ t := ((HO1.out.mono (lo' := w.heap.size + 1) (by omega) (Nat.le_refl _)).keep kp).mono (by omega) (Nat.le_refl _)
        refine ⟨k + 1, by omega, by go_num, (HB.out.trans (HB1.out.mono (by omega))).setCell (p := ⟨w.heap.size, k, none⟩) (Nat.le_refl _) _, by simp; omega, fun j hj => setC_some (HSO1.out j hj), fun j => by rw [World.frozen?_setCell]; exact hfz j, S ++ [⟨some ⟨wr.heap.size, 0, none⟩, t.length, vs⟩], ?_, ?_⟩
        · rw [HT.out]
          have e9 : (w1.setCell ⟨w.heap.size, k, none⟩ (.slice (some ⟨wr.heap.size, 0, none⟩) t.length t.length)).heap.size = w1.heap.size := by simp
          rw [e9]
          have hm1 := (HRO.out.keep (Keep.of_below HB1.out (Nat.le_refl _))).mono (Nat.le_refl _) hs1
          refine MO.push (w := w1) ⟨some ⟨wr.heap.size, 0, none⟩, t.length, vs⟩ t hm1 ⟨Nat.le_refl _, by omega⟩ (fun i hi' => setC_off (by rw [tl] at hi'; omega)) (fun i r' l' e1 e2 => ?_) ?_ hr1 ?_
          · have hh := hm1.r i r' l' e1 e2
            exact hh.far (fun a ha => HNE.out a (mem_mAs.2 ⟨r', List.mem_of_getElem? e1, ha⟩)) (fun b hb => Below.heap_setCell _ _ _ b hb)
          · rw [tl, Nat.zero_add, at0]
            rw [← n1]
          · intro a ha ha'
            have h1 := (HRO.out.blk ha).2
            have h2 := (HO1.out.blk ha').1
            omega
        · intro a ha
          rw [mAs_app] at ha
          rcases List.mem_append.1 ha with ha | ha
          · exact HNE.out a ha
          · have h2 := (HO1.out.blk ha).1
            omega
      case measure => simp [intOf]; omega
    · go_wp2
      go_ret
      have : k = m.length := by omega
      subst this
      have h1 := HRO.out
      rw [List.take_length] at h1
      exact ⟨S, rfl, h1, HB.out, hsz⟩

set_option maxHeartbeats 1000000 in
theorem toMemory_own (s : Option Addr) (c lo hi : Nat) (m : List (List WD)) (w : World) (h : MemR w lo hi s m) (hB : hi ≤ w.heap.size) (hl : MFits m) :
    Calls Try.prog 12 #[.agg #[.slice s m.length c]] w fun e w' => ∃ G S, e = .returned (.agg #[.slice (some ⟨G, 0, none⟩) m.length m.length]) ∧ MO w' w.heap.size w'.heap.size (some ⟨G, 0, none⟩) S m ∧ Below w.heap.size w w' ∧ w.heap.size < w'.heap.size := by
  have HR : Hid (MemR w lo hi s m) := h
  clear h
  go_enter Try.func12, Try.ntmps12
  go_wp2_with fail
  have k0 : Below w.heap.size w (((w.alloc (.cells #[.slice s m.length c] 29)).alloc (.cells #[.slice none 0 0] 37)).alloc (.cells #[.slice none 0 0] 37)) := (((Below.refl w.heap.size w).alloc (Nat.le_refl _) _).alloc (by simp) _).alloc (by simp; omega) _
  refine (toWriteSS_own s c lo hi m _ (HR.out.keep (Keep.of_below k0 hB)) (by simp; omega) hl).mono ?_
  rintro e w1 ⟨S, rfl, ho1, hb1, hz1⟩
  have z3 : w.heap.size + 3 < w1.heap.size := by simp at hz1; omega
  have z1 : w.heap.size + 1 < w1.heap.size := by omega
  have z2 : w.heap.size + 1 + 1 < w1.heap.size := by omega
  have d0 : w1.cell? ⟨w.heap.size + 1, 0, none⟩ = some (.slice none 0 0) := by rw [hb1.cell (by simp)]; simp [go_sem]
  have e0 : w1.cell? ⟨w.heap.size + 1 + 1, 0, none⟩ = some (.slice none 0 0) := by rw [hb1.cell (by simp)]; simp [go_sem]
  have y0 : ∀ j, w1.frozen? ⟨w.heap.size + 1, j, none⟩ = false := fun j => by rw [hb1.frozen (by simp)]; simp [go_sem]
  have y1 : ∀ j, w1.frozen? ⟨w.heap.size + 1 + 1, j, none⟩ = false := fun j => by rw [hb1.frozen (by simp)]; simp [go_sem]
  have k1 : Below w.heap.size w w1 := k0.trans (hb1.mono (by simp; omega))
  obtain ⟨G, hG, hGb⟩ : ∃ G, G = w.heap.size + 1 + 1 + 1 ∧ w.heap.size + 3 ≤ G := ⟨_, rfl, Nat.le_refl _⟩
  have HI : Hid (MO w1 G w1.heap.size (some ⟨G, 0, none⟩) S m) := by
    have h := ho1
    simp at h
    rw [hG]
    exact h
  have e3 : (((w.alloc (.cells #[.slice s m.length c] 29)).alloc (.cells #[.slice none 0 0] 37)).alloc (.cells #[.slice none 0 0] 37)).heap.size = G := by simp [hG]
  first | rw [e3] | (simp only [World.size_alloc]; rw [← hG]) | skip
  clear hb1 ho1 hz1 hG e3 k0
  go_wp2
  refine bodyPost_ret (v := .agg #[.slice (some ⟨G, 0, none⟩) m.length m.length]) (by simp [results, Try.results12, go_sem, d0]) rfl ⟨G, S, rfl, ?_, ?_, by simp; omega⟩
  · refine (MO.mono (lo := G) (hi := w1.heap.size) ?_ (by omega) (by simp))
    exact HI.out.keep (fun k h1 h2 => by rw [Below.heap_setCell _ _ _ k (by simp; omega), Below.heap_setCell _ _ _ k (by simp; omega)])
  · exact (k1.setCell (p := ⟨w.heap.size + 1 + 1, 0, none⟩) (by simp; omega) _).setCell (p := ⟨w.heap.size + 1, 0, none⟩) (by simp) _

end Go.Proofs.Ytpcmplckklmeoaa
