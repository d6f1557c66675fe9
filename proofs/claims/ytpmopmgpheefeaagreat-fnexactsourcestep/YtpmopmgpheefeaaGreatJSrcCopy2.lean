/- How the laws copy notes and sources into new memory. Conditions: each list of at most 1048576. -/
import Derived.Test.YtpmopmgpheefeaaGreatJG00
import Derived.Test.YtpmopmgpheefeaaGreatJG04
import Derived.Test.YtpmopmgpheefeaaGreatJSrcCopy
namespace Go.Proofs.YtpmopmgpheefeaaGreat
set_option linter.unusedSimpArgs false
set_option linter.unusedVariables false
set_option maxRecDepth 100000
open Go.RowKit
theorem toNote_any (a b : Int) (w : World) : Calls Tryz.prog 57 #[.agg #[.int .i64 a, .int .i64 b]] w fun e w' => e = .returned (.agg #[.int .i64 a, .int .i64 b]) ∧ Below w.heap.size w w' := by
 go_enter Tryz.func57, Tryz.ntmps57
 go_wp2
 exact bodyPost_ret (v := .agg #[.int .i64 a, .int .i64 b]) (by simp [results, Tryz.results57, go_sem]) rfl ⟨rfl, (((Below.refl _ _).alloc (Nat.le_refl _) _).alloc (by simp) _).alloc (by simp; omega) _⟩
theorem mkN (n : Nat) (hn : n ≤ 1048576) (w : World) : (Instr.makeSlice 35 (.int .i64 (n : Int)) (.int .i64 (n : Int))).run Tryz.prog w = .ok (.slice (some ⟨w.heap.size, 0, none⟩) n n) (w.alloc (.cells (madeCells #[.int .i64 0, .int .i64 0] (n * 2)) 88)) := by
 have h := run_make (P := Tryz.prog) w 35 88 _ (.agg #[.int .i64 0, .int .i64 0]) Tryz.underlying35 rfl rfl .i64 .i64 n n (by omega) (Int.le_refl _) (by show (16 : Int) * _ ≤ _; omega) (by omega)
 have e : (Value.agg #[.int .i64 0, .int .i64 0]).cells = #[.int .i64 0, .int .i64 0] := rfl
 have e' : ∀ t, Tryz.prog.info? 88 = some t → t.size = 2 := by intro t h; cases h; rfl
 rw [e, e' _ rfl] at h
 simpa using h
set_option maxHeartbeats 1000000 in
theorem toNoteS_own (s : Option Addr) (c lo hi : Nat) (l : List ND) (w : World) (h : NtsR w lo hi s l) (hB : hi ≤ w.heap.size) (hl : l.length ≤ 1048576) :
  Calls Tryz.prog 28 #[.slice s l.length c] w fun e w' => e = .returned (.slice (some ⟨w.heap.size, 0, none⟩) l.length l.length) ∧ OwnD w' w.heap.size (.slice (some ⟨w.heap.size, 0, none⟩) l.length l.length) l ∧ Below w.heap.size w w' ∧ w.heap.size < w'.heap.size := by
 have hmk := mkN l.length hl
 have HC : Hid (NtsR w lo hi s l) := h
 clear h
 go_enter Tryz.func28, Tryz.ntmps28
 go_wp2
 clear hmk
 go_loopw [4] (fun i wr => ∃ k : Nat, k ≤ l.length ∧ i = .int .i64 k ∧ Below w.heap.size w wr ∧ w.heap.size < wr.heap.size ∧ wr.ownsRow w.heap.size 88 2 (.slice (some ⟨w.heap.size, 0, none⟩) l.length l.length) l.length (flatN (l.take k ++ List.replicate (l.length - k) ⟨0, 0⟩))) (fun i _ => l.length - (intOf i).toNat)
 case atStart =>
  refine ⟨0, Nat.zero_le _, rfl, (Below.refl _ _).alloc (Nat.le_refl _) _, by simp, ?_⟩
  have h0 := World.ownsRow_lit (base := w.heap.size) (e := 88) (size := 2) w (madeCells #[.int .i64 0, .int .i64 0] (l.length * 2)) l.length (Nat.le_refl _) (by unfold maxLen; omega) (size_madeCells _ _)
  rw [← flatN_rep] at h0
  simpa using h0
 case round =>
  obtain ⟨k, hk, rfl, hb, hsz, ho⟩ := hrel
  have HB : Hid (Below w.heap.size w wr) := hb
  have HO := (show Hid _ from ho)
  clear hb ho
  by_cases hlt : k < l.length
  ·obtain ⟨t, ht⟩ : ∃ t, l[k]? = some t := ⟨_, List.getElem?_eq_getElem hlt⟩
   obtain ⟨g, off, hs, hg, hc⟩ : ∃ g off, s = some ⟨g, off, none⟩ ∧ g < w.heap.size ∧ NtR w g (off + k * 2) t := by
    rcases HC.out with h | ⟨g, off, a, b, d, e⟩
    ·rw [h] at hlt; simp at hlt
    ·exact ⟨g, off, a, by omega, e k t ht⟩
   subst hs
   have f0 := (HB.out.cell (p := ⟨g, off + k * 2, none⟩) hg).trans hc.1
   have f1 := (HB.out.cell (p := ⟨g, off + k * 2 + 1, none⟩) hg).trans hc.2
   have HT : Hid (l[k]? = some t) := ht
   clear ht hc
   obtain ⟨ta, tb⟩ := t
   simp only at f0 f1
   have b0 : (0 : Int) ≤ (k : Int) := by omega
   have b1 : (k : Int) < (l.length : Int) := by omega
   go_wp2_with fail
   refine (toNote_any ta tb _).mono ?_
   rintro e w1 ⟨rfl, hb1⟩
   have HB1 : Hid (Below wr.heap.size wr w1) := hb1
   have hlr : (l.take k ++ List.replicate (l.length - k) (⟨0, 0⟩ : ND)).length = l.length := by simp; omega
   have HO1 : Hid (w1.ownsRow w.heap.size 88 2 (.slice (some ⟨w.heap.size, 0, none⟩) l.length l.length) l.length (flatN (l.take k ++ List.replicate (l.length - k) ⟨0, 0⟩))) := ownKeep' HO.out (fun k hk => hb1.block k (World.ownsRow.lt HO.out _ hk).2)
   clear hb1 f0 f1
   have cc : ∀ j, j < 2 → ∃ u, w1.cell? ⟨w.heap.size, k * 2 + j, none⟩ = some u := fun j hj => by
    rw [World.ownsRow.cellAt HO1.out (k * 2 + j) (by omega)]
    exact ⟨_, List.getElem?_eq_getElem (by rw [flatN_len, hlr]; omega)⟩
   have hfz : ∀ j, w1.frozen? ⟨w.heap.size, j, none⟩ = false := fun j => World.ownsRow.frozenAt HO1.out j
   obtain ⟨u0, g0⟩ := cc 0 (by omega)
   obtain ⟨u1, g1⟩ := cc 1 (by omega)
   rw [Nat.add_zero] at g0
   clear cc hlr
   go_wp2
   go_roundw
   case rel =>
    have hs1 := HB1.out.size
    show ∃ k' : Nat, _ ∧ _ ∧ Below w.heap.size w (set2 w1 w.heap.size (k * 2) (.int .i64 ta) (.int .i64 tb)) ∧ _ < (set2 w1 w.heap.size (k * 2) (.int .i64 ta) (.int .i64 tb)).heap.size ∧ World.ownsRow (set2 w1 w.heap.size (k * 2) (.int .i64 ta) (.int .i64 tb)) _ _ _ _ _ _
    refine ⟨k + 1, by omega, by go_num, set2_below (HB.out.trans (HB1.out.mono (by omega))) (Nat.le_refl _), by rw [set2_size]; omega, ?_⟩
    have p := (World.ownsRow.stored (World.ownsRow.stored HO1.out (k * 2) (.int .i64 ta)).1 (k * 2 + 1) (.int .i64 tb)).1
    have e3 : l.length - k = (l.length - (k + 1)) + 1 := by omega
    have e4 : l.take (k + 1) = l.take k ++ [⟨ta, tb⟩] := by rw [List.take_add_one, HT.out]; rfl
    have e5 : (l.take k).length = k := by rw [List.length_take]; omega
    have fp := flatN_put (l.take k) (List.replicate (l.length - (k + 1)) ⟨0, 0⟩) ⟨0, 0⟩ ⟨ta, tb⟩
    rw [e5] at fp
    rw [e3, List.replicate_succ, fp] at p
    rw [e4, List.append_assoc]
    exact p
   case measure => simp [intOf]; omega
  ·go_wp2
   go_ret
   have : k = l.length := by omega
   subst this
   have h1 := HO.out
   simp only [List.take_length, Nat.sub_self, List.replicate_zero, List.append_nil] at h1
   exact ⟨rfl, h1, HB.out, hsz⟩
set_option maxHeartbeats 2000000 in
theorem toSource_own (s1 s2 s3 : Option Addr) (c1 c2 c3 lo hi : Nat) (d : SD) (w : World) (h : SrcR w lo hi s1 s2 s3 d) (hB : hi ≤ w.heap.size) (hf : SFits d) :
  Calls Tryz.prog 8 #[.agg #[.slice s1 d.ths.length c1, .slice s2 d.chs.length c2, .slice s3 d.tr.length c3]] w fun e w' => ∃ v1 v2 v3 L1 L2, e = .returned (.agg #[v1, v2, v3]) ∧ OwnS w' w.heap.size v1 v2 v3 L1 L2 d ∧ Below w.heap.size w w' ∧ w.heap.size < w'.heap.size := by
 obtain ⟨h1, h2, h3⟩ := h
 obtain ⟨⟨q1, q1'⟩, ⟨q2, q2'⟩, q3⟩ := hf
 have H1 : Hid (RecsR w lo hi s1 (d.ths.map TD.rec3)) := h1
 have H2 : Hid (RecsR w lo hi s2 (d.chs.map CD.rec3)) := h2
 have H3 : Hid (NtsR w lo hi s3 d.tr) := h3
 have Q1 : Hid (∀ (i : Nat) (t : TD), d.ths[i]? = some t → t.regs.length ≤ 1048576) := q1'
 have Q2 : Hid (∀ (i : Nat) (t : CD), d.chs[i]? = some t → t.list.length ≤ 1048576) := q2'
 clear h1 h2 h3 q1' q2'
 go_enter Tryz.func8, Tryz.ntmps8
 go_wp2_with fail
 have k3 : Below w.heap.size w (((w.alloc (.cells #[.slice s1 d.ths.length c1, .slice s2 d.chs.length c2, .slice s3 d.tr.length c3] 30)).alloc (.cells #[.slice none 0 0, .slice none 0 0, .slice none 0 0] 37)).alloc (.cells #[.slice none 0 0, .slice none 0 0, .slice none 0 0] 37)) := (((Below.refl _ _).alloc (Nat.le_refl _) _).alloc (by simp) _).alloc (by simp; omega) _
 refine (toThreadS_own s1 c1 lo hi d.ths _ (H1.out.keep (Keep.of_below k3 hB)) (by simp; omega) q1 Q1.out).mono ?_
 rintro e w1 ⟨L1, rfl, m1, o1, hb1, hz1⟩
 have a1 : w1.cell? ⟨w.heap.size, 1, none⟩ = some (.slice s2 d.chs.length c2) := by rw [hb1.cell (by simp; omega)]; simp [go_sem]
 have a2 : w1.cell? ⟨w.heap.size, 2, none⟩ = some (.slice s3 d.tr.length c3) := by rw [hb1.cell (by simp; omega)]; simp [go_sem]
 have d0 : ∀ j, j < 3 → w1.cell? ⟨w.heap.size + 1, j, none⟩ = some (.slice none 0 0) := fun j hj => by rw [hb1.cell (by simp)]; rcases (show j = 0 ∨ j = 1 ∨ j = 2 by omega) with rfl | rfl | rfl <;> simp [go_sem]
 have e0 : ∀ j, j < 3 → w1.cell? ⟨w.heap.size + 1 + 1, j, none⟩ = some (.slice none 0 0) := fun j hj => by rw [hb1.cell (by simp)]; rcases (show j = 0 ∨ j = 1 ∨ j = 2 by omega) with rfl | rfl | rfl <;> simp [go_sem]
 have y0 : ∀ j, w1.frozen? ⟨w.heap.size + 1, j, none⟩ = false := fun j => by rw [hb1.frozen (by simp)]; simp [go_sem]
 have y1 : ∀ j, w1.frozen? ⟨w.heap.size + 1 + 1, j, none⟩ = false := fun j => by rw [hb1.frozen (by simp)]; simp [go_sem]
 have hz1' : w.heap.size + 3 < w1.heap.size := by simp at hz1; omega
 have k1 : Below w.heap.size w w1 := k3.trans (hb1.mono (by simp; omega))
 obtain ⟨A1, hv1⟩ : ∃ v, v = (some ⟨w.heap.size + 1 + 1 + 1, 0, none⟩ : Option Addr) := ⟨_, rfl⟩
 have HO1 : Hid (OwnQ w1 (w.heap.size + 3) 59 (.slice A1 d.ths.length d.ths.length) L1) := by have h := o1; simp at h; rw [hv1]; exact h
 have M1 : Hid (L1.map Prod.fst = d.ths.map TD.rec3) := m1
 simp only [World.size_alloc]
 rw [← hv1]
 clear hb1 hz1 o1 m1 k3 hv1
 have i0 := e0 0 (by omega)
 have i1 := e0 1 (by omega)
 have i2 := e0 2 (by omega)
 go_wp2_with fail
 have kset : Below w.heap.size w (w1.setCell ⟨w.heap.size + 1 + 1, 0, none⟩ (.slice A1 d.ths.length d.ths.length)) := k1.setCell (p := ⟨w.heap.size + 1 + 1, 0, none⟩) (by simp; omega) _
 refine (toChanS_own s2 c2 lo hi d.chs _ (H2.out.keep (Keep.of_below kset hB)) (by simp; omega) q2 Q2.out).mono ?_
 rintro e w2 ⟨L2, rfl, m2, o2, hb2, hz2⟩
 have hz2' : w1.heap.size < w2.heap.size := by simpa using hz2
 have a2' : w2.cell? ⟨w.heap.size, 2, none⟩ = some (.slice s3 d.tr.length c3) := (hb2.cell (by simp; omega)).trans ((setC_blk (by omega)).trans a2)
 have d0' : ∀ j, j < 3 → w2.cell? ⟨w.heap.size + 1, j, none⟩ = some (.slice none 0 0) := fun j hj => (hb2.cell (by simp; omega)).trans ((setC_blk (by omega)).trans (d0 j hj))
 have f0 : w2.cell? ⟨w.heap.size + 1 + 1, 0, none⟩ = some (.slice A1 d.ths.length d.ths.length) := (hb2.cell (by simp; omega)).trans (setC_at (by rw [i0]; rfl))
 have f1 : w2.cell? ⟨w.heap.size + 1 + 1, 1, none⟩ = some (.slice none 0 0) := (hb2.cell (by simp; omega)).trans ((setC_off (by omega)).trans i1)
 have f2 : w2.cell? ⟨w.heap.size + 1 + 1, 2, none⟩ = some (.slice none 0 0) := (hb2.cell (by simp; omega)).trans ((setC_off (by omega)).trans i2)
 have y0' : ∀ j, w2.frozen? ⟨w.heap.size + 1, j, none⟩ = false := fun j => by rw [hb2.frozen (by simp; omega), World.frozen?_setCell]; exact y0 j
 have y1' : ∀ j, w2.frozen? ⟨w.heap.size + 1 + 1, j, none⟩ = false := fun j => by rw [hb2.frozen (by simp; omega), World.frozen?_setCell]; exact y1 j
 have k2 : Below w.heap.size w w2 := kset.trans (hb2.mono (by simp; omega))
 have HO1' : Hid (OwnQ w2 (w.heap.size + 3) 59 (.slice A1 d.ths.length d.ths.length) L1) := HO1.out.keep (fun k hk hk' => (hb2.block k (by simp; omega)).trans (Below.heap_setCell _ _ _ k (by simp; omega)))
 have SP : Hid (∀ (i j : Nat) (x y : Rec × Value) (k : Nat), L1[i]? = some x → L2[j]? = some y → x.2.ownBlock = some k → y.2.ownBlock ≠ some k) := sepQ HO1.out o2 (by simp)
 obtain ⟨A2, hv2⟩ : ∃ v, v = (some ⟨w1.heap.size, 0, none⟩ : Option Addr) := ⟨_, rfl⟩
 have HO2 : Hid (OwnQ w2 w1.heap.size 86 (.slice A2 d.chs.length d.chs.length) L2) := by have h := o2; simp at h; rw [hv2]; exact h
 have M2 : Hid (L2.map Prod.fst = d.chs.map CD.rec3) := m2
 simp only [World.size_setCell]
 rw [← hv2]
 clear a1 a2 d0 e0 i0 i1 i2 y0 y1 hb2 hz2 o2 m2 kset hv2 HO1
 go_wp2_with fail
 have kset : Below w.heap.size w (w2.setCell ⟨w.heap.size + 1 + 1, 1, none⟩ (.slice A2 d.chs.length d.chs.length)) := k2.setCell (p := ⟨w.heap.size + 1 + 1, 1, none⟩) (by simp; omega) _
 refine (toNoteS_own s3 c3 lo hi d.tr _ (H3.out.keep (Keep.of_below kset hB)) (by simp; omega) q3).mono ?_
 rintro e w3 ⟨rfl, o3, hb3, hz3⟩
 have hz3' : w2.heap.size < w3.heap.size := by simpa using hz3
 have d0 : w3.cell? ⟨w.heap.size + 1, 0, none⟩ = some (.slice none 0 0) := (hb3.cell (by simp; omega)).trans ((setC_blk (by omega)).trans (d0' 0 (by omega)))
 have d1 : w3.cell? ⟨w.heap.size + 1, 1, none⟩ = some (.slice none 0 0) := (hb3.cell (by simp; omega)).trans ((setC_blk (by omega)).trans (d0' 1 (by omega)))
 have d2 : w3.cell? ⟨w.heap.size + 1, 2, none⟩ = some (.slice none 0 0) := (hb3.cell (by simp; omega)).trans ((setC_blk (by omega)).trans (d0' 2 (by omega)))
 have g0 : w3.cell? ⟨w.heap.size + 1 + 1, 0, none⟩ = some (.slice A1 d.ths.length d.ths.length) := (hb3.cell (by simp; omega)).trans ((setC_off (by omega)).trans f0)
 have g1 : w3.cell? ⟨w.heap.size + 1 + 1, 1, none⟩ = some (.slice A2 d.chs.length d.chs.length) := (hb3.cell (by simp; omega)).trans (setC_at (by rw [f1]; rfl))
 have g2 : w3.cell? ⟨w.heap.size + 1 + 1, 2, none⟩ = some (.slice none 0 0) := (hb3.cell (by simp; omega)).trans ((setC_off (by omega)).trans f2)
 have y0 : ∀ j, w3.frozen? ⟨w.heap.size + 1, j, none⟩ = false := fun j => by rw [hb3.frozen (by simp; omega), World.frozen?_setCell]; exact y0' j
 have y1 : ∀ j, w3.frozen? ⟨w.heap.size + 1 + 1, j, none⟩ = false := fun j => by rw [hb3.frozen (by simp; omega), World.frozen?_setCell]; exact y1' j
 have k3 : Below w.heap.size w w3 := kset.trans (hb3.mono (by simp; omega))
 have P1 : Hid (OwnQ w3 (w.heap.size + 3) 59 (.slice A1 d.ths.length d.ths.length) L1) := HO1'.out.keep (fun k hk hk' => (hb3.block k (by simp; omega)).trans (Below.heap_setCell _ _ _ k (by simp; omega)))
 have P2 : Hid (OwnQ w3 w1.heap.size 86 (.slice A2 d.chs.length d.chs.length) L2) := HO2.out.keep (fun k hk hk' => (hb3.block k (by simp; omega)).trans (Below.heap_setCell _ _ _ k (by simp; omega)))
 obtain ⟨A3, hv3⟩ : ∃ v, v = (some ⟨w2.heap.size, 0, none⟩ : Option Addr) := ⟨_, rfl⟩
 have P3 : Hid (OwnD w3 w2.heap.size (.slice A3 d.tr.length d.tr.length) d.tr) := by have h := o3; simp at h; rw [hv3]; exact h
 simp only [World.size_setCell]
 rw [← hv3]
 clear a2' d0' f0 f1 f2 y0' y1' hb3 hz3 o3 kset hv3 HO1' HO2
 go_wp2
 have fin : ∀ k, w.heap.size + 3 ≤ k → ((((w3.setCell ⟨w.heap.size + 1 + 1, 2, none⟩ (.slice A3 d.tr.length d.tr.length)).setCell ⟨w.heap.size + 1, 0, none⟩ (.slice A1 d.ths.length d.ths.length)).setCell ⟨w.heap.size + 1, 1, none⟩ (.slice A2 d.chs.length d.chs.length)).setCell ⟨w.heap.size + 1, 2, none⟩ (.slice A3 d.tr.length d.tr.length)).heap[k]? = w3.heap[k]? := fun k hk => by
  rw [Below.heap_setCell _ _ _ k (by simp; omega), Below.heap_setCell _ _ _ k (by simp; omega), Below.heap_setCell _ _ _ k (by simp; omega), Below.heap_setCell _ _ _ k (by simp; omega)]
 refine bodyPost_ret (v := .agg #[(.slice A1 d.ths.length d.ths.length), (.slice A2 d.chs.length d.chs.length), (.slice A3 d.tr.length d.tr.length)]) (by simp [results, Tryz.results8, go_sem, d0, d1, d2]) rfl ⟨(.slice A1 d.ths.length d.ths.length), (.slice A2 d.chs.length d.chs.length), (.slice A3 d.tr.length d.tr.length), L1, L2, rfl, ⟨M1.out, M2.out, ?_, ?_, ?_, SP.out⟩, ?_, ?_⟩
 ·exact (P1.out.keep (fun k hk hk' => fin k (by omega))).low (by omega)
 ·exact (P2.out.keep (fun k hk hk' => fin k (by omega))).low (by omega)
 ·exact ownLow' (ownKeep' P3.out (fun k hk => fin k (by have := (World.ownsRow.lt P3.out _ hk).1; omega))) (by omega)
 ·exact (((k3.setCell (p := ⟨w.heap.size + 1 + 1, 2, none⟩) (by simp; omega) _).setCell (p := ⟨w.heap.size + 1, 0, none⟩) (by simp) _).setCell (p := ⟨w.heap.size + 1, 1, none⟩) (by simp) _).setCell (p := ⟨w.heap.size + 1, 2, none⟩) (by simp) _
 ·simp; omega
end Go.Proofs.YtpmopmgpheefeaaGreat
