/- How the laws copy cores into new memory that may be written. Conditions: they are counted. -/
import Derived.Test.YtfdgjjahojkgfaaKCopy
namespace Go.Proofs.Ytfdgjjahojkgfaa
set_option linter.unusedSimpArgs false
set_option linter.unusedVariables false
set_option maxRecDepth 100000
open Go.RowKit

set_option maxHeartbeats 1000000 in
theorem toCore_own (pc st : Int) (s s' : Option Addr) (c c' lo hi : Nat) (l m : List Int) (w : World) (h : IntsR w lo hi s l) (h' : IntsR w lo hi s' m) (hB : hi ≤ w.heap.size) (hl : l.length ≤ 1048576) (hm : m.length ≤ 1048576) :
    Calls Try.prog 53 #[.agg #[.int .i64 pc, .slice s l.length c, .slice s' m.length c', .int .i64 st]] w fun e w' => ∃ g g', e = .returned (.agg #[.int .i64 pc, .slice (some ⟨g, 0, none⟩) l.length l.length, .slice (some ⟨g', 0, none⟩) m.length m.length, .int .i64 st]) ∧ OwnN w' w.heap.size (.slice (some ⟨g, 0, none⟩) l.length l.length) l ∧ OwnN w' w.heap.size (.slice (some ⟨g', 0, none⟩) m.length m.length) m ∧ Below w.heap.size w w' ∧ w.heap.size < w'.heap.size ∧ w.heap.size ≤ g ∧ g < g' ∧ g' < w'.heap.size := by
  have HR : Hid (IntsR w lo hi s l) := h
  have HM : Hid (IntsR w lo hi s' m) := h'
  clear h h'
  go_enter Try.func53, Try.ntmps53
  go_wp2_with fail
  obtain ⟨W, hW⟩ : ∃ W, ((w.alloc (.cells #[.int .i64 pc, .slice s l.length c, .slice s' m.length c', .int .i64 st] 84)).alloc (.cells #[.int .i64 0, .slice none 0 0, .slice none 0 0, .int .i64 0] 58)).alloc (.cells #[.int .i64 pc, .slice none 0 0, .slice none 0 0, .int .i64 0] 58) = W := ⟨_, rfl⟩
  obtain ⟨k0, xa, xb, xc, zw⟩ := three4 hW
  rw [hW]
  clear hW
  refine (toIntS_own s c lo hi l W (HR.out.keep (Keep.of_below k0 hB)) (by omega) hl).mono ?_
  rintro e w1 ⟨rfl, ho1, hb1, hz1⟩
  obtain ⟨G, hG, hGb⟩ : ∃ G, W.heap.size = G ∧ w.heap.size + 3 ≤ G := ⟨_, rfl, by omega⟩
  have XA : Hid (X4 w1 w.heap.size (.int .i64 pc) (.slice s l.length c) (.slice s' m.length c') (.int .i64 st)) := xa.keep hb1 (by omega)
  have XB : Hid (X4 w1 (w.heap.size + 1) (.int .i64 0) (.slice none 0 0) (.slice none 0 0) (.int .i64 0)) := xb.keep hb1 (by omega)
  have XC : Hid (X4 w1 (w.heap.size + 1 + 1) (.int .i64 pc) (.slice none 0 0) (.slice none 0 0) (.int .i64 0)) := xc.keep hb1 (by omega)
  have K1 : Hid (Below w.heap.size w w1) := k0.trans (hb1.mono (by omega))
  rw [hG] at ho1 hz1
  have O1 : Hid (OwnN w1 G (.slice (some ⟨G, 0, none⟩) l.length l.length) l) := ho1
  have z1 : G < w1.heap.size := hz1
  rw [hG]
  clear ho1 hz1 hb1 xa xb xc k0 zw hG
  have ya := XA.out.x
  have yc := XC.out.x
  obtain ⟨za, ya0, ya1, ya2, ya3⟩ := ya
  obtain ⟨zc, yc0, yc1, yc2, yc3⟩ := yc
  have fc := XC.out.fz
  go_wp2_with fail
  obtain ⟨V, hV⟩ : ∃ V, w1.setCell ⟨w.heap.size + 1 + 1, 1, none⟩ (.slice (some ⟨G, 0, none⟩) l.length l.length) = V := ⟨_, rfl⟩
  have kv : Below w.heap.size w V := by rw [← hV]; exact K1.out.setCell (p := ⟨w.heap.size + 1 + 1, 1, none⟩) (by simp; omega) _
  have xa : X4 V w.heap.size (.int .i64 pc) (.slice s l.length c) (.slice s' m.length c') (.int .i64 st) := by rw [← hV]; exact XA.out.off (by omega)
  have xb : X4 V (w.heap.size + 1) (.int .i64 0) (.slice none 0 0) (.slice none 0 0) (.int .i64 0) := by rw [← hV]; exact XB.out.off (by omega)
  have xc : X4 V (w.heap.size + 1 + 1) (.int .i64 pc) (.slice (some ⟨G, 0, none⟩) l.length l.length) (.slice none 0 0) (.int .i64 0) := by rw [← hV]; exact XC.out.set1
  have o1 : OwnN V G (.slice (some ⟨G, 0, none⟩) l.length l.length) l := by
    rw [← hV]
    exact ownKeep' O1.out (fun k hk => by have hk2 : some G = some k := hk; injection hk2 with hk2; exact Below.heap_setCell _ _ _ _ (by simp; omega))
  have zv : V.heap.size = w1.heap.size := by rw [← hV]; simp
  rw [hV]
  clear hV XA XB XC ya0 ya1 ya2 ya3 yc0 yc1 yc2 yc3 fc K1 O1 za zc
  refine (toIntS_own s' c' lo hi m V (HM.out.keep (Keep.of_below kv hB)) (by omega) hm).mono ?_
  rintro e w2 ⟨rfl, ho2, hb2, hz2⟩
  obtain ⟨G', hG', hGb'⟩ : ∃ G', V.heap.size = G' ∧ G < G' := ⟨_, rfl, by omega⟩
  have XA : Hid (X4 w2 w.heap.size (.int .i64 pc) (.slice s l.length c) (.slice s' m.length c') (.int .i64 st)) := xa.keep hb2 (by omega)
  have XB : Hid (X4 w2 (w.heap.size + 1) (.int .i64 0) (.slice none 0 0) (.slice none 0 0) (.int .i64 0)) := xb.keep hb2 (by omega)
  have XC : Hid (X4 w2 (w.heap.size + 1 + 1) (.int .i64 pc) (.slice (some ⟨G, 0, none⟩) l.length l.length) (.slice none 0 0) (.int .i64 0)) := xc.keep hb2 (by omega)
  have K2 : Hid (Below w.heap.size w w2) := kv.trans (hb2.mono (by omega))
  have O1 : Hid (OwnN w2 G (.slice (some ⟨G, 0, none⟩) l.length l.length) l) := ownKeep' o1 (fun k hk => by have hk2 : some G = some k := hk; injection hk2 with hk2; exact hb2.block _ (by omega))
  rw [hG'] at ho2 hz2
  have O2 : Hid (OwnN w2 G' (.slice (some ⟨G', 0, none⟩) m.length m.length) m) := ho2
  have z2 : G' < w2.heap.size := hz2
  rw [hG']
  clear ho2 hz2 hb2 xa xb xc kv hG' o1 zv z1
  obtain ⟨za, ya0, ya1, ya2, ya3⟩ := XA.out.x
  obtain ⟨zb, yb0, yb1, yb2, yb3⟩ := XB.out.x
  obtain ⟨zc, yc0, yc1, yc2, yc3⟩ := XC.out.x
  have fb := XB.out.fz
  have fc := XC.out.fz
  go_wp2
  obtain ⟨Z, hZ, fin, kz, sz⟩ : ∃ Z, ((((((w2.setCell ⟨w.heap.size + 1 + 1, 2, none⟩ (.slice (some ⟨G', 0, none⟩) m.length m.length)).setCell ⟨w.heap.size + 1 + 1, 3, none⟩ (.int .i64 st)).setCell ⟨w.heap.size + 1, 0, none⟩ (.int .i64 pc)).setCell ⟨w.heap.size + 1, 1, none⟩ (.slice (some ⟨G, 0, none⟩) l.length l.length)).setCell ⟨w.heap.size + 1, 2, none⟩ (.slice (some ⟨G', 0, none⟩) m.length m.length)).setCell ⟨w.heap.size + 1, 3, none⟩ (.int .i64 st)) = Z ∧ (∀ k, w.heap.size + 3 ≤ k → Z.heap[k]? = w2.heap[k]?) ∧ Below w.heap.size w Z ∧ Z.heap.size = w2.heap.size := by
    refine ⟨_, rfl, fun k hk => ?_, ?_, ?_⟩
    · rw [Below.heap_setCell _ _ _ k (by simp; omega), Below.heap_setCell _ _ _ k (by simp; omega), Below.heap_setCell _ _ _ k (by simp; omega), Below.heap_setCell _ _ _ k (by simp; omega), Below.heap_setCell _ _ _ k (by simp; omega), Below.heap_setCell _ _ _ k (by simp; omega)]
    · refine Below.setCell (Below.setCell (Below.setCell (Below.setCell (Below.setCell (Below.setCell K2.out ?_ _) ?_ _) ?_ _) ?_ _) ?_ _) ?_ _ <;> simp <;> omega
    · simp
  have P1 : OwnN Z w.heap.size (.slice (some ⟨G, 0, none⟩) l.length l.length) l := by
    have o : OwnN w2 w.heap.size (.slice (some ⟨G, 0, none⟩) l.length l.length) l := ownLow' O1.out (by omega)
    exact ownKeep' o (fun k hk => fin k (by have hk2 : some G = some k := hk; injection hk2 with hk2; omega))
  have P2 : OwnN Z w.heap.size (.slice (some ⟨G', 0, none⟩) m.length m.length) m := by
    have o : OwnN w2 w.heap.size (.slice (some ⟨G', 0, none⟩) m.length m.length) m := ownLow' O2.out (by omega)
    exact ownKeep' o (fun k hk => fin k (by have hk2 : some G' = some k := hk; injection hk2 with hk2; omega))
  refine bodyPost_ret (v := .agg #[.int .i64 pc, .slice (some ⟨G, 0, none⟩) l.length l.length, .slice (some ⟨G', 0, none⟩) m.length m.length, .int .i64 st]) (by simp [results, Try.results53, go_sem, yb0, yb1, yb2, yb3]) rfl ?_
  rw [hZ]
  exact ⟨G, G', rfl, P1, P2, kz, by omega, by omega, by omega, by omega⟩

theorem mkK (n : Nat) (hn : n ≤ 1048576) (w : World) : (Instr.makeSlice 33 (.int .i64 (n : Int)) (.int .i64 (n : Int))).run Try.prog w = .ok (.slice (some ⟨w.heap.size, 0, none⟩) n n) (w.alloc (.cells (madeCells #[.int .i64 0, .slice none 0 0, .slice none 0 0, .int .i64 0] (n * 4)) 58)) := by
  have h := run_make (P := Try.prog) w 33 58 _ (.agg #[.int .i64 0, .slice none 0 0, .slice none 0 0, .int .i64 0]) Try.underlying33 rfl rfl .i64 .i64 n n (by omega) (Int.le_refl _) (by show (64 : Int) * _ ≤ _; omega) (by omega)
  have e : (Value.agg #[.int .i64 0, .slice none 0 0, .slice none 0 0, .int .i64 0]).cells = #[.int .i64 0, .slice none 0 0, .slice none 0 0, .int .i64 0] := rfl
  have e' : ∀ t, Try.prog.info? 58 = some t → t.size = 4 := by intro t h; cases h; rfl
  rw [e, e' _ rfl] at h
  simpa using h

def setK (w : World) (g o : Nat) (a b c d : Value) : World := (((w.setCell ⟨g, o, none⟩ a).setCell ⟨g, o + 1, none⟩ b).setCell ⟨g, o + 2, none⟩ c).setCell ⟨g, o + 3, none⟩ d
theorem setK_below {B g o : Nat} {w w' : World} {a b c d : Value} (h : Below B w w') (hg : B ≤ g) : Below B w (setK w' g o a b c d) := (((h.setCell (p := ⟨g, o, none⟩) hg _).setCell (p := ⟨g, o + 1, none⟩) hg _).setCell (p := ⟨g, o + 2, none⟩) hg _).setCell (p := ⟨g, o + 3, none⟩) hg _
theorem setK_size {g o : Nat} {w : World} {a b c d : Value} : (setK w g o a b c d).heap.size = w.heap.size := by simp [setK]
theorem setK_block {g o k : Nat} {w : World} {a b c d : Value} (h : k ≠ g) : (setK w g o a b c d).heap[k]? = w.heap[k]? := by
  unfold setK
  rw [Below.heap_setCell _ _ _ k h, Below.heap_setCell _ _ _ k h, Below.heap_setCell _ _ _ k h, Below.heap_setCell _ _ _ k h]
theorem setK_frozen {g o : Nat} {w : World} {a b c d : Value} {p : Addr} : (setK w g o a b c d).frozen? p = w.frozen? p := by simp [setK]
theorem setK_off {g o j : Nat} {w : World} {a b c d : Value} (h : j < o ∨ o + 4 ≤ j) : (setK w g o a b c d).cell? ⟨g, j, none⟩ = w.cell? ⟨g, j, none⟩ := by
  unfold setK
  rw [setC_off (by omega), setC_off (by omega), setC_off (by omega), setC_off (by omega)]
theorem setK_some {g o j : Nat} {w : World} {a b c d : Value} (h : (w.cell? ⟨g, j, none⟩).isSome = true) : ((setK w g o a b c d).cell? ⟨g, j, none⟩).isSome = true := setC_some (setC_some (setC_some (setC_some h)))
theorem setK_at {g o : Nat} {w : World} {a b c d : Value} (h : ∀ j, j < 4 → (w.cell? ⟨g, o + j, none⟩).isSome = true) : (setK w g o a b c d).cell? ⟨g, o, none⟩ = some a ∧ (setK w g o a b c d).cell? ⟨g, o + 1, none⟩ = some b ∧ (setK w g o a b c d).cell? ⟨g, o + 2, none⟩ = some c ∧ (setK w g o a b c d).cell? ⟨g, o + 3, none⟩ = some d := by
  unfold setK
  refine ⟨?_, ?_, ?_, ?_⟩
  · rw [setC_off (by omega), setC_off (by omega), setC_off (by omega), setC_at (by have := h 0 (by omega); simpa using this)]
  · rw [setC_off (by omega), setC_off (by omega), setC_at (setC_some (h 1 (by omega)))]
  · rw [setC_off (by omega), setC_at (setC_some (setC_some (h 2 (by omega))))]
  · rw [setC_at (setC_some (setC_some (setC_some (h 3 (by omega)))))]

set_option maxHeartbeats 1000000 in
theorem toCoreS_own (s : Option Addr) (c lo hi : Nat) (m : List KD) (w : World) (h : KsR w lo hi s m) (hB : hi ≤ w.heap.size) (hl : m.length + szK m ≤ 1048576) :
    Calls Try.prog 25 #[.slice s m.length c] w fun e w' => ∃ R, e = .returned (.slice (some ⟨w.heap.size, 0, none⟩) m.length m.length) ∧ GO w' w.heap.size w'.heap.size (some ⟨w.heap.size, 0, none⟩) TK R (m.map coreV) ∧ Below w.heap.size w w' ∧ w.heap.size < w'.heap.size := by
  have hmk := mkK m.length (by omega)
  have HC : Hid (KsR w lo hi s m) := h
  have HLS : Hid (∀ (i : Nat) (t : KD), m[i]? = some t → t.regs.length + t.vw.length ≤ 1048576) := fun i t ht => by have := szK_at m i t ht; omega
  clear h
  go_enter Try.func25, Try.ntmps25
  go_wp2
  clear hmk
  go_loopw [4] (fun i wr => ∃ k : Nat, k ≤ m.length ∧ i = .int .i64 k ∧ Below w.heap.size w wr ∧ w.heap.size < wr.heap.size ∧ (∀ j, j < m.length * 4 → (wr.cell? ⟨w.heap.size, j, none⟩).isSome = true) ∧ (∀ j, wr.frozen? ⟨w.heap.size, j, none⟩ = false) ∧ ∃ R, GO wr w.heap.size wr.heap.size (some ⟨w.heap.size, 0, none⟩) TK R ((m.take k).map coreV)) (fun i _ => m.length - (intOf i).toNat)
  case atStart =>
    exact ⟨0, Nat.zero_le _, rfl, (Below.refl _ _).alloc (Nat.le_refl _) _, by simp, fun j hj => new_cell (by rw [size_madeCells]; omega), fun j => new_frozen, [], GO.nil _ _ _ _ _⟩
  case round =>
    obtain ⟨k, hk, rfl, hb, hsz, hso, hfz, R, hro⟩ := hrel
    have HB : Hid (Below w.heap.size w wr) := hb
    have HSO : Hid (∀ j, j < m.length * 4 → (wr.cell? ⟨w.heap.size, j, none⟩).isSome = true) := hso
    have HFZ : Hid (∀ j, wr.frozen? ⟨w.heap.size, j, none⟩ = false) := hfz
    have HRO : Hid (GO wr w.heap.size wr.heap.size (some ⟨w.heap.size, 0, none⟩) TK R ((m.take k).map coreV)) := hro
    clear hb hso hfz hro
    by_cases hlt : k < m.length
    · obtain ⟨t, ht⟩ : ∃ t, m[k]? = some t := ⟨_, List.getElem?_eq_getElem hlt⟩
      obtain ⟨g, off, s1, c1, s2, c2, hs, hg1, hg, f0, f1, f2, f3, hin, hin'⟩ := (HC.out.keep (Keep.of_below HB.out hB)).at ht
      subst hs
      have hlen := HLS.out k t ht
      have HT : Hid ((m.take (k + 1)).map coreV = (m.take k).map coreV ++ [coreV t]) := by show (m.take (k + 1)).map coreV = (m.take k).map coreV ++ [coreV t]; rw [List.take_add_one, ht]; simp
      have TL : Hid (((m.take k).map coreV).length = k) := by show ((m.take k).map coreV).length = k; simp; omega
      clear ht
      obtain ⟨pc, rg, vw, st⟩ := t
      simp only at f0 f1 f2 f3 hin hin' hlen
      have HIN : Hid (IntsR wr lo hi s1 rg) := hin
      have HIN' : Hid (IntsR wr lo hi s2 vw) := hin'
      clear hin hin'
      have b0 : (0 : Int) ≤ (k : Int) := by omega
      have b1 : (k : Int) < (m.length : Int) := by omega
      go_wp2_with fail
      refine (toCore_own pc st s1 s2 c1 c2 lo hi rg vw wr HIN.out HIN'.out (by omega) (by omega) (by omega)).mono ?_
      rintro e w1 ⟨G, G', rfl, ho1, ho2, hb1, hz1, hg3, hg4, hg5⟩
      have HB1 : Hid (Below wr.heap.size wr w1) := hb1
      have HO1 : Hid (VO w1 wr.heap.size w1.heap.size ⟨some ⟨G, 0, none⟩, rg.length, rg.length⟩ rg) := ownN_vo ho1 rfl
      have HO2 : Hid (VO w1 wr.heap.size w1.heap.size ⟨some ⟨G', 0, none⟩, vw.length, vw.length⟩ vw) := ownN_vo ho2 rfl
      have HSO1 : Hid (∀ j, j < m.length * 4 → (w1.cell? ⟨w.heap.size, j, none⟩).isSome = true) := fun j hj => by rw [hb1.cell (p := ⟨w.heap.size, j, none⟩) hsz]; exact HSO.out j hj
      have hfz : ∀ j, w1.frozen? ⟨w.heap.size, j, none⟩ = false := fun j => by rw [hb1.frozen (p := ⟨w.heap.size, j, none⟩) hsz]; exact HFZ.out j
      obtain ⟨u0, g0⟩ := Option.isSome_iff_exists.1 (HSO1.out (k * 4) (by omega))
      obtain ⟨u1, g1⟩ := Option.isSome_iff_exists.1 (HSO1.out (k * 4 + 1) (by omega))
      obtain ⟨u2, g2⟩ := Option.isSome_iff_exists.1 (HSO1.out (k * 4 + 2) (by omega))
      obtain ⟨u3, g3⟩ := Option.isSome_iff_exists.1 (HSO1.out (k * 4 + 3) (by omega))
      have HZ1 : Hid (wr.heap.size < w1.heap.size ∧ wr.heap.size ≤ G ∧ G < G' ∧ G' < w1.heap.size) := ⟨hz1, hg3, hg4, hg5⟩
      clear hb1 ho1 ho2 f0 f1 f2 f3 hz1 hg3 hg4 hg5
      go_wp2
      go_roundw
      case rel =>
        have hs1 := HB1.out.size
        have tl := TL.out
        obtain ⟨hz, hg3, hg4, hg5⟩ := HZ1.out
        show ∃ k' : Nat, _ ∧ _ ∧ Below w.heap.size w (setK w1 w.heap.size (k * 4) (.int .i64 pc) (.slice (some ⟨G, 0, none⟩) rg.length rg.length) (.slice (some ⟨G', 0, none⟩) vw.length vw.length) (.int .i64 st)) ∧ _ < (setK w1 w.heap.size (k * 4) (.int .i64 pc) (.slice (some ⟨G, 0, none⟩) rg.length rg.length) (.slice (some ⟨G', 0, none⟩) vw.length vw.length) (.int .i64 st)).heap.size ∧ (∀ j, _ → ((setK w1 w.heap.size (k * 4) (.int .i64 pc) (.slice (some ⟨G, 0, none⟩) rg.length rg.length) (.slice (some ⟨G', 0, none⟩) vw.length vw.length) (.int .i64 st)).cell? _).isSome = true) ∧ (∀ j, (setK w1 w.heap.size (k * 4) (.int .i64 pc) (.slice (some ⟨G, 0, none⟩) rg.length rg.length) (.slice (some ⟨G', 0, none⟩) vw.length vw.length) (.int .i64 st)).frozen? _ = false) ∧ ∃ R', GO (setK w1 w.heap.size (k * 4) (.int .i64 pc) (.slice (some ⟨G, 0, none⟩) rg.length rg.length) (.slice (some ⟨G', 0, none⟩) vw.length vw.length) (.int .i64 st)) _ (setK w1 w.heap.size (k * 4) (.int .i64 pc) (.slice (some ⟨G, 0, none⟩) rg.length rg.length) (.slice (some ⟨G', 0, none⟩) vw.length vw.length) (.int .i64 st)).heap.size _ _ _ _
        obtain ⟨W2, hW2⟩ : ∃ W2, setK w1 w.heap.size (k * 4) (.int .i64 pc) (.slice (some ⟨G, 0, none⟩) rg.length rg.length) (.slice (some ⟨G', 0, none⟩) vw.length vw.length) (.int .i64 st) = W2 := ⟨_, rfl⟩
        have kb : Below w.heap.size w W2 := by rw [← hW2]; exact setK_below (HB.out.trans (HB1.out.mono (by omega))) (Nat.le_refl _)
        have e9 : W2.heap.size = w1.heap.size := by rw [← hW2, setK_size]
        have hso2 : ∀ j, j < m.length * 4 → (W2.cell? ⟨w.heap.size, j, none⟩).isSome = true := fun j hj => by rw [← hW2]; exact setK_some (HSO1.out j hj)
        have hfr : ∀ p, W2.frozen? p = w1.frozen? p := fun p => by rw [← hW2, setK_frozen]
        have far : ∀ b, b ≠ w.heap.size → W2.heap[b]? = w1.heap[b]? := fun b hb => by rw [← hW2]; exact setK_block hb
        have off : ∀ j, j < k * 4 → W2.cell? ⟨w.heap.size, j, none⟩ = w1.cell? ⟨w.heap.size, j, none⟩ := fun j hj => by rw [← hW2]; exact setK_off (by omega)
        obtain ⟨at0, at1, at2, at3⟩ : W2.cell? ⟨w.heap.size, k * 4, none⟩ = some (.int .i64 pc) ∧ W2.cell? ⟨w.heap.size, k * 4 + 1, none⟩ = some (.slice (some ⟨G, 0, none⟩) rg.length rg.length) ∧ W2.cell? ⟨w.heap.size, k * 4 + 2, none⟩ = some (.slice (some ⟨G', 0, none⟩) vw.length vw.length) ∧ W2.cell? ⟨w.heap.size, k * 4 + 3, none⟩ = some (.int .i64 st) := by rw [← hW2]; exact setK_at (fun j hj => HSO1.out _ (by omega))
        rw [hW2]
        clear hW2
        have blk1 : ∀ a ∈ vAs (⟨some ⟨G, 0, none⟩, rg.length, rg.length⟩ : VS), a.block = G := fun a ha => by
          obtain ⟨i, -, rfl⟩ := mem_vAs.1 ha
          rfl
        have blk2 : ∀ a ∈ vAs (⟨some ⟨G', 0, none⟩, vw.length, vw.length⟩ : VS), a.block = G' := fun a ha => by
          obtain ⟨i, -, rfl⟩ := mem_vAs.1 ha
          rfl
        refine ⟨k + 1, by omega, by go_num, kb, by omega, hso2, fun j => by rw [hfr]; exact hfz j, R ++ [[.i, .r ⟨some ⟨G, 0, none⟩, rg.length, rg.length⟩ 1, .r ⟨some ⟨G', 0, none⟩, vw.length, vw.length⟩ 1, .i]], ?_⟩
        rw [HT.out, e9]
        have hm1 := (HRO.out.keep (Keep.of_below HB1.out (Nat.le_refl _))).mono (Nat.le_refl _) hs1
        have ra : recAs (some ⟨w.heap.size, 0, none⟩) [.i, .r ⟨some ⟨G, 0, none⟩, rg.length, rg.length⟩ 1, .r ⟨some ⟨G', 0, none⟩, vw.length, vw.length⟩ 1, .i] (((m.take k).map coreV).length * TK.length) = ⟨w.heap.size, k * 4, none⟩ :: (vAs (⟨some ⟨G, 0, none⟩, rg.length, rg.length⟩ : VS) ++ (vAs (⟨some ⟨G', 0, none⟩, vw.length, vw.length⟩ : VS) ++ [⟨w.heap.size, k * 4 + 3, none⟩])) := by
          rw [tl]
          simp [recAs, fAs, wide_one, adr, TK]
        refine GO.push (w := w1) _ _ hm1 ⟨_, _, rfl⟩ rfl rfl (fun k' r v j f y hr hv hf hy hfo => ?_) (fun j f v hf hv => ?_) (fun x e hx a ha g o hg => ?_) ?_ (fun a ha ha' => ?_)
        · have hk' := (List.getElem?_eq_some_iff.1 hv).1
          rw [tl] at hk'
          have hj : j < 4 := by
            have h1 := (List.getElem?_eq_some_iff.1 hf).1
            have h2 := congrArg List.length (hm1.t k' r hr)
            simp [TK] at h2
            omega
          refine hfo.far ?_ (hfr _) (fun x' e' hx' b hb => far _ ?_)
          · have := off (k' * 4 + j) (by omega)
            simpa [adr, TK] using this
          · exact hm1.o _ (List.mem_of_getElem? hr) x' e' (by rw [← hx']; exact List.mem_of_getElem? hf) b hb _ _ rfl
        · rw [tl]
          match j, hf, hv with
          | 0, hf, hv =>
            simp at hf
            simp [coreV] at hv
            subst hf hv
            exact ⟨by simpa [adr, TK] using at0, by rw [hfr]; simpa [adr] using hfz _, Nat.le_refl _, by show w.heap.size < _; omega⟩
          | 1, hf, hv =>
            simp at hf
            simp [coreV] at hv
            subst hf hv
            refine ⟨by simpa [adr, TK] using at1, ⟨Nat.le_refl _, by show w.heap.size < _; omega⟩, ?_⟩
            rw [wide_one]
            exact (HO1.out.mono (lo' := w.heap.size) (by omega) (Nat.le_refl _)).far2 (fun a ha => far _ (by rw [blk1 a ha]; omega))
          | 2, hf, hv =>
            simp at hf
            simp [coreV] at hv
            subst hf hv
            refine ⟨by simpa [adr, TK] using at2, ⟨Nat.le_refl _, by show w.heap.size < _; omega⟩, ?_⟩
            rw [wide_one]
            exact (HO2.out.mono (lo' := w.heap.size) (by omega) (Nat.le_refl _)).far2 (fun a ha => far _ (by rw [blk2 a ha]; omega))
          | 3, hf, hv =>
            simp at hf
            simp [coreV] at hv
            subst hf hv
            exact ⟨by simpa [adr, TK] using at3, by rw [hfr]; simpa [adr] using hfz _, Nat.le_refl _, by show w.heap.size < _; omega⟩
        · injection hg with hg
          injection hg with hg
          simp at hx
          rcases hx with ⟨rfl, rfl⟩ | ⟨rfl, rfl⟩
          · rw [wide_one] at ha
            rw [blk1 a ha]
            omega
          · rw [wide_one] at ha
            rw [blk2 a ha]
            omega
        · rw [ra]
          refine List.nodup_cons.2 ⟨fun hm => ?_, List.nodup_append.2 ⟨vAs_nodup rfl, List.nodup_append.2 ⟨vAs_nodup rfl, by simp, fun a ha b hb e => ?_⟩, fun a ha b hb e => ?_⟩⟩
          · rcases List.mem_append.1 hm with hm | hm
            · have := blk1 _ hm
              simp at this <;> omega
            · rcases List.mem_append.1 hm with hm | hm
              · have := blk2 _ hm
                simp at this <;> omega
              · simp at hm
          · simp at hb
            subst hb e
            have := blk2 _ ha
            simp at this <;> omega
          · subst e
            have h1 := blk1 _ ha
            rcases List.mem_append.1 hb with hb | hb
            · have h2 := blk2 _ hb
              omega
            · simp at hb
              subst hb
              simp at h1 <;> omega
        · rw [ra] at ha'
          have hg := HRO.out.blk ha
          have own : a.block = w.heap.size → ∃ i j, i < k ∧ j < 4 ∧ a = ⟨w.heap.size, i * 4 + j, none⟩ := fun hbk => by
            obtain ⟨i, rec, j, f, h1, h2, h3⟩ := mem_gAs.1 ha
            rw [Nat.zero_add] at h3
            have hi : i < k := by have h4 := (List.getElem?_eq_some_iff.1 h1).1; have h5 := HRO.out.n; omega
            have hj : j < 4 := by
              have h4 := (List.getElem?_eq_some_iff.1 h2).1
              have h5 := congrArg List.length (HRO.out.t i rec h1)
              simp [TK] at h5
              omega
            cases f with
            | i =>
              simp [fAs, adr, TK] at h3
              exact ⟨i, j, hi, hj, h3⟩
            | r x e =>
              exact absurd hbk (HRO.out.o rec (List.mem_of_getElem? h1) x e (List.mem_of_getElem? h2) a h3 _ _ rfl)
          rcases List.mem_cons.1 ha' with e | ha'
          · obtain ⟨i, j, hi, hj, e'⟩ := own (by rw [e])
            rw [e] at e'
            simp at e' <;> omega
          · rcases List.mem_append.1 ha' with ha' | ha'
            · have := blk1 _ ha'
              omega
            · rcases List.mem_append.1 ha' with ha' | ha'
              · have := blk2 _ ha'
                omega
              · simp at ha'
                obtain ⟨i, j, hi, hj, e'⟩ := own (by rw [ha'])
                rw [ha'] at e'
                simp at e' <;> omega
      case measure => simp [intOf]; omega
    · go_wp2
      go_ret
      have : k = m.length := by omega
      subst this
      have h1 := HRO.out
      rw [List.take_length] at h1
      exact ⟨R, rfl, h1, HB.out, hsz⟩

end Go.Proofs.Ytfdgjjahojkgfaa
