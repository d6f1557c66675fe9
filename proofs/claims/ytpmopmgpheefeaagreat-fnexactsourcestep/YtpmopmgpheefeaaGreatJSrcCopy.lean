/- How the laws copy threads, channels, notes and sources into new memory. Conditions: each list of at most 1048576. -/
import Derived.Test.YtpmopmgpheefeaaGreatJG00
import Derived.Test.YtpmopmgpheefeaaGreatJG04
import Derived.Test.YtpmopmgpheefeaaGreatJG03
namespace Go.Proofs.YtpmopmgpheefeaaGreat
set_option linter.unusedSimpArgs false
set_option linter.unusedVariables false
set_option maxRecDepth 100000
open Go.RowKit
set_option maxHeartbeats 1000000 in
theorem toThread_own (pc : Int) (st : Int) (s : Option Addr) (c lo hi : Nat) (l : List Int) (w : World) (h : IntsR w lo hi s l) (hB : hi ≤ w.heap.size) (hl : l.length ≤ 1048576) :
  Calls Tryz.prog 55 #[.agg #[.int .i64 pc, .slice s l.length c, .int .i64 st]] w fun e w' => ∃ g, e = .returned (.agg #[.int .i64 pc, .slice (some ⟨g, 0, none⟩) l.length l.length, .int .i64 st]) ∧ OwnN w' w.heap.size (.slice (some ⟨g, 0, none⟩) l.length l.length) l ∧ Below w.heap.size w w' ∧ w.heap.size < w'.heap.size ∧ w.heap.size ≤ g := by
 have HR : Hid (IntsR w lo hi s l) := h
 clear h
 go_enter Tryz.func55, Tryz.ntmps55
 go_wp2_with fail
 refine (toIntS_own s c lo hi l _ (HR.out.keep (Keep.of_below ((((Below.refl w.heap.size w).alloc (Nat.le_refl _) _).alloc (by simp) _).alloc (by simp; omega) _) hB)) (by simp; omega) hl).mono ?_
 rintro e w1 ⟨rfl, ho1, hb1, hz1⟩
 have z3 : w.heap.size + 3 < w1.heap.size := by simp at hz1; omega
 have z0 : w.heap.size < w1.heap.size := by omega
 have z1 : w.heap.size + 1 < w1.heap.size := by omega
 have z2 : w.heap.size + 1 + 1 < w1.heap.size := by omega
 have a2 : w1.cell? ⟨w.heap.size, 2, none⟩ = some (.int .i64 st) := by rw [hb1.cell (by simp; omega)]; simp [go_sem]
 have d0 : w1.cell? ⟨w.heap.size + 1, 0, none⟩ = some (.int .i64 0) := by rw [hb1.cell (by simp)]; simp [go_sem]
 have d1 : w1.cell? ⟨w.heap.size + 1, 1, none⟩ = some (.slice none 0 0) := by rw [hb1.cell (by simp)]; simp [go_sem]
 have d2 : w1.cell? ⟨w.heap.size + 1, 2, none⟩ = some (.int .i64 0) := by rw [hb1.cell (by simp)]; simp [go_sem]
 have e0 : w1.cell? ⟨w.heap.size + 1 + 1, 0, none⟩ = some (.int .i64 pc) := by rw [hb1.cell (by simp)]; simp [go_sem]
 have e1 : w1.cell? ⟨w.heap.size + 1 + 1, 1, none⟩ = some (.slice none 0 0) := by rw [hb1.cell (by simp)]; simp [go_sem]
 have e2 : w1.cell? ⟨w.heap.size + 1 + 1, 2, none⟩ = some (.int .i64 0) := by rw [hb1.cell (by simp)]; simp [go_sem]
 have y0 : ∀ j, w1.frozen? ⟨w.heap.size + 1, j, none⟩ = false := fun j => by rw [hb1.frozen (by simp)]; simp [go_sem]
 have y1 : ∀ j, w1.frozen? ⟨w.heap.size + 1 + 1, j, none⟩ = false := fun j => by rw [hb1.frozen (by simp)]; simp [go_sem]
 have k1 : Below w.heap.size w w1 := ((((Below.refl _ w).alloc (Nat.le_refl _) _).alloc (by simp) _).alloc (by simp; omega) _).trans (hb1.mono (by simp; omega))
 obtain ⟨G, hG, hGb⟩ : ∃ G, G = w.heap.size + 1 + 1 + 1 ∧ w.heap.size + 3 ≤ G := ⟨_, rfl, Nat.le_refl _⟩
 have HI : Hid (OwnN w1 w.heap.size (.slice (some ⟨G, 0, none⟩) l.length l.length) l) := by
  have h := ho1
  simp at h
  rw [hG]
  exact ownLow' h (by omega)
 have e3 : (((w.alloc (.cells #[.int .i64 pc, .slice s l.length c, .int .i64 st] 79)).alloc (.cells #[.int .i64 0, .slice none 0 0, .int .i64 0] 59)).alloc (.cells #[.int .i64 pc, .slice none 0 0, .int .i64 0] 59)).heap.size = G := by simp [hG]
 first | rw [e3] | (simp only [World.size_alloc]; rw [← hG]) | skip
 clear hb1 ho1 hz1 hG e3
 go_wp2
 have fin : ∀ k, w.heap.size + 3 ≤ k → (((((w1.setCell ⟨w.heap.size + 1 + 1, 1, none⟩ (.slice (some ⟨G, 0, none⟩) l.length l.length)).setCell ⟨w.heap.size + 1 + 1, 2, none⟩ (.int .i64 st)).setCell ⟨w.heap.size + 1, 0, none⟩ (.int .i64 pc)).setCell ⟨w.heap.size + 1, 1, none⟩ (.slice (some ⟨G, 0, none⟩) l.length l.length)).setCell ⟨w.heap.size + 1, 2, none⟩ (.int .i64 st)).heap[k]? = w1.heap[k]? := fun k hk => by
  rw [Below.heap_setCell _ _ _ k (by simp; omega), Below.heap_setCell _ _ _ k (by simp; omega), Below.heap_setCell _ _ _ k (by simp; omega), Below.heap_setCell _ _ _ k (by simp; omega), Below.heap_setCell _ _ _ k (by simp; omega)]
 refine bodyPost_ret (v := .agg #[.int .i64 pc, .slice (some ⟨G, 0, none⟩) l.length l.length, .int .i64 st]) (by simp [results, Tryz.results55, go_sem, d0, d1, d2]) rfl ⟨G, rfl, ?_, ?_, by simp; omega, by omega⟩
 ·exact ownKeep' HI.out (fun k hk => fin k (by have hk2 : some G = some k := hk; injection hk2 with hk2; omega))
 ·exact (((((k1.setCell (p := ⟨w.heap.size + 1 + 1, 1, none⟩) (by simp; omega) _).setCell (p := ⟨w.heap.size + 1 + 1, 2, none⟩) (by simp; omega) _).setCell (p := ⟨w.heap.size + 1, 0, none⟩) (by simp) _).setCell (p := ⟨w.heap.size + 1, 1, none⟩) (by simp) _).setCell (p := ⟨w.heap.size + 1, 2, none⟩) (by simp) _)
theorem mkT (n : Nat) (hn : n ≤ 1048576) (w : World) : (Instr.makeSlice 33 (.int .i64 (n : Int)) (.int .i64 (n : Int))).run Tryz.prog w = .ok (.slice (some ⟨w.heap.size, 0, none⟩) n n) (w.alloc (.cells (madeCells #[.int .i64 0, .slice none 0 0, .int .i64 0] (n * 3)) 59)) := by
 have h := run_make (P := Tryz.prog) w 33 59 _ (.agg #[.int .i64 0, .slice none 0 0, .int .i64 0]) Tryz.underlying33 rfl rfl .i64 .i64 n n (by omega) (Int.le_refl _) (by show (40 : Int) * _ ≤ _; omega) (by omega)
 have e : (Value.agg #[.int .i64 0, .slice none 0 0, .int .i64 0]).cells = #[.int .i64 0, .slice none 0 0, .int .i64 0] := rfl
 have e' : ∀ t, Tryz.prog.info? 59 = some t → t.size = 3 := by intro t h; cases h; rfl
 rw [e, e' _ rfl] at h
 simpa using h
set_option maxHeartbeats 1000000 in
theorem toThreadS_own (s : Option Addr) (c lo hi : Nat) (l : List TD) (w : World) (h : RecsR w lo hi s (l.map TD.rec3)) (hB : hi ≤ w.heap.size) (hl : l.length ≤ 1048576) (hls : ∀ (i : Nat) (t : TD), l[i]? = some t → t.regs.length ≤ 1048576) :
  Calls Tryz.prog 26 #[.slice s l.length c] w fun e w' => ∃ L, e = .returned (.slice (some ⟨w.heap.size, 0, none⟩) l.length l.length) ∧ L.map Prod.fst = l.map TD.rec3 ∧ OwnQ w' w.heap.size 59 (.slice (some ⟨w.heap.size, 0, none⟩) l.length l.length) L ∧ Below w.heap.size w w' ∧ w.heap.size < w'.heap.size := by
 have hmk := mkT l.length hl
 have HC : Hid (RecsR w lo hi s (l.map TD.rec3)) := h
 have HLS : Hid (∀ (i : Nat) (t : TD), l[i]? = some t → t.regs.length ≤ 1048576) := hls
 clear h hls
 go_enter Tryz.func26, Tryz.ntmps26
 go_wp2
 clear hmk
 go_loopw [4] (fun i wr => ∃ k : Nat, k ≤ l.length ∧ i = .int .i64 k ∧ Below w.heap.size w wr ∧ w.heap.size < wr.heap.size ∧ ∃ L, L.length = k ∧ L.map Prod.fst = (l.take k).map TD.rec3 ∧ OwnQ wr w.heap.size 59 (.slice (some ⟨w.heap.size, 0, none⟩) l.length l.length) (L ++ List.replicate (l.length - k) zqT)) (fun i _ => l.length - (intOf i).toNat)
 case atStart =>
  exact ⟨0, Nat.zero_le _, rfl, (Below.refl _ _).alloc (Nat.le_refl _) _, by simp, [], rfl, rfl, OwnQ.made w 59 zqT rfl rfl l.length hl⟩
 case round =>
  obtain ⟨k, hk, rfl, hb, hsz, L, hL, hm, ho⟩ := hrel
  have HB : Hid (Below w.heap.size w wr) := hb
  have HM : Hid (L.map Prod.fst = (l.take k).map TD.rec3) := hm
  have HLn : Hid (L.length = k) := hL
  have HO : Hid (OwnQ wr w.heap.size 59 (.slice (some ⟨w.heap.size, 0, none⟩) l.length l.length) (L ++ List.replicate (l.length - k) zqT)) := ho
  clear hb ho hm hL
  by_cases hlt : k < l.length
  ·obtain ⟨t, ht⟩ : ∃ t, l[k]? = some t := ⟨_, List.getElem?_eq_getElem hlt⟩
   obtain ⟨g, off, hs, hg, hc⟩ : ∃ g off, s = some ⟨g, off, none⟩ ∧ g < w.heap.size ∧ RecR wr lo hi g (off + k * 3) t.rec3 := by
    rcases HC.out with h | ⟨g, off, a, b, d, e⟩
    ·have : l = [] := by simpa using h
     rw [this] at hlt; simp at hlt
    ·exact ⟨g, off, a, by omega, (e k t.rec3 (by rw [List.getElem?_map, ht]; rfl)).keep (Keep.of_below HB.out hB) (fun j => HB.out.cell (p := ⟨g, j, none⟩) (by show g < _; omega))⟩
   subst hs
   have hlen := HLS.out k t ht
   have HT : Hid (l[k]? = some t) := ht
   obtain ⟨s1, c1, f0, f1, f2, hin⟩ := hc
   obtain ⟨pc, rg, st⟩ := t
   simp only [TD.rec3] at f0 f1 f2 hin hlen
   have HIN : Hid (IntsR wr lo hi s1 rg) := hin
   clear ht hin
   have b0 : (0 : Int) ≤ (k : Int) := by omega
   have b1 : (k : Int) < (l.length : Int) := by omega
   have hs0 := HB.out.size
   go_wp2_with fail
   refine (toThread_own pc st s1 c1 lo hi rg wr HIN.out (by omega) hlen).mono ?_
   rintro e w1 ⟨G, rfl, ho1, hb1, hz1, hG⟩
   have HB1 : Hid (Below wr.heap.size wr w1) := hb1
   have HO1 : Hid (OwnN w1 wr.heap.size (.slice (some ⟨G, 0, none⟩) rg.length rg.length) rg) := ho1
   have HG : Hid (wr.heap.size ≤ G) := hG
   have HQ : Hid (OwnQ w1 w.heap.size 59 (.slice (some ⟨w.heap.size, 0, none⟩) l.length l.length) (L ++ List.replicate (l.length - k) zqT)) := HO.out.below hb1
   clear hb1 ho1 hG f0 f1 f2
   have hlr : (L ++ List.replicate (l.length - k) zqT).length = l.length := by simp [HLn.out]; omega
   have hrow := HQ.out.row
   rw [hlr] at hrow
   have cc : ∀ j, j < 3 → ∃ u, w1.cell? ⟨w.heap.size, k * 3 + j, none⟩ = some u := fun j hj => by
    rw [World.ownsRow.cellAt hrow (k * 3 + j) (by omega)]
    exact ⟨_, List.getElem?_eq_getElem (by rw [flatR_len, hlr]; omega)⟩
   have hfz : ∀ j, w1.frozen? ⟨w.heap.size, j, none⟩ = false := fun j => World.ownsRow.frozenAt hrow j
   obtain ⟨u0, g0⟩ := cc 0 (by omega)
   obtain ⟨u1, g1⟩ := cc 1 (by omega)
   obtain ⟨u2, g2⟩ := cc 2 (by omega)
   rw [Nat.add_zero] at g0
   clear cc hrow hlr
   go_wp2
   go_roundw
   case rel =>
    have hs1 := HB1.out.size
    show ∃ k' : Nat, _ ∧ _ ∧ Below w.heap.size w (set3 w1 w.heap.size (k * 3) (.int .i64 pc) (.slice (some ⟨G, 0, none⟩) rg.length rg.length) (.int .i64 st)) ∧ _ < (set3 w1 w.heap.size (k * 3) (.int .i64 pc) (.slice (some ⟨G, 0, none⟩) rg.length rg.length) (.int .i64 st)).heap.size ∧ ∃ L', _ ∧ _ ∧ OwnQ (set3 w1 w.heap.size (k * 3) (.int .i64 pc) (.slice (some ⟨G, 0, none⟩) rg.length rg.length) (.int .i64 st)) _ _ _ _
    refine ⟨k + 1, by omega, by go_num, set3_below (HB.out.trans (HB1.out.mono (by omega))) (Nat.le_refl _), by rw [set3_size]; omega, L ++ [(⟨.int .i64 pc, rg, .int .i64 st⟩, .slice (some ⟨G, 0, none⟩) rg.length rg.length)], by simp [HLn.out], ?_, ?_⟩
    ·rw [List.take_add_one, HT.out, List.map_append, List.map_append, HM.out]
     rfl
    ·have e3 : l.length - k = (l.length - (k + 1)) + 1 := by omega
     have hq := HQ.out
     rw [e3, List.replicate_succ] at hq
     have hp := OwnQ.put (A := L) (B := List.replicate (l.length - (k + 1)) zqT) (x := zqT) (⟨.int .i64 pc, rg, .int .i64 st⟩, .slice (some ⟨G, 0, none⟩) rg.length rg.length) (by decide) (by simp [HLn.out]; omega) hq (ownLow' HO1.out (by omega)) (fun i z kk hi hz hk hk' => by
      injection hk with hk
      subst hk
      have h1 := HO.out.inn i z (by rw [e3, List.replicate_succ]; exact hz)
      have h2 := (World.ownsRow.lt h1 _ hk').2
      have h3 := HG.out
      simp at h2
      omega)
     rw [HLn.out] at hp
     rw [List.append_assoc]
     exact hp
   case measure => simp [intOf]; omega
  ·go_wp2
   go_ret
   have : k = l.length := by omega
   subst this
   have h1 := HO.out
   have h2 := HM.out
   simp only [Nat.sub_self, List.replicate_zero, List.append_nil] at h1
   rw [List.take_length] at h2
   exact ⟨L, rfl, h2, h1, HB.out, hsz⟩
set_option maxHeartbeats 1000000 in
theorem toChan_own (pc : Int) (st : Bool) (s : Option Addr) (c lo hi : Nat) (l : List Int) (w : World) (h : IntsR w lo hi s l) (hB : hi ≤ w.heap.size) (hl : l.length ≤ 1048576) :
  Calls Tryz.prog 56 #[.agg #[.int .i64 pc, .slice s l.length c, .bool st]] w fun e w' => ∃ g, e = .returned (.agg #[.int .i64 pc, .slice (some ⟨g, 0, none⟩) l.length l.length, .bool st]) ∧ OwnN w' w.heap.size (.slice (some ⟨g, 0, none⟩) l.length l.length) l ∧ Below w.heap.size w w' ∧ w.heap.size < w'.heap.size ∧ w.heap.size ≤ g := by
 have HR : Hid (IntsR w lo hi s l) := h
 clear h
 go_enter Tryz.func56, Tryz.ntmps56
 go_wp2_with fail
 refine (toIntS_own s c lo hi l _ (HR.out.keep (Keep.of_below ((((Below.refl w.heap.size w).alloc (Nat.le_refl _) _).alloc (by simp) _).alloc (by simp; omega) _) hB)) (by simp; omega) hl).mono ?_
 rintro e w1 ⟨rfl, ho1, hb1, hz1⟩
 have z3 : w.heap.size + 3 < w1.heap.size := by simp at hz1; omega
 have z0 : w.heap.size < w1.heap.size := by omega
 have z1 : w.heap.size + 1 < w1.heap.size := by omega
 have z2 : w.heap.size + 1 + 1 < w1.heap.size := by omega
 have a2 : w1.cell? ⟨w.heap.size, 2, none⟩ = some (.bool st) := by rw [hb1.cell (by simp; omega)]; simp [go_sem]
 have d0 : w1.cell? ⟨w.heap.size + 1, 0, none⟩ = some (.int .i64 0) := by rw [hb1.cell (by simp)]; simp [go_sem]
 have d1 : w1.cell? ⟨w.heap.size + 1, 1, none⟩ = some (.slice none 0 0) := by rw [hb1.cell (by simp)]; simp [go_sem]
 have d2 : w1.cell? ⟨w.heap.size + 1, 2, none⟩ = some (.bool false) := by rw [hb1.cell (by simp)]; simp [go_sem]
 have e0 : w1.cell? ⟨w.heap.size + 1 + 1, 0, none⟩ = some (.int .i64 pc) := by rw [hb1.cell (by simp)]; simp [go_sem]
 have e1 : w1.cell? ⟨w.heap.size + 1 + 1, 1, none⟩ = some (.slice none 0 0) := by rw [hb1.cell (by simp)]; simp [go_sem]
 have e2 : w1.cell? ⟨w.heap.size + 1 + 1, 2, none⟩ = some (.bool false) := by rw [hb1.cell (by simp)]; simp [go_sem]
 have y0 : ∀ j, w1.frozen? ⟨w.heap.size + 1, j, none⟩ = false := fun j => by rw [hb1.frozen (by simp)]; simp [go_sem]
 have y1 : ∀ j, w1.frozen? ⟨w.heap.size + 1 + 1, j, none⟩ = false := fun j => by rw [hb1.frozen (by simp)]; simp [go_sem]
 have k1 : Below w.heap.size w w1 := ((((Below.refl _ w).alloc (Nat.le_refl _) _).alloc (by simp) _).alloc (by simp; omega) _).trans (hb1.mono (by simp; omega))
 obtain ⟨G, hG, hGb⟩ : ∃ G, G = w.heap.size + 1 + 1 + 1 ∧ w.heap.size + 3 ≤ G := ⟨_, rfl, Nat.le_refl _⟩
 have HI : Hid (OwnN w1 w.heap.size (.slice (some ⟨G, 0, none⟩) l.length l.length) l) := by
  have h := ho1
  simp at h
  rw [hG]
  exact ownLow' h (by omega)
 have e3 : (((w.alloc (.cells #[.int .i64 pc, .slice s l.length c, .bool st] 82)).alloc (.cells #[.int .i64 0, .slice none 0 0, .bool false] 86)).alloc (.cells #[.int .i64 pc, .slice none 0 0, .bool false] 86)).heap.size = G := by simp [hG]
 first | rw [e3] | (simp only [World.size_alloc]; rw [← hG]) | skip
 clear hb1 ho1 hz1 hG e3
 go_wp2
 have fin : ∀ k, w.heap.size + 3 ≤ k → (((((w1.setCell ⟨w.heap.size + 1 + 1, 1, none⟩ (.slice (some ⟨G, 0, none⟩) l.length l.length)).setCell ⟨w.heap.size + 1 + 1, 2, none⟩ (.bool st)).setCell ⟨w.heap.size + 1, 0, none⟩ (.int .i64 pc)).setCell ⟨w.heap.size + 1, 1, none⟩ (.slice (some ⟨G, 0, none⟩) l.length l.length)).setCell ⟨w.heap.size + 1, 2, none⟩ (.bool st)).heap[k]? = w1.heap[k]? := fun k hk => by
  rw [Below.heap_setCell _ _ _ k (by simp; omega), Below.heap_setCell _ _ _ k (by simp; omega), Below.heap_setCell _ _ _ k (by simp; omega), Below.heap_setCell _ _ _ k (by simp; omega), Below.heap_setCell _ _ _ k (by simp; omega)]
 refine bodyPost_ret (v := .agg #[.int .i64 pc, .slice (some ⟨G, 0, none⟩) l.length l.length, .bool st]) (by simp [results, Tryz.results56, go_sem, d0, d1, d2]) rfl ⟨G, rfl, ?_, ?_, by simp; omega, by omega⟩
 ·exact ownKeep' HI.out (fun k hk => fin k (by have hk2 : some G = some k := hk; injection hk2 with hk2; omega))
 ·exact (((((k1.setCell (p := ⟨w.heap.size + 1 + 1, 1, none⟩) (by simp; omega) _).setCell (p := ⟨w.heap.size + 1 + 1, 2, none⟩) (by simp; omega) _).setCell (p := ⟨w.heap.size + 1, 0, none⟩) (by simp) _).setCell (p := ⟨w.heap.size + 1, 1, none⟩) (by simp) _).setCell (p := ⟨w.heap.size + 1, 2, none⟩) (by simp) _)
theorem mkC (n : Nat) (hn : n ≤ 1048576) (w : World) : (Instr.makeSlice 34 (.int .i64 (n : Int)) (.int .i64 (n : Int))).run Tryz.prog w = .ok (.slice (some ⟨w.heap.size, 0, none⟩) n n) (w.alloc (.cells (madeCells #[.int .i64 0, .slice none 0 0, .bool false] (n * 3)) 86)) := by
 have h := run_make (P := Tryz.prog) w 34 86 _ (.agg #[.int .i64 0, .slice none 0 0, .bool false]) Tryz.underlying34 rfl rfl .i64 .i64 n n (by omega) (Int.le_refl _) (by show (40 : Int) * _ ≤ _; omega) (by omega)
 have e : (Value.agg #[.int .i64 0, .slice none 0 0, .bool false]).cells = #[.int .i64 0, .slice none 0 0, .bool false] := rfl
 have e' : ∀ t, Tryz.prog.info? 86 = some t → t.size = 3 := by intro t h; cases h; rfl
 rw [e, e' _ rfl] at h
 simpa using h
set_option maxHeartbeats 1000000 in
theorem toChanS_own (s : Option Addr) (c lo hi : Nat) (l : List CD) (w : World) (h : RecsR w lo hi s (l.map CD.rec3)) (hB : hi ≤ w.heap.size) (hl : l.length ≤ 1048576) (hls : ∀ (i : Nat) (t : CD), l[i]? = some t → t.list.length ≤ 1048576) :
  Calls Tryz.prog 27 #[.slice s l.length c] w fun e w' => ∃ L, e = .returned (.slice (some ⟨w.heap.size, 0, none⟩) l.length l.length) ∧ L.map Prod.fst = l.map CD.rec3 ∧ OwnQ w' w.heap.size 86 (.slice (some ⟨w.heap.size, 0, none⟩) l.length l.length) L ∧ Below w.heap.size w w' ∧ w.heap.size < w'.heap.size := by
 have hmk := mkC l.length hl
 have HC : Hid (RecsR w lo hi s (l.map CD.rec3)) := h
 have HLS : Hid (∀ (i : Nat) (t : CD), l[i]? = some t → t.list.length ≤ 1048576) := hls
 clear h hls
 go_enter Tryz.func27, Tryz.ntmps27
 go_wp2
 clear hmk
 go_loopw [4] (fun i wr => ∃ k : Nat, k ≤ l.length ∧ i = .int .i64 k ∧ Below w.heap.size w wr ∧ w.heap.size < wr.heap.size ∧ ∃ L, L.length = k ∧ L.map Prod.fst = (l.take k).map CD.rec3 ∧ OwnQ wr w.heap.size 86 (.slice (some ⟨w.heap.size, 0, none⟩) l.length l.length) (L ++ List.replicate (l.length - k) zqC)) (fun i _ => l.length - (intOf i).toNat)
 case atStart =>
  exact ⟨0, Nat.zero_le _, rfl, (Below.refl _ _).alloc (Nat.le_refl _) _, by simp, [], rfl, rfl, OwnQ.made w 86 zqC rfl rfl l.length hl⟩
 case round =>
  obtain ⟨k, hk, rfl, hb, hsz, L, hL, hm, ho⟩ := hrel
  have HB : Hid (Below w.heap.size w wr) := hb
  have HM : Hid (L.map Prod.fst = (l.take k).map CD.rec3) := hm
  have HLn : Hid (L.length = k) := hL
  have HO : Hid (OwnQ wr w.heap.size 86 (.slice (some ⟨w.heap.size, 0, none⟩) l.length l.length) (L ++ List.replicate (l.length - k) zqC)) := ho
  clear hb ho hm hL
  by_cases hlt : k < l.length
  ·obtain ⟨t, ht⟩ : ∃ t, l[k]? = some t := ⟨_, List.getElem?_eq_getElem hlt⟩
   obtain ⟨g, off, hs, hg, hc⟩ : ∃ g off, s = some ⟨g, off, none⟩ ∧ g < w.heap.size ∧ RecR wr lo hi g (off + k * 3) t.rec3 := by
    rcases HC.out with h | ⟨g, off, a, b, d, e⟩
    ·have : l = [] := by simpa using h
     rw [this] at hlt; simp at hlt
    ·exact ⟨g, off, a, by omega, (e k t.rec3 (by rw [List.getElem?_map, ht]; rfl)).keep (Keep.of_below HB.out hB) (fun j => HB.out.cell (p := ⟨g, j, none⟩) (by show g < _; omega))⟩
   subst hs
   have hlen := HLS.out k t ht
   have HT : Hid (l[k]? = some t) := ht
   obtain ⟨s1, c1, f0, f1, f2, hin⟩ := hc
   obtain ⟨pc, rg, st⟩ := t
   simp only [CD.rec3] at f0 f1 f2 hin hlen
   have HIN : Hid (IntsR wr lo hi s1 rg) := hin
   clear ht hin
   have b0 : (0 : Int) ≤ (k : Int) := by omega
   have b1 : (k : Int) < (l.length : Int) := by omega
   have hs0 := HB.out.size
   go_wp2_with fail
   refine (toChan_own pc st s1 c1 lo hi rg wr HIN.out (by omega) hlen).mono ?_
   rintro e w1 ⟨G, rfl, ho1, hb1, hz1, hG⟩
   have HB1 : Hid (Below wr.heap.size wr w1) := hb1
   have HO1 : Hid (OwnN w1 wr.heap.size (.slice (some ⟨G, 0, none⟩) rg.length rg.length) rg) := ho1
   have HG : Hid (wr.heap.size ≤ G) := hG
   have HQ : Hid (OwnQ w1 w.heap.size 86 (.slice (some ⟨w.heap.size, 0, none⟩) l.length l.length) (L ++ List.replicate (l.length - k) zqC)) := HO.out.below hb1
   clear hb1 ho1 hG f0 f1 f2
   have hlr : (L ++ List.replicate (l.length - k) zqC).length = l.length := by simp [HLn.out]; omega
   have hrow := HQ.out.row
   rw [hlr] at hrow
   have cc : ∀ j, j < 3 → ∃ u, w1.cell? ⟨w.heap.size, k * 3 + j, none⟩ = some u := fun j hj => by
    rw [World.ownsRow.cellAt hrow (k * 3 + j) (by omega)]
    exact ⟨_, List.getElem?_eq_getElem (by rw [flatR_len, hlr]; omega)⟩
   have hfz : ∀ j, w1.frozen? ⟨w.heap.size, j, none⟩ = false := fun j => World.ownsRow.frozenAt hrow j
   obtain ⟨u0, g0⟩ := cc 0 (by omega)
   obtain ⟨u1, g1⟩ := cc 1 (by omega)
   obtain ⟨u2, g2⟩ := cc 2 (by omega)
   rw [Nat.add_zero] at g0
   clear cc hrow hlr
   go_wp2
   go_roundw
   case rel =>
    have hs1 := HB1.out.size
    show ∃ k' : Nat, _ ∧ _ ∧ Below w.heap.size w (set3 w1 w.heap.size (k * 3) (.int .i64 pc) (.slice (some ⟨G, 0, none⟩) rg.length rg.length) (.bool st)) ∧ _ < (set3 w1 w.heap.size (k * 3) (.int .i64 pc) (.slice (some ⟨G, 0, none⟩) rg.length rg.length) (.bool st)).heap.size ∧ ∃ L', _ ∧ _ ∧ OwnQ (set3 w1 w.heap.size (k * 3) (.int .i64 pc) (.slice (some ⟨G, 0, none⟩) rg.length rg.length) (.bool st)) _ _ _ _
    refine ⟨k + 1, by omega, by go_num, set3_below (HB.out.trans (HB1.out.mono (by omega))) (Nat.le_refl _), by rw [set3_size]; omega, L ++ [(⟨.int .i64 pc, rg, .bool st⟩, .slice (some ⟨G, 0, none⟩) rg.length rg.length)], by simp [HLn.out], ?_, ?_⟩
    ·rw [List.take_add_one, HT.out, List.map_append, List.map_append, HM.out]
     rfl
    ·have e3 : l.length - k = (l.length - (k + 1)) + 1 := by omega
     have hq := HQ.out
     rw [e3, List.replicate_succ] at hq
     have hp := OwnQ.put (A := L) (B := List.replicate (l.length - (k + 1)) zqC) (x := zqC) (⟨.int .i64 pc, rg, .bool st⟩, .slice (some ⟨G, 0, none⟩) rg.length rg.length) (by decide) (by simp [HLn.out]; omega) hq (ownLow' HO1.out (by omega)) (fun i z kk hi hz hk hk' => by
      injection hk with hk
      subst hk
      have h1 := HO.out.inn i z (by rw [e3, List.replicate_succ]; exact hz)
      have h2 := (World.ownsRow.lt h1 _ hk').2
      have h3 := HG.out
      simp at h2
      omega)
     rw [HLn.out] at hp
     rw [List.append_assoc]
     exact hp
   case measure => simp [intOf]; omega
  ·go_wp2
   go_ret
   have : k = l.length := by omega
   subst this
   have h1 := HO.out
   have h2 := HM.out
   simp only [Nat.sub_self, List.replicate_zero, List.append_nil] at h1
   rw [List.take_length] at h2
   exact ⟨L, rfl, h2, h1, HB.out, hsz⟩
end Go.Proofs.YtpmopmgpheefeaaGreat
