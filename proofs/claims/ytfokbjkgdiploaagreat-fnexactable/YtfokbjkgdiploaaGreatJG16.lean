/- A turn, whoever takes it. Conditions: program and source are right. A source that goes on from step to step: what stays between two steps. No condition. How the laws copy threads, channels, notes and sources into new memory. Conditions: each list of at most 1048576. How the laws copy notes and sources into new memory. Conditions: each list of at most 1048576. -/
import Derived.Test.YtfokbjkgdiploaaGreatJStepIm10
import Derived.Test.YtfokbjkgdiploaaGreatJG13
import Derived.Test.YtfokbjkgdiploaaGreatJG00
import Derived.Test.YtfokbjkgdiploaaGreatJG03
import Derived.Test.YtfokbjkgdiploaaGreatJG02
namespace Go.Proofs.YtfokbjkgdiploaaGreat
section
set_option linter.unusedSimpArgs false
set_option linter.unusedVariables false
set_option maxRecDepth 100000
open Go.RowKit
theorem turnIn_any (p1 p2 : Option Addr) (a1 a2 lo hi base S : Nat) (p : PD) (v1 v2 v3 : Value) (L1 L2 : List (Rec × Value)) (d : SD) (who : Int) (w : World) (hP : ProgR w lo hi p1 p2 p) (hB : hi ≤ base) (hO : OwnS w base v1 v2 v3 L1 L2 d) (hS : BoF S w v1 v2 v3) (hbs : BxS w S) (hb : base ≤ w.heap.size) (hR : Right p d) (hSb : base ≤ S) :
  Calls Tryz.prog 42 #[.agg #[.slice p1 p.caps.length a1, .slice p2 p.bods.length a2], .pointer (some ⟨S, 0, none⟩), .int .i64 who] w fun e w' => TurnP w S base v1 v2 v3 L1 L2 (stepK p d who) (stepS p d who) e w' := by
 by_cases hw : 0 ≤ who ∧ who < (d.ths.length : Int)
 ·obtain ⟨k, rfl⟩ : ∃ k : Nat, who = (k : Int) := ⟨who.toNat, by omega⟩
  obtain ⟨t, ht⟩ : ∃ t, d.ths[k]? = some t := ⟨_, List.getElem?_eq_getElem (by omega)⟩
  have et : thOf d k = t := by unfold thOf; rw [List.getD_eq_getElem?_getD, ht]; rfl
  by_cases hst : t.st = 0
  ·have e3 : stepK p d k = (outOf p d k).code := by unfold stepK; rw [if_pos hw, Int.toNat_natCast, et, if_pos hst]
   have e4 : stepS p d k = if (outOf p d k).code = 0 then doneS d k (outOf p d k) else d := by unfold stepS; rw [e3, Int.toNat_natCast]
   rw [e3, e4]
   by_cases hfu : (insOf p d k).o = 10 ∧ d.tr.length = 4000
   ·have e5 : (outOf p d k).code = 3 := by unfold outOf stepO; simp [hfu.1, hfu.2]
    rw [e5, if_neg (show ¬ (3 : Int) = 0 by decide)]
    exact turn_full p1 p2 a1 a2 lo hi base S p v1 v2 v3 L1 L2 d k t w hP hB hO hS hbs hb hR hSb ht hst hfu
   ·exact turn_run p1 p2 a1 a2 lo hi base S p v1 v2 v3 L1 L2 d k t w hP hB hO hS hbs hb hR hSb ht hst hfu
  ·have e3 : stepK p d k = 3 := by unfold stepK; rw [if_pos hw, Int.toNat_natCast, et, if_neg hst]
   have e4 : stepS p d k = d := by unfold stepS; rw [e3]; rfl
   rw [e3, e4]
   exact turn_over p1 p2 a1 a2 lo hi base S p v1 v2 v3 L1 L2 d k t w hP hB hO hS hbs hb hR hSb ht hst
 ·have e3 : stepK p d who = 2 := by unfold stepK; rw [if_neg hw]
  have e4 : stepS p d who = d := by unfold stepS; rw [e3]; rfl
  rw [e3, e4]
  exact turn_none p1 p2 a1 a2 lo hi base S p v1 v2 v3 L1 L2 d who w hP hB hO hS hbs hb hR hSb hw
end
section
set_option linter.unusedSimpArgs false
set_option linter.unusedVariables false
set_option maxRecDepth 100000
open Go.RowKit
structure RunI (w V : World) (base S : Nat) (p0 p1 q1 q2 q3 : Value) (D : SD) : Prop where
 b : Br V w.heap.size p0 p1 q1 q2 q3
 k : Below w.heap.size w V
 o : ∃ v1 v2 v3 L1 L2, OwnS V base v1 v2 v3 L1 L2 D ∧ BoF S V v1 v2 v3 ∧ BxS V S
 m : base ≤ V.heap.size
theorem RunI.turn {w V V' : World} {base S : Nat} {p0 p1 q1 q2 q3 v1 v2 v3 : Value} {L1 L2 : List (Rec × Value)} {D D' : SD} {s4 : Option Addr} {n4 c4 : Nat} {M1 M2 : List (Rec × Value)} (h : RunI w V base S p0 p1 q1 q2 q3 D) (hz : w.heap.size + 1 + 1 < base) (t : TurnQ V V' S base v1 v2 v3 L1 L2 D' s4 n4 c4 M1 M2) : RunI w V' base S p0 p1 q1 q2 q3 D' :=
 ⟨h.b.below t.b hz, h.k.trans (t.b.mono (by omega)), ⟨_, _, _, M1, M2, t.o, t.s, t.bs⟩, Nat.le_trans h.m t.b.size⟩
/- a new world in which nothing has turned -/
theorem RunI.keep {w V V' : World} {base S : Nat} {p0 p1 q1 q2 q3 : Value} {D : SD} (h : RunI w V base S p0 p1 q1 q2 q3 D) (hb : Below V.heap.size V V') : RunI w V' base S p0 p1 q1 q2 q3 D := by
 obtain ⟨v1, v2, v3, L1, L2, o, s, bs⟩ := h.o
 exact ⟨h.b.below hb h.b.zz, h.k.trans (hb.mono h.k.size), ⟨v1, v2, v3, L1, L2, o.keep (fun q _ hq => hb.block q hq), s.below hb s.z, bs.same (hb.block _ s.z)⟩, Nat.le_trans h.m hb.size⟩
/- another source put into the box -/
theorem RunI.put {w V : World} {base S : Nat} {p0 p1 q1 q2 q3 v1 v2 v3 : Value} {L1 L2 : List (Rec × Value)} {D D' : SD} (h : RunI w V base S p0 p1 q1 q2 q3 D) (hz : w.heap.size + 1 + 1 < base) (hS : base ≤ S) (o : OwnS V base v1 v2 v3 L1 L2 D') : RunI w (((V.setCell ⟨S, 0, none⟩ v1).setCell ⟨S, 1, none⟩ v2).setCell ⟨S, 2, none⟩ v3) base S p0 p1 q1 q2 q3 D' := by
 obtain ⟨u1, u2, u3, M1, M2, -, s, bs⟩ := h.o
 have kk : Below base V (((V.setCell ⟨S, 0, none⟩ v1).setCell ⟨S, 1, none⟩ v2).setCell ⟨S, 2, none⟩ v3) := by
  refine Below.setCell (Below.setCell (Below.setCell (Below.refl _ _) ?_ _) ?_ _) ?_ _ <;> exact hS
 exact ⟨h.b.below kk hz, h.k.trans (kk.mono (by omega)), ⟨v1, v2, v3, L1, L2, ((o.offB bs).offB bs.set).offB bs.set.set, ((s.set0 _).set1 _).set2 _, bs.set.set.set⟩, Nat.le_trans h.m kk.size⟩
theorem l1Min_is (a : Int) (w : World) : Calls Tryz.prog 57 #[.int .i64 a, .int .i64 200] w fun e w' => e = .returned (.int .i64 (min a 200)) ∧ w' = w := by
 by_cases h : a < 200
 ·have e : min a 200 = a := by omega
  rw [e]
  go_enter Tryz.func57, Tryz.ntmps57
  go_wp2
  go_ret
  exact ⟨rfl, rfl⟩
 ·have e : min a 200 = 200 := by omega
  rw [e]
  go_enter Tryz.func57, Tryz.ntmps57
  go_wp2
  go_ret
  exact ⟨rfl, rfl⟩
end
section
set_option linter.unusedSimpArgs false
set_option linter.unusedVariables false
set_option maxRecDepth 100000
open Go.RowKit
set_option maxHeartbeats 1000000 in
theorem toThread_own (pc : Int) (st : Int) (s : Option Addr) (c lo hi : Nat) (l : List Int) (w : World) (h : IntsR w lo hi s l) (hB : hi ≤ w.heap.size) (hl : l.length ≤ 1048576) :
  Calls Tryz.prog 67 #[.agg #[.int .i64 pc, .slice s l.length c, .int .i64 st]] w fun e w' => ∃ g, e = .returned (.agg #[.int .i64 pc, .slice (some ⟨g, 0, none⟩) l.length l.length, .int .i64 st]) ∧ OwnN w' w.heap.size (.slice (some ⟨g, 0, none⟩) l.length l.length) l ∧ Below w.heap.size w w' ∧ w.heap.size < w'.heap.size ∧ w.heap.size ≤ g := by
 have HR : Hid (IntsR w lo hi s l) := h
 clear h
 go_enter Tryz.func67, Tryz.ntmps67
 go_wp2_with fail
 refine (toIntS_own s c lo hi l _ (HR.out.keep (Keep.of_below ((((Below.refl w.heap.size w).alloc (Nat.le_refl _) _).alloc (by simp) _).alloc (by simp; omega) _) hB)) (by simp; omega) hl).mono ?_
 rintro e w1 ⟨rfl, ho1, hb1, hz1⟩
 have z3 : w.heap.size + 3 < w1.heap.size := by simp at hz1; omega
 have z0 : w.heap.size < w1.heap.size := by omega
 have z1 : w.heap.size + 1 < w1.heap.size := by omega
 have z2 : w.heap.size + 1 + 1 < w1.heap.size := by omega
 have a2 : w1.cell? ⟨w.heap.size, 2, none⟩ = some (.int .i64 st) := by rw [hb1.cell (by simp; omega)]; simp [go_sem]
 have d0 : w1.cell? ⟨w.heap.size + 1, 0, none⟩ = some (.int .i64 0) := by rw [hb1.cell (by simp)]; simp [go_sem]
 have d1 : w1.cell? ⟨w.heap.size + 1, 1, none⟩ = some (.slice none 0 0) := by rw [hb1.cell (by simp)]; simp [go_sem]
 have d2 : w1.cell? ⟨w.heap.size + 1, 2, none⟩ = some (.int .i64 0) := by rw [hb1.cell (by simp)]; simp [go_sem]
 have e0 : w1.cell? ⟨w.heap.size + 1 + 1, 0, none⟩ = some (.int .i64 pc) := by rw [hb1.cell (by simp)]; simp [go_sem]
 have e1 : w1.cell? ⟨w.heap.size + 1 + 1, 1, none⟩ = some (.slice none 0 0) := by rw [hb1.cell (by simp)]; simp [go_sem]
 have e2 : w1.cell? ⟨w.heap.size + 1 + 1, 2, none⟩ = some (.int .i64 0) := by rw [hb1.cell (by simp)]; simp [go_sem]
 have y0 : ∀ j, w1.frozen? ⟨w.heap.size + 1, j, none⟩ = false := fun j => by rw [hb1.frozen (by simp)]; simp [go_sem]
 have y1 : ∀ j, w1.frozen? ⟨w.heap.size + 1 + 1, j, none⟩ = false := fun j => by rw [hb1.frozen (by simp)]; simp [go_sem]
 have k1 : Below w.heap.size w w1 := ((((Below.refl _ w).alloc (Nat.le_refl _) _).alloc (by simp) _).alloc (by simp; omega) _).trans (hb1.mono (by simp; omega))
 obtain ⟨G, hG, hGb⟩ : ∃ G, G = w.heap.size + 1 + 1 + 1 ∧ w.heap.size + 3 ≤ G := ⟨_, rfl, Nat.le_refl _⟩
 have HI : Hid (OwnN w1 w.heap.size (.slice (some ⟨G, 0, none⟩) l.length l.length) l) := by
  have h := ho1
  simp at h
  rw [hG]
  exact ownLow' h (by omega)
 have e3 : (((w.alloc (.cells #[.int .i64 pc, .slice s l.length c, .int .i64 st] 88)).alloc (.cells #[.int .i64 0, .slice none 0 0, .int .i64 0] 82)).alloc (.cells #[.int .i64 pc, .slice none 0 0, .int .i64 0] 82)).heap.size = G := by simp [hG]
 first | rw [e3] | (simp only [World.size_alloc]; rw [← hG]) | skip
 clear hb1 ho1 hz1 hG e3
 go_wp2
 have fin : ∀ k, w.heap.size + 3 ≤ k → (((((w1.setCell ⟨w.heap.size + 1 + 1, 1, none⟩ (.slice (some ⟨G, 0, none⟩) l.length l.length)).setCell ⟨w.heap.size + 1 + 1, 2, none⟩ (.int .i64 st)).setCell ⟨w.heap.size + 1, 0, none⟩ (.int .i64 pc)).setCell ⟨w.heap.size + 1, 1, none⟩ (.slice (some ⟨G, 0, none⟩) l.length l.length)).setCell ⟨w.heap.size + 1, 2, none⟩ (.int .i64 st)).heap[k]? = w1.heap[k]? := fun k hk => by
  rw [Below.heap_setCell _ _ _ k (by simp; omega), Below.heap_setCell _ _ _ k (by simp; omega), Below.heap_setCell _ _ _ k (by simp; omega), Below.heap_setCell _ _ _ k (by simp; omega), Below.heap_setCell _ _ _ k (by simp; omega)]
 refine bodyPost_ret (v := .agg #[.int .i64 pc, .slice (some ⟨G, 0, none⟩) l.length l.length, .int .i64 st]) (by simp [results, Tryz.results67, go_sem, d0, d1, d2]) rfl ⟨G, rfl, ?_, ?_, by simp; omega, by omega⟩
 ·exact ownKeep' HI.out (fun k hk => fin k (by have hk2 : some G = some k := hk; injection hk2 with hk2; omega))
 ·exact (((((k1.setCell (p := ⟨w.heap.size + 1 + 1, 1, none⟩) (by simp; omega) _).setCell (p := ⟨w.heap.size + 1 + 1, 2, none⟩) (by simp; omega) _).setCell (p := ⟨w.heap.size + 1, 0, none⟩) (by simp) _).setCell (p := ⟨w.heap.size + 1, 1, none⟩) (by simp) _).setCell (p := ⟨w.heap.size + 1, 2, none⟩) (by simp) _)
theorem mkT (n : Nat) (hn : n ≤ 1048576) (w : World) : (Instr.makeSlice 33 (.int .i64 (n : Int)) (.int .i64 (n : Int))).run Tryz.prog w = .ok (.slice (some ⟨w.heap.size, 0, none⟩) n n) (w.alloc (.cells (madeCells #[.int .i64 0, .slice none 0 0, .int .i64 0] (n * 3)) 82)) := by
 have h := run_make (P := Tryz.prog) w 33 82 _ (.agg #[.int .i64 0, .slice none 0 0, .int .i64 0]) Tryz.underlying33 rfl rfl .i64 .i64 n n (by omega) (Int.le_refl _) (by show (40 : Int) * _ ≤ _; omega) (by omega)
 have e : (Value.agg #[.int .i64 0, .slice none 0 0, .int .i64 0]).cells = #[.int .i64 0, .slice none 0 0, .int .i64 0] := rfl
 have e' : ∀ t, Tryz.prog.info? 82 = some t → t.size = 3 := by intro t h; cases h; rfl
 rw [e, e' _ rfl] at h
 simpa using h
set_option maxHeartbeats 1000000 in
theorem toThreadS_own (s : Option Addr) (c lo hi : Nat) (l : List TD) (w : World) (h : RecsR w lo hi s (l.map TD.rec3)) (hB : hi ≤ w.heap.size) (hl : l.length ≤ 1048576) (hls : ∀ (i : Nat) (t : TD), l[i]? = some t → t.regs.length ≤ 1048576) :
  Calls Tryz.prog 37 #[.slice s l.length c] w fun e w' => ∃ L, e = .returned (.slice (some ⟨w.heap.size, 0, none⟩) l.length l.length) ∧ L.map Prod.fst = l.map TD.rec3 ∧ OwnQ w' w.heap.size 82 (.slice (some ⟨w.heap.size, 0, none⟩) l.length l.length) L ∧ Below w.heap.size w w' ∧ w.heap.size < w'.heap.size := by
 have hmk := mkT l.length hl
 have HC : Hid (RecsR w lo hi s (l.map TD.rec3)) := h
 have HLS : Hid (∀ (i : Nat) (t : TD), l[i]? = some t → t.regs.length ≤ 1048576) := hls
 clear h hls
 go_enter Tryz.func37, Tryz.ntmps37
 go_wp2
 clear hmk
 go_loopw [4] (fun i wr => ∃ k : Nat, k ≤ l.length ∧ i = .int .i64 k ∧ Below w.heap.size w wr ∧ w.heap.size < wr.heap.size ∧ ∃ L, L.length = k ∧ L.map Prod.fst = (l.take k).map TD.rec3 ∧ OwnQ wr w.heap.size 82 (.slice (some ⟨w.heap.size, 0, none⟩) l.length l.length) (L ++ List.replicate (l.length - k) zqT)) (fun i _ => l.length - (intOf i).toNat)
 case atStart =>
  exact ⟨0, Nat.zero_le _, rfl, (Below.refl _ _).alloc (Nat.le_refl _) _, by simp, [], rfl, rfl, OwnQ.made w 82 zqT rfl rfl l.length hl⟩
 case round =>
  obtain ⟨k, hk, rfl, hb, hsz, L, hL, hm, ho⟩ := hrel
  have HB : Hid (Below w.heap.size w wr) := hb
  have HM : Hid (L.map Prod.fst = (l.take k).map TD.rec3) := hm
  have HLn : Hid (L.length = k) := hL
  have HO : Hid (OwnQ wr w.heap.size 82 (.slice (some ⟨w.heap.size, 0, none⟩) l.length l.length) (L ++ List.replicate (l.length - k) zqT)) := ho
  clear hb ho hm hL
  by_cases hlt : k < l.length
  ·obtain ⟨t, ht⟩ : ∃ t, l[k]? = some t := ⟨_, List.getElem?_eq_getElem hlt⟩
   obtain ⟨g, off, hs, hg, hc⟩ : ∃ g off, s = some ⟨g, off, none⟩ ∧ g < w.heap.size ∧ RecR wr lo hi g (off + k * 3) t.rec3 := by
    rcases HC.out with h | ⟨g, off, a, b, d, e⟩
    ·have : l = [] := by simpa using h
     rw [this] at hlt; simp at hlt
    ·exact ⟨g, off, a, by omega, (e k t.rec3 (by rw [List.getElem?_map, ht]; rfl)).keep (Keep.of_below HB.out hB) (fun j => HB.out.cell (p := ⟨g, j, none⟩) (by show g < _; omega))⟩
   subst hs
   have hlen := HLS.out k t ht
   have HT : Hid (l[k]? = some t) := ht
   obtain ⟨s1, c1, f0, f1, f2, hin⟩ := hc
   obtain ⟨pc, rg, st⟩ := t
   simp only [TD.rec3] at f0 f1 f2 hin hlen
   have HIN : Hid (IntsR wr lo hi s1 rg) := hin
   clear ht hin
   have b0 : (0 : Int) ≤ (k : Int) := by omega
   have b1 : (k : Int) < (l.length : Int) := by omega
   have hs0 := HB.out.size
   go_wp2_with fail
   refine (toThread_own pc st s1 c1 lo hi rg wr HIN.out (by omega) hlen).mono ?_
   rintro e w1 ⟨G, rfl, ho1, hb1, hz1, hG⟩
   have HB1 : Hid (Below wr.heap.size wr w1) := hb1
   have HO1 : Hid (OwnN w1 wr.heap.size (.slice (some ⟨G, 0, none⟩) rg.length rg.length) rg) := ho1
   have HG : Hid (wr.heap.size ≤ G) := hG
   have HQ : Hid (OwnQ w1 w.heap.size 82 (.slice (some ⟨w.heap.size, 0, none⟩) l.length l.length) (L ++ List.replicate (l.length - k) zqT)) := HO.out.below hb1
   clear hb1 ho1 hG f0 f1 f2
   have hlr : (L ++ List.replicate (l.length - k) zqT).length = l.length := by simp [HLn.out]; omega
   have hrow := HQ.out.row
   rw [hlr] at hrow
   have cc : ∀ j, j < 3 → ∃ u, w1.cell? ⟨w.heap.size, k * 3 + j, none⟩ = some u := fun j hj => by
    rw [World.ownsRow.cellAt hrow (k * 3 + j) (by omega)]
    exact ⟨_, List.getElem?_eq_getElem (by rw [flatR_len, hlr]; omega)⟩
   have hfz : ∀ j, w1.frozen? ⟨w.heap.size, j, none⟩ = false := fun j => World.ownsRow.frozenAt hrow j
   obtain ⟨u0, g0⟩ := cc 0 (by omega)
   obtain ⟨u1, g1⟩ := cc 1 (by omega)
   obtain ⟨u2, g2⟩ := cc 2 (by omega)
   rw [Nat.add_zero] at g0
   clear cc hrow hlr
   go_wp2
   go_roundw
   case rel =>
    have hs1 := HB1.out.size
    show ∃ k' : Nat, _ ∧ _ ∧ Below w.heap.size w (set3 w1 w.heap.size (k * 3) (.int .i64 pc) (.slice (some ⟨G, 0, none⟩) rg.length rg.length) (.int .i64 st)) ∧ _ < (set3 w1 w.heap.size (k * 3) (.int .i64 pc) (.slice (some ⟨G, 0, none⟩) rg.length rg.length) (.int .i64 st)).heap.size ∧ ∃ L', _ ∧ _ ∧ OwnQ (set3 w1 w.heap.size (k * 3) (.int .i64 pc) (.slice (some ⟨G, 0, none⟩) rg.length rg.length) (.int .i64 st)) _ _ _ _
    refine ⟨k + 1, by omega, by go_num, set3_below (HB.out.trans (HB1.out.mono (by omega))) (Nat.le_refl _), by rw [set3_size]; omega, L ++ [(⟨.int .i64 pc, rg, .int .i64 st⟩, .slice (some ⟨G, 0, none⟩) rg.length rg.length)], by simp [HLn.out], ?_, ?_⟩
    ·rw [List.take_add_one, HT.out, List.map_append, List.map_append, HM.out]
     rfl
    ·have e3 : l.length - k = (l.length - (k + 1)) + 1 := by omega
     have hq := HQ.out
     rw [e3, List.replicate_succ] at hq
     have hp := OwnQ.put (A := L) (B := List.replicate (l.length - (k + 1)) zqT) (x := zqT) (⟨.int .i64 pc, rg, .int .i64 st⟩, .slice (some ⟨G, 0, none⟩) rg.length rg.length) (by decide) (by simp [HLn.out]; omega) hq (ownLow' HO1.out (by omega)) (fun i z kk hi hz hk hk' => by
      injection hk with hk
      subst hk
      have h1 := HO.out.inn i z (by rw [e3, List.replicate_succ]; exact hz)
      have h2 := (World.ownsRow.lt h1 _ hk').2
      have h3 := HG.out
      simp at h2
      omega)
     rw [HLn.out] at hp
     rw [List.append_assoc]
     exact hp
   case measure => simp [intOf]; omega
  ·go_wp2
   go_ret
   have : k = l.length := by omega
   subst this
   have h1 := HO.out
   have h2 := HM.out
   simp only [Nat.sub_self, List.replicate_zero, List.append_nil] at h1
   rw [List.take_length] at h2
   exact ⟨L, rfl, h2, h1, HB.out, hsz⟩
set_option maxHeartbeats 1000000 in
theorem toChan_own (pc : Int) (st : Bool) (s : Option Addr) (c lo hi : Nat) (l : List Int) (w : World) (h : IntsR w lo hi s l) (hB : hi ≤ w.heap.size) (hl : l.length ≤ 1048576) :
  Calls Tryz.prog 68 #[.agg #[.int .i64 pc, .slice s l.length c, .bool st]] w fun e w' => ∃ g, e = .returned (.agg #[.int .i64 pc, .slice (some ⟨g, 0, none⟩) l.length l.length, .bool st]) ∧ OwnN w' w.heap.size (.slice (some ⟨g, 0, none⟩) l.length l.length) l ∧ Below w.heap.size w w' ∧ w.heap.size < w'.heap.size ∧ w.heap.size ≤ g := by
 have HR : Hid (IntsR w lo hi s l) := h
 clear h
 go_enter Tryz.func68, Tryz.ntmps68
 go_wp2_with fail
 refine (toIntS_own s c lo hi l _ (HR.out.keep (Keep.of_below ((((Below.refl w.heap.size w).alloc (Nat.le_refl _) _).alloc (by simp) _).alloc (by simp; omega) _) hB)) (by simp; omega) hl).mono ?_
 rintro e w1 ⟨rfl, ho1, hb1, hz1⟩
 have z3 : w.heap.size + 3 < w1.heap.size := by simp at hz1; omega
 have z0 : w.heap.size < w1.heap.size := by omega
 have z1 : w.heap.size + 1 < w1.heap.size := by omega
 have z2 : w.heap.size + 1 + 1 < w1.heap.size := by omega
 have a2 : w1.cell? ⟨w.heap.size, 2, none⟩ = some (.bool st) := by rw [hb1.cell (by simp; omega)]; simp [go_sem]
 have d0 : w1.cell? ⟨w.heap.size + 1, 0, none⟩ = some (.int .i64 0) := by rw [hb1.cell (by simp)]; simp [go_sem]
 have d1 : w1.cell? ⟨w.heap.size + 1, 1, none⟩ = some (.slice none 0 0) := by rw [hb1.cell (by simp)]; simp [go_sem]
 have d2 : w1.cell? ⟨w.heap.size + 1, 2, none⟩ = some (.bool false) := by rw [hb1.cell (by simp)]; simp [go_sem]
 have e0 : w1.cell? ⟨w.heap.size + 1 + 1, 0, none⟩ = some (.int .i64 pc) := by rw [hb1.cell (by simp)]; simp [go_sem]
 have e1 : w1.cell? ⟨w.heap.size + 1 + 1, 1, none⟩ = some (.slice none 0 0) := by rw [hb1.cell (by simp)]; simp [go_sem]
 have e2 : w1.cell? ⟨w.heap.size + 1 + 1, 2, none⟩ = some (.bool false) := by rw [hb1.cell (by simp)]; simp [go_sem]
 have y0 : ∀ j, w1.frozen? ⟨w.heap.size + 1, j, none⟩ = false := fun j => by rw [hb1.frozen (by simp)]; simp [go_sem]
 have y1 : ∀ j, w1.frozen? ⟨w.heap.size + 1 + 1, j, none⟩ = false := fun j => by rw [hb1.frozen (by simp)]; simp [go_sem]
 have k1 : Below w.heap.size w w1 := ((((Below.refl _ w).alloc (Nat.le_refl _) _).alloc (by simp) _).alloc (by simp; omega) _).trans (hb1.mono (by simp; omega))
 obtain ⟨G, hG, hGb⟩ : ∃ G, G = w.heap.size + 1 + 1 + 1 ∧ w.heap.size + 3 ≤ G := ⟨_, rfl, Nat.le_refl _⟩
 have HI : Hid (OwnN w1 w.heap.size (.slice (some ⟨G, 0, none⟩) l.length l.length) l) := by
  have h := ho1
  simp at h
  rw [hG]
  exact ownLow' h (by omega)
 have e3 : (((w.alloc (.cells #[.int .i64 pc, .slice s l.length c, .bool st] 91)).alloc (.cells #[.int .i64 0, .slice none 0 0, .bool false] 92)).alloc (.cells #[.int .i64 pc, .slice none 0 0, .bool false] 92)).heap.size = G := by simp [hG]
 first | rw [e3] | (simp only [World.size_alloc]; rw [← hG]) | skip
 clear hb1 ho1 hz1 hG e3
 go_wp2
 have fin : ∀ k, w.heap.size + 3 ≤ k → (((((w1.setCell ⟨w.heap.size + 1 + 1, 1, none⟩ (.slice (some ⟨G, 0, none⟩) l.length l.length)).setCell ⟨w.heap.size + 1 + 1, 2, none⟩ (.bool st)).setCell ⟨w.heap.size + 1, 0, none⟩ (.int .i64 pc)).setCell ⟨w.heap.size + 1, 1, none⟩ (.slice (some ⟨G, 0, none⟩) l.length l.length)).setCell ⟨w.heap.size + 1, 2, none⟩ (.bool st)).heap[k]? = w1.heap[k]? := fun k hk => by
  rw [Below.heap_setCell _ _ _ k (by simp; omega), Below.heap_setCell _ _ _ k (by simp; omega), Below.heap_setCell _ _ _ k (by simp; omega), Below.heap_setCell _ _ _ k (by simp; omega), Below.heap_setCell _ _ _ k (by simp; omega)]
 refine bodyPost_ret (v := .agg #[.int .i64 pc, .slice (some ⟨G, 0, none⟩) l.length l.length, .bool st]) (by simp [results, Tryz.results68, go_sem, d0, d1, d2]) rfl ⟨G, rfl, ?_, ?_, by simp; omega, by omega⟩
 ·exact ownKeep' HI.out (fun k hk => fin k (by have hk2 : some G = some k := hk; injection hk2 with hk2; omega))
 ·exact (((((k1.setCell (p := ⟨w.heap.size + 1 + 1, 1, none⟩) (by simp; omega) _).setCell (p := ⟨w.heap.size + 1 + 1, 2, none⟩) (by simp; omega) _).setCell (p := ⟨w.heap.size + 1, 0, none⟩) (by simp) _).setCell (p := ⟨w.heap.size + 1, 1, none⟩) (by simp) _).setCell (p := ⟨w.heap.size + 1, 2, none⟩) (by simp) _)
theorem mkC (n : Nat) (hn : n ≤ 1048576) (w : World) : (Instr.makeSlice 34 (.int .i64 (n : Int)) (.int .i64 (n : Int))).run Tryz.prog w = .ok (.slice (some ⟨w.heap.size, 0, none⟩) n n) (w.alloc (.cells (madeCells #[.int .i64 0, .slice none 0 0, .bool false] (n * 3)) 92)) := by
 have h := run_make (P := Tryz.prog) w 34 92 _ (.agg #[.int .i64 0, .slice none 0 0, .bool false]) Tryz.underlying34 rfl rfl .i64 .i64 n n (by omega) (Int.le_refl _) (by show (40 : Int) * _ ≤ _; omega) (by omega)
 have e : (Value.agg #[.int .i64 0, .slice none 0 0, .bool false]).cells = #[.int .i64 0, .slice none 0 0, .bool false] := rfl
 have e' : ∀ t, Tryz.prog.info? 92 = some t → t.size = 3 := by intro t h; cases h; rfl
 rw [e, e' _ rfl] at h
 simpa using h
set_option maxHeartbeats 1000000 in
theorem toChanS_own (s : Option Addr) (c lo hi : Nat) (l : List CD) (w : World) (h : RecsR w lo hi s (l.map CD.rec3)) (hB : hi ≤ w.heap.size) (hl : l.length ≤ 1048576) (hls : ∀ (i : Nat) (t : CD), l[i]? = some t → t.list.length ≤ 1048576) :
  Calls Tryz.prog 38 #[.slice s l.length c] w fun e w' => ∃ L, e = .returned (.slice (some ⟨w.heap.size, 0, none⟩) l.length l.length) ∧ L.map Prod.fst = l.map CD.rec3 ∧ OwnQ w' w.heap.size 92 (.slice (some ⟨w.heap.size, 0, none⟩) l.length l.length) L ∧ Below w.heap.size w w' ∧ w.heap.size < w'.heap.size := by
 have hmk := mkC l.length hl
 have HC : Hid (RecsR w lo hi s (l.map CD.rec3)) := h
 have HLS : Hid (∀ (i : Nat) (t : CD), l[i]? = some t → t.list.length ≤ 1048576) := hls
 clear h hls
 go_enter Tryz.func38, Tryz.ntmps38
 go_wp2
 clear hmk
 go_loopw [4] (fun i wr => ∃ k : Nat, k ≤ l.length ∧ i = .int .i64 k ∧ Below w.heap.size w wr ∧ w.heap.size < wr.heap.size ∧ ∃ L, L.length = k ∧ L.map Prod.fst = (l.take k).map CD.rec3 ∧ OwnQ wr w.heap.size 92 (.slice (some ⟨w.heap.size, 0, none⟩) l.length l.length) (L ++ List.replicate (l.length - k) zqC)) (fun i _ => l.length - (intOf i).toNat)
 case atStart =>
  exact ⟨0, Nat.zero_le _, rfl, (Below.refl _ _).alloc (Nat.le_refl _) _, by simp, [], rfl, rfl, OwnQ.made w 92 zqC rfl rfl l.length hl⟩
 case round =>
  obtain ⟨k, hk, rfl, hb, hsz, L, hL, hm, ho⟩ := hrel
  have HB : Hid (Below w.heap.size w wr) := hb
  have HM : Hid (L.map Prod.fst = (l.take k).map CD.rec3) := hm
  have HLn : Hid (L.length = k) := hL
  have HO : Hid (OwnQ wr w.heap.size 92 (.slice (some ⟨w.heap.size, 0, none⟩) l.length l.length) (L ++ List.replicate (l.length - k) zqC)) := ho
  clear hb ho hm hL
  by_cases hlt : k < l.length
  ·obtain ⟨t, ht⟩ : ∃ t, l[k]? = some t := ⟨_, List.getElem?_eq_getElem hlt⟩
   obtain ⟨g, off, hs, hg, hc⟩ : ∃ g off, s = some ⟨g, off, none⟩ ∧ g < w.heap.size ∧ RecR wr lo hi g (off + k * 3) t.rec3 := by
    rcases HC.out with h | ⟨g, off, a, b, d, e⟩
    ·have : l = [] := by simpa using h
     rw [this] at hlt; simp at hlt
    ·exact ⟨g, off, a, by omega, (e k t.rec3 (by rw [List.getElem?_map, ht]; rfl)).keep (Keep.of_below HB.out hB) (fun j => HB.out.cell (p := ⟨g, j, none⟩) (by show g < _; omega))⟩
   subst hs
   have hlen := HLS.out k t ht
   have HT : Hid (l[k]? = some t) := ht
   obtain ⟨s1, c1, f0, f1, f2, hin⟩ := hc
   obtain ⟨pc, rg, st⟩ := t
   simp only [CD.rec3] at f0 f1 f2 hin hlen
   have HIN : Hid (IntsR wr lo hi s1 rg) := hin
   clear ht hin
   have b0 : (0 : Int) ≤ (k : Int) := by omega
   have b1 : (k : Int) < (l.length : Int) := by omega
   have hs0 := HB.out.size
   go_wp2_with fail
   refine (toChan_own pc st s1 c1 lo hi rg wr HIN.out (by omega) hlen).mono ?_
   rintro e w1 ⟨G, rfl, ho1, hb1, hz1, hG⟩
   have HB1 : Hid (Below wr.heap.size wr w1) := hb1
   have HO1 : Hid (OwnN w1 wr.heap.size (.slice (some ⟨G, 0, none⟩) rg.length rg.length) rg) := ho1
   have HG : Hid (wr.heap.size ≤ G) := hG
   have HQ : Hid (OwnQ w1 w.heap.size 92 (.slice (some ⟨w.heap.size, 0, none⟩) l.length l.length) (L ++ List.replicate (l.length - k) zqC)) := HO.out.below hb1
   clear hb1 ho1 hG f0 f1 f2
   have hlr : (L ++ List.replicate (l.length - k) zqC).length = l.length := by simp [HLn.out]; omega
   have hrow := HQ.out.row
   rw [hlr] at hrow
   have cc : ∀ j, j < 3 → ∃ u, w1.cell? ⟨w.heap.size, k * 3 + j, none⟩ = some u := fun j hj => by
    rw [World.ownsRow.cellAt hrow (k * 3 + j) (by omega)]
    exact ⟨_, List.getElem?_eq_getElem (by rw [flatR_len, hlr]; omega)⟩
   have hfz : ∀ j, w1.frozen? ⟨w.heap.size, j, none⟩ = false := fun j => World.ownsRow.frozenAt hrow j
   obtain ⟨u0, g0⟩ := cc 0 (by omega)
   obtain ⟨u1, g1⟩ := cc 1 (by omega)
   obtain ⟨u2, g2⟩ := cc 2 (by omega)
   rw [Nat.add_zero] at g0
   clear cc hrow hlr
   go_wp2
   go_roundw
   case rel =>
    have hs1 := HB1.out.size
    show ∃ k' : Nat, _ ∧ _ ∧ Below w.heap.size w (set3 w1 w.heap.size (k * 3) (.int .i64 pc) (.slice (some ⟨G, 0, none⟩) rg.length rg.length) (.bool st)) ∧ _ < (set3 w1 w.heap.size (k * 3) (.int .i64 pc) (.slice (some ⟨G, 0, none⟩) rg.length rg.length) (.bool st)).heap.size ∧ ∃ L', _ ∧ _ ∧ OwnQ (set3 w1 w.heap.size (k * 3) (.int .i64 pc) (.slice (some ⟨G, 0, none⟩) rg.length rg.length) (.bool st)) _ _ _ _
    refine ⟨k + 1, by omega, by go_num, set3_below (HB.out.trans (HB1.out.mono (by omega))) (Nat.le_refl _), by rw [set3_size]; omega, L ++ [(⟨.int .i64 pc, rg, .bool st⟩, .slice (some ⟨G, 0, none⟩) rg.length rg.length)], by simp [HLn.out], ?_, ?_⟩
    ·rw [List.take_add_one, HT.out, List.map_append, List.map_append, HM.out]
     rfl
    ·have e3 : l.length - k = (l.length - (k + 1)) + 1 := by omega
     have hq := HQ.out
     rw [e3, List.replicate_succ] at hq
     have hp := OwnQ.put (A := L) (B := List.replicate (l.length - (k + 1)) zqC) (x := zqC) (⟨.int .i64 pc, rg, .bool st⟩, .slice (some ⟨G, 0, none⟩) rg.length rg.length) (by decide) (by simp [HLn.out]; omega) hq (ownLow' HO1.out (by omega)) (fun i z kk hi hz hk hk' => by
      injection hk with hk
      subst hk
      have h1 := HO.out.inn i z (by rw [e3, List.replicate_succ]; exact hz)
      have h2 := (World.ownsRow.lt h1 _ hk').2
      have h3 := HG.out
      simp at h2
      omega)
     rw [HLn.out] at hp
     rw [List.append_assoc]
     exact hp
   case measure => simp [intOf]; omega
  ·go_wp2
   go_ret
   have : k = l.length := by omega
   subst this
   have h1 := HO.out
   have h2 := HM.out
   simp only [Nat.sub_self, List.replicate_zero, List.append_nil] at h1
   rw [List.take_length] at h2
   exact ⟨L, rfl, h2, h1, HB.out, hsz⟩
end
section
set_option linter.unusedSimpArgs false
set_option linter.unusedVariables false
set_option maxRecDepth 100000
open Go.RowKit
theorem toNote_any (a b : Int) (w : World) : Calls Tryz.prog 69 #[.agg #[.int .i64 a, .int .i64 b]] w fun e w' => e = .returned (.agg #[.int .i64 a, .int .i64 b]) ∧ Below w.heap.size w w' := by
 go_enter Tryz.func69, Tryz.ntmps69
 go_wp2
 exact bodyPost_ret (v := .agg #[.int .i64 a, .int .i64 b]) (by simp [results, Tryz.results69, go_sem]) rfl ⟨rfl, (((Below.refl _ _).alloc (Nat.le_refl _) _).alloc (by simp) _).alloc (by simp; omega) _⟩
theorem mkN (n : Nat) (hn : n ≤ 1048576) (w : World) : (Instr.makeSlice 35 (.int .i64 (n : Int)) (.int .i64 (n : Int))).run Tryz.prog w = .ok (.slice (some ⟨w.heap.size, 0, none⟩) n n) (w.alloc (.cells (madeCells #[.int .i64 0, .int .i64 0] (n * 2)) 99)) := by
 have h := run_make (P := Tryz.prog) w 35 99 _ (.agg #[.int .i64 0, .int .i64 0]) Tryz.underlying35 rfl rfl .i64 .i64 n n (by omega) (Int.le_refl _) (by show (16 : Int) * _ ≤ _; omega) (by omega)
 have e : (Value.agg #[.int .i64 0, .int .i64 0]).cells = #[.int .i64 0, .int .i64 0] := rfl
 have e' : ∀ t, Tryz.prog.info? 99 = some t → t.size = 2 := by intro t h; cases h; rfl
 rw [e, e' _ rfl] at h
 simpa using h
set_option maxHeartbeats 1000000 in
theorem toNoteS_own (s : Option Addr) (c lo hi : Nat) (l : List ND) (w : World) (h : NtsR w lo hi s l) (hB : hi ≤ w.heap.size) (hl : l.length ≤ 1048576) :
  Calls Tryz.prog 39 #[.slice s l.length c] w fun e w' => e = .returned (.slice (some ⟨w.heap.size, 0, none⟩) l.length l.length) ∧ OwnD w' w.heap.size (.slice (some ⟨w.heap.size, 0, none⟩) l.length l.length) l ∧ Below w.heap.size w w' ∧ w.heap.size < w'.heap.size := by
 have hmk := mkN l.length hl
 have HC : Hid (NtsR w lo hi s l) := h
 clear h
 go_enter Tryz.func39, Tryz.ntmps39
 go_wp2
 clear hmk
 go_loopw [4] (fun i wr => ∃ k : Nat, k ≤ l.length ∧ i = .int .i64 k ∧ Below w.heap.size w wr ∧ w.heap.size < wr.heap.size ∧ wr.ownsRow w.heap.size 99 2 (.slice (some ⟨w.heap.size, 0, none⟩) l.length l.length) l.length (flatN (l.take k ++ List.replicate (l.length - k) ⟨0, 0⟩))) (fun i _ => l.length - (intOf i).toNat)
 case atStart =>
  refine ⟨0, Nat.zero_le _, rfl, (Below.refl _ _).alloc (Nat.le_refl _) _, by simp, ?_⟩
  have h0 := World.ownsRow_lit (base := w.heap.size) (e := 99) (size := 2) w (madeCells #[.int .i64 0, .int .i64 0] (l.length * 2)) l.length (Nat.le_refl _) (by unfold maxLen; omega) (size_madeCells _ _)
  rw [← flatN_rep] at h0
  simpa using h0
 case round =>
  obtain ⟨k, hk, rfl, hb, hsz, ho⟩ := hrel
  have HB : Hid (Below w.heap.size w wr) := hb
  have HO := (show Hid _ from ho)
  clear hb ho
  by_cases hlt : k < l.length
  ·obtain ⟨t, ht⟩ : ∃ t, l[k]? = some t := ⟨_, List.getElem?_eq_getElem hlt⟩
   obtain ⟨g, off, hs, hg, hc⟩ : ∃ g off, s = some ⟨g, off, none⟩ ∧ g < w.heap.size ∧ NtR w g (off + k * 2) t := by
    rcases HC.out with h | ⟨g, off, a, b, d, e⟩
    ·rw [h] at hlt; simp at hlt
    ·exact ⟨g, off, a, by omega, e k t ht⟩
   subst hs
   have f0 := (HB.out.cell (p := ⟨g, off + k * 2, none⟩) hg).trans hc.1
   have f1 := (HB.out.cell (p := ⟨g, off + k * 2 + 1, none⟩) hg).trans hc.2
   have HT : Hid (l[k]? = some t) := ht
   clear ht hc
   obtain ⟨ta, tb⟩ := t
   simp only at f0 f1
   have b0 : (0 : Int) ≤ (k : Int) := by omega
   have b1 : (k : Int) < (l.length : Int) := by omega
   go_wp2_with fail
   refine (toNote_any ta tb _).mono ?_
   rintro e w1 ⟨rfl, hb1⟩
   have HB1 : Hid (Below wr.heap.size wr w1) := hb1
   have hlr : (l.take k ++ List.replicate (l.length - k) (⟨0, 0⟩ : ND)).length = l.length := by simp; omega
   have HO1 : Hid (w1.ownsRow w.heap.size 99 2 (.slice (some ⟨w.heap.size, 0, none⟩) l.length l.length) l.length (flatN (l.take k ++ List.replicate (l.length - k) ⟨0, 0⟩))) := ownKeep' HO.out (fun k hk => hb1.block k (World.ownsRow.lt HO.out _ hk).2)
   clear hb1 f0 f1
   have cc : ∀ j, j < 2 → ∃ u, w1.cell? ⟨w.heap.size, k * 2 + j, none⟩ = some u := fun j hj => by
    rw [World.ownsRow.cellAt HO1.out (k * 2 + j) (by omega)]
    exact ⟨_, List.getElem?_eq_getElem (by rw [flatN_len, hlr]; omega)⟩
   have hfz : ∀ j, w1.frozen? ⟨w.heap.size, j, none⟩ = false := fun j => World.ownsRow.frozenAt HO1.out j
   obtain ⟨u0, g0⟩ := cc 0 (by omega)
   obtain ⟨u1, g1⟩ := cc 1 (by omega)
   rw [Nat.add_zero] at g0
   clear cc hlr
   go_wp2
   go_roundw
   case rel =>
    have hs1 := HB1.out.size
    show ∃ k' : Nat, _ ∧ _ ∧ Below w.heap.size w (set2 w1 w.heap.size (k * 2) (.int .i64 ta) (.int .i64 tb)) ∧ _ < (set2 w1 w.heap.size (k * 2) (.int .i64 ta) (.int .i64 tb)).heap.size ∧ World.ownsRow (set2 w1 w.heap.size (k * 2) (.int .i64 ta) (.int .i64 tb)) _ _ _ _ _ _
    refine ⟨k + 1, by omega, by go_num, set2_below (HB.out.trans (HB1.out.mono (by omega))) (Nat.le_refl _), by rw [set2_size]; omega, ?_⟩
    have p := (World.ownsRow.stored (World.ownsRow.stored HO1.out (k * 2) (.int .i64 ta)).1 (k * 2 + 1) (.int .i64 tb)).1
    have e3 : l.length - k = (l.length - (k + 1)) + 1 := by omega
    have e4 : l.take (k + 1) = l.take k ++ [⟨ta, tb⟩] := by rw [List.take_add_one, HT.out]; rfl
    have e5 : (l.take k).length = k := by rw [List.length_take]; omega
    have fp := flatN_put (l.take k) (List.replicate (l.length - (k + 1)) ⟨0, 0⟩) ⟨0, 0⟩ ⟨ta, tb⟩
    rw [e5] at fp
    rw [e3, List.replicate_succ, fp] at p
    rw [e4, List.append_assoc]
    exact p
   case measure => simp [intOf]; omega
  ·go_wp2
   go_ret
   have : k = l.length := by omega
   subst this
   have h1 := HO.out
   simp only [List.take_length, Nat.sub_self, List.replicate_zero, List.append_nil] at h1
   exact ⟨rfl, h1, HB.out, hsz⟩
set_option maxHeartbeats 2000000 in
theorem toSource_own (s1 s2 s3 : Option Addr) (c1 c2 c3 lo hi : Nat) (d : SD) (w : World) (h : SrcR w lo hi s1 s2 s3 d) (hB : hi ≤ w.heap.size) (hf : SFits d) :
  Calls Tryz.prog 11 #[.agg #[.slice s1 d.ths.length c1, .slice s2 d.chs.length c2, .slice s3 d.tr.length c3]] w fun e w' => ∃ v1 v2 v3 L1 L2, e = .returned (.agg #[v1, v2, v3]) ∧ OwnS w' w.heap.size v1 v2 v3 L1 L2 d ∧ Below w.heap.size w w' ∧ w.heap.size < w'.heap.size := by
 obtain ⟨h1, h2, h3⟩ := h
 obtain ⟨⟨q1, q1'⟩, ⟨q2, q2'⟩, q3⟩ := hf
 have H1 : Hid (RecsR w lo hi s1 (d.ths.map TD.rec3)) := h1
 have H2 : Hid (RecsR w lo hi s2 (d.chs.map CD.rec3)) := h2
 have H3 : Hid (NtsR w lo hi s3 d.tr) := h3
 have Q1 : Hid (∀ (i : Nat) (t : TD), d.ths[i]? = some t → t.regs.length ≤ 1048576) := q1'
 have Q2 : Hid (∀ (i : Nat) (t : CD), d.chs[i]? = some t → t.list.length ≤ 1048576) := q2'
 clear h1 h2 h3 q1' q2'
 go_enter Tryz.func11, Tryz.ntmps11
 go_wp2_with fail
 have k3 : Below w.heap.size w (((w.alloc (.cells #[.slice s1 d.ths.length c1, .slice s2 d.chs.length c2, .slice s3 d.tr.length c3] 30)).alloc (.cells #[.slice none 0 0, .slice none 0 0, .slice none 0 0] 37)).alloc (.cells #[.slice none 0 0, .slice none 0 0, .slice none 0 0] 37)) := (((Below.refl _ _).alloc (Nat.le_refl _) _).alloc (by simp) _).alloc (by simp; omega) _
 refine (toThreadS_own s1 c1 lo hi d.ths _ (H1.out.keep (Keep.of_below k3 hB)) (by simp; omega) q1 Q1.out).mono ?_
 rintro e w1 ⟨L1, rfl, m1, o1, hb1, hz1⟩
 have a1 : w1.cell? ⟨w.heap.size, 1, none⟩ = some (.slice s2 d.chs.length c2) := by rw [hb1.cell (by simp; omega)]; simp [go_sem]
 have a2 : w1.cell? ⟨w.heap.size, 2, none⟩ = some (.slice s3 d.tr.length c3) := by rw [hb1.cell (by simp; omega)]; simp [go_sem]
 have d0 : ∀ j, j < 3 → w1.cell? ⟨w.heap.size + 1, j, none⟩ = some (.slice none 0 0) := fun j hj => by rw [hb1.cell (by simp)]; rcases (show j = 0 ∨ j = 1 ∨ j = 2 by omega) with rfl | rfl | rfl <;> simp [go_sem]
 have e0 : ∀ j, j < 3 → w1.cell? ⟨w.heap.size + 1 + 1, j, none⟩ = some (.slice none 0 0) := fun j hj => by rw [hb1.cell (by simp)]; rcases (show j = 0 ∨ j = 1 ∨ j = 2 by omega) with rfl | rfl | rfl <;> simp [go_sem]
 have y0 : ∀ j, w1.frozen? ⟨w.heap.size + 1, j, none⟩ = false := fun j => by rw [hb1.frozen (by simp)]; simp [go_sem]
 have y1 : ∀ j, w1.frozen? ⟨w.heap.size + 1 + 1, j, none⟩ = false := fun j => by rw [hb1.frozen (by simp)]; simp [go_sem]
 have hz1' : w.heap.size + 3 < w1.heap.size := by simp at hz1; omega
 have k1 : Below w.heap.size w w1 := k3.trans (hb1.mono (by simp; omega))
 obtain ⟨A1, hv1⟩ : ∃ v, v = (some ⟨w.heap.size + 1 + 1 + 1, 0, none⟩ : Option Addr) := ⟨_, rfl⟩
 have HO1 : Hid (OwnQ w1 (w.heap.size + 3) 82 (.slice A1 d.ths.length d.ths.length) L1) := by have h := o1; simp at h; rw [hv1]; exact h
 have M1 : Hid (L1.map Prod.fst = d.ths.map TD.rec3) := m1
 simp only [World.size_alloc]
 rw [← hv1]
 clear hb1 hz1 o1 m1 k3 hv1
 have i0 := e0 0 (by omega)
 have i1 := e0 1 (by omega)
 have i2 := e0 2 (by omega)
 go_wp2_with fail
 have kset : Below w.heap.size w (w1.setCell ⟨w.heap.size + 1 + 1, 0, none⟩ (.slice A1 d.ths.length d.ths.length)) := k1.setCell (p := ⟨w.heap.size + 1 + 1, 0, none⟩) (by simp; omega) _
 refine (toChanS_own s2 c2 lo hi d.chs _ (H2.out.keep (Keep.of_below kset hB)) (by simp; omega) q2 Q2.out).mono ?_
 rintro e w2 ⟨L2, rfl, m2, o2, hb2, hz2⟩
 have hz2' : w1.heap.size < w2.heap.size := by simpa using hz2
 have a2' : w2.cell? ⟨w.heap.size, 2, none⟩ = some (.slice s3 d.tr.length c3) := (hb2.cell (by simp; omega)).trans ((setC_blk (by omega)).trans a2)
 have d0' : ∀ j, j < 3 → w2.cell? ⟨w.heap.size + 1, j, none⟩ = some (.slice none 0 0) := fun j hj => (hb2.cell (by simp; omega)).trans ((setC_blk (by omega)).trans (d0 j hj))
 have f0 : w2.cell? ⟨w.heap.size + 1 + 1, 0, none⟩ = some (.slice A1 d.ths.length d.ths.length) := (hb2.cell (by simp; omega)).trans (setC_at (by rw [i0]; rfl))
 have f1 : w2.cell? ⟨w.heap.size + 1 + 1, 1, none⟩ = some (.slice none 0 0) := (hb2.cell (by simp; omega)).trans ((setC_off (by omega)).trans i1)
 have f2 : w2.cell? ⟨w.heap.size + 1 + 1, 2, none⟩ = some (.slice none 0 0) := (hb2.cell (by simp; omega)).trans ((setC_off (by omega)).trans i2)
 have y0' : ∀ j, w2.frozen? ⟨w.heap.size + 1, j, none⟩ = false := fun j => by rw [hb2.frozen (by simp; omega), World.frozen?_setCell]; exact y0 j
 have y1' : ∀ j, w2.frozen? ⟨w.heap.size + 1 + 1, j, none⟩ = false := fun j => by rw [hb2.frozen (by simp; omega), World.frozen?_setCell]; exact y1 j
 have k2 : Below w.heap.size w w2 := kset.trans (hb2.mono (by simp; omega))
 have HO1' : Hid (OwnQ w2 (w.heap.size + 3) 82 (.slice A1 d.ths.length d.ths.length) L1) := HO1.out.keep (fun k hk hk' => (hb2.block k (by simp; omega)).trans (Below.heap_setCell _ _ _ k (by simp; omega)))
 have SP : Hid (∀ (i j : Nat) (x y : Rec × Value) (k : Nat), L1[i]? = some x → L2[j]? = some y → x.2.ownBlock = some k → y.2.ownBlock ≠ some k) := sepQ HO1.out o2 (by simp)
 obtain ⟨A2, hv2⟩ : ∃ v, v = (some ⟨w1.heap.size, 0, none⟩ : Option Addr) := ⟨_, rfl⟩
 have HO2 : Hid (OwnQ w2 w1.heap.size 92 (.slice A2 d.chs.length d.chs.length) L2) := by have h := o2; simp at h; rw [hv2]; exact h
 have M2 : Hid (L2.map Prod.fst = d.chs.map CD.rec3) := m2
 simp only [World.size_setCell]
 rw [← hv2]
 clear a1 a2 d0 e0 i0 i1 i2 y0 y1 hb2 hz2 o2 m2 kset hv2 HO1
 go_wp2_with fail
 have kset : Below w.heap.size w (w2.setCell ⟨w.heap.size + 1 + 1, 1, none⟩ (.slice A2 d.chs.length d.chs.length)) := k2.setCell (p := ⟨w.heap.size + 1 + 1, 1, none⟩) (by simp; omega) _
 refine (toNoteS_own s3 c3 lo hi d.tr _ (H3.out.keep (Keep.of_below kset hB)) (by simp; omega) q3).mono ?_
 rintro e w3 ⟨rfl, o3, hb3, hz3⟩
 have hz3' : w2.heap.size < w3.heap.size := by simpa using hz3
 have d0 : w3.cell? ⟨w.heap.size + 1, 0, none⟩ = some (.slice none 0 0) := (hb3.cell (by simp; omega)).trans ((setC_blk (by omega)).trans (d0' 0 (by omega)))
 have d1 : w3.cell? ⟨w.heap.size + 1, 1, none⟩ = some (.slice none 0 0) := (hb3.cell (by simp; omega)).trans ((setC_blk (by omega)).trans (d0' 1 (by omega)))
 have d2 : w3.cell? ⟨w.heap.size + 1, 2, none⟩ = some (.slice none 0 0) := (hb3.cell (by simp; omega)).trans ((setC_blk (by omega)).trans (d0' 2 (by omega)))
 have g0 : w3.cell? ⟨w.heap.size + 1 + 1, 0, none⟩ = some (.slice A1 d.ths.length d.ths.length) := (hb3.cell (by simp; omega)).trans ((setC_off (by omega)).trans f0)
 have g1 : w3.cell? ⟨w.heap.size + 1 + 1, 1, none⟩ = some (.slice A2 d.chs.length d.chs.length) := (hb3.cell (by simp; omega)).trans (setC_at (by rw [f1]; rfl))
 have g2 : w3.cell? ⟨w.heap.size + 1 + 1, 2, none⟩ = some (.slice none 0 0) := (hb3.cell (by simp; omega)).trans ((setC_off (by omega)).trans f2)
 have y0 : ∀ j, w3.frozen? ⟨w.heap.size + 1, j, none⟩ = false := fun j => by rw [hb3.frozen (by simp; omega), World.frozen?_setCell]; exact y0' j
 have y1 : ∀ j, w3.frozen? ⟨w.heap.size + 1 + 1, j, none⟩ = false := fun j => by rw [hb3.frozen (by simp; omega), World.frozen?_setCell]; exact y1' j
 have k3 : Below w.heap.size w w3 := kset.trans (hb3.mono (by simp; omega))
 have P1 : Hid (OwnQ w3 (w.heap.size + 3) 82 (.slice A1 d.ths.length d.ths.length) L1) := HO1'.out.keep (fun k hk hk' => (hb3.block k (by simp; omega)).trans (Below.heap_setCell _ _ _ k (by simp; omega)))
 have P2 : Hid (OwnQ w3 w1.heap.size 92 (.slice A2 d.chs.length d.chs.length) L2) := HO2.out.keep (fun k hk hk' => (hb3.block k (by simp; omega)).trans (Below.heap_setCell _ _ _ k (by simp; omega)))
 obtain ⟨A3, hv3⟩ : ∃ v, v = (some ⟨w2.heap.size, 0, none⟩ : Option Addr) := ⟨_, rfl⟩
 have P3 : Hid (OwnD w3 w2.heap.size (.slice A3 d.tr.length d.tr.length) d.tr) := by have h := o3; simp at h; rw [hv3]; exact h
 simp only [World.size_setCell]
 rw [← hv3]
 clear a2' d0' f0 f1 f2 y0' y1' hb3 hz3 o3 kset hv3 HO1' HO2
 go_wp2
 have fin : ∀ k, w.heap.size + 3 ≤ k → ((((w3.setCell ⟨w.heap.size + 1 + 1, 2, none⟩ (.slice A3 d.tr.length d.tr.length)).setCell ⟨w.heap.size + 1, 0, none⟩ (.slice A1 d.ths.length d.ths.length)).setCell ⟨w.heap.size + 1, 1, none⟩ (.slice A2 d.chs.length d.chs.length)).setCell ⟨w.heap.size + 1, 2, none⟩ (.slice A3 d.tr.length d.tr.length)).heap[k]? = w3.heap[k]? := fun k hk => by
  rw [Below.heap_setCell _ _ _ k (by simp; omega), Below.heap_setCell _ _ _ k (by simp; omega), Below.heap_setCell _ _ _ k (by simp; omega), Below.heap_setCell _ _ _ k (by simp; omega)]
 refine bodyPost_ret (v := .agg #[(.slice A1 d.ths.length d.ths.length), (.slice A2 d.chs.length d.chs.length), (.slice A3 d.tr.length d.tr.length)]) (by simp [results, Tryz.results11, go_sem, d0, d1, d2]) rfl ⟨(.slice A1 d.ths.length d.ths.length), (.slice A2 d.chs.length d.chs.length), (.slice A3 d.tr.length d.tr.length), L1, L2, rfl, ⟨M1.out, M2.out, ?_, ?_, ?_, SP.out⟩, ?_, ?_⟩
 ·exact (P1.out.keep (fun k hk hk' => fin k (by omega))).low (by omega)
 ·exact (P2.out.keep (fun k hk hk' => fin k (by omega))).low (by omega)
 ·exact ownLow' (ownKeep' P3.out (fun k hk => fin k (by have := (World.ownsRow.lt P3.out _ hk).1; omega))) (by omega)
 ·exact (((k3.setCell (p := ⟨w.heap.size + 1 + 1, 2, none⟩) (by simp; omega) _).setCell (p := ⟨w.heap.size + 1, 0, none⟩) (by simp) _).setCell (p := ⟨w.heap.size + 1, 1, none⟩) (by simp) _).setCell (p := ⟨w.heap.size + 1, 2, none⟩) (by simp) _
 ·simp; omega
end
end Go.Proofs.YtfokbjkgdiploaaGreat
