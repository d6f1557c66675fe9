/- A runner of the program jumps, ends, faults. No condition. A runner of the program prints, or has no room for it. No condition. -/
import Derived.Test.YtepfpbcjklaenaaKG00
import Derived.Test.YtepfpbcjklaenaaKG06
import Derived.Test.YtepfpbcjklaenaaKG07
import Derived.Test.YtepfpbcjklaenaaKKMQ
import Derived.Test.YtepfpbcjklaenaaKG08
import Derived.Test.YtepfpbcjklaenaaKG04
import Derived.Test.YtepfpbcjklaenaaKKApp
import Derived.Test.YtepfpbcjklaenaaKKIm12
import Derived.Test.YtepfpbcjklaenaaKG09
namespace Go.Proofs.Ytepfpbcjklaenaa
section
set_option linter.unusedSimpArgs false
set_option linter.unusedVariables false
set_option maxRecDepth 100000
open Go.RowKit
set_option maxHeartbeats 1000000 in
theorem do10 {Hq : Nat → Prop} {w : World} {B R bm gk gc gs gr gv who n cv cr cs ck N p : Nat} {late : Int} {vc vm vt : Value} {nc cc : Nat} {st : Int} {LC : List CV} {LK : List KV} {S : List RS} {d : MD} {k : KD} (r a b nn : Int) (h : Rn w R bm gk gc gs gr gv who n cv cr cs late vc (.slice (some ⟨gk, 0, none⟩) N ck) vm vt nc cc p st) (hq : MQ w B Hq vc (.slice (some ⟨gk, 0, none⟩) N ck) vm vt LC LK S d) (hN : LK.length = N) (hx : LK[who]? = some ⟨k, .slice (some ⟨gr, 0, none⟩) 8 cr, .slice (some ⟨gv, 0, none⟩) 24 cv⟩) (hp : k.pc = p) (hn8 : n ≤ 800) (hpn : p < n) (hB : B ≤ w.heap.size) (h0 : 0 ≤ nn) (h1 : nn < (n : Int)) :
  Calls Try.prog 69 #[.pointer (some ⟨R, 0, none⟩), .agg #[.int .i64 10, .int .i64 r, .int .i64 a, .int .i64 b, .int .i64 nn]] w fun e w' => e = .returned (.int .i64 0) ∧ ∃ LK', MQ w' B Hq vc (.slice (some ⟨gk, 0, none⟩) N ck) vm vt LC LK' S (stepAt d who late k n ⟨10, r, a, b, nn⟩).1 ∧ Below B w w' ∧ ∀ b', b' < w.heap.size → b' ≠ gk → w'.heap[b']? = w.heap[b']? := by
 obtain ⟨V, hV⟩ : ∃ V, w.alloc (.cells #[.int .i64 10, .int .i64 r, .int .i64 a, .int .i64 b, .int .i64 nn] 25) = V := ⟨_, rfl⟩
 have kv : Below w.heap.size w V := by subst hV; exact (Below.refl _ _).alloc (Nat.le_refl _) _
 have zV : w.heap.size < V.heap.size := by subst hV; simp
 have QV := hidM1 (hq.keep (w' := V) (fun b _ h1 => kv.block b h1) kv.size)
 have RV := hidM1 (h.below kv)
 have bgk : B ≤ gk := (World.ownsRow.lt hq.k.row gk rfl).1
 have HX := hidM1 hx
 have KV := hidM1 kv
 have HV := hidM1 hV
 have EQ : Hid (stepAt d who late k n ⟨10, r, a, b, nn⟩ = (goM d who k n nn, 0)) := stepAt10 _ _ _ _ _ _ rfl
 have GT := hidM1 (goTo_yes nn RV.out h0 h1)
 clear hq hx kv hV h
 go_enter Try.func69, Try.ntmps69
 go_wp2_with fail
 rw [HV.out]
 refine Calls.mono GT.out ?_
 rintro e w6 ⟨rfl, hb6⟩
 have HB6 := hidM1 hb6
 clear hb6
 go_wp2
 go_ret
 obtain ⟨LK2, q2⟩ := MQ.go (n := n) QV.out hN HX.out nn h1 (F := w6) (fun b hb => HB6.out.block b hb) (by simpa using HB6.out.size)
 refine ⟨rfl, LK2, by rw [EQ.out]; exact q2, ((KV.out.mono hB).setCell (p := ⟨gk, who * 4, none⟩) bgk _).trans (HB6.out.mono (by omega)), fun b' h1 h3 => (HB6.out.block b' (by omega)).trans ((Below.heap_setCell _ ⟨gk, _, none⟩ _ b' h3).trans (KV.out.block b' h1))⟩
set_option maxHeartbeats 1000000 in
theorem do12 {Hq : Nat → Prop} {w : World} {B R bm gk gc gs gr gv who n cv cr cs ck N p : Nat} {late : Int} {vc vm vt : Value} {nc cc : Nat} {st : Int} {LC : List CV} {LK : List KV} {S : List RS} {d : MD} {k : KD} (r a b nn : Int) (h : Rn w R bm gk gc gs gr gv who n cv cr cs late vc (.slice (some ⟨gk, 0, none⟩) N ck) vm vt nc cc p st) (hq : MQ w B Hq vc (.slice (some ⟨gk, 0, none⟩) N ck) vm vt LC LK S d) (hN : LK.length = N) (hx : LK[who]? = some ⟨k, .slice (some ⟨gr, 0, none⟩) 8 cr, .slice (some ⟨gv, 0, none⟩) 24 cv⟩) (hp : k.pc = p) (hn8 : n ≤ 800) (hpn : p < n) (hB : B ≤ w.heap.size) :
  Calls Try.prog 69 #[.pointer (some ⟨R, 0, none⟩), .agg #[.int .i64 12, .int .i64 r, .int .i64 a, .int .i64 b, .int .i64 nn]] w fun e w' => e = .returned (.int .i64 0) ∧ ∃ LK', MQ w' B Hq vc (.slice (some ⟨gk, 0, none⟩) N ck) vm vt LC LK' S (stepAt d who late k n ⟨12, r, a, b, nn⟩).1 ∧ Below B w w' ∧ ∀ b', b' < w.heap.size → b' ≠ gk → w'.heap[b']? = w.heap[b']? := by
 obtain ⟨V, hV⟩ : ∃ V, w.alloc (.cells #[.int .i64 12, .int .i64 r, .int .i64 a, .int .i64 b, .int .i64 nn] 25) = V := ⟨_, rfl⟩
 have kv : Below w.heap.size w V := by subst hV; exact (Below.refl _ _).alloc (Nat.le_refl _) _
 have zV : w.heap.size < V.heap.size := by subst hV; simp
 have QV := hidM1 (hq.keep (w' := V) (fun b _ h1 => kv.block b h1) kv.size)
 have RV := hidM1 (h.below kv)
 have bgk : B ≤ gk := (World.ownsRow.lt hq.k.row gk rfl).1
 have HX := hidM1 hx
 have KV := hidM1 kv
 have HV := hidM1 hV
 have EQ : Hid (stepAt d who late k n ⟨12, r, a, b, nn⟩ = (putK d who { k with st := 1 }, 0)) := stepAt12 _ _ _ _ _ _ rfl
 have GT := hidM1 (stop_any 1 RV.out)
 clear hq hx kv hV h
 go_enter Try.func69, Try.ntmps69
 go_wp2_with fail
 rw [HV.out]
 refine Calls.mono GT.out ?_
 rintro e w6 ⟨rfl, hb6⟩
 have HB6 := hidM1 hb6
 clear hb6
 go_wp2
 go_ret
 obtain ⟨LK2, q2⟩ := MQ.st QV.out hN HX.out 1 (F := w6) (fun b hb => HB6.out.block b hb) (by simpa using HB6.out.size)
 refine ⟨rfl, LK2, by rw [EQ.out]; exact q2, ((KV.out.mono hB).setCell (p := ⟨gk, who * 4 + 3, none⟩) bgk _).trans (HB6.out.mono (by omega)), fun b' h1 h3 => (HB6.out.block b' (by omega)).trans ((Below.heap_setCell _ ⟨gk, _, none⟩ _ b' h3).trans (KV.out.block b' h1))⟩
set_option maxHeartbeats 1000000 in
theorem do13 {Hq : Nat → Prop} {w : World} {B R bm gk gc gs gr gv who n cv cr cs ck N p : Nat} {late : Int} {vc vm vt : Value} {nc cc : Nat} {st : Int} {LC : List CV} {LK : List KV} {S : List RS} {d : MD} {k : KD} (r a b nn : Int) (h : Rn w R bm gk gc gs gr gv who n cv cr cs late vc (.slice (some ⟨gk, 0, none⟩) N ck) vm vt nc cc p st) (hq : MQ w B Hq vc (.slice (some ⟨gk, 0, none⟩) N ck) vm vt LC LK S d) (hN : LK.length = N) (hx : LK[who]? = some ⟨k, .slice (some ⟨gr, 0, none⟩) 8 cr, .slice (some ⟨gv, 0, none⟩) 24 cv⟩) (hp : k.pc = p) (hn8 : n ≤ 800) (hpn : p < n) (hB : B ≤ w.heap.size) :
  Calls Try.prog 69 #[.pointer (some ⟨R, 0, none⟩), .agg #[.int .i64 13, .int .i64 r, .int .i64 a, .int .i64 b, .int .i64 nn]] w fun e w' => e = .returned (.int .i64 0) ∧ ∃ LK', MQ w' B Hq vc (.slice (some ⟨gk, 0, none⟩) N ck) vm vt LC LK' S (stepAt d who late k n ⟨13, r, a, b, nn⟩).1 ∧ Below B w w' ∧ ∀ b', b' < w.heap.size → b' ≠ gk → w'.heap[b']? = w.heap[b']? := by
 obtain ⟨V, hV⟩ : ∃ V, w.alloc (.cells #[.int .i64 13, .int .i64 r, .int .i64 a, .int .i64 b, .int .i64 nn] 25) = V := ⟨_, rfl⟩
 have kv : Below w.heap.size w V := by subst hV; exact (Below.refl _ _).alloc (Nat.le_refl _) _
 have zV : w.heap.size < V.heap.size := by subst hV; simp
 have QV := hidM1 (hq.keep (w' := V) (fun b _ h1 => kv.block b h1) kv.size)
 have RV := hidM1 (h.below kv)
 have bgk : B ≤ gk := (World.ownsRow.lt hq.k.row gk rfl).1
 have HX := hidM1 hx
 have KV := hidM1 kv
 have HV := hidM1 hV
 have EQ : Hid (stepAt d who late k n ⟨13, r, a, b, nn⟩ = (putK d who { k with st := 2 }, 0)) := stepAt13 _ _ _ _ _ _ rfl
 have GT := hidM1 (stop_any 2 RV.out)
 clear hq hx kv hV h
 go_enter Try.func69, Try.ntmps69
 go_wp2_with fail
 rw [HV.out]
 refine Calls.mono GT.out ?_
 rintro e w6 ⟨rfl, hb6⟩
 have HB6 := hidM1 hb6
 clear hb6
 go_wp2
 go_ret
 obtain ⟨LK2, q2⟩ := MQ.st QV.out hN HX.out 2 (F := w6) (fun b hb => HB6.out.block b hb) (by simpa using HB6.out.size)
 refine ⟨rfl, LK2, by rw [EQ.out]; exact q2, ((KV.out.mono hB).setCell (p := ⟨gk, who * 4 + 3, none⟩) bgk _).trans (HB6.out.mono (by omega)), fun b' h1 h3 => (HB6.out.block b' (by omega)).trans ((Below.heap_setCell _ ⟨gk, _, none⟩ _ b' h3).trans (KV.out.block b' h1))⟩
set_option maxHeartbeats 1000000 in
theorem do11 {Hq : Nat → Prop} {w : World} {B R bm gk gc gs gr gv who n cv cr cs ck N p : Nat} {late : Int} {vc vm vt : Value} {nc cc : Nat} {st : Int} {LC : List CV} {LK : List KV} {S : List RS} {d : MD} {k : KD} (a' : Nat) (r b nn va : Int) (h : Rn w R bm gk gc gs gr gv who n cv cr cs late vc (.slice (some ⟨gk, 0, none⟩) N ck) vm vt nc cc p st) (hq : MQ w B Hq vc (.slice (some ⟨gk, 0, none⟩) N ck) vm vt LC LK S d) (hN : LK.length = N) (hx : LK[who]? = some ⟨k, .slice (some ⟨gr, 0, none⟩) 8 cr, .slice (some ⟨gv, 0, none⟩) 24 cv⟩) (hp : k.pc = p) (hn8 : n ≤ 800) (hpn : p < n) (hB : B ≤ w.heap.size) (ha : a' < 8) (la : w.cell? ⟨gr, a', none⟩ = some (.int .i64 va)) (hva : k.regs.getD a' 0 = va) (h0 : 0 ≤ nn) (h1 : nn < (n : Int)) :
  Calls Try.prog 69 #[.pointer (some ⟨R, 0, none⟩), .agg #[.int .i64 11, .int .i64 r, .int .i64 a', .int .i64 b, .int .i64 nn]] w fun e w' => e = .returned (.int .i64 0) ∧ ∃ LK', MQ w' B Hq vc (.slice (some ⟨gk, 0, none⟩) N ck) vm vt LC LK' S (stepAt d who late k n ⟨11, r, a', b, nn⟩).1 ∧ Below B w w' ∧ ∀ b', b' < w.heap.size → b' ≠ gk → w'.heap[b']? = w.heap[b']? := by
 obtain ⟨V, hV⟩ : ∃ V, w.alloc (.cells #[.int .i64 11, .int .i64 r, .int .i64 a', .int .i64 b, .int .i64 nn] 25) = V := ⟨_, rfl⟩
 have kv : Below w.heap.size w V := by subst hV; exact (Below.refl _ _).alloc (Nat.le_refl _) _
 have zV : w.heap.size < V.heap.size := by subst hV; simp
 have QV := hidM1 (hq.keep (w' := V) (fun b _ h1 => kv.block b h1) kv.size)
 have RV := hidM1 (h.below kv)
 have bgk : B ≤ gk := (World.ownsRow.lt hq.k.row gk rfl).1
 have HX := hidM1 hx
 have KV := hidM1 kv
 have HV := hidM1 hV
 have EQ0 := hidM1 (stepAt11 d who late k n ⟨11, r, a', b, nn⟩ rfl)
 obtain ⟨r0, r1, r2, r3, r4, m0, m1, m2, m3, fm, ec, c0, k0, k1, k3, fk, wc, zR, zm, zk, zc, zr⟩ := h
 have ba0 : (0 : Int) ≤ (a' : Int) := by omega
 have ba1 : (a' : Int) < 8 := by omega
 have w1 : IntKind.i64.wrap ((p : Int) + 1) = (p : Int) + 1 := Go.IntWalk.i64_in _ (by omega)
 have t2 : V.cell? ⟨w.heap.size, 2, none⟩ = some (.int .i64 a') := by subst hV; simp [go_sem]
 have t4 : V.cell? ⟨w.heap.size, 4, none⟩ = some (.int .i64 nn) := by subst hV; simp [go_sem]
 have u2 := Ext.fit t2 zV
 have u0 := Ext.fit ((kv.cell (p := ⟨R, 1, none⟩) zR).trans r1) (by omega)
 have u1 := Ext.fit ((kv.cell (p := ⟨gk, who * 4 + 1, none⟩) zk).trans k1) (by omega)
 have ua := Ext.fit ((kv.cell (p := ⟨gr, a', none⟩) zr).trans la) (by omega)
 have hne := ext_ne V
 clear hq hx kv hV
 go_enter Try.func69, Try.ntmps69
 go_wp2_with fail
 rw [HV.out]
 refine regionExt V (by kernel_rfl) (by kernel_rfl) ?_
 repeat (go_big_quiet_step (fail))
 refine wpQuiet_nil ?_
 rintro w3 ⟨X3, rfl⟩
 obtain ⟨U, hU⟩ : ∃ U, X3.w = U := ⟨_, rfl⟩
 have hb3 := X3.b
 rw [hU] at hb3 ⊢
 have KU := hidM1 (KV.out.trans (hb3.mono (by omega)))
 have QU := hidM1 (QV.out.keep (w' := U) (fun b _ h1 => hb3.block b h1) hb3.size)
 have RU := RV.out.below hb3
 have HRU := hidM1 RU
 have zU : w.heap.size < U.heap.size := by have := hb3.size; omega
 have t4u := (hb3.cell (p := ⟨w.heap.size, 4, none⟩) zV).trans t4
 clear hne u0 u1 u2 ua t2 t4 hU X3 r0 r1 r2 r3 r4 m0 m1 m2 m3 fm c0 k0 k1 k3 fk hb3 la
 obtain ⟨r0, r1, r2, r3, r4, m0, m1, m2, m3, fm, ec', c0, k0, k1, k3, fk, wc', zR', zm', zk', zc', zr'⟩ := RU
 clear ec'
 by_cases hz : va = 0
 ·have EQ : Hid (stepAt d who late k n ⟨11, r, a', b, nn⟩ = (goM d who k n nn, 0)) := by
   show _ = _
   rw [EQ0.out]
   unfold regA
   simp only [Int.toNat_natCast, hva, hz, if_true]
  subst hz
  have GT := hidM1 (goTo_yes nn HRU.out h0 h1)
  go_wp2_with fail
  refine Calls.mono GT.out ?_
  rintro e w6 ⟨rfl, hb6⟩
  have HB6 := hidM1 hb6
  clear hb6
  go_wp2
  go_ret
  obtain ⟨LK2, q2⟩ := MQ.go (n := n) QU.out hN HX.out nn h1 (F := w6) (fun b hb => HB6.out.block b hb) (by simpa using HB6.out.size)
  refine ⟨rfl, LK2, by rw [EQ.out]; exact q2, ((KU.out.mono hB).setCell (p := ⟨gk, who * 4, none⟩) bgk _).trans (HB6.out.mono (by omega)), fun b' h1 h3 => (HB6.out.block b' (by omega)).trans ((Below.heap_setCell _ ⟨gk, _, none⟩ _ b' h3).trans (KU.out.block b' h1))⟩
 ·have EQ : Hid (stepAt d who late k n ⟨11, r, a', b, nn⟩ = (goM d who k n (p + 1), 0)) := by
   show _ = _
   rw [EQ0.out]
   unfold regA
   simp only [Int.toNat_natCast, hva, hz, if_false, hp]
  by_cases hin : (p : Int) + 1 < (n : Int)
  ·have GT := hidM1 (goTo_yes ((p : Int) + 1) HRU.out (by omega) hin)
   go_wp2_with fail
   refine Calls.mono GT.out ?_
   rintro e w6 ⟨rfl, hb6⟩
   have HB6 := hidM1 hb6
   clear hb6
   go_wp2
   go_ret
   obtain ⟨LK2, q2⟩ := MQ.go (n := n) QU.out hN HX.out (p + 1) hin (F := w6) (fun b hb => HB6.out.block b hb) (by simpa using HB6.out.size)
   refine ⟨rfl, LK2, by rw [EQ.out]; exact q2, ((KU.out.mono hB).setCell (p := ⟨gk, who * 4, none⟩) bgk _).trans (HB6.out.mono (by omega)), fun b' h1 h3 => (HB6.out.block b' (by omega)).trans ((Below.heap_setCell _ ⟨gk, _, none⟩ _ b' h3).trans (KU.out.block b' h1))⟩
  ·have GT := hidM1 (goTo_no ((p : Int) + 1) HRU.out (by omega))
   go_wp2_with fail
   refine Calls.mono GT.out ?_
   rintro e w6 ⟨rfl, hb6⟩
   have HB6 := hidM1 hb6
   clear hb6
   go_wp2
   go_ret
   obtain ⟨LK2, q2⟩ := MQ.no (n := n) QU.out hN HX.out (p + 1) (by omega) (F := w6) (fun b hb => HB6.out.block b hb) (by simpa using HB6.out.size)
   refine ⟨rfl, LK2, by rw [EQ.out]; exact q2, ((KU.out.mono hB).setCell (p := ⟨gk, who * 4 + 3, none⟩) bgk _).trans (HB6.out.mono (by omega)), fun b' h1 h3 => (HB6.out.block b' (by omega)).trans ((Below.heap_setCell _ ⟨gk, _, none⟩ _ b' h3).trans (KU.out.block b' h1))⟩
end
section
set_option linter.unusedSimpArgs false
set_option linter.unusedVariables false
set_option maxRecDepth 100000
open Go.RowKit
set_option maxHeartbeats 1000000 in
theorem do9n {w : World} {R bm gk gc gs gr gv who n cv cr cs nT cT : Nat} {sT : Option Addr} {late : Int} {vc vk vm : Value} {nc cc : Nat} {pc st : Int} (a' : Nat) (r b nn va : Int) (h : Rn w R bm gk gc gs gr gv who n cv cr cs late vc vk vm (.slice sT nT cT) nc cc pc st) (ha : a' < 8) (la : w.cell? ⟨gr, a', none⟩ = some (.int .i64 va)) (hf : 4000 ≤ nT) :
  Calls Try.prog 69 #[.pointer (some ⟨R, 0, none⟩), .agg #[.int .i64 9, .int .i64 r, .int .i64 a', .int .i64 b, .int .i64 nn]] w fun e w' => e = .returned (.int .i64 3) ∧ Below w.heap.size w w' := by
 obtain ⟨V, hV⟩ : ∃ V, w.alloc (.cells #[.int .i64 9, .int .i64 r, .int .i64 a', .int .i64 b, .int .i64 nn] 25) = V := ⟨_, rfl⟩
 have kv : Below w.heap.size w V := by subst hV; exact (Below.refl _ _).alloc (Nat.le_refl _) _
 have zV : w.heap.size < V.heap.size := by subst hV; simp
 have t2 : V.cell? ⟨w.heap.size, 2, none⟩ = some (.int .i64 a') := by subst hV; simp [go_sem]
 have RV := hidM1 (h.below kv)
 have KV := hidM1 kv
 have HV := hidM1 hV
 obtain ⟨r0, r1, r2, r3, r4, m0, m1, m2, m3, fm, ec, c0, k0, k1, k3, fk, wc, zR, zm, zk, zc, zr⟩ := h
 have ba0 : (0 : Int) ≤ (a' : Int) := by omega
 have ba1 : (a' : Int) < 8 := by omega
 have u2 := Ext.fit t2 zV
 have u0 := Ext.fit ((kv.cell (p := ⟨R, 1, none⟩) zR).trans r1) (by omega)
 have u1 := Ext.fit ((kv.cell (p := ⟨gk, who * 4 + 1, none⟩) zk).trans k1) (by omega)
 have ua := Ext.fit ((kv.cell (p := ⟨gr, a', none⟩) zr).trans la) (by omega)
 have hne := ext_ne V
 clear kv hV t2
 go_enter Try.func69, Try.ntmps69
 go_wp2_with fail
 rw [HV.out]
 refine regionSuf V 12 (by kernel_rfl) (by kernel_rfl) (by kernel_rfl) (by kernel_rfl) (by kernel_rfl) ?_
 dsimp only [List.take, List.drop]
 repeat (go_big_quiet_step (fail))
 refine wpQuiet_nil ?_
 rintro w3 ⟨X3, rfl⟩
 obtain ⟨U, hU⟩ : ∃ U, X3.w = U := ⟨_, rfl⟩
 have hb3 := X3.b
 rw [hU] at hb3 ⊢
 have KU := hidM1 (KV.out.trans (hb3.mono (by omega)))
 have PN := hidM1 (print_no va (RV.out.below hb3) hf)
 clear hne u0 u1 u2 ua hU X3 r0 r1 r2 r3 r4 m0 m1 m2 m3 fm c0 k0 k1 k3 fk hb3 la
 go_wp2_with (go_at_call 83; refine Calls.mono PN.out ?_; rintro e w6 ⟨rfl, hw6⟩; rw [hw6]; clear hw6 w6)
 go_ret
 exact ⟨rfl, KU.out⟩
end
end Go.Proofs.Ytepfpbcjklaenaa
