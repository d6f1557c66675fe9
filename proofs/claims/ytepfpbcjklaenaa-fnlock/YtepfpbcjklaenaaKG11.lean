/- A runner of the program goes for memory: a load. Condition: late is a number of 64 bits. A runner of the program goes for memory: a store, what is let go. No condition. -/
import Derived.Test.YtepfpbcjklaenaaKG00
import Derived.Test.YtepfpbcjklaenaaKG08
import Derived.Test.YtepfpbcjklaenaaKMemOk
import Derived.Test.YtepfpbcjklaenaaKG06
import Derived.Test.YtepfpbcjklaenaaKG07
import Derived.Test.YtepfpbcjklaenaaKKMQ
import Derived.Test.YtepfpbcjklaenaaKG04
import Derived.Test.YtepfpbcjklaenaaKKApp
import Derived.Test.YtepfpbcjklaenaaKG10
import Derived.Test.YtepfpbcjklaenaaKMemStore
import Derived.Test.YtepfpbcjklaenaaKKStepK
namespace Go.Proofs.Ytepfpbcjklaenaa
section
set_option linter.unusedSimpArgs false
set_option linter.unusedVariables false
set_option maxRecDepth 100000
open Go.RowKit
set_option maxHeartbeats 2000000 in
theorem touch5 {Hq : Nat → Prop} {w : World} {B R bm gk gc gs gr gv who nn cv cr cs gO cO : Nat} {late : Int} {vc vk vt : Value} {nc cc : Nat} {pc st : Int} {LC : List CV} {LK : List KV} {S : List RS} {d : MD} {k : KD} (c r' : Nat) (a b n : Int) (h : Rn w R bm gk gc gs gr gv who nn cv cr cs late vc vk (.slice (some ⟨gO, 0, none⟩) d.mem.length cO) vt nc cc pc st) (hq : MQ w B Hq vc vk (.slice (some ⟨gO, 0, none⟩) d.mem.length cO) vt LC LK S d) (hx : LK[who]? = some ⟨k, .slice (some ⟨gr, 0, none⟩) 8 cr, .slice (some ⟨gv, 0, none⟩) 24 cv⟩) (h8 : k.regs.length = 8) (hvw : viewB d.mem k.vw = true) (hmem : memB d.mem = true) (hc : c < 24) (hr : r' < 8) (hlate : late ≤ 9223372036854775807) (hB : B ≤ w.heap.size) (nR : R ≠ gv) (nM : bm ≠ gv) :
  Calls Try.prog 82 #[.pointer (some ⟨R, 0, none⟩), .agg #[.int .i64 5, .int .i64 r', .int .i64 a, .int .i64 b, .int .i64 n], .int .i64 c] w fun e w' => e = .returned (.bool true) ∧ ∃ LK', MQ w' B Hq vc vk (.slice (some ⟨gO, 0, none⟩) d.mem.length cO) vt LC LK' S (putK d who { k with regs := k.regs.set r' (ldX d.mem k.vw c late).v, vw := ldW d.mem k.vw c late false }) ∧ LK'[who]? = some ⟨{ k with regs := k.regs.set r' (ldX d.mem k.vw c late).v, vw := ldW d.mem k.vw c late false }, .slice (some ⟨gr, 0, none⟩) 8 cr, .slice (some ⟨gv, 0, none⟩) 24 cv⟩ ∧ LK'.length = LK.length ∧ Below B w w' ∧ ∀ b', b' < w.heap.size → b' ≠ gv → b' ≠ gr → w'.heap[b']? = w.heap[b']? := by
 have HQ := hidM1 hq
 have HX := hidM1 hx
 have H8 := hidM1 h8
 have bgv : B ≤ gv := (World.ownsRow.lt (hq.k.inn who _ hx).2 gv rfl).1
 have bgr : B ≤ gr := (World.ownsRow.lt (hq.k.inn who _ hx).1 gr rfl).1
 have hne' : gr ≠ gv := fun e => hq.k.two who _ gr hx rfl (by rw [e]; rfl)
 obtain ⟨r0, r1, r2, r3, r4, m0, m1, m2, m3, fm, ec, c0, k0, k1, k3, fk, wc, zR, zm, zk, zc, zr⟩ := h
 have br0 : (0 : Int) ≤ (r' : Int) := by omega
 have br1 : (r' : Int) < 8 := by omega
 have HW := hidM1 hvw
 have HME := hidM1 hmem
 clear hq hx h8 hvw hmem
 go_enter Try.func82, Try.ntmps82
 go_wp2_with fail
 obtain ⟨V, hV⟩ : ∃ V, w.alloc (.cells #[.int .i64 5, .int .i64 r', .int .i64 a, .int .i64 b, .int .i64 n] 25) = V := ⟨_, rfl⟩
 have kv : Below w.heap.size w V := by subst hV; exact (Below.refl _ _).alloc (Nat.le_refl _) _
 have zv : w.heap.size < V.heap.size := by subst hV; simp
 have t1 : V.cell? ⟨w.heap.size, 1, none⟩ = some (.int .i64 r') := by subst hV; simp [go_sem]
 rw [hV]
 have KV := hidM1 kv
 have QV := hidM1 (HQ.out.keep (w' := V.drew) (fun b _ h1 => kv.block b h1) kv.size)
 have LD := hidM1 (loadQ c late false QV.out HX.out HW.out HME.out hc hlate)
 have zgv : gv < w.heap.size := (World.ownsRow.lt (HQ.out.k.inn who _ HX.out).2 gv rfl).2
 have hne := extP_ne V (fun b => b = gv)
 have u1 := ExtP.fit (E := fun b => b = gv) t1 zv (by omega)
 have u2 := ExtP.fit (E := fun b => b = gv) ((kv.cell (p := ⟨R, 0, none⟩) zR).trans r0) (by omega) nR
 have u3 := ExtP.fit (E := fun b => b = gv) ((kv.cell (p := ⟨R, 2, none⟩) zR).trans r2) (by omega) nR
 have u4 := ExtP.fit (E := fun b => b = gv) ((kv.cell (p := ⟨R, 4, none⟩) zR).trans r4) (by omega) nR
 have u5 := ExtP.fit (E := fun b => b = gv) ((kv.cell (p := ⟨bm, 2, none⟩) zm).trans m2) (by omega) nM
 refine regionMix V (CP V (fun b => b = gv)) 20 21 (by kernel_rfl) (by kernel_rfl) (fun _ _ d _ _ h => by cases d <;> exact h) (CP.drew _ _) ?_
 unfold CP
 dsimp only [List.take, List.drop]
 repeat (go_big_quiet_step (fail))
 refine wpQuiet_nil ?_
 clear hne u1 u2 u3 u4 u5
 unfold wpListC
 go_wp2_with (go_at_call 93; refine Calls.mono LD.out ?_; rintro e w5 ⟨rfl, q5, x5⟩)
 refine And.intro (fun _ hc => CP.on hc x5.os x5.tape x5.out x5.size (fun b h1 h2 => x5.blk b h1 (by omega))) ?_
 refine listC_late _ _ _ _ (by decide) ?_
 obtain ⟨xv, hxv⟩ : ∃ xv, (ldX d.mem k.vw c late).v = xv := ⟨_, rfl⟩
 rw [hxv]
 have hrn := (q5.k.inn who _ (set_at HX.out)).1
 have hrn' : OwnN w5 B (.slice (some ⟨gr, 0, none⟩) k.regs.length cr) k.regs := by rw [H8.out]; exact hrn
 have lr := hrn'.cell (i := r') (by rw [H8.out]; omega)
 have fr : ∀ j, w5.frozen? ⟨gr, j, none⟩ = false := fun j => World.ownsRow.frozenAt hrn' j
 have Q5 := hidM1 q5
 have X5 := hidM1 x5
 have zr5 : gr < w5.heap.size := (World.ownsRow.lt hrn gr rfl).2
 clear q5 x5 hrn hrn' hV kv t1 r0 r1 r2 r3 r4 m0 m1 m2 m3 fm c0 k0 k1 k3 fk
 go_wp2
 go_ret
 have q6 := Q5.out.reg (set_at HX.out) H8.out r' xv
 rw [putK_putK] at q6
 have zdr : V.drew.heap.size = V.heap.size := rfl
 subst hxv
 refine ⟨rfl, _, q6, set_at (set_at HX.out), ?_, ?_, fun b' h1 h2 h3 => ?_⟩
 ·simp
 ·have kd : Below B w w5 := ⟨X5.out.os.trans KV.out.os, X5.out.tape.trans KV.out.tape, X5.out.out.trans KV.out.output, by have := X5.out.size; omega, fun b hb => (X5.out.blk b (by omega) (by omega)).trans (KV.out.block b (by omega))⟩
  exact kd.setCell (p := ⟨gr, r', none⟩) bgr _
 ·exact (Below.heap_setCell _ ⟨gr, _, none⟩ _ b' h3).trans ((X5.out.blk b' (by omega) (by omega)).trans (KV.out.block b' h1))
end
section
set_option linter.unusedSimpArgs false
set_option linter.unusedVariables false
set_option maxRecDepth 100000
open Go.RowKit
set_option maxHeartbeats 1000000 in
theorem touch6y {Hq : Nat → Prop} {w : World} {B R bm gk gc gs gr gv who nn cv cr cs gO cO : Nat} {late : Int} {vc vk vt : Value} {nc cc : Nat} {pc st : Int} {LC : List CV} {LK : List KV} {S : List RS} {d : MD} {k : KD} (c b' : Nat) (r0_ a n vb : Int) (lr : List WD) (r : RS) (h : Rn w R bm gk gc gs gr gv who nn cv cr cs late vc vk (.slice (some ⟨gO, 0, none⟩) d.mem.length cO) vt nc cc pc st) (hq : MQ w B Hq vc vk (.slice (some ⟨gO, 0, none⟩) d.mem.length cO) vt LC LK S d) (hx : LK[who]? = some ⟨k, .slice (some ⟨gr, 0, none⟩) 8 cr, .slice (some ⟨gv, 0, none⟩) 24 cv⟩) (hvl : k.vw.length = 24) (hmem : memB d.mem = true) (hc : c < 24) (hb : b' < 8) (lb : w.cell? ⟨gr, b', none⟩ = some (.int .i64 vb)) (hlr : d.mem[c]? = some lr) (hr : S[c]? = some r) (hroom : lr.length < 4000) (hB : B ≤ w.heap.size) :
  Calls Try.prog 82 #[.pointer (some ⟨R, 0, none⟩), .agg #[.int .i64 6, .int .i64 r0_, .int .i64 a, .int .i64 b', .int .i64 n], .int .i64 c] w fun e w' => e = .returned (.bool true) ∧ ∃ r', MQ w' B Hq vc vk (.slice (some ⟨gO, 0, none⟩) d.mem.length cO) vt LC (LK.set who ⟨{ k with vw := k.vw.set c (lr.length : Int) }, .slice (some ⟨gr, 0, none⟩) 8 cr, .slice (some ⟨gv, 0, none⟩) 24 cv⟩) (S.set c r') { putK d who { k with vw := k.vw.set c (lr.length : Int) } with mem := d.mem.set c (lr ++ [⟨vb, toldL k.vw c lr.length false⟩]) } ∧ Below B w w' ∧ ∀ b', b' < w.heap.size → b' ≠ gv → b' ≠ gO → r.val.ownBlock ≠ some b' → w'.heap[b']? = w.heap[b']? := by
 obtain ⟨V, hV⟩ : ∃ V, w.alloc (.cells #[.int .i64 6, .int .i64 r0_, .int .i64 a, .int .i64 b', .int .i64 n] 25) = V := ⟨_, rfl⟩
 have kv : Below w.heap.size w V := by subst hV; exact (Below.refl _ _).alloc (Nat.le_refl _) _
 have KV := hidM1 kv
 have zV := kv.size
 have QV := hq.keep (w' := V) (fun b _ h1 => kv.block b h1) zV
 have RV := h.below kv
 have WR := hidM1 (write_yes c lr r vb false RV QV hx hvl hmem hc hlr hr hroom)
 obtain ⟨r0, r1, r2, r3, r4, m0, m1, m2, m3, fm, ec, c0, k0, k1, k3, fk, wc, zR, zm, zk, zc, zr⟩ := h
 have bb0 : (0 : Int) ≤ (b' : Int) := by omega
 have bb1 : (b' : Int) < 8 := by omega
 have HV := hidM1 hV
 clear hq hx hvl hmem hlr hr QV RV kv hV
 go_enter Try.func82, Try.ntmps82
 go_wp2_with fail
 rw [HV.out]
 refine Calls.mono WR.out ?_
 rintro e w5 ⟨rfl, r', q5, b5, f5⟩
 have Q5 := hidM1 q5
 have B5 := hidM1 b5
 have F5 := hidM1 f5
 clear q5 b5 f5
 go_wp2
 go_ret
 exact ⟨rfl, r', Q5.out, (KV.out.mono hB).trans B5.out, fun b' h1 h2 h3 h4 => (F5.out b' (by omega) h2 h3 h4).trans (KV.out.block b' h1)⟩
set_option maxHeartbeats 1000000 in
theorem touch6n {Hq : Nat → Prop} {w : World} {B R bm gk gc gs gr gv who nn cv cr cs gO cO : Nat} {late : Int} {vc vk vt : Value} {nc cc : Nat} {pc st : Int} {LC : List CV} {LK : List KV} {S : List RS} {d : MD} {k : KD} (c b' : Nat) (r0_ a n vb : Int) (lr : List WD) (r : RS) (h : Rn w R bm gk gc gs gr gv who nn cv cr cs late vc vk (.slice (some ⟨gO, 0, none⟩) d.mem.length cO) vt nc cc pc st) (hq : MQ w B Hq vc vk (.slice (some ⟨gO, 0, none⟩) d.mem.length cO) vt LC LK S d) (hx : LK[who]? = some ⟨k, .slice (some ⟨gr, 0, none⟩) 8 cr, .slice (some ⟨gv, 0, none⟩) 24 cv⟩) (hvl : k.vw.length = 24) (hmem : memB d.mem = true) (hc : c < 24) (hb : b' < 8) (lb : w.cell? ⟨gr, b', none⟩ = some (.int .i64 vb)) (hlr : d.mem[c]? = some lr) (hr : S[c]? = some r) (hroom : ¬ lr.length < 4000) (hB : B ≤ w.heap.size) :
  Calls Try.prog 82 #[.pointer (some ⟨R, 0, none⟩), .agg #[.int .i64 6, .int .i64 r0_, .int .i64 a, .int .i64 b', .int .i64 n], .int .i64 c] w fun e w' => e = .returned (.bool false) ∧ Below w.heap.size w w' := by
 obtain ⟨V, hV⟩ : ∃ V, w.alloc (.cells #[.int .i64 6, .int .i64 r0_, .int .i64 a, .int .i64 b', .int .i64 n] 25) = V := ⟨_, rfl⟩
 have kv : Below w.heap.size w V := by subst hV; exact (Below.refl _ _).alloc (Nat.le_refl _) _
 have KV := hidM1 kv
 have zV := kv.size
 have QV := hq.keep (w' := V) (fun b _ h1 => kv.block b h1) zV
 have RV := h.below kv
 have h24 := (memB_at hmem (i := 0) (by omega)).1
 have lO := QV.m.cellc rfl hr hlr
 have WR := hidM1 (write_no (c := c) vb false RV lO (World.ownsRow.lt QV.m.row gO rfl).2 (by omega) hroom)
 clear lO h24
 obtain ⟨r0, r1, r2, r3, r4, m0, m1, m2, m3, fm, ec, c0, k0, k1, k3, fk, wc, zR, zm, zk, zc, zr⟩ := h
 have bb0 : (0 : Int) ≤ (b' : Int) := by omega
 have bb1 : (b' : Int) < 8 := by omega
 have HV := hidM1 hV
 clear hq hx hvl hmem hlr hr QV RV kv hV
 go_enter Try.func82, Try.ntmps82
 go_wp2_with fail
 rw [HV.out]
 refine Calls.mono WR.out ?_
 rintro e w5 ⟨rfl, b5⟩
 have B5 := hidM1 b5
 clear b5
 go_wp2
 go_ret
 exact ⟨rfl, KV.out.trans (B5.out.mono zV)⟩
set_option maxHeartbeats 1000000 in
theorem touch7y {Hq : Nat → Prop} {w : World} {B R bm gk gc gs gr gv who nn cv cr cs gO cO : Nat} {late : Int} {vc vk vt : Value} {nc cc : Nat} {pc st : Int} {LC : List CV} {LK : List KV} {S : List RS} {d : MD} {k : KD} (c b' : Nat) (r0_ a n vb : Int) (lr : List WD) (r : RS) (h : Rn w R bm gk gc gs gr gv who nn cv cr cs late vc vk (.slice (some ⟨gO, 0, none⟩) d.mem.length cO) vt nc cc pc st) (hq : MQ w B Hq vc vk (.slice (some ⟨gO, 0, none⟩) d.mem.length cO) vt LC LK S d) (hx : LK[who]? = some ⟨k, .slice (some ⟨gr, 0, none⟩) 8 cr, .slice (some ⟨gv, 0, none⟩) 24 cv⟩) (hvl : k.vw.length = 24) (hmem : memB d.mem = true) (hc : c < 24) (hb : b' < 8) (lb : w.cell? ⟨gr, b', none⟩ = some (.int .i64 vb)) (hlr : d.mem[c]? = some lr) (hr : S[c]? = some r) (hroom : lr.length < 4000) (hB : B ≤ w.heap.size) :
  Calls Try.prog 82 #[.pointer (some ⟨R, 0, none⟩), .agg #[.int .i64 7, .int .i64 r0_, .int .i64 a, .int .i64 b', .int .i64 n], .int .i64 c] w fun e w' => e = .returned (.bool true) ∧ ∃ r', MQ w' B Hq vc vk (.slice (some ⟨gO, 0, none⟩) d.mem.length cO) vt LC (LK.set who ⟨{ k with vw := k.vw.set c (lr.length : Int) }, .slice (some ⟨gr, 0, none⟩) 8 cr, .slice (some ⟨gv, 0, none⟩) 24 cv⟩) (S.set c r') { putK d who { k with vw := k.vw.set c (lr.length : Int) } with mem := d.mem.set c (lr ++ [⟨vb, toldL k.vw c lr.length true⟩]) } ∧ Below B w w' ∧ ∀ b', b' < w.heap.size → b' ≠ gv → b' ≠ gO → r.val.ownBlock ≠ some b' → w'.heap[b']? = w.heap[b']? := by
 obtain ⟨V, hV⟩ : ∃ V, w.alloc (.cells #[.int .i64 7, .int .i64 r0_, .int .i64 a, .int .i64 b', .int .i64 n] 25) = V := ⟨_, rfl⟩
 have kv : Below w.heap.size w V := by subst hV; exact (Below.refl _ _).alloc (Nat.le_refl _) _
 have KV := hidM1 kv
 have zV := kv.size
 have QV := hq.keep (w' := V) (fun b _ h1 => kv.block b h1) zV
 have RV := h.below kv
 have WR := hidM1 (write_yes c lr r vb true RV QV hx hvl hmem hc hlr hr hroom)
 obtain ⟨r0, r1, r2, r3, r4, m0, m1, m2, m3, fm, ec, c0, k0, k1, k3, fk, wc, zR, zm, zk, zc, zr⟩ := h
 have bb0 : (0 : Int) ≤ (b' : Int) := by omega
 have bb1 : (b' : Int) < 8 := by omega
 have HV := hidM1 hV
 clear hq hx hvl hmem hlr hr QV RV kv hV
 go_enter Try.func82, Try.ntmps82
 go_wp2_with fail
 rw [HV.out]
 refine Calls.mono WR.out ?_
 rintro e w5 ⟨rfl, r', q5, b5, f5⟩
 have Q5 := hidM1 q5
 have B5 := hidM1 b5
 have F5 := hidM1 f5
 clear q5 b5 f5
 go_wp2
 go_ret
 exact ⟨rfl, r', Q5.out, (KV.out.mono hB).trans B5.out, fun b' h1 h2 h3 h4 => (F5.out b' (by omega) h2 h3 h4).trans (KV.out.block b' h1)⟩
set_option maxHeartbeats 1000000 in
theorem touch7n {Hq : Nat → Prop} {w : World} {B R bm gk gc gs gr gv who nn cv cr cs gO cO : Nat} {late : Int} {vc vk vt : Value} {nc cc : Nat} {pc st : Int} {LC : List CV} {LK : List KV} {S : List RS} {d : MD} {k : KD} (c b' : Nat) (r0_ a n vb : Int) (lr : List WD) (r : RS) (h : Rn w R bm gk gc gs gr gv who nn cv cr cs late vc vk (.slice (some ⟨gO, 0, none⟩) d.mem.length cO) vt nc cc pc st) (hq : MQ w B Hq vc vk (.slice (some ⟨gO, 0, none⟩) d.mem.length cO) vt LC LK S d) (hx : LK[who]? = some ⟨k, .slice (some ⟨gr, 0, none⟩) 8 cr, .slice (some ⟨gv, 0, none⟩) 24 cv⟩) (hvl : k.vw.length = 24) (hmem : memB d.mem = true) (hc : c < 24) (hb : b' < 8) (lb : w.cell? ⟨gr, b', none⟩ = some (.int .i64 vb)) (hlr : d.mem[c]? = some lr) (hr : S[c]? = some r) (hroom : ¬ lr.length < 4000) (hB : B ≤ w.heap.size) :
  Calls Try.prog 82 #[.pointer (some ⟨R, 0, none⟩), .agg #[.int .i64 7, .int .i64 r0_, .int .i64 a, .int .i64 b', .int .i64 n], .int .i64 c] w fun e w' => e = .returned (.bool false) ∧ Below w.heap.size w w' := by
 obtain ⟨V, hV⟩ : ∃ V, w.alloc (.cells #[.int .i64 7, .int .i64 r0_, .int .i64 a, .int .i64 b', .int .i64 n] 25) = V := ⟨_, rfl⟩
 have kv : Below w.heap.size w V := by subst hV; exact (Below.refl _ _).alloc (Nat.le_refl _) _
 have KV := hidM1 kv
 have zV := kv.size
 have QV := hq.keep (w' := V) (fun b _ h1 => kv.block b h1) zV
 have RV := h.below kv
 have h24 := (memB_at hmem (i := 0) (by omega)).1
 have lO := QV.m.cellc rfl hr hlr
 have WR := hidM1 (write_no (c := c) vb true RV lO (World.ownsRow.lt QV.m.row gO rfl).2 (by omega) hroom)
 clear lO h24
 obtain ⟨r0, r1, r2, r3, r4, m0, m1, m2, m3, fm, ec, c0, k0, k1, k3, fk, wc, zR, zm, zk, zc, zr⟩ := h
 have bb0 : (0 : Int) ≤ (b' : Int) := by omega
 have bb1 : (b' : Int) < 8 := by omega
 have HV := hidM1 hV
 clear hq hx hvl hmem hlr hr QV RV kv hV
 go_enter Try.func82, Try.ntmps82
 go_wp2_with fail
 rw [HV.out]
 refine Calls.mono WR.out ?_
 rintro e w5 ⟨rfl, b5⟩
 have B5 := hidM1 b5
 clear b5
 go_wp2
 go_ret
 exact ⟨rfl, KV.out.trans (B5.out.mono zV)⟩
end
end Go.Proofs.Ytepfpbcjklaenaa
