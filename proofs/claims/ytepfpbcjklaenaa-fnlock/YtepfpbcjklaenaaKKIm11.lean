/- A runner of the program goes for memory: a swap. No condition. -/
import Derived.Test.YtepfpbcjklaenaaKG00
import Derived.Test.YtepfpbcjklaenaaKMemStore
import Derived.Test.YtepfpbcjklaenaaKMemOk
import Derived.Test.YtepfpbcjklaenaaKG06
import Derived.Test.YtepfpbcjklaenaaKKMQ
import Derived.Test.YtepfpbcjklaenaaKG08
import Derived.Test.YtepfpbcjklaenaaKG04
import Derived.Test.YtepfpbcjklaenaaKKApp
import Derived.Test.YtepfpbcjklaenaaKKIm10
namespace Go.Proofs.Ytepfpbcjklaenaa
set_option linter.unusedSimpArgs false
set_option linter.unusedVariables false
set_option maxRecDepth 100000
open Go.RowKit
set_option maxHeartbeats 2000000 in
theorem touch8y {Hq : Nat → Prop} {w : World} {B R bm gk gc gs gr gv who nn cv cr cs gO cO : Nat} {late : Int} {vc vk vt : Value} {nc cc : Nat} {pc st : Int} {LC : List CV} {LK : List KV} {S : List RS} {d : MD} {k : KD} (c r' b' : Nat) (a vb : Int) (lr : List WD) (r : RS) (h : Rn w R bm gk gc gs gr gv who nn cv cr cs late vc vk (.slice (some ⟨gO, 0, none⟩) d.mem.length cO) vt nc cc pc st) (hq : MQ w B Hq vc vk (.slice (some ⟨gO, 0, none⟩) d.mem.length cO) vt LC LK S d) (hx : LK[who]? = some ⟨k, .slice (some ⟨gr, 0, none⟩) 8 cr, .slice (some ⟨gv, 0, none⟩) 24 cv⟩) (h8 : k.regs.length = 8) (hvw : viewB d.mem k.vw = true) (hmem : memB d.mem = true) (hc : c < 24) (hr' : r' < 8) (hb' : b' < 8) (lb : w.cell? ⟨gr, b', none⟩ = some (.int .i64 vb)) (hlr : d.mem[c]? = some lr) (hr : S[c]? = some r) (hroom : lr.length < 4000) (hB : B ≤ w.heap.size) (nR : R ≠ gv) (nM : bm ≠ gv) (nR2 : R ≠ gr) (nM2 : bm ≠ gr) (nK : gk ≠ gv) (nC : gc ≠ gv) (nK2 : gk ≠ gr) (nC2 : gc ≠ gr) :
  Calls Try.prog 82 #[.pointer (some ⟨R, 0, none⟩), .agg #[.int .i64 8, .int .i64 r', .int .i64 a, .int .i64 b', .int .i64 c], .int .i64 c] w fun e w' => e = .returned (.bool true) ∧ ∃ LK' rs', MQ w' B Hq vc vk (.slice (some ⟨gO, 0, none⟩) d.mem.length cO) vt LC LK' (S.set c rs') { putK d who ⟨k.pc, k.regs.set r' (ldX d.mem k.vw c 0).v, (ldW d.mem k.vw c 0 true).set c (lr.length : Int), k.st⟩ with mem := d.mem.set c (lr ++ [⟨vb, toldL (ldW d.mem k.vw c 0 true) c lr.length true⟩]) } ∧ LK'[who]? = some ⟨⟨k.pc, k.regs.set r' (ldX d.mem k.vw c 0).v, (ldW d.mem k.vw c 0 true).set c (lr.length : Int), k.st⟩, .slice (some ⟨gr, 0, none⟩) 8 cr, .slice (some ⟨gv, 0, none⟩) 24 cv⟩ ∧ LK'.length = LK.length ∧ Below B w w' ∧ ∀ b', b' < w.heap.size → b' ≠ gv → b' ≠ gr → b' ≠ gO → r.val.ownBlock ≠ some b' → w'.heap[b']? = w.heap[b']? := by
 obtain ⟨V, hV⟩ : ∃ V, w.alloc (.cells #[.int .i64 8, .int .i64 r', .int .i64 a, .int .i64 b', .int .i64 c] 25) = V := ⟨_, rfl⟩
 have kv : Below w.heap.size w V := by subst hV; exact (Below.refl _ _).alloc (Nat.le_refl _) _
 have KV := hidM1 kv
 have zV := kv.size
 have QV := hq.keep (w' := V) (fun b _ h1 => kv.block b h1) zV
 have SW := hidM1 (swapY c r' b' 8 a vb lr r (h.below kv) QV hx h8 hvw hmem hc hr' hb' ((kv.cell (p := ⟨gr, b', none⟩) h.zr).trans lb) hlr hr hroom (by omega) nR nM nR2 nM2 nK nC nK2 nC2)
 obtain ⟨r0, r1, r2, r3, r4, m0, m1, m2, m3, fm, ec, c0, k0, k1, k3, fk, wc, zR, zm, zk, zc, zr⟩ := h
 have HV := hidM1 hV
 clear hq hx h8 hvw hmem hlr hr QV kv hV
 go_enter Try.func82, Try.ntmps82
 go_wp2_with fail
 rw [HV.out]
 refine Calls.mono SW.out ?_
 rintro e w7 ⟨rfl, LK7, r7, q7, x7, n7, b7, f7⟩
 have Q7 := hidM1 q7
 have X7 := hidM1 x7
 have N7 := hidM1 n7
 have B7 := hidM1 b7
 have F7 := hidM1 f7
 clear q7 b7 f7 x7 n7
 go_wp2
 go_ret
 exact ⟨rfl, LK7, r7, Q7.out, X7.out, N7.out, (KV.out.mono hB).trans B7.out, fun b' h1 h2 h3 h4 h5 => (F7.out b' (by omega) h2 h3 h4 h5).trans (KV.out.block b' h1)⟩
set_option maxHeartbeats 2000000 in
theorem touch8n {Hq : Nat → Prop} {w : World} {B R bm gk gc gs gr gv who nn cv cr cs gO cO : Nat} {late : Int} {vc vk vt : Value} {nc cc : Nat} {pc st : Int} {LC : List CV} {LK : List KV} {S : List RS} {d : MD} {k : KD} (c r' b' : Nat) (a vb : Int) (lr : List WD) (r : RS) (h : Rn w R bm gk gc gs gr gv who nn cv cr cs late vc vk (.slice (some ⟨gO, 0, none⟩) d.mem.length cO) vt nc cc pc st) (hq : MQ w B Hq vc vk (.slice (some ⟨gO, 0, none⟩) d.mem.length cO) vt LC LK S d) (hx : LK[who]? = some ⟨k, .slice (some ⟨gr, 0, none⟩) 8 cr, .slice (some ⟨gv, 0, none⟩) 24 cv⟩) (h8 : k.regs.length = 8) (hvw : viewB d.mem k.vw = true) (hmem : memB d.mem = true) (hc : c < 24) (hr' : r' < 8) (hb' : b' < 8) (lb : w.cell? ⟨gr, b', none⟩ = some (.int .i64 vb)) (hlr : d.mem[c]? = some lr) (hr : S[c]? = some r) (hroom : ¬ lr.length < 4000) (hB : B ≤ w.heap.size) (nR : R ≠ gv) (nM : bm ≠ gv) (nR2 : R ≠ gr) (nM2 : bm ≠ gr) (nK : gk ≠ gv) (nC : gc ≠ gv) (nK2 : gk ≠ gr) (nC2 : gc ≠ gr) :
  Calls Try.prog 82 #[.pointer (some ⟨R, 0, none⟩), .agg #[.int .i64 8, .int .i64 r', .int .i64 a, .int .i64 b', .int .i64 c], .int .i64 c] w fun e w' => e = .returned (.bool false) ∧ ∃ LK', MQ w' B Hq vc vk (.slice (some ⟨gO, 0, none⟩) d.mem.length cO) vt LC LK' S (putK d who ⟨k.pc, k.regs.set r' (ldX d.mem k.vw c 0).v, ldW d.mem k.vw c 0 true, k.st⟩) ∧ LK'[who]? = some ⟨⟨k.pc, k.regs.set r' (ldX d.mem k.vw c 0).v, ldW d.mem k.vw c 0 true, k.st⟩, .slice (some ⟨gr, 0, none⟩) 8 cr, .slice (some ⟨gv, 0, none⟩) 24 cv⟩ ∧ (LK'.length = LK.length ∧ ∀ j, j ≠ who → LK'[j]? = LK[j]?) ∧ Below B w w' ∧ ∀ b', b' < w.heap.size → b' ≠ gv → b' ≠ gr → w'.heap[b']? = w.heap[b']? := by
 obtain ⟨V, hV⟩ : ∃ V, w.alloc (.cells #[.int .i64 8, .int .i64 r', .int .i64 a, .int .i64 b', .int .i64 c] 25) = V := ⟨_, rfl⟩
 have kv : Below w.heap.size w V := by subst hV; exact (Below.refl _ _).alloc (Nat.le_refl _) _
 have KV := hidM1 kv
 have zV := kv.size
 have QV := hq.keep (w' := V) (fun b _ h1 => kv.block b h1) zV
 have SW := hidM1 (swapN c r' b' 8 a vb lr r (h.below kv) QV hx h8 hvw hmem hc hr' hb' ((kv.cell (p := ⟨gr, b', none⟩) h.zr).trans lb) hlr hr hroom (by omega) nR nM nR2 nM2 nK nC nK2 nC2)
 obtain ⟨r0, r1, r2, r3, r4, m0, m1, m2, m3, fm, ec, c0, k0, k1, k3, fk, wc, zR, zm, zk, zc, zr⟩ := h
 have HV := hidM1 hV
 clear hq hx h8 hvw hmem hlr hr QV kv hV
 go_enter Try.func82, Try.ntmps82
 go_wp2_with fail
 rw [HV.out]
 refine Calls.mono SW.out ?_
 rintro e w7 ⟨rfl, LK7, q7, x7, n7, b7, f7⟩
 have Q7 := hidM1 q7
 have X7 := hidM1 x7
 have N7 := hidM1 n7
 have B7 := hidM1 b7
 have F7 := hidM1 f7
 clear q7 b7 f7 x7 n7
 go_wp2
 go_ret
 exact ⟨rfl, LK7, Q7.out, X7.out, N7.out, (KV.out.mono hB).trans B7.out, fun b' h1 h2 h3 => (F7.out b' (by omega) h2 h3).trans (KV.out.block b' h1)⟩
end Go.Proofs.Ytepfpbcjklaenaa
