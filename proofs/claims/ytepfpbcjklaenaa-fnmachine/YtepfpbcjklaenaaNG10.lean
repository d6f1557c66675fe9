/- A machine that runs, opened at the core that goes on; the boxes of a step. No condition. What steps of both sides end with. No condition. A runner of the program: its cells; where it stops and goes on. No condition. What a runner of the program reckons. No condition. The cell that a runner of the program goes for. No condition. -/
import Derived.Test.YtepfpbcjklaenaaNG00
import Derived.Test.YtepfpbcjklaenaaNG01
import Derived.Test.YtepfpbcjklaenaaNG08
import Derived.Test.YtepfpbcjklaenaaNG06
import Derived.Test.YtepfpbcjklaenaaNG02
import Derived.Test.YtepfpbcjklaenaaNG09
import Derived.Test.YtepfpbcjklaenaaNC7Leaf
namespace Go.Proofs.Ytepfpbcjklaenaa
section
set_option linter.unusedSimpArgs false
set_option linter.unusedVariables false
set_option maxRecDepth 100000
open Go.RowKit
structure Op8 (w : World) (B : Nat) (vc vk vm vt : Value) (LK : List KV) (d : MD) (who p : Nat) (k : KD) (code : List I5) (s : I5) (gc cc gk ck gs cs gr cr gv cv gO cO : Nat) (st : Option Addr) (ct : Nat) : Prop where
 ec : vc = .slice (some ⟨gc, 0, none⟩) d.codes.length cc
 ek : vk = .slice (some ⟨gk, 0, none⟩) LK.length ck
 em : vm = .slice (some ⟨gO, 0, none⟩) d.mem.length cO
 et : vt = .slice st d.tr.length ct
 hx : LK[who]? = some ⟨k, .slice (some ⟨gr, 0, none⟩) 8 cr, .slice (some ⟨gv, 0, none⟩) 24 cv⟩
 hp : k.pc = p
 wc : who < d.codes.length
 wk : who < LK.length
 c0 : w.cell? ⟨gc, who, none⟩ = some (.slice (some ⟨gs, 0, none⟩) code.length cs)
 k0 : w.cell? ⟨gk, who * 4, none⟩ = some (.int .i64 k.pc)
 k1 : w.cell? ⟨gk, who * 4 + 1, none⟩ = some (.slice (some ⟨gr, 0, none⟩) 8 cr)
 k2 : w.cell? ⟨gk, who * 4 + 2, none⟩ = some (.slice (some ⟨gv, 0, none⟩) 24 cv)
 k3 : w.cell? ⟨gk, who * 4 + 3, none⟩ = some (.int .i64 k.st)
 s0 : w.cell? ⟨gs, p * 5, none⟩ = some (.int .i64 s.o)
 s1 : w.cell? ⟨gs, p * 5 + 1, none⟩ = some (.int .i64 s.r)
 s2 : w.cell? ⟨gs, p * 5 + 2, none⟩ = some (.int .i64 s.a)
 s3 : w.cell? ⟨gs, p * 5 + 3, none⟩ = some (.int .i64 s.b)
 s4 : w.cell? ⟨gs, p * 5 + 4, none⟩ = some (.int .i64 s.n)
 r : ∀ i, i < 8 → w.cell? ⟨gr, i, none⟩ = some (.int .i64 (k.regs.getD i 0))
 fk : ∀ j, w.frozen? ⟨gk, j, none⟩ = false
 fr : ∀ j, w.frozen? ⟨gr, j, none⟩ = false
 zc : gc < w.heap.size
 zk : gk < w.heap.size
 zs : gs < w.heap.size
 zr : gr < w.heap.size
 zv : gv < w.heap.size
 zO : gO < w.heap.size
 bk : B ≤ gk
 br : B ≤ gr
 bv : B ≤ gv
 bO : B ≤ gO
theorem MQ0.open {w : World} {B : Nat} {vc vk vm vt : Value} {LC : List CV} {LK : List KV} {S : List RS} {d : MD} {who : Nat} {k : KD} {code : List I5} {s : I5} (h : MQ0 w B vc vk vm vt LC LK S d) (ha : At8 d who k code s) :
  ∃ p gc cc gk ck gs cs gr cr gv cv gO cO st ct, Op8 w B vc vk vm vt LK d who p k code s gc cc gk ck gs cs gr cr gv cv gO cO st ct := by
 have hp0 := ha.pc0
 have hpl := ha.pcl
 have hn1 := ha.n1
 obtain ⟨p, hp⟩ : ∃ p : Nat, k.pc = p := ⟨k.pc.toNat, by omega⟩
 have wcl : who < d.codes.length := (List.getElem?_eq_some_iff.1 ha.hc).1
 have wkl : who < d.cores.length := (List.getElem?_eq_some_iff.1 ha.hk).1
 have lc : LC.length = d.codes.length := by rw [← h.ec, List.length_map]
 have lk : LK.length = d.cores.length := by rw [← h.ek, List.length_map]
 obtain ⟨x, hx⟩ : ∃ x, LK[who]? = some x := ⟨_, List.getElem?_eq_getElem (by omega)⟩
 have ex : x.d = k := by
  have q := ha.hk
  rw [← h.ek, List.getElem?_map, hx] at q
  simpa using q
 obtain ⟨y, hy⟩ : ∃ y, LC[who]? = some y := ⟨_, List.getElem?_eq_getElem (by omega)⟩
 have ey : y.l = code := by
  have q := ha.hc
  rw [← h.ec, List.getElem?_map, hy] at q
  simpa using q
 have hrk := h.k.row
 have hrc := h.c.row
 rw [lc] at hrc
 obtain ⟨gc, cc, hvc, -⟩ := World.ownsRow.form hrc (by omega)
 obtain ⟨gk, ck, hvk, -⟩ := World.ownsRow.form hrk (by omega)
 subst hvc
 subst hvk
 have ho := h.c.inn who y hy
 unfold OwnT5 at ho
 rw [ey] at ho
 obtain ⟨gs, cs, hvs, -⟩ := World.ownsRow.form ho (by omega)
 have ho' := ho
 rw [hvs] at ho'
 obtain ⟨hr1, hr2⟩ := h.k.inn who x hx
 rw [ex] at hr1 hr2
 have hr8 := ha.regs
 have hv24 : k.vw.length = 24 := by
  have q := ha.vw
  rw [viewB_iff] at q
  have m := (memB_at ha.mem (i := 0) (by omega)).1
  omega
 obtain ⟨gr, cr, hvr, -⟩ := World.ownsRow.form hr1 (by omega)
 obtain ⟨gv, cv, hvv, -⟩ := World.ownsRow.form hr2 (by omega)
 have hr1' := hr1
 have hr2' := hr2
 unfold OwnN at hr1' hr2'
 rw [hvr] at hr1'
 rw [hvv] at hr2'
 have m24 := (memB_at ha.mem (i := 0) (by omega)).1
 have hrm := h.m.row
 rw [h.m.n] at hrm
 obtain ⟨gO, cO, hvO, -⟩ := World.ownsRow.form hrm (by omega)
 obtain ⟨st, ct, hvt⟩ := ownSl h.t
 obtain ⟨f0, f1, f2, f3⟩ := flatK_at LK who x hx
 rw [hvO] at hrm
 obtain ⟨e0, e1, e2, e3, e4⟩ := fl5_at code p s (by have q := ha.hs; rw [hp, Int.toNat_natCast] at q; exact q)
 have q5 : ∀ j, j < 5 → w.cell? ⟨gs, p * 5 + j, none⟩ = ((fl5 code).map (Value.int .i64))[p * 5 + j]? := fun j hj => World.ownsRow.cellAt ho' _ (by omega)
 rw [hr8] at hvr hr1'
 rw [hv24] at hvv hr2'
 refine ⟨p, gc, cc, gk, ck, gs, cs, gr, cr, gv, cv, gO, cO, st, ct, rfl, rfl, hvO, hvt, ?_, hp, wcl, by omega, ?_, ?_, ?_, ?_, ?_, ?_, ?_, ?_, ?_, ?_, ?_, fun j => World.ownsRow.frozenAt hrk j, fun j => World.ownsRow.frozenAt hr1' j, (World.ownsRow.lt hrc gc rfl).2, (World.ownsRow.lt hrk gk rfl).2, (World.ownsRow.lt ho' gs rfl).2, (World.ownsRow.lt hr1' gr rfl).2, (World.ownsRow.lt hr2' gv rfl).2, (World.ownsRow.lt hrm gO rfl).2, (World.ownsRow.lt hrk gk rfl).1, (World.ownsRow.lt hr1' gr rfl).1, (World.ownsRow.lt hr2' gv rfl).1, (World.ownsRow.lt hrm gO rfl).1⟩
 ·rw [hx, ← ex, ← hvr, ← hvv]
 ·rw [World.ownsRow.cellAt hrc _ (by omega), List.getElem?_map, hy, ← hvs]; rfl
 ·rw [World.ownsRow.cellAt hrk _ (by omega), f0, ex]
 ·rw [World.ownsRow.cellAt hrk _ (by omega), f1, hvr]
 ·rw [World.ownsRow.cellAt hrk _ (by omega), f2, hvv]
 ·rw [World.ownsRow.cellAt hrk _ (by omega), f3, ex]
 ·have q := q5 0 (by omega)
  rw [Nat.add_zero, List.getElem?_map, e0] at q
  exact q
 ·rw [q5 1 (by omega), List.getElem?_map, e1]; rfl
 ·rw [q5 2 (by omega), List.getElem?_map, e2]; rfl
 ·rw [q5 3 (by omega), List.getElem?_map, e3]; rfl
 ·rw [q5 4 (by omega), List.getElem?_map, e4]; rfl
 ·intro i hi
  rw [hvr, ← hr8] at hr1
  exact OwnN.cell hr1 (by omega)
/- the boxes of a step: machine, pick, answer, core, step -/
structure Bx5 (V : World) (z : Nat) (m0 m1 m2 m3 x0 x1 k0 k1 k2 k3 s0 s1 s2 s3 s4 : Value) : Prop where
 m0 : V.cell? ⟨z, 0, none⟩ = some m0
 m1 : V.cell? ⟨z, 1, none⟩ = some m1
 m2 : V.cell? ⟨z, 2, none⟩ = some m2
 m3 : V.cell? ⟨z, 3, none⟩ = some m3
 x0 : V.cell? ⟨z + 1, 0, none⟩ = some x0
 x1 : V.cell? ⟨z + 1, 1, none⟩ = some x1
 a0 : V.cell? ⟨z + 1 + 1, 0, none⟩ = some (.slice none 0 0)
 a1 : V.cell? ⟨z + 1 + 1, 1, none⟩ = some (.slice none 0 0)
 a2 : V.cell? ⟨z + 1 + 1, 2, none⟩ = some (.slice none 0 0)
 a3 : V.cell? ⟨z + 1 + 1, 3, none⟩ = some (.slice none 0 0)
 k0 : V.cell? ⟨z + 1 + 1 + 1, 0, none⟩ = some k0
 k1 : V.cell? ⟨z + 1 + 1 + 1, 1, none⟩ = some k1
 k2 : V.cell? ⟨z + 1 + 1 + 1, 2, none⟩ = some k2
 k3 : V.cell? ⟨z + 1 + 1 + 1, 3, none⟩ = some k3
 s0 : V.cell? ⟨z + 1 + 1 + 1 + 1, 0, none⟩ = some s0
 s1 : V.cell? ⟨z + 1 + 1 + 1 + 1, 1, none⟩ = some s1
 s2 : V.cell? ⟨z + 1 + 1 + 1 + 1, 2, none⟩ = some s2
 s3 : V.cell? ⟨z + 1 + 1 + 1 + 1, 3, none⟩ = some s3
 s4 : V.cell? ⟨z + 1 + 1 + 1 + 1, 4, none⟩ = some s4
 fm : ∀ j, V.frozen? ⟨z, j, none⟩ = false
 fa : ∀ j, V.frozen? ⟨z + 1 + 1, j, none⟩ = false
 z : z + 1 + 1 + 1 + 1 < V.heap.size
theorem Bx5.keep {V V' : World} {z : Nat} {m0 m1 m2 m3 x0 x1 k0 k1 k2 k3 s0 s1 s2 s3 s4 : Value} (h : Bx5 V z m0 m1 m2 m3 x0 x1 k0 k1 k2 k3 s0 s1 s2 s3 s4) (hb : ∀ b, z ≤ b → b < V.heap.size → V'.heap[b]? = V.heap[b]?) (hs : V.heap.size ≤ V'.heap.size) : Bx5 V' z m0 m1 m2 m3 x0 x1 k0 k1 k2 k3 s0 s1 s2 s3 s4 := by
 have hz := h.z
 have c0 : ∀ j, V'.cell? ⟨z, j, none⟩ = V.cell? ⟨z, j, none⟩ := fun j => World.cell?_of_block (hb z (by omega) (by omega))
 have c1 : ∀ j, V'.cell? ⟨z + 1, j, none⟩ = V.cell? ⟨z + 1, j, none⟩ := fun j => World.cell?_of_block (hb (z + 1) (by omega) (by omega))
 have c2 : ∀ j, V'.cell? ⟨z + 1 + 1, j, none⟩ = V.cell? ⟨z + 1 + 1, j, none⟩ := fun j => World.cell?_of_block (hb (z + 1 + 1) (by omega) (by omega))
 have c3 : ∀ j, V'.cell? ⟨z + 1 + 1 + 1, j, none⟩ = V.cell? ⟨z + 1 + 1 + 1, j, none⟩ := fun j => World.cell?_of_block (hb (z + 1 + 1 + 1) (by omega) (by omega))
 have c4 : ∀ j, V'.cell? ⟨z + 1 + 1 + 1 + 1, j, none⟩ = V.cell? ⟨z + 1 + 1 + 1 + 1, j, none⟩ := fun j => World.cell?_of_block (hb (z + 1 + 1 + 1 + 1) (by omega) (by omega))
 exact ⟨(c0 _).trans h.m0, (c0 _).trans h.m1, (c0 _).trans h.m2, (c0 _).trans h.m3, (c1 _).trans h.x0, (c1 _).trans h.x1, (c2 _).trans h.a0, (c2 _).trans h.a1, (c2 _).trans h.a2, (c2 _).trans h.a3, (c3 _).trans h.k0, (c3 _).trans h.k1, (c3 _).trans h.k2, (c3 _).trans h.k3, (c4 _).trans h.s0, (c4 _).trans h.s1, (c4 _).trans h.s2, (c4 _).trans h.s3, (c4 _).trans h.s4, fun j => (World.frozen?_of_block (hb z (by omega) (by omega))).trans (h.fm j), fun j => (World.frozen?_of_block (hb (z + 1 + 1) (by omega) (by omega))).trans (h.fa j), by omega⟩
theorem boxes5 {w W V : World} {m0 m1 m2 m3 x0 x1 k0 k1 k2 k3 s0 s1 s2 s3 s4 : Value} {T0 T1 T2 T3 T4 : TypeId}
  (hW : (((w.alloc (.cells #[m0, m1, m2, m3] T0)).alloc (.cells #[x0, x1] T1)).alloc (.cells #[.slice none 0 0, .slice none 0 0, .slice none 0 0, .slice none 0 0] T2)).alloc (.cells #[k0, k1, k2, k3] T3) = W) (hV : (W.alloc (.cells #[s0, s1, s2, s3, s4] T4)).drew = V) :
  Bx5 V w.heap.size m0 m1 m2 m3 x0 x1 k0 k1 k2 k3 s0 s1 s2 s3 s4 ∧ Below w.heap.size w V := by
 have zW : W.heap.size = w.heap.size + 1 + 1 + 1 + 1 := by subst hW; simp
 have kW : Below w.heap.size w W := by
  subst hW
  exact ((((Below.refl _ _).alloc (Nat.le_refl _) _).alloc (by simp) _).alloc (by simp; omega) _).alloc (by simp; omega) _
 have kV : Below W.heap.size W V := by subst hV; exact Below.drew ((Below.refl _ _).alloc (Nat.le_refl _) _)
 have cV : ∀ b j, b < W.heap.size → V.cell? ⟨b, j, none⟩ = W.cell? ⟨b, j, none⟩ := fun b j hb => kV.cell (p := ⟨b, j, none⟩) hb
 have fV : ∀ b j, b < W.heap.size → V.frozen? ⟨b, j, none⟩ = W.frozen? ⟨b, j, none⟩ := fun b j hb => kV.frozen (p := ⟨b, j, none⟩) hb
 refine ⟨⟨?_, ?_, ?_, ?_, ?_, ?_, ?_, ?_, ?_, ?_, ?_, ?_, ?_, ?_, ?_, ?_, ?_, ?_, ?_, fun j => ?_, fun j => ?_, ?_⟩, kW.trans (kV.mono (by omega))⟩
 any_goals (refine (cV _ _ (by omega)).trans ?_; subst hW; simp [go_sem]; done)
 any_goals (refine (fV _ _ (by omega)).trans ?_; subst hW; simp [go_sem]; done)
 any_goals (rw [← zW]; subst hV; show (W.alloc _).cell? _ = _; simp [go_sem]; done)
 rw [← zW]
 subst hV
 show W.heap.size < (W.alloc _).heap.size
 simp
end
section
set_option linter.unusedSimpArgs false
set_option linter.unusedVariables false
set_option maxRecDepth 100000
open Go.RowKit
theorem hidS {p : Prop} (h : p) : Hid p := h
def StepQ (w : World) (B : Nat) (Hq : Nat → Prop) (x : MD × Int) (e : Ending) (w' : World) : Prop := ∃ vc vk vm vt LC LK S, e = .returned (.tuple #[.agg #[vc, vk, vm, vt], .int .i64 x.2]) ∧ MQ w' B Hq vc vk vm vt LC LK S x.1 ∧ Below B w w'
theorem heap_pair {w V : World} {b g j : Nat} {u : Value} (h : V.heap[b]? = w.heap[b]?) : (V.setCell ⟨g, j, none⟩ u).heap[b]? = (w.setCell ⟨g, j, none⟩ u).heap[b]? := by
 simp only [World.setCell, Array.getElem?_modify, h]
theorem putK_putK (d : MD) (who : Nat) (a b : KD) : putK (putK d who a) who b = putK d who b := by
 unfold putK
 simp only [List.set_set]
theorem goM_put (d : MD) (who : Nat) (a k : KD) (n : Nat) (p : Int) : goM (putK d who a) who k n p = goM d who k n p := by
 unfold goM
 rw [putK_putK, putK_putK]
theorem MQ.reg {Hq : Nat → Prop} {w : World} {B gr cr who : Nat} {vc vk vm vt v : Value} {LC : List CV} {LK : List KV} {S : List RS} {d : MD} {k : KD} (h : MQ w B Hq vc vk vm vt LC LK S d) (hx : LK[who]? = some ⟨k, .slice (some ⟨gr, 0, none⟩) 8 cr, v⟩) (h8 : k.regs.length = 8) (j : Nat) (z : Int) :
  MQ (w.setCell ⟨gr, j, none⟩ (.int .i64 z)) B Hq vc vk vm vt LC (LK.set who ⟨{ k with regs := k.regs.set j z }, .slice (some ⟨gr, 0, none⟩) 8 cr, v⟩) S (putK d who { k with regs := k.regs.set j z }) :=
 MQ.setR h hx (by show _ = _; rw [h8]) z
theorem MQ.go {Hq : Nat → Prop} {w F : World} {B gk ck N who n : Nat} {vc vm vt r v : Value} {LC : List CV} {LK : List KV} {S : List RS} {d : MD} {k : KD} (h : MQ w B Hq vc (.slice (some ⟨gk, 0, none⟩) N ck) vm vt LC LK S d) (hN : LK.length = N) (hx : LK[who]? = some ⟨k, r, v⟩) (p : Int) (hp : p < (n : Int)) (hF : ∀ b, b < w.heap.size → F.heap[b]? = (w.setCell ⟨gk, who * 4, none⟩ (.int .i64 p)).heap[b]?) (hs : w.heap.size ≤ F.heap.size) :
  ∃ LK', MQ F B Hq vc (.slice (some ⟨gk, 0, none⟩) N ck) vm vt LC LK' S (goM d who k n p) := by
 subst hN
 unfold goM
 rw [if_pos hp]
 exact ⟨_, (MQ.setK h hx p).1.keep (fun b _ hb => hF b (by simpa using hb)) (by simpa using hs)⟩
theorem MQ.st {Hq : Nat → Prop} {w F : World} {B gk ck N who : Nat} {vc vm vt r v : Value} {LC : List CV} {LK : List KV} {S : List RS} {d : MD} {k : KD} (h : MQ w B Hq vc (.slice (some ⟨gk, 0, none⟩) N ck) vm vt LC LK S d) (hN : LK.length = N) (hx : LK[who]? = some ⟨k, r, v⟩) (z : Int) (hF : ∀ b, b < w.heap.size → F.heap[b]? = (w.setCell ⟨gk, who * 4 + 3, none⟩ (.int .i64 z)).heap[b]?) (hs : w.heap.size ≤ F.heap.size) :
  ∃ LK', MQ F B Hq vc (.slice (some ⟨gk, 0, none⟩) N ck) vm vt LC LK' S (putK d who { k with st := z }) := by
 subst hN
 exact ⟨_, (MQ.setK h hx z).2.keep (fun b _ hb => hF b (by simpa using hb)) (by simpa using hs)⟩
theorem MQ.no {Hq : Nat → Prop} {w F : World} {B gk ck N who n : Nat} {vc vm vt r v : Value} {LC : List CV} {LK : List KV} {S : List RS} {d : MD} {k : KD} (h : MQ w B Hq vc (.slice (some ⟨gk, 0, none⟩) N ck) vm vt LC LK S d) (hN : LK.length = N) (hx : LK[who]? = some ⟨k, r, v⟩) (p : Int) (hp : ¬ p < (n : Int)) (hF : ∀ b, b < w.heap.size → F.heap[b]? = (w.setCell ⟨gk, who * 4 + 3, none⟩ (.int .i64 2)).heap[b]?) (hs : w.heap.size ≤ F.heap.size) :
  ∃ LK', MQ F B Hq vc (.slice (some ⟨gk, 0, none⟩) N ck) vm vt LC LK' S (goM d who k n p) := by
 unfold goM
 rw [if_neg hp]
 exact h.st hN hx 2 hF hs
theorem set_at {L : List KV} {i : Nat} {x y : KV} (h : L[i]? = some x) : (L.set i y)[i]? = some y := by
 have := (List.getElem?_eq_some_iff.1 h).1
 rw [List.getElem?_set_self this]
theorem Op8.ne {Hq : Nat → Prop} {w : World} {B : Nat} {vc vk vm vt : Value} {LC : List CV} {LK : List KV} {S : List RS} {d : MD} {who p : Nat} {k : KD} {code : List I5} {s : I5} {gc cc gk ck gs cs gr cr gv cv gO cO : Nat} {st : Option Addr} {ct : Nat} (h : MQ w B Hq vc vk vm vt LC LK S d) (o : Op8 w B vc vk vm vt LK d who p k code s gc cc gk ck gs cs gr cr gv cv gO cO st ct) :
  gr ≠ gc ∧ gr ≠ gk ∧ gr ≠ gO ∧ gr ≠ gv ∧ gk ≠ gc ∧ gk ≠ gO ∧ gc ≠ gO ∧ gv ≠ gk ∧ gv ≠ gc ∧ gv ≠ gO := by
 have hr := (h.k.inn who _ o.hx).1
 have hv := (h.k.inn who _ o.hx).2
 have hk := h.k.row
 have hc := h.c.row
 have hm := h.m.row
 have e1 : (Value.slice (some ⟨gr, 0, none⟩) 8 cr).ownBlock = some gr := rfl
 have e2 : (Value.slice (some ⟨gv, 0, none⟩) 24 cv).ownBlock = some gv := rfl
 have e3 : vk.ownBlock = some gk := by rw [o.ek]; rfl
 have e4 : vc.ownBlock = some gc := by rw [o.ec]; rfl
 have e5 : vm.ownBlock = some gO := by rw [o.em]; rfl
 refine ⟨fun e => ?_, fun e => ?_, fun e => ?_, fun e => ?_, fun e => ?_, fun e => ?_, fun e => ?_, fun e => ?_, fun e => ?_, fun e => ?_⟩
 ·exact ownType' hr hc (by decide) e1 (e ▸ e4)
 ·exact ownType' hr hk (by decide) e1 (e ▸ e3)
 ·exact ownType' hr hm (by decide) e1 (e ▸ e5)
 ·exact h.k.two who _ gr o.hx e1 (e ▸ e2)
 ·exact ownType' hk hc (by decide) e3 (e ▸ e4)
 ·exact ownType' hk hm (by decide) e3 (e ▸ e5)
 ·exact ownType' hc hm (by decide) e4 (e ▸ e5)
 ·exact ownType' hv hk (by decide) e2 (e ▸ e3)
 ·exact ownType' hv hc (by decide) e2 (e ▸ e4)
 ·exact ownType' hv hm (by decide) e2 (e ▸ e5)
def bitN (b : Bool) : Int := if b = true then 1 else 0
theorem l4Bit_any (b : Bool) (w : World) : Calls Try.prog 57 #[.bool b] w fun e w' => e = .returned (.int .i64 (bitN b)) ∧ w' = w := by
 cases b
 all_goals
  go_enter Try.func57, Try.ntmps57
  go_wp2
  go_ret
  exact ⟨rfl, rfl⟩
theorem stepAt1 (d : MD) (who : Nat) (late : Int) (k : KD) (n : Nat) (s : I5) (h : s.o = 1) : stepAt d who late k n s = (goM d who (setR k s.r s.n) n (k.pc + 1), 0) := by
 unfold stepAt
 rw [if_pos h]
theorem stepAt2 (d : MD) (who : Nat) (late : Int) (k : KD) (n : Nat) (s : I5) (h : s.o = 2) : stepAt d who late k n s = (goM d who (setR k s.r (wI (regA k s.a + regA k s.b))) n (k.pc + 1), 0) := by
 unfold stepAt
 rw [if_neg (by rw [h]; decide)]
 rw [if_pos h]
theorem stepAt3 (d : MD) (who : Nat) (late : Int) (k : KD) (n : Nat) (s : I5) (h : s.o = 3) : stepAt d who late k n s = (goM d who (setR k s.r (wI (regA k s.a - regA k s.b))) n (k.pc + 1), 0) := by
 unfold stepAt
 rw [if_neg (by rw [h]; decide)]
 rw [if_neg (by rw [h]; decide)]
 rw [if_pos h]
theorem stepAt4 (d : MD) (who : Nat) (late : Int) (k : KD) (n : Nat) (s : I5) (h : s.o = 4) : stepAt d who late k n s = (goM d who (setR k s.r (if regA k s.a < regA k s.b then 1 else 0)) n (k.pc + 1), 0) := by
 unfold stepAt
 rw [if_neg (by rw [h]; decide)]
 rw [if_neg (by rw [h]; decide)]
 rw [if_neg (by rw [h]; decide)]
 rw [if_pos h]
theorem stepAt9 (d : MD) (who : Nat) (late : Int) (k : KD) (n : Nat) (s : I5) (h : s.o = 9) : stepAt d who late k n s = (if d.tr.length = 4000 then (d, 3) else (goM { d with tr := d.tr ++ [⟨who, regA k s.a⟩] } who k n (k.pc + 1), 0)) := by
 unfold stepAt
 rw [if_neg (by rw [h]; decide)]
 rw [if_neg (by rw [h]; decide)]
 rw [if_neg (by rw [h]; decide)]
 rw [if_neg (by rw [h]; decide)]
 rw [if_pos h]
theorem stepAt10 (d : MD) (who : Nat) (late : Int) (k : KD) (n : Nat) (s : I5) (h : s.o = 10) : stepAt d who late k n s = (goM d who k n s.n, 0) := by
 unfold stepAt
 rw [if_neg (by rw [h]; decide)]
 rw [if_neg (by rw [h]; decide)]
 rw [if_neg (by rw [h]; decide)]
 rw [if_neg (by rw [h]; decide)]
 rw [if_neg (by rw [h]; decide)]
 rw [if_pos h]
theorem stepAt11 (d : MD) (who : Nat) (late : Int) (k : KD) (n : Nat) (s : I5) (h : s.o = 11) : stepAt d who late k n s = (goM d who k n (if regA k s.a = 0 then s.n else k.pc + 1), 0) := by
 unfold stepAt
 rw [if_neg (by rw [h]; decide)]
 rw [if_neg (by rw [h]; decide)]
 rw [if_neg (by rw [h]; decide)]
 rw [if_neg (by rw [h]; decide)]
 rw [if_neg (by rw [h]; decide)]
 rw [if_neg (by rw [h]; decide)]
 rw [if_pos h]
theorem stepAt12 (d : MD) (who : Nat) (late : Int) (k : KD) (n : Nat) (s : I5) (h : s.o = 12) : stepAt d who late k n s = (putK d who { k with st := 1 }, 0) := by
 unfold stepAt
 rw [if_neg (by rw [h]; decide)]
 rw [if_neg (by rw [h]; decide)]
 rw [if_neg (by rw [h]; decide)]
 rw [if_neg (by rw [h]; decide)]
 rw [if_neg (by rw [h]; decide)]
 rw [if_neg (by rw [h]; decide)]
 rw [if_neg (by rw [h]; decide)]
 rw [if_pos h]
theorem stepAt13 (d : MD) (who : Nat) (late : Int) (k : KD) (n : Nat) (s : I5) (h : s.o = 13) : stepAt d who late k n s = (putK d who { k with st := 2 }, 0) := by
 unfold stepAt
 rw [if_neg (by rw [h]; decide)]
 rw [if_neg (by rw [h]; decide)]
 rw [if_neg (by rw [h]; decide)]
 rw [if_neg (by rw [h]; decide)]
 rw [if_neg (by rw [h]; decide)]
 rw [if_neg (by rw [h]; decide)]
 rw [if_neg (by rw [h]; decide)]
 rw [if_neg (by rw [h]; decide)]
 rw [if_pos h]
theorem stepAtM (d : MD) (who : Nat) (late : Int) (k : KD) (n : Nat) (s : I5) (h : 5 ≤ s.o ∧ s.o ≤ 8) : stepAt d who late k n s = (if 0 ≤ cellM k s ∧ cellM k s ≤ 23 then (if s.o ≠ 5 ∧ (d.mem.getD (cellM k s).toNat []).length = 4000 then (d, 3) else (goM (memS d late k s (cellM k s).toNat).1 who (memS d late k s (cellM k s).toNat).2 n (k.pc + 1), 0)) else (putK d who { k with st := 2 }, 0)) := by
 unfold stepAt
 rw [if_neg (by omega)]
 rw [if_neg (by omega)]
 rw [if_neg (by omega)]
 rw [if_neg (by omega)]
 rw [if_neg (by omega)]
 rw [if_neg (by omega)]
 rw [if_neg (by omega)]
 rw [if_neg (by omega)]
 rw [if_neg (by omega)]
theorem wp_note {o : Oper} {a : Act} {w : World} {K : Act → World → Prop} {Q : Exit → Act → World → Prop} (s x : Operand) (ho : o.op = .call { callee := .builtin .append, args := #[s, x], argTypes := #[32, 32] })
  (base : Nat) (v : Value) (n : Nat) (xs : List Value) (hs : a.eval s = v) (hown : w.ownsRow base 78 2 v n xs) (g0 : Nat) (u0 u1 : Value) (hu0 : u0.oneCell' = true) (hu1 : u1.oneCell' = true) (hx : a.eval x = .slice (some ⟨g0, 0, none⟩) 1 1) (hc0 : w.cell? ⟨g0, 0, none⟩ = some u0) (hc1 : w.cell? ⟨g0, 1, none⟩ = some u1) (hn : n ≤ 1073741824) (hbase : base ≤ w.heap.size)
  (h : ∀ g cap w', w'.ownsRow base 78 2 (.slice (some ⟨g, 0, none⟩) (n + 1) cap) (n + 1) (xs ++ [u0, u1]) → w.grownBy w' v.ownBlock → (v.ownBlock = some g ∨ w.heap.size ≤ g) → g < w'.heap.size → K (a.put o.dst (.slice (some ⟨g, 0, none⟩) (n + 1) cap)) w') : Oper.wp Try.prog o a w K Q := by
 obtain ⟨i0, hi, hz0, hz1, hz2⟩ := infoD
 refine wp_append_lies w s x 32 ho base 78 i0 _ 2 16 Try.underlying32 hi hz0 hz1 hz2 rfl (by decide) v n xs hs hown ⟨g0, 0, none⟩ 1 1 [u0, u1] hx rfl (fun j u' hj => ?_) (fun u' hu' => by simp at hu'; rcases hu' with rfl | rfl <;> assumption) (by decide) (by unfold maxLen; omega) (by omega) hbase _ rfl ?_
 ·match j, hj with
  | 0, hj => simp at hj; subst hj; simpa [Addr.add] using hc0
  | 1, hj => simp at hj; subst hj; simpa [Addr.add] using hc1
  | j + 2, hj => simp at hj
 ·intro g cap w' q1 q2 q3 q4
  exact h g cap w' q1 q2 (by rcases q3 with q3 | q3 <;> first | exact .inl q3 | exact .inr (by omega)) q4
theorem step_note {ops : Array Oper} {o : Oper} {a : Act} {K : Act → World → Prop} {Q : Exit → Act → World → Prop} {E : Prop} (hgd : o.guard = none) (s x : Operand) (ho : o.op = .call { callee := .builtin .append, args := #[s, x], argTypes := #[32, 32] })
  (w : World) (base : Nat) (v : Value) (n : Nat) (xs : List Value) (hs : a.eval s = v) (hown : w.ownsRow base 78 2 v n xs) (g0 : Nat) (u0 u1 : Value) (hu0 : u0.oneCell' = true) (hu1 : u1.oneCell' = true) (hx : a.eval x = .slice (some ⟨g0, 0, none⟩) 1 1) (hc0 : w.cell? ⟨g0, 0, none⟩ = some u0) (hc1 : w.cell? ⟨g0, 1, none⟩ = some u1) (hn : n ≤ 1073741824) (hbase : base ≤ w.heap.size)
  (h : ∀ g cap w', w'.ownsRow base 78 2 (.slice (some ⟨g, 0, none⟩) (n + 1) cap) (n + 1) (xs ++ [u0, u1]) → w.grownBy w' v.ownBlock → (v.ownBlock = some g ∨ w.heap.size ≤ g) → g < w'.heap.size → K (a.put o.dst (.slice (some ⟨g, 0, none⟩) (n + 1) cap)) w') : if Region.wanted o (yielded ops a.tmps) = true then Oper.wp Try.prog o a w K Q else E := by
 have hw : Region.wanted o (yielded ops a.tmps) = true := by simp [Region.wanted, hgd]
 rw [if_pos hw]
 exact wp_note s x ho base v n xs hs hown g0 u0 u1 hu0 hu1 hx hc0 hc1 hn hbase h
/- a note more: the rest of the machine stays -/
theorem MQ0.note {w w' : World} {B g cap : Nat} {vc vk vm vt : Value} {LC : List CV} {LK : List KV} {S : List RS} {d : MD} (nt : ND) (h : MQ0 w B vc vk vm vt LC LK S d) (ho : w'.ownsRow B 78 2 (.slice (some ⟨g, 0, none⟩) (d.tr.length + 1) cap) (d.tr.length + 1) (flatN d.tr ++ [.int .i64 nt.who, .int .i64 nt.v])) (hb : ∀ b, b < w.heap.size → vt.ownBlock ≠ some b → w'.heap[b]? = w.heap[b]?) (hs : w.heap.size ≤ w'.heap.size) : MQ0 w' B vc vk vm (.slice (some ⟨g, 0, none⟩) (d.tr.length + 1) cap) LC LK S { d with tr := d.tr ++ [nt] } := by
 have ne : ∀ {e : TypeId} {size n : Nat} {u : Value} {xs : List Value}, w.ownsRow B e size u n xs → e ≠ 78 → ∀ q, u.ownBlock = some q → w'.heap[q]? = w.heap[q]? := fun hu h1 q hq => hb q (World.ownsRow.lt hu _ hq).2 (ownType' hu h.t h1 hq)
 refine ⟨⟨ownKeep' h.c.row (ne h.c.row (by decide)), fun i x hx => ownKeep' (h.c.inn i x hx) (ne (h.c.inn i x hx) (by decide)), h.c.sep⟩, h.ec, ⟨ownKeep' h.k.row (ne h.k.row (by decide)), fun i x hx => ⟨ownKeep' (h.k.inn i x hx).1 (ne (h.k.inn i x hx).1 (by decide)), ownKeep' (h.k.inn i x hx).2 (ne (h.k.inn i x hx).2 (by decide))⟩, h.k.two, h.k.sep⟩, h.ek, ?_, ?_, h.sk⟩
 ·refine ⟨h.m.n, ownKeep' h.m.row (ne h.m.row (by decide)), fun i' r l hr hl => ?_, h.m.d⟩
  have q := h.m.r i' r l hr hl
  refine q.kept (ne q.own (by decide)) (fun a ha => ?_) hs
  obtain ⟨cs, f, c1⟩ := q.vt a ha
  refine hb a.block (q.blk ha).2 (fun e => ?_)
  obtain ⟨cs', f', c2⟩ := own_ty h.t e
  rw [c2] at c1
  injection c1 with c1
  injection c1 with _ c1
  exact absurd c1 (by decide)
 ·show OwnD w' B _ (d.tr ++ [nt])
  unfold OwnD
  rw [flatN_app, List.length_append]
  exact ho
theorem MQ.note {Hq : Nat → Prop} {w w' : World} {B g cap : Nat} {vc vk vm vt : Value} {LC : List CV} {LK : List KV} {S : List RS} {d : MD} (nt : ND) (h : MQ w B Hq vc vk vm vt LC LK S d) (ho : w'.ownsRow B 78 2 (.slice (some ⟨g, 0, none⟩) (d.tr.length + 1) cap) (d.tr.length + 1) (flatN d.tr ++ [.int .i64 nt.who, .int .i64 nt.v])) (hb : ∀ b, b < w.heap.size → vt.ownBlock ≠ some b → w'.heap[b]? = w.heap[b]?) (hs : w.heap.size ≤ w'.heap.size) (hg : vt.ownBlock = some g ∨ w.heap.size ≤ g) : MQ w' B Hq vc vk vm (.slice (some ⟨g, 0, none⟩) (d.tr.length + 1) cap) LC LK S { d with tr := d.tr ++ [nt] } := ⟨h.toMQ0.note nt ho hb hs, ⟨h.hh.c, h.hh.ci, h.hh.k, h.hh.ki, h.hh.m, h.hh.mi, fun q hq => by injection hq with hq; subst hq; exact hg.elim (fun e => h.hh.t _ e) (fun e => h.hn _ e)⟩, fun q hq => h.hn q (Nat.le_trans hs hq)⟩
theorem app_note {ops : Array Oper} {rest : List Oper} {o : Oper} {a : Act} {Q : Exit → Act → World → Prop} (hgd : o.guard = none) (s x : Operand) (ho : o.op = .call { callee := .builtin .append, args := #[s, x], argTypes := #[32, 32] })
  (w : World) (base : Nat) (v : Value) (n : Nat) (xs : List Value) (hs : a.eval s = v) (hown : w.ownsRow base 78 2 v n xs) (g0 : Nat) (u0 u1 : Value) (hu0 : u0.oneCell' = true) (hu1 : u1.oneCell' = true) (hx : a.eval x = .slice (some ⟨g0, 0, none⟩) 1 1) (hc0 : w.cell? ⟨g0, 0, none⟩ = some u0) (hc1 : w.cell? ⟨g0, 1, none⟩ = some u1) (hn : n ≤ 1073741824) (hbase : base ≤ w.heap.size)
  (h : ∀ g cap w', w'.ownsRow base 78 2 (.slice (some ⟨g, 0, none⟩) (n + 1) cap) (n + 1) (xs ++ [u0, u1]) → w.grownBy w' v.ownBlock → (v.ownBlock = some g ∨ w.heap.size ≤ g) → g < w'.heap.size → wpList Try.prog ops Q rest (a.put o.dst (.slice (some ⟨g, 0, none⟩) (n + 1) cap)) w') : wpList Try.prog ops Q (o :: rest) a w :=
 wpList_plain hgd fun _ hK => wp_note s x ho base v n xs hs hown g0 u0 u1 hu0 hu1 hx hc0 hc1 hn hbase fun g cap w' h1 h2 h3 h4 => hK _ _ (h g cap w' h1 h2 h3 h4)
/- a store into a box of a machine's type -/
theorem MQ0.offB {w : World} {B b j : Nat} {vc vk vm vt u : Value} {LC : List CV} {LK : List KV} {S : List RS} {d : MD} (h : MQ0 w B vc vk vm vt LC LK S d) (ht : BxT w b) : MQ0 (w.setCell ⟨b, j, none⟩ u) B vc vk vm vt LC LK S d := by
 have hb : ∀ k, k ≠ b → (w.setCell ⟨b, j, none⟩ u).heap[k]? = w.heap[k]? := fun k hk => Below.heap_setCell _ _ _ k hk
 exact ⟨h.c.off ht hb, h.ec, h.k.off ht hb, h.ek, h.m.off ht hb (by simp), h.t.off ht hb, h.sk⟩
theorem MQ.offB {Hq : Nat → Prop} {w : World} {B b j : Nat} {vc vk vm vt u : Value} {LC : List CV} {LK : List KV} {S : List RS} {d : MD} (h : MQ w B Hq vc vk vm vt LC LK S d) (ht : BxT w b) : MQ (w.setCell ⟨b, j, none⟩ u) B Hq vc vk vm vt LC LK S d := ⟨h.toMQ0.offB ht, h.hh, by simpa using h.hn⟩
theorem BxT.same {w w' : World} {b : Nat} (h : BxT w b) (e : w'.heap[b]? = w.heap[b]?) : BxT w' b := by
 obtain ⟨cs, f, c⟩ := h
 exact ⟨cs, f, e.trans c⟩
theorem BxT.lt {w : World} {b : Nat} (h : BxT w b) : b < w.heap.size := by
 obtain ⟨cs, f, c⟩ := h
 exact (Array.getElem?_eq_some_iff.1 c).1
theorem BxT.alloc {w : World} {b : Nat} (h : BxT w b) (o : Obj) : BxT (w.alloc o) b := h.same (Below.heap_alloc _ _ _ h.lt)
theorem BxT.new (w : World) (cs : Array Value) : BxT (w.alloc (.cells cs 34)) w.heap.size := ⟨_, _, heap_alloc_new _ _⟩
theorem boxT {w W V : World} {m0 m1 m2 m3 x0 x1 k0 k1 k2 k3 s0 s1 s2 s3 s4 : Value} {T1 T3 T4 : TypeId}
  (hW : (((w.alloc (.cells #[m0, m1, m2, m3] 34)).alloc (.cells #[x0, x1] T1)).alloc (.cells #[.slice none 0 0, .slice none 0 0, .slice none 0 0, .slice none 0 0] 34)).alloc (.cells #[k0, k1, k2, k3] T3) = W) (hV : (W.alloc (.cells #[s0, s1, s2, s3, s4] T4)).drew = V) :
  BxT V w.heap.size ∧ BxT V (w.heap.size + 1 + 1) := by
 subst hW
 subst hV
 have e : ((w.alloc (.cells #[m0, m1, m2, m3] 34)).alloc (.cells #[x0, x1] T1)).heap.size = w.heap.size + 1 + 1 := by simp
 refine ⟨?_, ?_⟩
 ·exact BxT.same (BxT.alloc (BxT.alloc (BxT.alloc (BxT.alloc (BxT.new w _) _) _) _) _) rfl
 ·rw [← e]
  exact BxT.same (BxT.alloc (BxT.alloc (BxT.new _ _) _) _) rfl
end
section
set_option linter.unusedSimpArgs false
set_option linter.unusedVariables false
set_option maxRecDepth 100000
open Go.RowKit
theorem hidM1 {p : Prop} (h : p) : Hid p := h
/- the cells of a runner and what they lead to -/
structure Rn (w : World) (R bm gk gc gs gr gv who n : Nat) (cv cr cs : Nat) (late : Int) (vc vk vm vt : Value) (nc cc : Nat) (pc st : Int) : Prop where
 r0 : w.cell? ⟨R, 0, none⟩ = some (.slice (some ⟨gv, 0, none⟩) 24 cv)
 r1 : w.cell? ⟨R, 1, none⟩ = some (.pointer (some ⟨gk, who * 4, none⟩))
 r2 : w.cell? ⟨R, 2, none⟩ = some (.pointer (some ⟨bm, 0, none⟩))
 r3 : w.cell? ⟨R, 3, none⟩ = some (.int .i64 who)
 r4 : w.cell? ⟨R, 4, none⟩ = some (.int .i64 late)
 m0 : w.cell? ⟨bm, 0, none⟩ = some vc
 m1 : w.cell? ⟨bm, 1, none⟩ = some vk
 m2 : w.cell? ⟨bm, 2, none⟩ = some vm
 m3 : w.cell? ⟨bm, 3, none⟩ = some vt
 fm : ∀ j, w.frozen? ⟨bm, j, none⟩ = false
 ec : vc = .slice (some ⟨gc, 0, none⟩) nc cc
 c0 : w.cell? ⟨gc, who, none⟩ = some (.slice (some ⟨gs, 0, none⟩) n cs)
 k0 : w.cell? ⟨gk, who * 4, none⟩ = some (.int .i64 pc)
 k1 : w.cell? ⟨gk, who * 4 + 1, none⟩ = some (.slice (some ⟨gr, 0, none⟩) 8 cr)
 k3 : w.cell? ⟨gk, who * 4 + 3, none⟩ = some (.int .i64 st)
 fk : ∀ j, w.frozen? ⟨gk, j, none⟩ = false
 wc : who < nc
 zR : R < w.heap.size
 zm : bm < w.heap.size
 zk : gk < w.heap.size
 zc : gc < w.heap.size
 zr : gr < w.heap.size
theorem stop_any {w : World} {R bm gk gc gs gr gv who n cv cr cs : Nat} {late : Int} {vc vk vm vt : Value} {nc cc : Nat} {pc st : Int} (z : Int) (h : Rn w R bm gk gc gs gr gv who n cv cr cs late vc vk vm vt nc cc pc st) :
  Calls Try.prog 81 #[.pointer (some ⟨R, 0, none⟩), .int .i64 z] w fun e w' => e = .returned (.int .i64 0) ∧ Below w.heap.size (w.setCell ⟨gk, who * 4 + 3, none⟩ (.int .i64 z)) w' := by
 obtain ⟨r0, r1, r2, r3, r4, m0, m1, m2, m3, fm, ec, c0, k0, k1, k3, fk, wc, zR, zm, zk, zc, zr⟩ := h
 go_enter Try.func81, Try.ntmps81
 go_wp2
 go_ret
 exact ⟨rfl, Below.refl _ _⟩
theorem Rn.below {w w' : World} {R bm gk gc gs gr gv who n cv cr cs : Nat} {late : Int} {vc vk vm vt : Value} {nc cc : Nat} {pc st : Int} (h : Rn w R bm gk gc gs gr gv who n cv cr cs late vc vk vm vt nc cc pc st) (hb : Below w.heap.size w w') : Rn w' R bm gk gc gs gr gv who n cv cr cs late vc vk vm vt nc cc pc st := by
 obtain ⟨r0, r1, r2, r3, r4, m0, m1, m2, m3, fm, ec, c0, k0, k1, k3, fk, wc, zR, zm, zk, zc, zr⟩ := h
 have hs := hb.size
 have cc' : ∀ b j, b < w.heap.size → w'.cell? ⟨b, j, none⟩ = w.cell? ⟨b, j, none⟩ := fun b j hb' => hb.cell (p := ⟨b, j, none⟩) hb'
 exact ⟨(cc' _ _ zR).trans r0, (cc' _ _ zR).trans r1, (cc' _ _ zR).trans r2, (cc' _ _ zR).trans r3, (cc' _ _ zR).trans r4, (cc' _ _ zm).trans m0, (cc' _ _ zm).trans m1, (cc' _ _ zm).trans m2, (cc' _ _ zm).trans m3, fun j => (hb.frozen (p := ⟨bm, j, none⟩) zm).trans (fm j), ec, (cc' _ _ zc).trans c0, (cc' _ _ zk).trans k0, (cc' _ _ zk).trans k1, (cc' _ _ zk).trans k3, fun j => (hb.frozen (p := ⟨gk, j, none⟩) zk).trans (fk j), wc, by omega, by omega, by omega, by omega, by omega⟩
/- a store behind what a call has left alone -/
theorem below_pair {w w' : World} {g j : Nat} {v : Value} (h : Below w.heap.size w w') : Below w.heap.size (w.setCell ⟨g, j, none⟩ v) (w'.setCell ⟨g, j, none⟩ v) :=
 ⟨h.os, h.tape, h.output, by simpa using h.size, fun b hb => heap_pair (h.block b hb)⟩
theorem goTo_yes {w : World} {R bm gk gc gs gr gv who n cv cr cs : Nat} {late : Int} {vc vk vm vt : Value} {nc cc : Nat} {pc st : Int} (at_ : Int) (h : Rn w R bm gk gc gs gr gv who n cv cr cs late vc vk vm vt nc cc pc st) (h0 : 0 ≤ at_) (h1 : at_ < (n : Int)) :
  Calls Try.prog 84 #[.pointer (some ⟨R, 0, none⟩), .int .i64 at_] w fun e w' => e = .returned (.int .i64 0) ∧ Below w.heap.size (w.setCell ⟨gk, who * 4, none⟩ (.int .i64 at_)) w' := by
 have hh := h
 obtain ⟨r0, r1, r2, r3, r4, m0, m1, m2, m3, fm, ec, c0, k0, k1, k3, fk, wc, zR, zm, zk, zc, zr⟩ := h
 subst ec
 have b0 : (0 : Int) ≤ (who : Int) := by omega
 have b1 : (who : Int) < (nc : Int) := by omega
 have H := hidM1 hh
 go_enter Try.func84, Try.ntmps84
 go_wp2_with fail
 have hne := ext_ne w
 have u0 := Ext.fit r2 zR
 have u1 := Ext.fit m0 zm
 have u2 := Ext.fit r3 zR
 have u3 := Ext.fit c0 zc
 refine regionExt w (by kernel_rfl) (by kernel_rfl) ?_
 repeat (go_big_quiet_step ((rename_i X; go_at_call 51; refine (isOneOf_is _ _ true _ (by unfold Plain.oneB; simp; omega)).mono ?_; rintro e w3 ⟨rfl, hw3⟩; exact ⟨rfl, by rw [hw3]; exact X.on (Below.refl _ _)⟩)))
 refine wpQuiet_nil ?_
 rintro w3 ⟨X3, rfl⟩
 obtain ⟨V, hV⟩ : ∃ V, X3.w = V := ⟨_, rfl⟩
 have hb := X3.b
 rw [hV] at hb ⊢
 have HB : Hid (Below w.heap.size w V) := hb
 clear hne u0 u1 u2 u3 r0 r1 r2 r3 r4 m0 m1 m2 m3 fm c0 k0 k1 k3 fk hV X3
 obtain ⟨r0, r1, r2, r3, r4, m0, m1, m2, m3, fm, ec, c0, k0, k1, k3, fk, wc, zR', zm', zk', zc', zr'⟩ := H.out.below hb
 clear hb ec
 go_wp2
 go_ret
 exact ⟨rfl, below_pair HB.out⟩
theorem goTo_no {w : World} {R bm gk gc gs gr gv who n cv cr cs : Nat} {late : Int} {vc vk vm vt : Value} {nc cc : Nat} {pc st : Int} (at_ : Int) (h : Rn w R bm gk gc gs gr gv who n cv cr cs late vc vk vm vt nc cc pc st) (h1 : ¬ (0 ≤ at_ ∧ at_ < (n : Int))) :
  Calls Try.prog 84 #[.pointer (some ⟨R, 0, none⟩), .int .i64 at_] w fun e w' => e = .returned (.int .i64 0) ∧ Below w.heap.size (w.setCell ⟨gk, who * 4 + 3, none⟩ (.int .i64 2)) w' := by
 have hh := h
 obtain ⟨r0, r1, r2, r3, r4, m0, m1, m2, m3, fm, ec, c0, k0, k1, k3, fk, wc, zR, zm, zk, zc, zr⟩ := h
 subst ec
 have b0 : (0 : Int) ≤ (who : Int) := by omega
 have b1 : (who : Int) < (nc : Int) := by omega
 have H := hidM1 hh
 have H1 := hidM1 h1
 go_enter Try.func84, Try.ntmps84
 go_wp2_with fail
 have hne := ext_ne w
 have u0 := Ext.fit r2 zR
 have u1 := Ext.fit m0 zm
 have u2 := Ext.fit r3 zR
 have u3 := Ext.fit c0 zc
 refine regionExt w (by kernel_rfl) (by kernel_rfl) ?_
 repeat (go_big_quiet_step ((rename_i X; go_at_call 51; refine (isOneOf_is _ _ false _ (by have := H1.out; unfold Plain.oneB; simp; omega)).mono ?_; rintro e w3 ⟨rfl, hw3⟩; exact ⟨rfl, by rw [hw3]; exact X.on (Below.refl _ _)⟩)))
 refine wpQuiet_nil ?_
 rintro w3 ⟨X3, rfl⟩
 obtain ⟨V, hV⟩ : ∃ V, X3.w = V := ⟨_, rfl⟩
 have hb := X3.b
 rw [hV] at hb ⊢
 have HB : Hid (Below w.heap.size w V) := hb
 have ST := hidM1 (stop_any 2 (H.out.below hb))
 clear hne u0 u1 u2 u3 r0 r1 r2 r3 r4 m0 m1 m2 m3 fm c0 k0 k1 k3 fk hV X3
 go_wp2_with fail
 refine Calls.mono ST.out ?_
 rintro e w4 ⟨rfl, hb4⟩
 have HB4 := hidM1 hb4
 clear hb4
 go_wp2
 go_ret
 have q := HB.out.size
 exact ⟨rfl, (below_pair (g := gk) (j := who * 4 + 3) (v := .int .i64 2) HB.out).trans (HB4.out.mono q)⟩
theorem lessOf_any (a b : Int) (w : World) : Calls Try.prog 90 #[.int .i64 a, .int .i64 b] w fun e w' => e = .returned (.int .i64 (bitN (decide (a < b)))) ∧ w' = w := by
 by_cases h : a < b
 all_goals
  go_enter Try.func90, Try.ntmps90
  go_wp2
  go_ret
  exact ⟨by simp [bitN, h], rfl⟩
def reckV (o n va vb : Int) : Int := if o = 1 then n else if o = 2 then wI (va + vb) else if o = 3 then wI (va - vb) else bitN (decide (va < vb))
end
section
set_option linter.unusedSimpArgs false
set_option linter.unusedVariables false
set_option maxRecDepth 100000
open Go.RowKit
set_option maxHeartbeats 1000000 in
theorem reckon1 {w : World} {R bm gk gc gs gr gv who n cv cr cs : Nat} {late : Int} {vc vk vm vt : Value} {nc cc : Nat} {pc st : Int} (r' a' b' : Nat) (nn va vb v0 : Int) (h : Rn w R bm gk gc gs gr gv who n cv cr cs late vc vk vm vt nc cc pc st) (hr : r' < 8) (ha : a' < 8) (hb : b' < 8) (lr : w.cell? ⟨gr, r', none⟩ = some (.int .i64 v0)) (la : w.cell? ⟨gr, a', none⟩ = some (.int .i64 va)) (lb : w.cell? ⟨gr, b', none⟩ = some (.int .i64 vb)) (fr : ∀ j, w.frozen? ⟨gr, j, none⟩ = false) :
  Calls Try.prog 79 #[.pointer (some ⟨R, 0, none⟩), .agg #[.int .i64 1, .int .i64 r', .int .i64 a', .int .i64 b', .int .i64 nn]] w fun e w' => e = .returned (.tuple #[]) ∧ Below w.heap.size (w.setCell ⟨gr, r', none⟩ (.int .i64 (reckV 1 nn va vb))) w' := by
 obtain ⟨r0, r1, r2, r3, r4, m0, m1, m2, m3, fm, ec, c0, k0, k1, k3, fk, wc, zR, zm, zk, zc, zr⟩ := h
 have br0 : (0 : Int) ≤ (r' : Int) := by omega
 have br1 : (r' : Int) < 8 := by omega
 have ba0 : (0 : Int) ≤ (a' : Int) := by omega
 have ba1 : (a' : Int) < 8 := by omega
 have bb0 : (0 : Int) ≤ (b' : Int) := by omega
 have bb1 : (b' : Int) < 8 := by omega
 go_enter Try.func79, Try.ntmps79
 go_wp2
 go_end0
 exact ⟨rfl, by unfold reckV; rw [if_pos rfl]; exact (Below.refl _ _).alloc (by simp) _⟩
set_option maxHeartbeats 1000000 in
theorem reckon2 {w : World} {R bm gk gc gs gr gv who n cv cr cs : Nat} {late : Int} {vc vk vm vt : Value} {nc cc : Nat} {pc st : Int} (r' a' b' : Nat) (nn va vb v0 : Int) (h : Rn w R bm gk gc gs gr gv who n cv cr cs late vc vk vm vt nc cc pc st) (hr : r' < 8) (ha : a' < 8) (hb : b' < 8) (lr : w.cell? ⟨gr, r', none⟩ = some (.int .i64 v0)) (la : w.cell? ⟨gr, a', none⟩ = some (.int .i64 va)) (lb : w.cell? ⟨gr, b', none⟩ = some (.int .i64 vb)) (fr : ∀ j, w.frozen? ⟨gr, j, none⟩ = false) :
  Calls Try.prog 79 #[.pointer (some ⟨R, 0, none⟩), .agg #[.int .i64 2, .int .i64 r', .int .i64 a', .int .i64 b', .int .i64 nn]] w fun e w' => e = .returned (.tuple #[]) ∧ Below w.heap.size (w.setCell ⟨gr, r', none⟩ (.int .i64 (reckV 2 nn va vb))) w' := by
 obtain ⟨r0, r1, r2, r3, r4, m0, m1, m2, m3, fm, ec, c0, k0, k1, k3, fk, wc, zR, zm, zk, zc, zr⟩ := h
 have br0 : (0 : Int) ≤ (r' : Int) := by omega
 have br1 : (r' : Int) < 8 := by omega
 have ba0 : (0 : Int) ≤ (a' : Int) := by omega
 have ba1 : (a' : Int) < 8 := by omega
 have bb0 : (0 : Int) ≤ (b' : Int) := by omega
 have bb1 : (b' : Int) < 8 := by omega
 obtain ⟨q, hq⟩ : ∃ q, IntKind.i64.wrap (va + vb) = q := ⟨_, rfl⟩
 go_enter Try.func79, Try.ntmps79
 go_wp2_with fail
 obtain ⟨V, hV⟩ : ∃ V, w.alloc (.cells #[.int .i64 2, .int .i64 r', .int .i64 a', .int .i64 b', .int .i64 nn] 25) = V := ⟨_, rfl⟩
 have kv : Below w.heap.size w V := by subst hV; exact (Below.refl _ _).alloc (Nat.le_refl _) _
 have zv : w.heap.size < V.heap.size := by subst hV; simp
 have t1 : V.cell? ⟨w.heap.size, 1, none⟩ = some (.int .i64 r') := by subst hV; simp [go_sem]
 have t2 : V.cell? ⟨w.heap.size, 2, none⟩ = some (.int .i64 a') := by subst hV; simp [go_sem]
 have t3 : V.cell? ⟨w.heap.size, 3, none⟩ = some (.int .i64 b') := by subst hV; simp [go_sem]
 rw [hV]
 have KV := hidM1 kv
 have hne := ext_ne V
 have u1 := Ext.fit t1 zv
 have u2 := Ext.fit t2 zv
 have u3 := Ext.fit t3 zv
 have ua := Ext.fit ((kv.cell (p := ⟨gr, a', none⟩) zr).trans la) (by omega)
 have ub := Ext.fit ((kv.cell (p := ⟨gr, b', none⟩) zr).trans lb) (by omega)
 refine regionLast V _ rfl (by kernel_rfl) (by kernel_rfl) (by kernel_rfl) rfl rfl ?_
 dsimp only [List.dropLast, List.cons_append, List.nil_append, idle]
 repeat (go_big_quiet_step (fail))
 refine wpQuiet_nil ?_
 rintro w3 ⟨X3, rfl⟩
 obtain ⟨V2, hV2⟩ : ∃ V2, X3.w = V2 := ⟨_, rfl⟩
 have hb2 := X3.b
 rw [hV2] at hb2 ⊢
 have K2 : Hid (Below w.heap.size w V2) := KV.out.trans (hb2.mono (by omega))
 have lr2 := (K2.out.cell (p := ⟨gr, r', none⟩) zr).trans lr
 have fr2 : ∀ j, V2.frozen? ⟨gr, j, none⟩ = false := fun j => (K2.out.frozen (p := ⟨gr, j, none⟩) zr).trans (fr j)
 clear hne u1 u2 u3 ua ub hV2 hb2 X3 kv hV t1 t2 t3
 go_wp2
 go_end0
 exact ⟨rfl, by unfold reckV wI; rw [if_neg (by decide), if_pos rfl, hq]; exact below_pair K2.out⟩
set_option maxHeartbeats 1000000 in
theorem reckon3 {w : World} {R bm gk gc gs gr gv who n cv cr cs : Nat} {late : Int} {vc vk vm vt : Value} {nc cc : Nat} {pc st : Int} (r' a' b' : Nat) (nn va vb v0 : Int) (h : Rn w R bm gk gc gs gr gv who n cv cr cs late vc vk vm vt nc cc pc st) (hr : r' < 8) (ha : a' < 8) (hb : b' < 8) (lr : w.cell? ⟨gr, r', none⟩ = some (.int .i64 v0)) (la : w.cell? ⟨gr, a', none⟩ = some (.int .i64 va)) (lb : w.cell? ⟨gr, b', none⟩ = some (.int .i64 vb)) (fr : ∀ j, w.frozen? ⟨gr, j, none⟩ = false) :
  Calls Try.prog 79 #[.pointer (some ⟨R, 0, none⟩), .agg #[.int .i64 3, .int .i64 r', .int .i64 a', .int .i64 b', .int .i64 nn]] w fun e w' => e = .returned (.tuple #[]) ∧ Below w.heap.size (w.setCell ⟨gr, r', none⟩ (.int .i64 (reckV 3 nn va vb))) w' := by
 obtain ⟨r0, r1, r2, r3, r4, m0, m1, m2, m3, fm, ec, c0, k0, k1, k3, fk, wc, zR, zm, zk, zc, zr⟩ := h
 have br0 : (0 : Int) ≤ (r' : Int) := by omega
 have br1 : (r' : Int) < 8 := by omega
 have ba0 : (0 : Int) ≤ (a' : Int) := by omega
 have ba1 : (a' : Int) < 8 := by omega
 have bb0 : (0 : Int) ≤ (b' : Int) := by omega
 have bb1 : (b' : Int) < 8 := by omega
 obtain ⟨q, hq⟩ : ∃ q, IntKind.i64.wrap (va - vb) = q := ⟨_, rfl⟩
 go_enter Try.func79, Try.ntmps79
 go_wp2_with fail
 obtain ⟨V, hV⟩ : ∃ V, w.alloc (.cells #[.int .i64 3, .int .i64 r', .int .i64 a', .int .i64 b', .int .i64 nn] 25) = V := ⟨_, rfl⟩
 have kv : Below w.heap.size w V := by subst hV; exact (Below.refl _ _).alloc (Nat.le_refl _) _
 have zv : w.heap.size < V.heap.size := by subst hV; simp
 have t1 : V.cell? ⟨w.heap.size, 1, none⟩ = some (.int .i64 r') := by subst hV; simp [go_sem]
 have t2 : V.cell? ⟨w.heap.size, 2, none⟩ = some (.int .i64 a') := by subst hV; simp [go_sem]
 have t3 : V.cell? ⟨w.heap.size, 3, none⟩ = some (.int .i64 b') := by subst hV; simp [go_sem]
 rw [hV]
 have KV := hidM1 kv
 have hne := ext_ne V
 have u1 := Ext.fit t1 zv
 have u2 := Ext.fit t2 zv
 have u3 := Ext.fit t3 zv
 have ua := Ext.fit ((kv.cell (p := ⟨gr, a', none⟩) zr).trans la) (by omega)
 have ub := Ext.fit ((kv.cell (p := ⟨gr, b', none⟩) zr).trans lb) (by omega)
 refine regionLast V _ rfl (by kernel_rfl) (by kernel_rfl) (by kernel_rfl) rfl rfl ?_
 dsimp only [List.dropLast, List.cons_append, List.nil_append, idle]
 repeat (go_big_quiet_step (fail))
 refine wpQuiet_nil ?_
 rintro w3 ⟨X3, rfl⟩
 obtain ⟨V2, hV2⟩ : ∃ V2, X3.w = V2 := ⟨_, rfl⟩
 have hb2 := X3.b
 rw [hV2] at hb2 ⊢
 have K2 : Hid (Below w.heap.size w V2) := KV.out.trans (hb2.mono (by omega))
 have lr2 := (K2.out.cell (p := ⟨gr, r', none⟩) zr).trans lr
 have fr2 : ∀ j, V2.frozen? ⟨gr, j, none⟩ = false := fun j => (K2.out.frozen (p := ⟨gr, j, none⟩) zr).trans (fr j)
 clear hne u1 u2 u3 ua ub hV2 hb2 X3 kv hV t1 t2 t3
 go_wp2
 go_end0
 exact ⟨rfl, by unfold reckV wI; rw [if_neg (by decide), if_neg (by decide), if_pos rfl, hq]; exact below_pair K2.out⟩
set_option maxHeartbeats 1000000 in
theorem reckon4 {w : World} {R bm gk gc gs gr gv who n cv cr cs : Nat} {late : Int} {vc vk vm vt : Value} {nc cc : Nat} {pc st : Int} (r' a' b' : Nat) (nn va vb v0 : Int) (h : Rn w R bm gk gc gs gr gv who n cv cr cs late vc vk vm vt nc cc pc st) (hr : r' < 8) (ha : a' < 8) (hb : b' < 8) (lr : w.cell? ⟨gr, r', none⟩ = some (.int .i64 v0)) (la : w.cell? ⟨gr, a', none⟩ = some (.int .i64 va)) (lb : w.cell? ⟨gr, b', none⟩ = some (.int .i64 vb)) (fr : ∀ j, w.frozen? ⟨gr, j, none⟩ = false) :
  Calls Try.prog 79 #[.pointer (some ⟨R, 0, none⟩), .agg #[.int .i64 4, .int .i64 r', .int .i64 a', .int .i64 b', .int .i64 nn]] w fun e w' => e = .returned (.tuple #[]) ∧ Below w.heap.size (w.setCell ⟨gr, r', none⟩ (.int .i64 (reckV 4 nn va vb))) w' := by
 obtain ⟨r0, r1, r2, r3, r4, m0, m1, m2, m3, fm, ec, c0, k0, k1, k3, fk, wc, zR, zm, zk, zc, zr⟩ := h
 have br0 : (0 : Int) ≤ (r' : Int) := by omega
 have br1 : (r' : Int) < 8 := by omega
 have ba0 : (0 : Int) ≤ (a' : Int) := by omega
 have ba1 : (a' : Int) < 8 := by omega
 have bb0 : (0 : Int) ≤ (b' : Int) := by omega
 have bb1 : (b' : Int) < 8 := by omega
 go_enter Try.func79, Try.ntmps79
 go_wp2_with fail
 obtain ⟨V, hV⟩ : ∃ V, w.alloc (.cells #[.int .i64 4, .int .i64 r', .int .i64 a', .int .i64 b', .int .i64 nn] 25) = V := ⟨_, rfl⟩
 have kv : Below w.heap.size w V := by subst hV; exact (Below.refl _ _).alloc (Nat.le_refl _) _
 have zv : w.heap.size < V.heap.size := by subst hV; simp
 have t1 : V.cell? ⟨w.heap.size, 1, none⟩ = some (.int .i64 r') := by subst hV; simp [go_sem]
 have t2 : V.cell? ⟨w.heap.size, 2, none⟩ = some (.int .i64 a') := by subst hV; simp [go_sem]
 have t3 : V.cell? ⟨w.heap.size, 3, none⟩ = some (.int .i64 b') := by subst hV; simp [go_sem]
 rw [hV]
 have KV := hidM1 kv
 have hne := ext_ne V
 have u1 := Ext.fit t1 zv
 have u2 := Ext.fit t2 zv
 have u3 := Ext.fit t3 zv
 have ua := Ext.fit ((kv.cell (p := ⟨gr, a', none⟩) zr).trans la) (by omega)
 have ub := Ext.fit ((kv.cell (p := ⟨gr, b', none⟩) zr).trans lb) (by omega)
 refine regionLast V _ rfl (by kernel_rfl) (by kernel_rfl) (by kernel_rfl) rfl rfl ?_
 dsimp only [List.dropLast, List.cons_append, List.nil_append, idle]
 repeat (go_big_quiet_step ((rename_i X; go_at_call 90; refine (lessOf_any _ _ _).mono ?_; rintro e w3 ⟨rfl, hw3⟩; exact ⟨rfl, by rw [hw3]; exact X.on (Below.refl _ _)⟩)))
 refine wpQuiet_nil ?_
 rintro w3 ⟨X3, rfl⟩
 obtain ⟨V2, hV2⟩ : ∃ V2, X3.w = V2 := ⟨_, rfl⟩
 have hb2 := X3.b
 rw [hV2] at hb2 ⊢
 have K2 : Hid (Below w.heap.size w V2) := KV.out.trans (hb2.mono (by omega))
 have lr2 := (K2.out.cell (p := ⟨gr, r', none⟩) zr).trans lr
 have fr2 : ∀ j, V2.frozen? ⟨gr, j, none⟩ = false := fun j => (K2.out.frozen (p := ⟨gr, j, none⟩) zr).trans (fr j)
 clear hne u1 u2 u3 ua ub hV2 hb2 X3 kv hV t1 t2 t3
 go_wp2
 go_end0
 exact ⟨rfl, by unfold reckV; rw [if_neg (by decide), if_neg (by decide), if_neg (by decide)]; exact below_pair K2.out⟩
end
section
set_option linter.unusedSimpArgs false
set_option linter.unusedVariables false
set_option maxRecDepth 100000
open Go.RowKit
theorem cellOf_n {w : World} {R : Nat} (o r a b n : Int) (hl : Plain.memB o = false ∨ a = -1) :
  Calls Try.prog 80 #[.pointer (some ⟨R, 0, none⟩), .agg #[.int .i64 o, .int .i64 r, .int .i64 a, .int .i64 b, .int .i64 n]] w fun e w' => e = .returned (.int .i64 n) ∧ Below w.heap.size w w' := by
 by_cases hm : Plain.memB o = false
 ·have HM := hidM1 hm
  clear hl hm
  go_enter Try.func80, Try.ntmps80
  go_wp2_with (go_at_call 88; refine (mayLackA_any _ _).mono ?_; rintro e w' ⟨rfl, hw'⟩; rw [hw', HM.out]; clear hw' w')
  go_ret
  exact ⟨rfl, (Below.refl _ _).alloc (Nat.le_refl _) _⟩
 ·have ha : a = -1 := hl.resolve_left hm
  subst ha
  have HM : Hid (Plain.memB o = true) := by show _ = _; cases h : Plain.memB o; exact absurd h hm; rfl
  clear hl hm
  go_enter Try.func80, Try.ntmps80
  go_wp2_with (go_at_call 88; refine (mayLackA_any _ _).mono ?_; rintro e w' ⟨rfl, hw'⟩; rw [hw', HM.out]; clear hw' w')
  go_ret
  exact ⟨rfl, (Below.refl _ _).alloc (Nat.le_refl _) _⟩
theorem cellOf_r {w : World} {R bm gk gc gs gr gv who nn cv cr cs : Nat} {late : Int} {vc vk vm vt : Value} {nc cc : Nat} {pc st : Int} (o r b n va : Int) (a' : Nat) (h : Rn w R bm gk gc gs gr gv who nn cv cr cs late vc vk vm vt nc cc pc st) (ha : a' < 8) (la : w.cell? ⟨gr, a', none⟩ = some (.int .i64 va)) (hm : Plain.memB o = true) :
  Calls Try.prog 80 #[.pointer (some ⟨R, 0, none⟩), .agg #[.int .i64 o, .int .i64 r, .int .i64 a', .int .i64 b, .int .i64 n]] w fun e w' => e = .returned (.int .i64 (wI (n + va))) ∧ Below w.heap.size w w' := by
 obtain ⟨r0, r1, r2, r3, r4, m0, m1, m2, m3, fm, ec, c0, k0, k1, k3, fk, wc, zR, zm, zk, zc, zr⟩ := h
 have ba0 : (0 : Int) ≤ (a' : Int) := by omega
 have ba1 : (a' : Int) < 8 := by omega
 have ba2 : ¬ (a' : Int) = -1 := by omega
 have HM := hidM1 hm
 clear hm
 obtain ⟨q, hq⟩ : ∃ q, IntKind.i64.wrap (n + va) = q := ⟨_, rfl⟩
 go_enter Try.func80, Try.ntmps80
 go_wp2_with (go_at_call 88; refine (mayLackA_any _ _).mono ?_; rintro e w' ⟨rfl, hw'⟩; rw [hw', HM.out]; clear hw' w')
 obtain ⟨V, hV⟩ : ∃ V, w.alloc (.cells #[.int .i64 o, .int .i64 r, .int .i64 a', .int .i64 b, .int .i64 n] 25) = V := ⟨_, rfl⟩
 have kv : Below w.heap.size w V := by subst hV; exact (Below.refl _ _).alloc (Nat.le_refl _) _
 have zv : w.heap.size < V.heap.size := by subst hV; simp
 have t2 : V.cell? ⟨w.heap.size, 2, none⟩ = some (.int .i64 a') := by subst hV; simp [go_sem]
 have t4 : V.cell? ⟨w.heap.size, 4, none⟩ = some (.int .i64 n) := by subst hV; simp [go_sem]
 rw [hV]
 have KV := hidM1 kv
 have hne := ext_ne V
 have u2 := Ext.fit t2 zv
 have u4 := Ext.fit t4 zv
 have u0 := Ext.fit ((kv.cell (p := ⟨R, 1, none⟩) zR).trans r1) (by omega)
 have u1 := Ext.fit ((kv.cell (p := ⟨gk, who * 4 + 1, none⟩) zk).trans k1) (by omega)
 have ua := Ext.fit ((kv.cell (p := ⟨gr, a', none⟩) zr).trans la) (by omega)
 refine regionExt V (by kernel_rfl) (by kernel_rfl) ?_
 repeat (go_big_quiet_step (fail))
 refine wpQuiet_nil ?_
 rintro w3 ⟨X3, rfl⟩
 have K2 := hidM1 (KV.out.trans (X3.b.mono (Nat.le_of_lt zv)))
 clear hne u0 u1 u2 u4 ua t2 t4 kv hV
 go_wp2
 go_ret
 exact ⟨by show Ending.returned (Value.int .i64 q) = _; unfold wI; rw [hq], K2.out⟩
end
end Go.Proofs.Ytepfpbcjklaenaa
