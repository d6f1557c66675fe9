/- What a turn of the program's runner takes back at its end. No condition. A turn of the program's runner. Condition: late is a number of 64 bits. A turn of the program's runner, whichever; stepIn. Condition: late is a number of 64 bits. -/
import Derived.Test.YtepfpbcjklaenaaKG00
import Derived.Test.YtepfpbcjklaenaaKG03
import Derived.Test.YtepfpbcjklaenaaKG07
import Derived.Test.YtepfpbcjklaenaaKG08
import Derived.Test.YtepfpbcjklaenaaKG13
import Derived.Defers
import Derived.Recover
import Derived.Test.YtepfpbcjklaenaaKG02
import Derived.Test.YtepfpbcjklaenaaKMemOk
import Derived.Test.YtepfpbcjklaenaaKKStepK
import Derived.Test.YtepfpbcjklaenaaKG06
import Derived.Test.YtepfpbcjklaenaaKKOkB
import Derived.Test.YtepfpbcjklaenaaKG10
import Derived.Test.YtepfpbcjklaenaaKKMQ
import Derived.Test.YtepfpbcjklaenaaKG04
import Derived.Test.YtepfpbcjklaenaaKKApp
namespace Go.Proofs.Ytepfpbcjklaenaa
section
set_option linter.unusedSimpArgs false
set_option linter.unusedVariables false
set_option maxRecDepth 100000
open Go.RowKit
theorem below_pair4 {w w' : World} {g j0 j1 j2 j3 : Nat} {v0 v1 v2 v3 : Value} (h : Below w.heap.size w w') : Below w.heap.size ((((w.setCell ⟨g, j0, none⟩ v0).setCell ⟨g, j1, none⟩ v1).setCell ⟨g, j2, none⟩ v2).setCell ⟨g, j3, none⟩ v3) ((((w'.setCell ⟨g, j0, none⟩ v0).setCell ⟨g, j1, none⟩ v1).setCell ⟨g, j2, none⟩ v2).setCell ⟨g, j3, none⟩ v3) :=
 ⟨h.os, h.tape, h.output, by simpa using h.size, fun b hb => heap_pair (heap_pair (heap_pair (heap_pair (h.block b hb))))⟩
theorem back_idle {w : World} {c0 c1 c2 : Nat} (u : FrameMode) (hc : w.cell? ⟨c0, 0, none⟩ = some (.int .i64 0)) :
  CallsD Try.prog 68 #[.pointer (some ⟨c0, 0, none⟩), .pointer (some ⟨c1, 0, none⟩), .pointer (some ⟨c2, 0, none⟩)] u w fun e u' w' => u' = u ∧ (e = .returned (.tuple #[]) ∧ Below w.heap.size w w') := by
 go_enter_d Try.func68, Try.ntmps68
 go_wp2
 go_end0
 exact ⟨rfl, Below.refl _ _⟩
theorem back_do {w : World} {c0 c1 c2 R g j n1 b1 n2 b2 : Nat} {a1 a2 : Option Addr} {pc st : Int} {o0 o1 o2 o3 : Value} (z : Int) (u : FrameMode) (hc : w.cell? ⟨c0, 0, none⟩ = some (.int .i64 z)) (hz : ¬ z = 0) (h0 : w.cell? ⟨c1, 0, none⟩ = some (.int .i64 pc)) (h1 : w.cell? ⟨c1, 1, none⟩ = some (.slice a1 n1 b1)) (h2 : w.cell? ⟨c1, 2, none⟩ = some (.slice a2 n2 b2)) (h3 : w.cell? ⟨c1, 3, none⟩ = some (.int .i64 st)) (hr : w.cell? ⟨c2, 0, none⟩ = some (.pointer (some ⟨R, 0, none⟩))) (hR : w.cell? ⟨R, 1, none⟩ = some (.pointer (some ⟨g, j, none⟩))) (fg : ∀ i, w.frozen? ⟨g, i, none⟩ = false) (g0 : w.cell? ⟨g, j, none⟩ = some o0) (g1 : w.cell? ⟨g, j + 1, none⟩ = some o1) (g2 : w.cell? ⟨g, j + 2, none⟩ = some o2) (g3 : w.cell? ⟨g, j + 3, none⟩ = some o3) (z1 : c1 < w.heap.size) (z2 : c2 < w.heap.size) (zR : R < w.heap.size) (zg : g < w.heap.size) :
  CallsD Try.prog 68 #[.pointer (some ⟨c0, 0, none⟩), .pointer (some ⟨c1, 0, none⟩), .pointer (some ⟨c2, 0, none⟩)] u w fun e u' w' => u' = u ∧ (e = .returned (.tuple #[]) ∧ Below w.heap.size ((((w.setCell ⟨g, j, none⟩ (.int .i64 pc)).setCell ⟨g, j + 1, none⟩ (.slice a1 n1 b1)).setCell ⟨g, j + 2, none⟩ (.slice a2 n2 b2)).setCell ⟨g, j + 3, none⟩ (.int .i64 st)) w') := by
 go_enter_d Try.func68, Try.ntmps68
 go_wp2_with fail
 have hne := ext_ne w
 have u0 := Ext.fit h0 z1
 have u1 := Ext.fit h1 z1
 have u2 := Ext.fit h2 z1
 have u3 := Ext.fit h3 z1
 have u4 := Ext.fit hr z2
 have u5 := Ext.fit hR zR
 refine regionLast w _ rfl (by kernel_rfl) (by kernel_rfl) (by kernel_rfl) rfl rfl ?_
 dsimp only [List.dropLast, List.cons_append, List.nil_append, idle]
 repeat (go_big_quiet_step (fail))
 refine wpQuiet_nil ?_
 rintro w3 ⟨X3, rfl⟩
 obtain ⟨V, hV⟩ : ∃ V, X3.w = V := ⟨_, rfl⟩
 have hb := X3.b
 rw [hV] at hb ⊢
 have HB := hidM1 hb
 have q0 := (hb.cell (p := ⟨g, j, none⟩) zg).trans g0
 have q1 := (hb.cell (p := ⟨g, j + 1, none⟩) zg).trans g1
 have q2 := (hb.cell (p := ⟨g, j + 2, none⟩) zg).trans g2
 have q3 := (hb.cell (p := ⟨g, j + 3, none⟩) zg).trans g3
 have fq : ∀ i, V.frozen? ⟨g, i, none⟩ = false := fun i => (hb.frozen (p := ⟨g, i, none⟩) zg).trans (fg i)
 clear hne u0 u1 u2 u3 u4 u5 hV hb X3 g0 g1 g2 g3 fg h0 h1 h2 h3 hr hR hc
 go_wp2
 go_end0
 refine ⟨rfl, ?_⟩
 exact below_pair4 HB.out
end
section
set_option linter.unusedSimpArgs false
set_option linter.unusedVariables false
set_option maxRecDepth 100000
open Go.RowKit
theorem Op8.below {w w' : World} {B : Nat} {vc vk vm vt : Value} {LK : List KV} {d : MD} {who p : Nat} {k : KD} {code : List I5} {s : I5} {gc cc gk ck gs cs gr cr gv cv gO cO : Nat} {st : Option Addr} {ct : Nat} (o : Op8 w B vc vk vm vt LK d who p k code s gc cc gk ck gs cs gr cr gv cv gO cO st ct) (hb : Below w.heap.size w w') : Op8 w' B vc vk vm vt LK d who p k code s gc cc gk ck gs cs gr cr gv cv gO cO st ct := by
 have hs := hb.size
 have c : ∀ b j, b < w.heap.size → w'.cell? ⟨b, j, none⟩ = w.cell? ⟨b, j, none⟩ := fun b j hb' => hb.cell (p := ⟨b, j, none⟩) hb'
 have f : ∀ b j, b < w.heap.size → w'.frozen? ⟨b, j, none⟩ = w.frozen? ⟨b, j, none⟩ := fun b j hb' => hb.frozen (p := ⟨b, j, none⟩) hb'
 exact ⟨o.ec, o.ek, o.em, o.et, o.hx, o.hp, o.wc, o.wk, (c _ _ o.zc).trans o.c0, (c _ _ o.zk).trans o.k0, (c _ _ o.zk).trans o.k1, (c _ _ o.zk).trans o.k2, (c _ _ o.zk).trans o.k3, (c _ _ o.zs).trans o.s0, (c _ _ o.zs).trans o.s1, (c _ _ o.zs).trans o.s2, (c _ _ o.zs).trans o.s3, (c _ _ o.zs).trans o.s4, fun i hi => (c _ _ o.zr).trans (o.r i hi), fun j => (f _ _ o.zk).trans (o.fk j), fun j => (f _ _ o.zr).trans (o.fr j), Nat.lt_of_lt_of_le o.zc hs, Nat.lt_of_lt_of_le o.zk hs, Nat.lt_of_lt_of_le o.zs hs, Nat.lt_of_lt_of_le o.zr hs, Nat.lt_of_lt_of_le o.zv hs, Nat.lt_of_lt_of_le o.zO hs, o.bk, o.br, o.bv, o.bO⟩
theorem OW.blk {w : World} {B : Nat} {v : Value} {S : List RS} {m : List (List WD)} (h : OW w B v S m) : ∀ a ∈ mAs S, a.block < w.heap.size := fun a ha => by
 obtain ⟨r, hr, har⟩ := mem_mAs.1 ha
 obtain ⟨i, hi⟩ := List.mem_iff_getElem?.1 hr
 have hl := (List.getElem?_eq_some_iff.1 hi).1
 have hn := h.n
 obtain ⟨l, hl2⟩ : ∃ l, m[i]? = some l := ⟨_, List.getElem?_eq_getElem (by omega)⟩
 exact ((h.r i r l hi hl2).ro.blk har).2
/- a store into a box of an integer that is none of the machine's -/
theorem MQ0.offI {w w' : World} {B b : Nat} {vc vk vm vt : Value} {LC : List CV} {LK : List KV} {S : List RS} {d : MD} (h : MQ0 w B vc vk vm vt LC LK S d) (ht : TyB w b 3) (h1 : ∀ (i : Nat) (x : KV), LK[i]? = some x → x.r.ownBlock ≠ some b ∧ x.v.ownBlock ≠ some b) (h2 : ∀ a ∈ mAs S, a.block ≠ b) (hk : ∀ q, q ≠ b → w'.heap[q]? = w.heap[q]?) (hs : w.heap.size ≤ w'.heap.size) : MQ0 w' B vc vk vm vt LC LK S d := by
 have ne : ∀ {e : TypeId} {size n : Nat} {u' : Value} {xs : List Value}, w.ownsRow B e size u' n xs → e ≠ 3 → ∀ q, u'.ownBlock = some q → w'.heap[q]? = w.heap[q]? := fun hu he q hq => hk q (fun e => own_tb hu he ht (by rw [hq, e]))
 have nw : ∀ {u' : Value} {xs : List Int}, OwnN w B u' xs → u'.ownBlock ≠ some b → ∀ q, u'.ownBlock = some q → w'.heap[q]? = w.heap[q]? := fun _ he q hq => hk q (fun e => he (by rw [hq, e]))
 refine ⟨⟨ownKeep' h.c.row (ne h.c.row (by decide)), fun i x hx => ownKeep' (h.c.inn i x hx) (ne (h.c.inn i x hx) (by decide)), h.c.sep⟩, h.ec, ⟨ownKeep' h.k.row (ne h.k.row (by decide)), fun i x hx => ⟨ownKeep' (h.k.inn i x hx).1 (nw (h.k.inn i x hx).1 (h1 i x hx).1), ownKeep' (h.k.inn i x hx).2 (nw (h.k.inn i x hx).2 (h1 i x hx).2)⟩, h.k.two, h.k.sep⟩, h.ek, ?_, ownKeep' h.t (ne h.t (by decide)), h.sk⟩
 refine ⟨h.m.n, ownKeep' h.m.row (ne h.m.row (by decide)), fun i' r l hr hl => ?_, h.m.d⟩
 have q := h.m.r i' r l hr hl
 refine q.kept (ne q.own (by decide)) (fun a ha => hk _ (h2 a (mem_mAs.2 ⟨r, List.mem_of_getElem? hr, mem_rAs.2 (.inr (mem_vsA.1 ha))⟩))) hs
theorem MQ.offI {Hq : Nat → Prop} {w w' : World} {B b : Nat} {vc vk vm vt : Value} {LC : List CV} {LK : List KV} {S : List RS} {d : MD} (h : MQ w B Hq vc vk vm vt LC LK S d) (ht : TyB w b 3) (h1 : ∀ (i : Nat) (x : KV), LK[i]? = some x → x.r.ownBlock ≠ some b ∧ x.v.ownBlock ≠ some b) (h2 : ∀ a ∈ mAs S, a.block ≠ b) (hk : ∀ q, q ≠ b → w'.heap[q]? = w.heap[q]?) (hs : w.heap.size ≤ w'.heap.size) : MQ w' B Hq vc vk vm vt LC LK S d := ⟨h.toMQ0.offI ht h1 h2 hk hs, h.hh, fun q hq => h.hn q (Nat.le_trans hs hq)⟩
/- a box of one cell is no row of a right machine -/
theorem MQ0.one {w : World} {B b : Nat} {vc vk vm vt : Value} {LC : List CV} {LK : List KV} {S : List RS} {d : MD} (h : MQ0 w B vc vk vm vt LC LK S d) (hm : machB d = true) (ht : TyB w b 3) (h1 : ∀ j, 1 ≤ j → w.cell? ⟨b, j, none⟩ = none) : (∀ (i : Nat) (x : KV), LK[i]? = some x → x.r.ownBlock ≠ some b ∧ x.v.ownBlock ≠ some b) ∧ ∀ a ∈ mAs S, a.block ≠ b := by
 have row : ∀ {u : Value} {l : List Int}, OwnN w B u l → 2 ≤ l.length → u.ownBlock ≠ some b := fun {u l} ho hl e => by
  have ho' := ho
  unfold OwnN at ho'
  obtain ⟨g, c, hv, -⟩ := World.ownsRow.form ho' (by omega)
  subst hv
  have eg : g = b := by simpa [Value.ownBlock] using e
  subst eg
  have q := OwnN.cell ho (i := 1) (by omega)
  rw [h1 1 (by omega)] at q
  cases q
 have hl := mach_len hm
 have lk : LK.length = d.cores.length := by rw [← h.ek, List.length_map]
 refine ⟨fun i x hx => ?_, fun a ha e => ?_⟩
 ·have hi := (List.getElem?_eq_some_iff.1 hx).1
  obtain ⟨k, code, s, ha⟩ := mach_at hm (who := i) (by omega)
  have ex : x.d = k := by
   have q := ha.hk
   rw [← h.ek, List.getElem?_map, hx] at q
   simpa using q
  have m24 := (memB_at ha.mem (i := 0) (by omega)).1
  have v24 := (viewB_iff.1 ha.vw).1
  have r8 := ha.regs
  rw [← ex] at v24 r8
  exact ⟨row (h.k.inn i x hx).1 (by omega), row (h.k.inn i x hx).2 (by omega)⟩
 ·obtain ⟨r, hr, har⟩ := mem_mAs.1 ha
  obtain ⟨i, hi⟩ := List.mem_iff_getElem?.1 hr
  have hl2 := (List.getElem?_eq_some_iff.1 hi).1
  have hn := h.m.n
  obtain ⟨l, hl3⟩ : ∃ l, d.mem[i]? = some l := ⟨_, List.getElem?_eq_getElem (by omega)⟩
  have q := h.m.r i r l hi hl3
  have hmem : memB d.mem = true := by
   unfold machB at hm
   simp only [Bool.and_eq_true] at hm
   exact hm.2.2.2
  rcases mem_rAs.1 har with ⟨j, hj, ej⟩ | ⟨x, hx, hax⟩
  ·obtain ⟨g, c, hv, -⟩ := World.ownsRow.form q.own (by omega)
   have hs : r.s = some ⟨g, 0, none⟩ := by
    have := hv
    unfold RS.val at this
    injection this
   rw [hs] at ej
   have eb : b = g := by rw [← e, ej]; rfl
   refine own_tb q.own (by decide) ht ?_
   rw [hv, eb]
   rfl
  ·obtain ⟨j, hj⟩ := List.mem_iff_getElem?.1 hx
   have hj2 := (List.getElem?_eq_some_iff.1 hj).1
   have hn2 := q.n
   obtain ⟨y, hy⟩ : ∃ y, l[j]? = some y := ⟨_, List.getElem?_eq_getElem (by omega)⟩
   have vo := q.v j x y hj hy
   have h24 : y.vw.length = 24 := by
    unfold memB at hmem
    rw [Bool.and_eq_true, List.all_eq_true, decide_eq_true_eq] at hmem
    have q2 := hmem.2 l (List.mem_of_getElem? hl3)
    unfold rowB at q2
    rw [Bool.and_eq_true, List.all_eq_true] at q2
    have q3 := (viewB_iff.1 (q2.2 y (List.mem_of_getElem? hy))).1
    omega
   rcases vo.c with e0 | ⟨g, o, es, -, -, hc⟩
   ·rw [e0] at h24; cases h24
   ·unfold vAs at hax
    rw [es] at hax
    obtain ⟨i9, -, e9⟩ := List.mem_map.1 hax
    have eg : g = b := by rw [← e, ← e9]; rfl
    have c1 := (hc 1 (by omega)).1
    rw [eg, h1 (o + 1) (by omega)] at c1
    cases c1
end
section
set_option linter.unusedSimpArgs false
set_option linter.unusedVariables false
set_option maxRecDepth 100000
open Go.RowKit
def TurnQ (w : World) (B : Nat) (Hq : Nat → Prop) (bm : Nat) (vc vk vm : Value) (LC : List CV) (x : MD × Int) (e : Ending) (w' : World) : Prop :=
 e = .returned (.int .i64 x.2) ∧ ∃ vt' LK' S', MQ w' B Hq vc vk vm vt' LC LK' S' x.1 ∧ w'.cell? ⟨bm, 3, none⟩ = some vt' ∧ (∀ j, j ≠ 3 → w'.cell? ⟨bm, j, none⟩ = w.cell? ⟨bm, j, none⟩) ∧ (∀ j, w'.frozen? ⟨bm, j, none⟩ = false) ∧ BxT w' bm ∧ Below B w w' ∧ ∀ b, b < w.heap.size → ¬ Hq b → b ≠ bm → w'.heap[b]? = w.heap[b]?
/- the boxes of a turn -/
structure Bt3 (w V : World) (R wb : Nat) (z : Int) (pc st : Int) (a1 : Option Addr) (n1 b1 : Nat) (a2 : Option Addr) (n2 b2 : Nat) : Prop where
 rb : V.cell? ⟨w.heap.size, 0, none⟩ = some (.pointer (some ⟨R, 0, none⟩))
 cb : V.cell? ⟨w.heap.size + 1, 0, none⟩ = some (.int .i64 z)
 w0 : V.cell? ⟨wb, 0, none⟩ = some (.int .i64 pc)
 w1 : V.cell? ⟨wb, 1, none⟩ = some (.slice a1 n1 b1)
 w2 : V.cell? ⟨wb, 2, none⟩ = some (.slice a2 n2 b2)
 w3 : V.cell? ⟨wb, 3, none⟩ = some (.int .i64 st)
 fc : V.frozen? ⟨w.heap.size + 1, 0, none⟩ = false
 ti : TyB V (w.heap.size + 1) 3
 on : ∀ j, 1 ≤ j → V.cell? ⟨w.heap.size + 1, j, none⟩ = none
 lo : w.heap.size + 1 < wb
 hi : wb < V.heap.size
theorem Bt3.keep {w V V' : World} {R wb : Nat} {z pc st : Int} {a1 a2 : Option Addr} {n1 b1 n2 b2 : Nat} (h : Bt3 w V R wb z pc st a1 n1 b1 a2 n2 b2) (h1 : V'.heap[w.heap.size]? = V.heap[w.heap.size]?) (h2 : V'.heap[w.heap.size + 1]? = V.heap[w.heap.size + 1]?) (h3 : V'.heap[wb]? = V.heap[wb]?) (hs : V.heap.size ≤ V'.heap.size) : Bt3 w V' R wb z pc st a1 n1 b1 a2 n2 b2 := by
 have k3 : ∀ j, V'.cell? ⟨wb, j, none⟩ = V.cell? ⟨wb, j, none⟩ := fun j => World.cell?_of_block h3
 have k2 : ∀ j, V'.cell? ⟨w.heap.size + 1, j, none⟩ = V.cell? ⟨w.heap.size + 1, j, none⟩ := fun j => World.cell?_of_block h2
 obtain ⟨cs, f, c⟩ := h.ti
 exact ⟨(World.cell?_of_block h1).trans h.rb, (k2 _).trans h.cb, (k3 _).trans h.w0, (k3 _).trans h.w1, (k3 _).trans h.w2, (k3 _).trans h.w3, (World.frozen?_of_block h2).trans h.fc, ⟨cs, f, h2.trans c⟩, fun j hj => (k2 j).trans (h.on j hj), h.lo, Nat.lt_of_lt_of_le h.hi hs⟩
theorem Bt3.put {w V : World} {R wb : Nat} {z pc st : Int} {a1 a2 : Option Addr} {n1 b1 n2 b2 : Nat} (h : Bt3 w V R wb z pc st a1 n1 b1 a2 n2 b2) (y : Int) : Bt3 w (V.setCell ⟨w.heap.size + 1, 0, none⟩ (.int .i64 y)) R wb y pc st a1 n1 b1 a2 n2 b2 := by
 have hlo := h.lo
 have kb : ∀ b, b ≠ w.heap.size + 1 → (V.setCell ⟨w.heap.size + 1, 0, none⟩ (.int .i64 y)).heap[b]? = V.heap[b]? := fun b hb => Below.heap_setCell _ _ _ b hb
 have k3 : ∀ j, (V.setCell ⟨w.heap.size + 1, 0, none⟩ (.int .i64 y)).cell? ⟨wb, j, none⟩ = V.cell? ⟨wb, j, none⟩ := fun j => World.cell?_of_block (kb wb (by omega))
 refine ⟨(World.cell?_of_block (kb w.heap.size (by omega))).trans h.rb, World.cell?_setCell_same' V _ _ (by rw [h.cb]; rfl), (k3 _).trans h.w0, (k3 _).trans h.w1, (k3 _).trans h.w2, (k3 _).trans h.w3, ?_, ?_, fun j hj => ?_, hlo, by simpa using h.hi⟩
 ·rw [World.frozen?_setCell]; exact h.fc
 ·obtain ⟨cs, f, c⟩ := h.ti
  refine ⟨cs.setIfInBounds 0 (.int .i64 y), f, ?_⟩
  simp only [World.setCell, Array.getElem?_modify, c]
  simp
 ·refine (World.cell?_setCell_other _ _ _ _ ?_).trans (h.on j hj)
  intro e
  injection e with _ e
  omega
theorem bt3_new {w A w1 : World} {R : Nat} {pc st : Int} {a1 a2 : Option Addr} {n1 b1 n2 b2 : Nat} (hA : (w.alloc (.cells #[.pointer (some ⟨R, 0, none⟩)] 106)).alloc (.cells #[.int .i64 0] 3) = A) (hb : Below A.heap.size A w1) : Bt3 w (w1.alloc (.cells #[.int .i64 pc, .slice a1 n1 b1, .slice a2 n2 b2, .int .i64 st] 46)) R w1.heap.size 0 pc st a1 n1 b1 a2 n2 b2 ∧ Below w.heap.size w (w1.alloc (.cells #[.int .i64 pc, .slice a1 n1 b1, .slice a2 n2 b2, .int .i64 st] 46)) := by
 have zA : A.heap.size = w.heap.size + 1 + 1 := by subst hA; simp
 have s1 := hb.size
 have kA : Below w.heap.size w A := by subst hA; exact ((Below.refl _ _).alloc (Nat.le_refl _) _).alloc (by simp) _
 have kc : ∀ b, b < A.heap.size → (w1.alloc (.cells #[.int .i64 pc, .slice a1 n1 b1, .slice a2 n2 b2, .int .i64 st] 46)).heap[b]? = A.heap[b]? := fun b h => (Below.heap_alloc _ _ _ (by omega)).trans (hb.block b h)
 have e1 : (w.alloc (.cells #[.pointer (some ⟨R, 0, none⟩)] 106)).heap.size = w.heap.size + 1 := by simp
 refine ⟨⟨?_, ?_, ?_, ?_, ?_, ?_, ?_, ?_, fun j hj => ?_, by omega, by simp⟩, (kA.trans (hb.mono (by omega))).alloc (by omega) _⟩
 ·refine (World.cell?_of_block (kc w.heap.size (by omega))).trans ?_
  subst hA; simp [go_sem]
 ·refine (World.cell?_of_block (kc (w.heap.size + 1) (by omega))).trans ?_
  subst hA; simp [go_sem]
 ·simp [go_sem]
 ·simp [go_sem]
 ·simp [go_sem]
 ·simp [go_sem]
 ·refine (World.frozen?_of_block (kc (w.heap.size + 1) (by omega))).trans ?_
  subst hA; simp [go_sem]
 ·refine ⟨#[.int .i64 0], (0, 0), (kc (w.heap.size + 1) (by omega)).trans ?_⟩
  subst hA
  rw [← e1]
  exact heap_alloc_new _ _
 ·refine (World.cell?_of_block (kc (w.heap.size + 1) (by omega))).trans ?_
  have : A.heap[w.heap.size + 1]? = some (.cells #[.int .i64 0] 3 (0, 0)) := by
   subst hA
   rw [← e1]
   exact heap_alloc_new _ _
  unfold World.cell?
  simp only [this]
  simp
  omega
/- a turn that is refused: the core as it was, its rows new -/
theorem back_any {Hq : Nat → Prop} {w V : World} {B R p gc cc gk ck gs cs gr cr gv cv gO cO cT who wb : Nat} {sT : Option Addr} {vc vk vm vt : Value} {LC : List CV} {LK LK' : List KV} {S : List RS} {d : MD} {k k' : KD} {code : List I5} {s : I5} {a1 a2 : Option Addr} {b1 b2 : Nat} (h : MQ w B Hq vc vk vm vt LC LK S d) (ha : At8 d who k code s) (O : Op8 w B vc vk vm vt LK d who p k code s gc cc gk ck gs cs gr cr gv cv gO cO sT cT) (q : MQ V B Hq vc vk vm vt LC LK' S (putK d who k')) (hl : LK'.length = LK.length) (hj : ∀ j, j ≠ who → LK'[j]? = LK[j]?) (bt : Bt3 w V R wb 3 k.pc k.st a1 8 b1 a2 24 b2) (hR : V.cell? ⟨R, 1, none⟩ = some (.pointer (some ⟨gk, who * 4, none⟩))) (zR : R < V.heap.size) (zV : w.heap.size ≤ V.heap.size)
  (o1 : OwnN V (w.heap.size + 1 + 1) (.slice a1 8 b1) k.regs) (o2 : OwnN V (w.heap.size + 1 + 1) (.slice a2 24 b2) k.vw) (o12 : ∀ q, (Value.slice a1 8 b1).ownBlock = some q → (Value.slice a2 24 b2).ownBlock ≠ some q) (hB : B ≤ w.heap.size) (u : FrameMode) :
  CallsD Try.prog 68 #[.pointer (some ⟨w.heap.size + 1, 0, none⟩), .pointer (some ⟨wb, 0, none⟩), .pointer (some ⟨w.heap.size, 0, none⟩)] u V fun e u' w' => u' = u ∧ (e = .returned (.tuple #[]) ∧ (∃ LK'', MQ w' B Hq vc vk vm vt LC LK'' S d) ∧ (∀ b, b < V.heap.size → b ≠ gk → w'.heap[b]? = V.heap[b]?) ∧ V.heap.size ≤ w'.heap.size ∧ ∀ a, Below B a V → Below B a w') := by
 have ek := O.ek
 subst ek
 have wk := O.wk
 have wl : who < LK'.length := by omega
 obtain ⟨y, hy⟩ : ∃ y, LK'[who]? = some y := ⟨_, List.getElem?_eq_getElem wl⟩
 obtain ⟨f0, f1, f2, f3⟩ := flatK_at LK' who y hy
 have row := q.k.row
 rw [hl] at row
 have bgk := (World.ownsRow.lt row gk rfl).1
 have zg := (World.ownsRow.lt row gk rfl).2
 have C := fun j (hj : j < LK.length * 4) => World.ownsRow.cellAt row j hj
 have BD := back_do 3 u bt.cb (by decide) bt.w0 bt.w1 bt.w2 bt.w3 bt.rb hR (fun i => World.ownsRow.frozenAt row i) ((C _ (by omega)).trans f0) ((C _ (by omega)).trans f1) ((C _ (by omega)).trans f2) ((C _ (by omega)).trans f3) bt.hi (by have := bt.lo; have := bt.hi; omega) zR zg
 refine BD.mono ?_
 rintro e u' w' ⟨rfl, rfl, hb⟩
 have hs := hb.size
 simp at hs
 refine ⟨rfl, rfl, ⟨LK'.set who ⟨k, .slice a1 8 b1, .slice a2 24 b2⟩, ?_⟩, fun b h1 h2 => ?_, hs, fun a hab => ?_⟩
 ·have far : ∀ (v : Value) (l : List Int), OwnN V (w.heap.size + 1 + 1) v l → ∀ q', v.ownBlock = some q' → w.heap.size < q' := fun v l ho q' hq' => by
   have := (World.ownsRow.lt ho _ hq').1
   omega
  have q2 := MQ.core (F := w') q hl wl k (.slice a1 8 b1) (.slice a2 24 b2) (ownLow' o1 (by omega)) (ownLow' o2 (by omega)) o12 (fun q' hq' => ?_) (fun b hb' => hb.block b hb') hs (fun q' hq' => h.hn q' (Nat.le_of_lt (hq'.elim (far _ _ o1 q') (far _ _ o2 q'))))
  ·rw [putK_putK, putK_self ha.hk] at q2
   exact q2
  ·have lt : w.heap.size < q' := by
    rcases hq' with hq' | hq'
    ·exact far _ _ o1 _ hq'
    ·exact far _ _ o2 _ hq'
   refine ⟨fun j z hjw hz => ?_, fun a ha' e => ?_⟩
   ·rw [hj j hjw] at hz
    rintro (e | e)
    ·have := (World.ownsRow.lt (h.k.inn j z hz).1 _ e).2; omega
    ·have := (World.ownsRow.lt (h.k.inn j z hz).2 _ e).2; omega
   ·have := h.m.blk a ha'
    omega
 ·rw [hb.block b h1]
  exact (Below.heap_setCell _ ⟨gk, _, none⟩ _ b h2).trans ((Below.heap_setCell _ ⟨gk, _, none⟩ _ b h2).trans ((Below.heap_setCell _ ⟨gk, _, none⟩ _ b h2).trans (Below.heap_setCell _ ⟨gk, _, none⟩ _ b h2)))
 ·exact ((((hab.setCell (p := ⟨gk, _, none⟩) bgk _).setCell (p := ⟨gk, _, none⟩) bgk _).setCell (p := ⟨gk, _, none⟩) bgk _).setCell (p := ⟨gk, _, none⟩) bgk _).trans (hb.mono (by omega))
end
end Go.Proofs.Ytepfpbcjklaenaa
