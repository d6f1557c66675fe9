/- What a step of memory of the specification stands on. No condition. A runner of the program writes into memory. No condition. A runner of the program loads. Condition: late is a number of 64 bits. -/
import Derived.Test.YtepfpbcjklaenaaKG00
import Derived.Test.YtepfpbcjklaenaaKG04
import Derived.Test.YtepfpbcjklaenaaKG02
import Derived.Test.YtepfpbcjklaenaaKG03
import Derived.Test.YtepfpbcjklaenaaKMemOk
import Derived.Test.YtepfpbcjklaenaaKG07
import Derived.Test.YtepfpbcjklaenaaKKStepK
import Derived.Test.YtepfpbcjklaenaaKG06
import Derived.Test.YtepfpbcjklaenaaKKMQ
import Derived.Test.YtepfpbcjklaenaaKKDupM
import Derived.Test.YtepfpbcjklaenaaKKApp
import Derived.Test.YtepfpbcjklaenaaKG08
import Derived.Test.YtepfpbcjklaenaaKMemStoreS
import Derived.Test.YtepfpbcjklaenaaKMemStore
import Derived.Test.YtepfpbcjklaenaaKKIm5
import Derived.Test.YtepfpbcjklaenaaKMemLd
namespace Go.Proofs.Ytepfpbcjklaenaa
section
set_option linter.unusedSimpArgs false
set_option linter.unusedVariables false
set_option maxRecDepth 100000
open Go.RowKit
theorem own_tb {w : World} {base size n b : Nat} {e T : TypeId} {v : Value} {xs : List Value} (h : w.ownsRow base e size v n xs) (he : e ≠ T) (hb : TyB w b T) : v.ownBlock ≠ some b := fun hk => by
 obtain ⟨cs, f, c⟩ := own_ty h hk
 exact he (TyB.ne ⟨cs, f, c⟩ hb)
theorem MQ.re {w w' : World} {B : Nat} {Hq : Nat → Prop} {vc vk vm vt : Value} {LC : List CV} {LK : List KV} {S : List RS} {d : MD} (h : MQ w B Hq vc vk vm vt LC LK S d) (hb : ∀ k, B ≤ k → k < w.heap.size → w'.heap[k]? = w.heap[k]?) (hs : w.heap.size ≤ w'.heap.size) : MQ w' B (fun q => (q < w.heap.size ∧ Hq q) ∨ w'.heap.size ≤ q) vc vk vm vt LC LK S d :=
 ⟨h.toMQ0.keep hb hs, ⟨fun q e => .inl ⟨(World.ownsRow.lt h.c.row q e).2, h.hh.c q e⟩, fun i x q hx e => .inl ⟨(World.ownsRow.lt (h.c.inn i x hx) q e).2, h.hh.ci i x q hx e⟩, fun q e => .inl ⟨(World.ownsRow.lt h.k.row q e).2, h.hh.k q e⟩, fun i x q hx e => .inl ⟨e.elim (fun e => (World.ownsRow.lt (h.k.inn i x hx).1 q e).2) (fun e => (World.ownsRow.lt (h.k.inn i x hx).2 q e).2), h.hh.ki i x q hx e⟩, fun q e => .inl ⟨(World.ownsRow.lt h.m.row q e).2, h.hh.m q e⟩, fun a ha => .inl ⟨h.m.memblk ha, h.hh.mi a ha⟩, fun q e => .inl ⟨(World.ownsRow.lt h.t q e).2, h.hh.t q e⟩⟩, fun q hq => .inr hq⟩
theorem MQ.rowH {w : World} {B : Nat} {Hq : Nat → Prop} {vc vk vm vt : Value} {LC : List CV} {LK : List KV} {S : List RS} {d : MD} {i : Nat} {r : RS} (h : MQ w B Hq vc vk vm vt LC LK S d) (hr : S[i]? = some r) (h0 : 0 < r.vs.length) (q : Nat) (e : r.val.ownBlock = some q) : Hq q := by
 have hs : ∃ o sp, r.s = some ⟨q, o, sp⟩ := by
  unfold RS.val at e
  cases hh : r.s with
  | none => rw [hh] at e; simp [Value.ownBlock] at e
  | some a =>
   rw [hh] at e
   simp [Value.ownBlock] at e
   obtain ⟨g, o, sp⟩ := a
   simp at e
   subst e
   exact ⟨o, sp, rfl⟩
 obtain ⟨o, sp, hs⟩ := hs
 have hm := h.hh.mi (adr r.s (0 * 2)) (mem_mAs.2 ⟨r, List.mem_of_getElem? hr, mem_rAs.2 (.inl ⟨0, h0, by simp⟩)⟩)
 rw [hs] at hm
 exact hm
theorem OW.cellc {w : World} {B g n c k : Nat} {S : List RS} {m : List (List WD)} {r : RS} {lr : List WD} (h : OW w B (.slice (some ⟨g, 0, none⟩) n c) S m) (hn : n = m.length) (hk : S[k]? = some r) (hl : m[k]? = some lr) : w.cell? ⟨g, k, none⟩ = some (.slice r.s lr.length r.c) := by
 have hr := h.row
 rw [h.n, ← hn] at hr
 have hlt := (List.getElem?_eq_some_iff.1 hl).1
 have q := (h.r k r lr hk hl).n
 rw [World.ownsRow.cellAt hr k (by omega), List.getElem?_map, hk]
 show some (Value.slice r.s r.vs.length r.c) = _
 rw [q]
theorem OW.memw {w : World} {B : Nat} {v : Value} {S : List RS} {m : List (List WD)} (h : OW w B v S m) : ∃ s c, v = .slice s m.length c ∧ MemR w B w.heap.size s m := by
 obtain ⟨s, c, rfl, hm⟩ := h.om.mo
 exact ⟨s, c, rfl, hm.mem⟩
theorem OW.some_ {w : World} {B : Nat} {v : Value} {S : List RS} {m : List (List WD)} (h : OW w B v S m) (hm : memB m = true) : ∀ (i : Nat) (r : RS), S[i]? = some r → 0 < r.vs.length := fun i r hr => by
 have hi := (List.getElem?_eq_some_iff.1 hr).1
 have h24 := (memB_at hm (i := 0) (by omega)).1
 have hn := h.n
 obtain ⟨-, l, hl, -, h1, -⟩ := memB_at hm (i := i) (by omega)
 have q := (h.r i r l hr hl).n
 omega
theorem ldW_eq (m : List (List WD)) (l : List Int) (c : Nat) (late : Int) (hold : Bool) : (if hold = true then joinL (l.set c (ldJ m l c late)) (ldX m l c late).vw else l.set c (ldJ m l c late)) = ldW m l c late hold := rfl
end
section
set_option linter.unusedSimpArgs false
set_option linter.unusedVariables false
set_option maxRecDepth 100000
open Go.RowKit
theorem write_no {w : World} {R bm gk gc gs gr gv who nn cv cr cs gO nO cO c m cc1 : Nat} {s : Option Addr} {late : Int} {vc vk vt : Value} {nc cc : Nat} {pc st : Int} (z : Int) (b : Bool) (h : Rn w R bm gk gc gs gr gv who nn cv cr cs late vc vk (.slice (some ⟨gO, 0, none⟩) nO cO) vt nc cc pc st) (hc : w.cell? ⟨gO, c, none⟩ = some (.slice s m cc1)) (hz : gO < w.heap.size) (hn : c < nO) (hf : ¬ m < 4000) :
  Calls Try.prog 91 #[.pointer (some ⟨R, 0, none⟩), .int .i64 c, .int .i64 z, .bool b] w fun e w' => e = .returned (.bool false) ∧ Below w.heap.size w w' := by
 obtain ⟨r0, r1, r2, r3, r4, m0, m1, m2, m3, fm, ec, c0, k0, k1, k3, fk, wc, zR, zm, zk, zc, zr⟩ := h
 have HR := hidM1 (hasRoom_c (n := nO) (cO := cO) false hc hz hn (by simp; omega))
 go_enter Try.func91, Try.ntmps91
 go_wp2_with (go_at_call 94; refine Calls.mono HR.out ?_; rintro e w1 ⟨rfl, hb1⟩; have HB1 := hidM1 hb1; clear hb1)
 go_ret
 exact ⟨rfl, HB1.out⟩
set_option maxHeartbeats 2000000 in
theorem write_yes {Hq : Nat → Prop} {w : World} {B R bm gk gc gs gr gv who nn cv cr cs gO cO : Nat} {late : Int} {vc vk vt rv : Value} {nc cc : Nat} {pc st : Int} {LC : List CV} {LK : List KV} {S : List RS} {d : MD} {k : KD} (c : Nat) (lr : List WD) (r : RS) (z : Int) (b : Bool) (h : Rn w R bm gk gc gs gr gv who nn cv cr cs late vc vk (.slice (some ⟨gO, 0, none⟩) d.mem.length cO) vt nc cc pc st) (hq : MQ w B Hq vc vk (.slice (some ⟨gO, 0, none⟩) d.mem.length cO) vt LC LK S d) (hx : LK[who]? = some ⟨k, rv, .slice (some ⟨gv, 0, none⟩) 24 cv⟩) (hvl : k.vw.length = 24) (hmem : memB d.mem = true) (hc : c < 24) (hlr : d.mem[c]? = some lr) (hr : S[c]? = some r) (hroom : lr.length < 4000) :
  Calls Try.prog 91 #[.pointer (some ⟨R, 0, none⟩), .int .i64 c, .int .i64 z, .bool b] w fun e w' => e = .returned (.bool true) ∧ ∃ r', MQ w' B Hq vc vk (.slice (some ⟨gO, 0, none⟩) d.mem.length cO) vt LC (LK.set who ⟨{ k with vw := k.vw.set c (lr.length : Int) }, rv, .slice (some ⟨gv, 0, none⟩) 24 cv⟩) (S.set c r') { putK d who { k with vw := k.vw.set c (lr.length : Int) } with mem := d.mem.set c (lr ++ [⟨z, toldL k.vw c lr.length b⟩]) } ∧ Below B w w' ∧ ∀ b', b' < w.heap.size → b' ≠ gv → b' ≠ gO → r.val.ownBlock ≠ some b' → w'.heap[b']? = w.heap[b']? := by
 have H := hidM1 h
 have HQ := hidM1 hq
 have HX := hidM1 hx
 have HVL := hidM1 hvl
 have HME := hidM1 hmem
 have HLR := hidM1 hlr
 have HRR := hidM1 hr
 have h24 := (memB_at hmem (i := 0) (by omega)).1
 have H24 := hidM1 h24
 have lO := hq.m.cellc rfl hr hlr
 have zO : gO < w.heap.size := (World.ownsRow.lt hq.m.row gO rfl).2
 have HR := hidM1 (hasRoom_c (n := d.mem.length) (cO := cO) true lO zO (by omega) (by simp; omega))
 obtain ⟨r0, r1, r2, r3, r4, m0, m1, m2, m3, fm, ec, c0, k0, k1, k3, fk, wc, zR, zm, zk, zc, zr⟩ := h
 clear hq hx hvl hmem hlr hr h24 lO
 go_enter Try.func91, Try.ntmps91
 go_wp2_with (go_at_call 94; refine Calls.mono HR.out ?_; rintro e w1 ⟨rfl, hb1⟩; have HB1 := hidM1 hb1; clear hb1)
 have hb1 := HB1.out
 have z1 := hb1.size
 have hne := ext_ne w1
 have u0 := Ext.fit ((hb1.cell (p := ⟨R, 0, none⟩) zR).trans r0) (by omega)
 have u1 := Ext.fit ((hb1.cell (p := ⟨R, 2, none⟩) zR).trans r2) (by omega)
 have u2 := Ext.fit ((hb1.cell (p := ⟨bm, 2, none⟩) zm).trans m2) (by omega)
 refine regionSuf w1 14 (by kernel_rfl) (by kernel_rfl) (by kernel_rfl) (by kernel_rfl) (by kernel_rfl) ?_
 dsimp only [List.take, List.drop]
 repeat (go_big_quiet_step (fail))
 refine wpQuiet_nil ?_
 rintro w3 ⟨X3, rfl⟩
 obtain ⟨V, hV⟩ : ∃ V, X3.w = V := ⟨_, rfl⟩
 have hb3 := X3.b
 rw [hV] at hb3 ⊢
 have KV : Hid (Below w.heap.size w V) := hb1.trans (hb3.mono z1)
 have zV := KV.out.size
 have QV := hidM1 (HQ.out.keep (w' := V) (fun b _ h1 => KV.out.block b h1) zV)
 have hvn := (QV.out.k.inn who _ HX.out).2
 have hvn' : OwnN V B (.slice (some ⟨gv, 0, none⟩) k.vw.length cv) k.vw := by rw [HVL.out]; exact hvn
 have SA := store_any gO cO B B gv cv S d.mem r lr k.vw c z b V hvn' QV.out.m (QV.out.m.some_ HME.out) HRR.out HLR.out HVL.out hc H24.out (by omega) (World.ownsRow.lt hvn gv rfl).1 (fun a ha => QV.out.sk who _ gv HX.out (.inr rfl) a ha)
 rw [HVL.out] at SA
 have HS := hidM1 SA
 clear hne u0 u1 u2 hb1 z1 hb3 hV X3 hvn hvn' SA
 go_wp2_with (go_at_call 95; refine Calls.mono HS.out ?_; rintro e w5 ⟨rfl, r', hO5, hM5, hb5, hs5, hf5, hp5⟩; have HO5 := hidM1 hO5; have HM5 := hidM1 hM5; have HB5 := hidM1 hb5; have HF5 := hidM1 hf5; have HP5 := hidM1 hp5; clear hO5 hM5 hb5 hs5 hf5 hp5)
 go_ret
 refine ⟨rfl, r', ?_, (KV.out.mono ?_).trans HB5.out, fun b' h1 h2 h3 h4 => (HF5.out b' (by omega) h2 h3 h4).trans (KV.out.block b' h1)⟩
 ·refine MQ.view (g := gv) QV.out HX.out rfl HO5.out HM5.out (fun hu h1 h2 hn q hq => HF5.out q (World.ownsRow.lt hu _ hq).2 (fun e => hn (by rw [hq, e])) (fun e => ownType' hu QV.out.m.row h2 hq (by rw [e]; rfl)) (ownType' hu (QV.out.m.r c r lr HRR.out HLR.out).own h1 hq)) HP5.out HB5.out.size
 ·have := (World.ownsRow.lt HQ.out.m.row gO rfl).1
  omega
end
section
set_option linter.unusedSimpArgs false
set_option linter.unusedVariables false
set_option maxRecDepth 100000
open Go.RowKit
/- what the load of a view that is right answers -/
theorem loadQ {Hq : Nat → Prop} {w : World} {B gv cv gO cO who : Nat} {vc vk vt rv : Value} {LC : List CV} {LK : List KV} {S : List RS} {d : MD} {k : KD} (c : Nat) (late : Int) (hold : Bool) (hq : MQ w B Hq vc vk (.slice (some ⟨gO, 0, none⟩) d.mem.length cO) vt LC LK S d) (hx : LK[who]? = some ⟨k, rv, .slice (some ⟨gv, 0, none⟩) 24 cv⟩) (hvw : viewB d.mem k.vw = true) (hmem : memB d.mem = true) (hc : c < 24) (hlate : late ≤ 9223372036854775807) :
  Calls Try.prog 93 #[.slice (some ⟨gv, 0, none⟩) 24 cv, .agg #[.slice (some ⟨gO, 0, none⟩) d.mem.length cO], .int .i64 c, .int .i64 late, .bool hold] w fun e w' => e = .returned (.int .i64 (ldX d.mem k.vw c late).v) ∧ MQ w' B Hq vc vk (.slice (some ⟨gO, 0, none⟩) d.mem.length cO) vt LC (LK.set who ⟨{ k with vw := ldW d.mem k.vw c late hold }, rv, .slice (some ⟨gv, 0, none⟩) 24 cv⟩) S (putK d who { k with vw := ldW d.mem k.vw c late hold }) ∧ Exc gv (gv + 1) w w' := by
 obtain ⟨h24, lr, hlr, elr, h1, h4, -⟩ := memB_at hmem hc
 have hvl : k.vw.length = 24 := by have := (viewB_iff.1 hvw).1; omega
 obtain ⟨sM, cM, eM, mR⟩ := hq.m.memw
 injection eM with eM e2 e3
 clear e2
 subst eM
 subst e3
 obtain ⟨kk, rr2, ekk, hRt⟩ := right_of (m := d.mem) (l := k.vw) (cell := (c : Int)) (by unfold rightB; rw [hmem, hvw]; simp; omega)
 have ekk : kk = c := by omega
 subst ekk
 have ekr : rr2 = lr := by have := hRt.hr; rw [hlr] at this; injection this with this; exact this.symm
 subst ekr
 obtain ⟨hj1, hj2⟩ := ldJ_lt late hmem hvw hc
 obtain ⟨rr3, hr3, hx3, -⟩ := ldX_at late hmem hvw hc
 have er3 : rr3 = rr2 := by rw [hlr] at hr3; injection hr3 with hr3; exact hr3.symm
 subst er3
 rw [elr] at hj2
 have hvn := (hq.k.inn who _ hx).2
 have hvn' : OwnN w B (.slice (some ⟨gv, 0, none⟩) k.vw.length cv) k.vw := by rw [hvl]; exact hvn
 have hav : MemAv w (some ⟨gO, 0, none⟩) d.mem gv := hq.m.av (own_ty hvn rfl) (fun a ha => hq.sk who _ gv hx (.inr rfl) a ha)
 have LD := load_any (some ⟨gO, 0, none⟩) cO B w.heap.size B gv cv d.mem k.vw kk rr3 late hold (ldJ d.mem k.vw kk late) (ldX d.mem k.vw kk late) w mR hvn' (Nat.le_refl _) hav hRt hlate hj2 hx3
 rw [hvl, ldW_eq] at LD
 refine Calls.mono LD ?_
 rintro e w' ⟨rfl, ho, he⟩
 exact ⟨rfl, MQ.viewL hq hx rfl ho he, he⟩
end
end Go.Proofs.Ytepfpbcjklaenaa
