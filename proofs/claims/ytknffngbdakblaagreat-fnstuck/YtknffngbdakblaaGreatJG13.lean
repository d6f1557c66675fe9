/- What a turn's doing makes of it, and that this is a step. No condition. What a turn stands on, and what a doing makes of it. No condition. A turn's doings on channels, whole. Conditions: the channel is ChanOk, of at most four numbers. A turn prints. Condition: there are less than a thousand million notes. A turn settled: the thread has what became of it. No condition. -/
import Derived.Test.YtknffngbdakblaaGreatJG00
import Derived.Test.YtknffngbdakblaaGreatJG05
import Derived.Test.YtknffngbdakblaaGreatJG01
import Derived.Test.YtknffngbdakblaaGreatJG03
import Derived.Test.YtknffngbdakblaaGreatJG02
import Derived.Test.YtknffngbdakblaaGreatJChA
import Derived.Test.YtknffngbdakblaaGreatJG06
import Derived.Test.YtknffngbdakblaaGreatJG08
import Derived.Test.YtknffngbdakblaaGreatJStepIm2
import Derived.Test.YtknffngbdakblaaGreatJG12
import Derived.Test.YtknffngbdakblaaGreatJStepIm3
import Derived.Laws.CopyOwn
import Derived.Deep.RegionHeld3
import Derived.Deep.DeepCutAuto
namespace Go.Proofs.YtknffngbdakblaaGreat
section
set_option linter.unusedSimpArgs false
set_option linter.unusedVariables false
set_option maxRecDepth 100000
open Go.RowKit
structure DR where
 code : Int
 nx : Int
 st : Int
 rg : List Int
 chs : List CD
 tr : List ND
def doM (t : TD) (x : I5) (chs : List CD) (tr : List ND) (k : Nat) : DR :=
 if x.o = 1 then ⟨0, t.pc + 1, 0, putN t.regs x.r x.n, chs, tr⟩
 else if x.o = 2 then ⟨0, t.pc + 1, 0, putN t.regs x.r (IntKind.i64.wrap (regN t.regs x.a + regN t.regs x.b)), chs, tr⟩
 else if x.o = 3 then ⟨0, t.pc + 1, 0, putN t.regs x.r (IntKind.i64.wrap (regN t.regs x.a - regN t.regs x.b)), chs, tr⟩
 else if x.o = 4 then ⟨0, t.pc + 1, 0, putN t.regs x.r (bitN (decide (regN t.regs x.a < regN t.regs x.b))), chs, tr⟩
 else if x.o = 10 then ⟨0, t.pc + 1, 0, t.regs, chs, tr ++ [⟨k, regN t.regs x.a⟩]⟩
 else if x.o = 11 then ⟨0, x.n, 0, t.regs, chs, tr⟩
 else if x.o = 12 then ⟨0, if regN t.regs x.a = 0 then x.n else t.pc + 1, 0, t.regs, chs, tr⟩
 else if x.o = 13 then ⟨0, t.pc, 1, t.regs, chs, tr⟩
 else ⟨chanH x.o (chs.getD x.n.toNat zc), t.pc + 1, 0, chanR x.o t.regs (chs.getD x.n.toNat zc) x.r.toNat x.b.toNat, chs.set x.n.toNat (chanC x.o (chs.getD x.n.toNat zc) (regN t.regs x.a)), tr⟩
def settleT (t : TD) (b : Nat) (o : DR) : TD := if o.code = 2 ∨ ¬ (0 ≤ o.nx ∧ o.nx < b) then ⟨t.pc, o.rg, 2⟩ else ⟨o.nx, o.rg, o.st⟩
theorem settle_move {t : TD} {b : Nat} {o : DR} (hc : o.code ≠ 2) (hs : o.st = 0) : settleT t b o = moveT t b o.rg o.nx := by
 unfold settleT moveT
 by_cases h : 0 ≤ o.nx ∧ o.nx < b
 ·rw [if_neg (fun q => by rcases q with q | q; exact hc q; exact q h), if_pos h, hs]
 ·rw [if_pos (.inr h), if_neg h]
theorem chan_same {c : CD} {chs : List CD} {n : Nat} (h : chs[n]? = some c) : chs.set n c = chs := by
 apply List.ext_getElem?
 intro j
 by_cases e : j = n
 ·subst e
  rw [List.getElem?_set_self (List.getElem?_eq_some_iff.1 h).1, h]
 ·rw [List.getElem?_set_ne (Ne.symm e)]
theorem chs_at {c : CD} {chs : List CD} {n : Nat} (h : chs[n]? = some c) : chs.getD n zc = c := by rw [List.getD_eq_getElem?_getD, h]; rfl
theorem chanC_wait {o : Int} {c : CD} {v : Int} (hok : okC c.cap c.list.length = true) (hop : o = 5 ∨ o = 6 ∨ o = 7 ∨ o = 8 ∨ o = 9) (h : chanH o c = 1) : chanC o c v = c ∧ (o = 5 ∨ o = 6) := by
 obtain ⟨cap, l, cl⟩ := c
 simp only at hok
 rcases hop with rfl | rfl | rfl | rfl | rfl
 ·have hk : sendK cap l cl = 1 := by simpa [chanH] using h
  refine ⟨?_, .inl rfl⟩
  have q : ¬ (okC cap l.length = true ∧ cl = false ∧ (l.length : Int) < cap) := fun q => by
   unfold sendK at hk
   rw [if_pos ⟨q.1, q.2.1⟩, if_pos q.2.2] at hk
   cases hk
  simp [chanC, sendL, q]
 ·have hk : takeK cap l cl = 1 := by
   by_cases e : takeK cap l cl = 1
   ·exact e
   ·simp [chanH, e] at h
  refine ⟨?_, .inr rfl⟩
  unfold takeK at hk
  rw [if_pos hok] at hk
  by_cases e : l = []
  ·subst e
   simp [chanC, takeL]
  ·rw [if_neg e] at hk
   cases hk
 ·by_cases e : sendK cap l cl = 2 <;> simp [chanH, e] at h
 ·simp [chanH] at h
 ·exfalso
  have : closeK cap l cl = 1 := by simpa [chanH] using h
  unfold closeK at this
  split at this <;> cases this
/- a step is what a doing makes, settled -/
theorem doM_step (b : Nat) (pc : Int) (rg : List Int) (o : Int) (r a bb n : Nat) (n' : Int) (chs : List CD) (tr : List ND) (k : Nat) (h0 : 0 ≤ pc) (h1 : pc < b) (hop : 1 ≤ o ∧ o ≤ 13) (hn : 5 ≤ o → o ≤ 9 → n' = n) (hch : 5 ≤ o → o ≤ 9 → ∃ c, chs[n]? = some c ∧ okC c.cap c.list.length = true) (hnr : ¬ (o = 10 ∧ tr.length = 4000)) :
  stepO b ⟨pc, rg, 0⟩ ⟨o, r, a, bb, n'⟩ chs tr k = if (doM ⟨pc, rg, 0⟩ ⟨o, r, a, bb, n'⟩ chs tr k).code = 1 then ⟨⟨pc, rg, 0⟩, chs, tr, 4⟩ else ⟨settleT ⟨pc, rg, 0⟩ b (doM ⟨pc, rg, 0⟩ ⟨o, r, a, bb, n'⟩ chs tr k), (doM ⟨pc, rg, 0⟩ ⟨o, r, a, bb, n'⟩ chs tr k).chs, (doM ⟨pc, rg, 0⟩ ⟨o, r, a, bb, n'⟩ chs tr k).tr, 0⟩ := by
 by_cases h5 : 5 ≤ o ∧ o ≤ 9
 ·have hop5 : o = 5 ∨ o = 6 ∨ o = 7 ∨ o = 8 ∨ o = 9 := by omega
  obtain ⟨c, hc, hok⟩ := hch h5.1 h5.2
  have en := hn h5.1 h5.2
  subst en
  rw [stepO_chan b ⟨pc, rg, 0⟩ o r a bb n chs tr k c hc hok hop5]
  have e : doM ⟨pc, rg, 0⟩ ⟨o, r, a, bb, n⟩ chs tr k = ⟨chanH o c, pc + 1, 0, chanR o rg c r bb, chs.set n (chanC o c (rg.getD a 0)), tr⟩ := by
   have e1 : chs.getD n zc = c := by rw [List.getD_eq_getElem?_getD, hc]; rfl
   unfold doM
   simp only [Int.toNat_natCast, regN, e1]
   rw [if_neg (by omega), if_neg (by omega), if_neg (by omega), if_neg (by omega), if_neg (by omega), if_neg (by omega), if_neg (by omega), if_neg (by omega)]
  rw [e]
  simp only
  rcases chanH_three hok hop5 with h | h | ⟨h, h9⟩
  ·rw [h, if_neg (by decide), if_neg (by decide), if_neg (by decide)]
   rw [settle_move (by simp) rfl]
  ·rw [h, if_pos rfl, if_pos rfl]
  ·rw [h, if_neg (by decide), if_pos rfl, if_neg (by decide)]
   have e2 := chanR_fault (rg := rg) (r := r) (b := bb) h9 h
   simp [settleT, haltT, e2]
 ·have h6 : o = 1 ∨ o = 2 ∨ o = 3 ∨ o = 4 ∨ o = 10 ∨ o = 11 ∨ o = 12 ∨ o = 13 := by omega
  clear hn hch
  rcases h6 with rfl | rfl | rfl | rfl | rfl | rfl | rfl | rfl
  ·rw [settle_move (by simp [doM]) (by simp [doM])]; simp [stepO, doM]
  ·rw [settle_move (by simp [doM]) (by simp [doM])]; simp [stepO, doM]
  ·rw [settle_move (by simp [doM]) (by simp [doM])]; simp [stepO, doM]
  ·rw [settle_move (by simp [doM]) (by simp [doM])]; simp [stepO, doM]
  ·have : ¬ tr.length = 4000 := fun e => hnr ⟨rfl, e⟩
   rw [settle_move (by simp [doM]) (by simp [doM])]; simp [stepO, doM, this]
  ·rw [settle_move (by simp [doM]) (by simp [doM])]; simp [stepO, doM]
  ·rw [settle_move (by simp [doM]) (by simp [doM])]; simp [stepO, doM]
  ·simp [stepO, doM, settleT, haltT, h0, h1]
end
section
set_option linter.unusedSimpArgs false
set_option linter.unusedVariables false
set_option maxRecDepth 100000
open Go.RowKit
def BxU (w : World) (b : Nat) : Prop := ∃ cs f, w.heap[b]? = some (.cells cs 90 f)
theorem own_bxU {w : World} {base size n b : Nat} {e : TypeId} {v : Value} {xs : List Value} (h : w.ownsRow base e size v n xs) (he : e ≠ 90) (hb : BxU w b) : v.ownBlock ≠ some b := by
 obtain ⟨cs, f, c⟩ := hb
 intro hk
 rcases h.2 with ⟨rfl, -⟩ | ⟨g, cap, cur, rfl, -, c', -⟩
 ·cases hk
 ·simp only [Value.ownBlock, Option.some.injEq] at hk
  subst hk
  rw [c] at c'
  injection c' with c'
  injection c' with _ c'
  exact he c'.symm
theorem BxU.set {w : World} {b g o : Nat} {v : Value} (h : BxU w b) : BxU (w.setCell ⟨g, o, none⟩ v) b := by
 obtain ⟨cs, f, c⟩ := h
 by_cases e : b = g
 ·subst e
  exact ⟨_, f, heap_setS c⟩
 ·exact ⟨cs, f, (Below.heap_setCell _ _ _ b e).trans c⟩
theorem BxU.same {w w' : World} {b : Nat} (h : BxU w b) (e : w'.heap[b]? = w.heap[b]?) : BxU w' b := by
 obtain ⟨cs, f, c⟩ := h
 exact ⟨cs, f, e.trans c⟩
theorem OwnS.hitU {w : World} {base b : Nat} {v1 v2 v3 : Value} {L1 L2 : List (Rec × Value)} {d : SD} (h : OwnS w base v1 v2 v3 L1 L2 d) (ht : BxU w b) : ¬ HitS v1 v2 v3 L1 L2 b := by
 rintro ((hk | ⟨i, x, hx, hk⟩) | (hk | ⟨i, x, hx, hk⟩) | hk)
 ·exact own_bxU h.t.row (by decide) ht hk
 ·exact own_bxU (h.t.inn i x hx) (by decide) ht hk
 ·exact own_bxU h.c.row (by decide) ht hk
 ·exact own_bxU (h.c.inn i x hx) (by decide) ht hk
 ·exact own_bxU h.n (by decide) ht hk
structure Rd (w : World) (b S base : Nat) (v1 v2 v3 : Value) (L1 L2 : List (Rec × Value)) (d : SD) (who pc nx st : Int) (rg : List Int) : Prop where
 t : Tn w b S who pc nx st rg
 s : BoF S w v1 v2 v3
 bs : BxS w S
 bt : BxU w b
 o : OwnS w base v1 v2 v3 L1 L2 d
 ne : b ≠ S
 hb : base ≤ w.heap.size
 hS : base ≤ S
 hbb : base ≤ b
structure DoQ (w : World) (b S base : Nat) (v1 v2 v3 : Value) (L1 L2 : List (Rec × Value)) (d : SD) (who pc nx st : Int) (rg : List Int) (chs : List CD) (tr : List ND) (s4 : Option Addr) (n4 c4 : Nat) (L2' : List (Rec × Value)) (w' : World) : Prop where
 r : Rd w' b S base v1 v2 (.slice s4 n4 c4) L1 L2' ⟨d.ths, chs, tr⟩ who pc nx st rg
 h : ∀ q, HitS v1 v2 (.slice s4 n4 c4) L1 L2' q → HitS v1 v2 v3 L1 L2 q ∨ w.heap.size ≤ q
 f : ∀ q, q < w.heap.size → q ≠ b → ¬ HitS v1 v2 v3 L1 L2 q → q ≠ S → w'.heap[q]? = w.heap[q]?
 b : Below base w w'
def DoP (w : World) (b S base : Nat) (v1 v2 v3 : Value) (L1 L2 : List (Rec × Value)) (d : SD) (who pc : Int) (o : DR) (e : Ending) (w' : World) : Prop :=
 e = .returned (.int .i64 o.code) ∧ ∃ s4 n4 c4 L2', DoQ w b S base v1 v2 v3 L1 L2 d who pc o.nx o.st o.rg o.chs o.tr s4 n4 c4 L2' w'
/- stores into the turn's own box alone -/
theorem Rd.put {w W2 w' : World} {b S base n3 c3 : Nat} {s3 : Option Addr} {v1 v2 : Value} {L1 L2 : List (Rec × Value)} {d : SD} {who pc nx st nx' st' : Int} {rg rg' : List Int} (h : Rd w b S base v1 v2 (.slice s3 n3 c3) L1 L2 d who pc nx st rg) (hW : ∀ q, q ≠ b → W2.heap[q]? = w.heap[q]?) (hs : W2.heap.size = w.heap.size) (hu : BxU W2 b) (hB : Below base w W2) (ht : Tn W2 b S who pc nx' st' rg') (k : Below w.heap.size W2 w') : DoQ w b S base v1 v2 (.slice s3 n3 c3) L1 L2 d who pc nx' st' rg' d.chs d.tr s3 n3 c3 L2 w' := by
 have hz := h.t.z
 have hzS := h.s.z
 have hne := h.ne
 have e : ∀ q, q < w.heap.size → q ≠ b → w'.heap[q]? = w.heap[q]? := fun q h1 h2 => (k.block q h1).trans (hW q h2)
 have ks := k.size
 refine ⟨⟨ht.below k hz, h.s.keep (e S hzS (Ne.symm hne)) (by omega), h.bs.same (e S hzS (Ne.symm hne)), hu.same (k.block b hz), ?_, hne, by have := h.hb; omega, h.hS, h.hbb⟩, fun q hq => .inl hq, fun q h1 h2 _ _ => e q h1 h2, hB.trans (k.mono h.hb)⟩
 exact h.o.keepB (fun q hq => e q (h.o.hit hq).2 (fun e => h.o.hitU h.bt (by rw [← e]; exact hq)))
/- a channel put in its place -/
theorem Rd.chan {w w' : World} {b S base n3 c3 n : Nat} {s3 : Option Addr} {v1 v2 : Value} {L1 L2 : List (Rec × Value)} {d : SD} {who pc nx st : Int} {rg : List Int} {y : CD} (h : Rd w b S base v1 v2 (.slice s3 n3 c3) L1 L2 d who pc nx st rg) (k : ChP w base v1 v2 (.slice s3 n3 c3) L1 L2 d n y w') : ∃ L2', DoQ w b S base v1 v2 (.slice s3 n3 c3) L1 L2 d who pc nx st rg (d.chs.set n y) d.tr s3 n3 c3 L2' w' := by
 obtain ⟨⟨L2', o, hh⟩, f, k⟩ := k
 have hz := h.t.z
 have hzS := h.s.z
 have e : ∀ q, q < w.heap.size → ¬ HitS v1 v2 (.slice s3 n3 c3) L1 L2 q → w'.heap[q]? = w.heap[q]? := fun q h1 h2 => f q h1 (fun e => h2 (.inr (.inl (.inl e))))
 have ks := k.size
 have eb := e b hz (h.o.hitU h.bt)
 have eS := e S hzS (h.o.hitB h.bs)
 refine ⟨L2', ⟨h.t.same eb ks, h.s.keep eS ks, h.bs.same eS, h.bt.same eb, o, h.ne, by have := h.hb; omega, h.hS, h.hbb⟩, fun q hq => ?_, fun q h1 _ h3 _ => e q h1 h3, k⟩
 rcases hq with hq | hq | hq
 ·exact .inl (.inl hq)
 ·exact (hh q hq).imp (fun a => .inr (.inl a)) id
 ·exact .inl (.inr (.inr hq))
/- one behind the other -/
theorem DoQ.then {w w1 w2 : World} {b S base n3 c3 n4 c4 n5 c5 : Nat} {s3 s4 s5 : Option Addr} {v1 v2 : Value} {L1 L2 L2' L3 : List (Rec × Value)} {d : SD} {who pc nx st nx' st' : Int} {rg rg' : List Int} {chs chs' : List CD} {tr tr' : List ND} (h : DoQ w b S base v1 v2 (.slice s3 n3 c3) L1 L2 d who pc nx st rg chs tr s4 n4 c4 L2' w1) (k : DoQ w1 b S base v1 v2 (.slice s4 n4 c4) L1 L2' ⟨d.ths, chs, tr⟩ who pc nx' st' rg' chs' tr' s5 n5 c5 L3 w2) : DoQ w b S base v1 v2 (.slice s3 n3 c3) L1 L2 d who pc nx' st' rg' chs' tr' s5 n5 c5 L3 w2 := by
 have hs := h.b.size
 refine ⟨k.r, fun q hq => ?_, fun q h1 h2 h3 h4 => (k.f q (by omega) h2 (fun hq => ?_) h4).trans (h.f q h1 h2 h3 h4), h.b.trans k.b⟩
 ·rcases k.h q hq with h1 | h1
  ·exact h.h q h1
  ·exact .inr (by omega)
 ·rcases h.h q hq with h5 | h5
  ·exact h3 h5
  ·omega
theorem do1 (o r a bb n : Int) (b S base n3 c3 : Nat) (s3 : Option Addr) (v1 v2 : Value) (L1 L2 : List (Rec × Value)) (d : SD) (who : Nat) (pc : Int) (rg : List Int) (w : World) (h : Rd w b S base v1 v2 (.slice s3 n3 c3) L1 L2 d who pc (pc + 1) 0 rg) (hr : 0 ≤ r ∧ r ≤ 3) (ha : 0 ≤ a ∧ a ≤ 3) (hb : 0 ≤ bb ∧ bb ≤ 3) :
  Calls Tryz.prog 65 #[.pointer (some ⟨b, 0, none⟩), .agg #[.int .i64 1, .int .i64 r, .int .i64 a, .int .i64 bb, .int .i64 n]] w fun e w' => DoP w b S base v1 v2 (.slice s3 n3 c3) L1 L2 d who pc (doM ⟨pc, rg, 0⟩ ⟨1, r, a, bb, n⟩ d.chs d.tr who) e w' := by
 have hrn : r.toNat < 4 := by omega
 have hbn : bb.toNat < 4 := by omega
 refine (set_any 1 r a bb n b S who pc (pc + 1) 0 rg w h.t hr ha hb).mono ?_
 rintro e w' ⟨rfl, k⟩
 refine ⟨by simp [doM], s3, n3, c3, L2, ?_⟩
 have q := h.put (W2 := (w.setCell ⟨b, 5 + r.toNat, none⟩ (.int .i64 (n)))) (fun q hq => Below.heap_setCell _ _ _ q hq) (by simp) h.bt.set ((Below.refl _ _).setCell (p := ⟨b, _, none⟩) h.hbb _) (h.t.reg _ hrn _) k
 simpa [doM, putN] using q
theorem do2 (o r a bb n : Int) (b S base n3 c3 : Nat) (s3 : Option Addr) (v1 v2 : Value) (L1 L2 : List (Rec × Value)) (d : SD) (who : Nat) (pc : Int) (rg : List Int) (w : World) (h : Rd w b S base v1 v2 (.slice s3 n3 c3) L1 L2 d who pc (pc + 1) 0 rg) (hr : 0 ≤ r ∧ r ≤ 3) (ha : 0 ≤ a ∧ a ≤ 3) (hb : 0 ≤ bb ∧ bb ≤ 3) :
  Calls Tryz.prog 66 #[.pointer (some ⟨b, 0, none⟩), .agg #[.int .i64 2, .int .i64 r, .int .i64 a, .int .i64 bb, .int .i64 n]] w fun e w' => DoP w b S base v1 v2 (.slice s3 n3 c3) L1 L2 d who pc (doM ⟨pc, rg, 0⟩ ⟨2, r, a, bb, n⟩ d.chs d.tr who) e w' := by
 have hrn : r.toNat < 4 := by omega
 have hbn : bb.toNat < 4 := by omega
 refine (add_any 2 r a bb n b S who pc (pc + 1) 0 rg w h.t hr ha hb).mono ?_
 rintro e w' ⟨rfl, k⟩
 refine ⟨by simp [doM], s3, n3, c3, L2, ?_⟩
 have q := h.put (W2 := (w.setCell ⟨b, 5 + r.toNat, none⟩ (.int .i64 (IntKind.i64.wrap (regN rg a + regN rg bb))))) (fun q hq => Below.heap_setCell _ _ _ q hq) (by simp) h.bt.set ((Below.refl _ _).setCell (p := ⟨b, _, none⟩) h.hbb _) (h.t.reg _ hrn _) k
 simpa [doM, putN] using q
theorem do3 (o r a bb n : Int) (b S base n3 c3 : Nat) (s3 : Option Addr) (v1 v2 : Value) (L1 L2 : List (Rec × Value)) (d : SD) (who : Nat) (pc : Int) (rg : List Int) (w : World) (h : Rd w b S base v1 v2 (.slice s3 n3 c3) L1 L2 d who pc (pc + 1) 0 rg) (hr : 0 ≤ r ∧ r ≤ 3) (ha : 0 ≤ a ∧ a ≤ 3) (hb : 0 ≤ bb ∧ bb ≤ 3) :
  Calls Tryz.prog 67 #[.pointer (some ⟨b, 0, none⟩), .agg #[.int .i64 3, .int .i64 r, .int .i64 a, .int .i64 bb, .int .i64 n]] w fun e w' => DoP w b S base v1 v2 (.slice s3 n3 c3) L1 L2 d who pc (doM ⟨pc, rg, 0⟩ ⟨3, r, a, bb, n⟩ d.chs d.tr who) e w' := by
 have hrn : r.toNat < 4 := by omega
 have hbn : bb.toNat < 4 := by omega
 refine (sub_any 3 r a bb n b S who pc (pc + 1) 0 rg w h.t hr ha hb).mono ?_
 rintro e w' ⟨rfl, k⟩
 refine ⟨by simp [doM], s3, n3, c3, L2, ?_⟩
 have q := h.put (W2 := (w.setCell ⟨b, 5 + r.toNat, none⟩ (.int .i64 (IntKind.i64.wrap (regN rg a - regN rg bb))))) (fun q hq => Below.heap_setCell _ _ _ q hq) (by simp) h.bt.set ((Below.refl _ _).setCell (p := ⟨b, _, none⟩) h.hbb _) (h.t.reg _ hrn _) k
 simpa [doM, putN] using q
theorem do4 (o r a bb n : Int) (b S base n3 c3 : Nat) (s3 : Option Addr) (v1 v2 : Value) (L1 L2 : List (Rec × Value)) (d : SD) (who : Nat) (pc : Int) (rg : List Int) (w : World) (h : Rd w b S base v1 v2 (.slice s3 n3 c3) L1 L2 d who pc (pc + 1) 0 rg) (hr : 0 ≤ r ∧ r ≤ 3) (ha : 0 ≤ a ∧ a ≤ 3) (hb : 0 ≤ bb ∧ bb ≤ 3) :
  Calls Tryz.prog 68 #[.pointer (some ⟨b, 0, none⟩), .agg #[.int .i64 4, .int .i64 r, .int .i64 a, .int .i64 bb, .int .i64 n]] w fun e w' => DoP w b S base v1 v2 (.slice s3 n3 c3) L1 L2 d who pc (doM ⟨pc, rg, 0⟩ ⟨4, r, a, bb, n⟩ d.chs d.tr who) e w' := by
 have hrn : r.toNat < 4 := by omega
 have hbn : bb.toNat < 4 := by omega
 refine (less_any 4 r a bb n b S who pc (pc + 1) 0 rg w h.t hr ha hb).mono ?_
 rintro e w' ⟨rfl, k⟩
 refine ⟨by simp [doM], s3, n3, c3, L2, ?_⟩
 have q := h.put (W2 := (w.setCell ⟨b, 5 + r.toNat, none⟩ (.int .i64 (bitN (decide (regN rg a < regN rg bb)))))) (fun q hq => Below.heap_setCell _ _ _ q hq) (by simp) h.bt.set ((Below.refl _ _).setCell (p := ⟨b, _, none⟩) h.hbb _) (h.t.reg _ hrn _) k
 simpa [doM, putN] using q
theorem do11 (o r a bb n : Int) (b S base n3 c3 : Nat) (s3 : Option Addr) (v1 v2 : Value) (L1 L2 : List (Rec × Value)) (d : SD) (who : Nat) (pc : Int) (rg : List Int) (w : World) (h : Rd w b S base v1 v2 (.slice s3 n3 c3) L1 L2 d who pc (pc + 1) 0 rg) (hr : 0 ≤ r ∧ r ≤ 3) (ha : 0 ≤ a ∧ a ≤ 3) (hb : 0 ≤ bb ∧ bb ≤ 3) :
  Calls Tryz.prog 75 #[.pointer (some ⟨b, 0, none⟩), .agg #[.int .i64 11, .int .i64 r, .int .i64 a, .int .i64 bb, .int .i64 n]] w fun e w' => DoP w b S base v1 v2 (.slice s3 n3 c3) L1 L2 d who pc (doM ⟨pc, rg, 0⟩ ⟨11, r, a, bb, n⟩ d.chs d.tr who) e w' := by
 have hrn : r.toNat < 4 := by omega
 have hbn : bb.toNat < 4 := by omega
 refine (jump_any 11 r a bb n b S who pc (pc + 1) 0 rg w h.t hr ha hb).mono ?_
 rintro e w' ⟨rfl, k⟩
 refine ⟨by simp [doM], s3, n3, c3, L2, ?_⟩
 have q := h.put (W2 := (w.setCell ⟨b, 3, none⟩ (.int .i64 (n)))) (fun q hq => Below.heap_setCell _ _ _ q hq) (by simp) h.bt.set ((Below.refl _ _).setCell (p := ⟨b, _, none⟩) h.hbb _) (h.t.next _) k
 simpa [doM, putN] using q
theorem do13 (o r a bb n : Int) (b S base n3 c3 : Nat) (s3 : Option Addr) (v1 v2 : Value) (L1 L2 : List (Rec × Value)) (d : SD) (who : Nat) (pc : Int) (rg : List Int) (w : World) (h : Rd w b S base v1 v2 (.slice s3 n3 c3) L1 L2 d who pc (pc + 1) 0 rg) (hr : 0 ≤ r ∧ r ≤ 3) (ha : 0 ≤ a ∧ a ≤ 3) (hb : 0 ≤ bb ∧ bb ≤ 3) :
  Calls Tryz.prog 77 #[.pointer (some ⟨b, 0, none⟩), .agg #[.int .i64 13, .int .i64 r, .int .i64 a, .int .i64 bb, .int .i64 n]] w fun e w' => DoP w b S base v1 v2 (.slice s3 n3 c3) L1 L2 d who pc (doM ⟨pc, rg, 0⟩ ⟨13, r, a, bb, n⟩ d.chs d.tr who) e w' := by
 have hrn : r.toNat < 4 := by omega
 have hbn : bb.toNat < 4 := by omega
 refine (end_any 13 r a bb n b S who pc (pc + 1) 0 rg w h.t hr ha hb).mono ?_
 rintro e w' ⟨rfl, k⟩
 refine ⟨by simp [doM], s3, n3, c3, L2, ?_⟩
 have q := h.put (W2 := ((w.setCell ⟨b, 3, none⟩ (.int .i64 (pc))).setCell ⟨b, 4, none⟩ (.int .i64 (1)))) (fun q hq => (Below.heap_setCell _ _ _ q hq).trans (Below.heap_setCell _ _ _ q hq)) (by simp) h.bt.set.set (((Below.refl _ _).setCell (p := ⟨b, _, none⟩) h.hbb _).setCell (p := ⟨b, _, none⟩) h.hbb _) ((h.t.next _).state _) k
 simpa [doM, putN] using q
theorem do12 (o r a bb n : Int) (b S base n3 c3 : Nat) (s3 : Option Addr) (v1 v2 : Value) (L1 L2 : List (Rec × Value)) (d : SD) (who : Nat) (pc : Int) (rg : List Int) (w : World) (h : Rd w b S base v1 v2 (.slice s3 n3 c3) L1 L2 d who pc (pc + 1) 0 rg) (hr : 0 ≤ r ∧ r ≤ 3) (ha : 0 ≤ a ∧ a ≤ 3) (hb : 0 ≤ bb ∧ bb ≤ 3) :
  Calls Tryz.prog 76 #[.pointer (some ⟨b, 0, none⟩), .agg #[.int .i64 12, .int .i64 r, .int .i64 a, .int .i64 bb, .int .i64 n]] w fun e w' => DoP w b S base v1 v2 (.slice s3 n3 c3) L1 L2 d who pc (doM ⟨pc, rg, 0⟩ ⟨12, r, a, bb, n⟩ d.chs d.tr who) e w' := by
 by_cases hz : regN rg a = 0
 ·refine (zero_yes 12 r a bb n b S who pc (pc + 1) 0 rg w h.t hr ha hb hz).mono ?_
  rintro e w' ⟨rfl, k⟩
  refine ⟨by simp [doM], s3, n3, c3, L2, ?_⟩
  have q := h.put (W2 := (w.setCell ⟨b, 3, none⟩ (.int .i64 n))) (fun q hq => Below.heap_setCell _ _ _ q hq) (by simp) h.bt.set ((Below.refl _ _).setCell (p := ⟨b, _, none⟩) h.hbb _) (h.t.next _) k
  simpa [doM, hz] using q
 ·refine (zero_no 12 r a bb n b S who pc (pc + 1) 0 rg w h.t hr ha hb hz).mono ?_
  rintro e w' ⟨rfl, k⟩
  refine ⟨by simp [doM], s3, n3, c3, L2, ?_⟩
  have q := h.put (W2 := w) (fun q _ => rfl) rfl h.bt (Below.refl _ _) h.t k
  simpa [doM, hz] using q
end
section
set_option linter.unusedSimpArgs false
set_option linter.unusedVariables false
set_option maxRecDepth 100000
open Go.RowKit
theorem takeV_none {c : CD} (hok : okC c.cap c.list.length = true) (h : takeK c.cap c.list c.cl ≠ 0) : takeV c.cap c.list = 0 := by
 unfold takeK at h
 rw [if_pos hok] at h
 by_cases e : c.list = []
 ·unfold takeV
  rw [if_pos hok, e]
  rfl
 ·rw [if_neg e] at h
  exact absurd rfl h
set_option maxHeartbeats 2000000 in
theorem do5 (o r a bb n : Int) (b S base n3 c3 : Nat) (s3 : Option Addr) (v1 v2 : Value) (L1 L2 : List (Rec × Value)) (d : SD) (who : Nat) (pc : Int) (rg : List Int) (w : World) (h : Rd w b S base v1 v2 (.slice s3 n3 c3) L1 L2 d who pc (pc + 1) 0 rg) (hr : 0 ≤ r ∧ r ≤ 3) (ha : 0 ≤ a ∧ a ≤ 3) (hb : 0 ≤ bb ∧ bb ≤ 3) (nn : Nat) (hn : n = nn) (c : CD) (hc : d.chs[nn]? = some c) (hcl : c.list.length ≤ 4) (hcn : d.chs.length ≤ 3) (hok : okC c.cap c.list.length = true) :
  Calls Tryz.prog 69 #[.pointer (some ⟨b, 0, none⟩), .agg #[.int .i64 5, .int .i64 r, .int .i64 a, .int .i64 bb, .int .i64 n]] w fun e w' => DoP w b S base v1 v2 (.slice s3 n3 c3) L1 L2 d who pc (doM ⟨pc, rg, 0⟩ ⟨5, r, a, bb, n⟩ d.chs d.tr who) e w' := by
 subst hn
 obtain ⟨g2, c2, y9, e9, -⟩ := h.o.chanAt hc
 subst e9
 have ec : d.chs.getD nn zc = c := chs_at hc
 refine (send_any 5 r a bb nn b S base g2 c2 who pc (pc + 1) 0 rg v1 _ L1 L2 d c w h.t ha h.s h.o h.hb hc hcl hcn).mono ?_
 rintro e w' ⟨rfl, k⟩
 obtain ⟨L2', q⟩ := h.chan k
 refine ⟨?_, s3, n3, c3, L2', ?_⟩
 ·simp only [doM, Int.toNat_natCast, ec]
  simp [chanH]
 ·simp only [doM, Int.toNat_natCast, ec]
  simpa [chanR, chanC] using q
set_option maxHeartbeats 2000000 in
theorem do9 (o r a bb n : Int) (b S base n3 c3 : Nat) (s3 : Option Addr) (v1 v2 : Value) (L1 L2 : List (Rec × Value)) (d : SD) (who : Nat) (pc : Int) (rg : List Int) (w : World) (h : Rd w b S base v1 v2 (.slice s3 n3 c3) L1 L2 d who pc (pc + 1) 0 rg) (hr : 0 ≤ r ∧ r ≤ 3) (ha : 0 ≤ a ∧ a ≤ 3) (hb : 0 ≤ bb ∧ bb ≤ 3) (nn : Nat) (hn : n = nn) (c : CD) (hc : d.chs[nn]? = some c) (hcl : c.list.length ≤ 4) (hcn : d.chs.length ≤ 3) (hok : okC c.cap c.list.length = true) :
  Calls Tryz.prog 73 #[.pointer (some ⟨b, 0, none⟩), .agg #[.int .i64 9, .int .i64 r, .int .i64 a, .int .i64 bb, .int .i64 n]] w fun e w' => DoP w b S base v1 v2 (.slice s3 n3 c3) L1 L2 d who pc (doM ⟨pc, rg, 0⟩ ⟨9, r, a, bb, n⟩ d.chs d.tr who) e w' := by
 subst hn
 obtain ⟨g2, c2, y9, e9, -⟩ := h.o.chanAt hc
 subst e9
 have ec : d.chs.getD nn zc = c := chs_at hc
 refine (shut_any 9 r a bb nn b S base g2 c2 who pc (pc + 1) 0 rg v1 _ L1 L2 d c w h.t ha h.s h.o h.hb hc hcl hcn).mono ?_
 rintro e w' ⟨rfl, k⟩
 obtain ⟨L2', q⟩ := h.chan k
 refine ⟨?_, s3, n3, c3, L2', ?_⟩
 ·simp only [doM, Int.toNat_natCast, ec]
  simp [chanH]
 ·simp only [doM, Int.toNat_natCast, ec]
  simpa [chanR, chanC] using q
set_option maxHeartbeats 2000000 in
theorem do6 (o r a bb n : Int) (b S base n3 c3 : Nat) (s3 : Option Addr) (v1 v2 : Value) (L1 L2 : List (Rec × Value)) (d : SD) (who : Nat) (pc : Int) (rg : List Int) (w : World) (h : Rd w b S base v1 v2 (.slice s3 n3 c3) L1 L2 d who pc (pc + 1) 0 rg) (hr : 0 ≤ r ∧ r ≤ 3) (ha : 0 ≤ a ∧ a ≤ 3) (hb : 0 ≤ bb ∧ bb ≤ 3) (nn : Nat) (hn : n = nn) (c : CD) (hc : d.chs[nn]? = some c) (hcl : c.list.length ≤ 4) (hcn : d.chs.length ≤ 3) (hok : okC c.cap c.list.length = true) (hrb : r ≠ bb) :
  Calls Tryz.prog 70 #[.pointer (some ⟨b, 0, none⟩), .agg #[.int .i64 6, .int .i64 r, .int .i64 a, .int .i64 bb, .int .i64 n]] w fun e w' => DoP w b S base v1 v2 (.slice s3 n3 c3) L1 L2 d who pc (doM ⟨pc, rg, 0⟩ ⟨6, r, a, bb, n⟩ d.chs d.tr who) e w' := by
 subst hn
 obtain ⟨g2, c2, y9, e9, -⟩ := h.o.chanAt hc
 subst e9
 have ec : d.chs.getD nn zc = c := chs_at hc
 obtain ⟨W, hW, hx, kW, zW⟩ := Xb.new w (.int .i64 6) (.int .i64 r) (.int .i64 a) (.int .i64 bb) (.int .i64 nn) 85
 have HWW := hidW hW
 have HX := hidW hx
 have KW := hidW kW
 have QW := h.put (W2 := w) (fun q _ => rfl) rfl h.bt (Below.refl _ _) h.t kW
 have HQW := hidW QW
 have TV := hidW (fun q => takeV_none (c := c) hok q)
 have TK3 := hidW (takeK_three (cl := c.cl) hok)
 have zv2 : ∀ q, (Value.slice (some ⟨g2, 0, none⟩) d.chs.length c2).ownBlock = some q → q < w.heap.size := fun q hq => (h.o.hit (.inr (.inl (.inl hq)))).2
 have ZV2 := hidW zv2
 have HEC := hidW ec
 have x4 := hx.c4
 have xz := hx.z
 have bn0 : (0 : Int) ≤ (nn : Int) := by omega
 clear hW hx kW QW ec zv2
 go_enter Tryz.func70, Tryz.ntmps70
 go_wp2_with fail
 rw [HWW.out]
 refine (takeFrom_any nn b S base g2 c2 who pc (pc + 1) 0 rg v1 _ L1 L2 d c W HQW.out.r.t HQW.out.r.s HQW.out.r.o HQW.out.r.hb hc hcl hcn).mono ?_
 rintro e w1 ⟨rfl, k⟩
 obtain ⟨L2', q1⟩ := HQW.out.r.chan k
 have HQ1 := hidW q1
 have X1 := HX.out
 have eX : w1.heap[w.heap.size]? = W.heap[w.heap.size]? := k.2.1 _ xz (fun e => by have := ZV2.out _ e; omega)
 have cX : ∀ j, w1.cell? ⟨w.heap.size, j, none⟩ = W.cell? ⟨w.heap.size, j, none⟩ := fun j => World.cell?_of_block eX
 have y0 := (cX 0).trans X1.c0
 have y1 := (cX 1).trans X1.c1
 have y2 := (cX 2).trans X1.c2
 have y3 := (cX 3).trans X1.c3
 have y4 := (cX 4).trans X1.c4
 have z1 := k.2.2.size
 clear k q1 X1 eX cX x4
 rcases TK3.out with hk | hk | hk
 ·have hkk : takeK c.cap c.list c.cl = 0 := hk
  have HKK := hidW hkk
  rw [hkk]
  generalize htv : takeV c.cap c.list = tv at *
  have HTV := hidW htv
  clear hk hkk htv TV
  go_wp2_with fail
  refine (came_any tv 1 6 r a bb nn b S who pc (pc + 1) 0 rg w1 HQ1.out.r.t hr ha hb hrb).mono ?_
  rintro e w2 ⟨rfl, k2⟩
  have q2 := HQ1.out.r.put (W2 := (w1.setCell ⟨b, 5 + r.toNat, none⟩ (.int .i64 tv)).setCell ⟨b, 5 + bb.toNat, none⟩ (.int .i64 1)) (fun q hq => (Below.heap_setCell _ _ _ q hq).trans (Below.heap_setCell _ _ _ q hq)) (by simp) HQ1.out.r.bt.set.set (((Below.refl _ _).setCell (p := ⟨b, _, none⟩) h.hbb _).setCell (p := ⟨b, _, none⟩) h.hbb _) ((HQ1.out.r.t.reg _ (by omega) _).reg _ (by omega) _) k2
  have Q2 := hidW ((HQW.out.then HQ1.out).then q2)
  clear k2 q2 y0 y1 y2 y3 y4
  go_wp2
  go_ret
  refine ⟨?_, s3, n3, c3, L2', ?_⟩
  ·simp only [doM, Int.toNat_natCast, HEC.out]
   simp [chanH, HKK.out, HTV.out]
  ·simp only [doM, Int.toNat_natCast, HEC.out]
   simpa [chanR, chanC, bitN, HKK.out, HTV.out] using Q2.out
 ·have HKK := hidW hk
  rw [hk]
  clear hk
  have Q2 := hidW (HQW.out.then HQ1.out)
  clear y0 y1 y2 y3 y4
  go_wp2
  go_ret
  refine ⟨?_, s3, n3, c3, L2', ?_⟩
  ·simp only [doM, Int.toNat_natCast, HEC.out]
   simp [chanH, HKK.out]
  ·simp only [doM, Int.toNat_natCast, HEC.out]
   simpa [chanR, chanC, HKK.out] using Q2.out
 ·have HTV := hidW (TV.out (by rw [hk]; decide))
  have HKK := hidW hk
  rw [hk]
  clear hk TV
  go_wp2_with fail
  refine (came_any 0 0 6 r a bb nn b S who pc (pc + 1) 0 rg w1 HQ1.out.r.t hr ha hb hrb).mono ?_
  rintro e w2 ⟨rfl, k2⟩
  have q2 := HQ1.out.r.put (W2 := (w1.setCell ⟨b, 5 + r.toNat, none⟩ (.int .i64 0)).setCell ⟨b, 5 + bb.toNat, none⟩ (.int .i64 0)) (fun q hq => (Below.heap_setCell _ _ _ q hq).trans (Below.heap_setCell _ _ _ q hq)) (by simp) HQ1.out.r.bt.set.set (((Below.refl _ _).setCell (p := ⟨b, _, none⟩) h.hbb _).setCell (p := ⟨b, _, none⟩) h.hbb _) ((HQ1.out.r.t.reg _ (by omega) _).reg _ (by omega) _) k2
  have Q2 := hidW ((HQW.out.then HQ1.out).then q2)
  clear k2 q2 y0 y1 y2 y3 y4
  go_wp2
  go_ret
  refine ⟨?_, s3, n3, c3, L2', ?_⟩
  ·simp only [doM, Int.toNat_natCast, HEC.out]
   simp [chanH, HKK.out, HTV.out]
  ·simp only [doM, Int.toNat_natCast, HEC.out]
   simpa [chanR, chanC, bitN, HKK.out, HTV.out] using Q2.out
set_option maxHeartbeats 2000000 in
theorem do8 (o r a bb n : Int) (b S base n3 c3 : Nat) (s3 : Option Addr) (v1 v2 : Value) (L1 L2 : List (Rec × Value)) (d : SD) (who : Nat) (pc : Int) (rg : List Int) (w : World) (h : Rd w b S base v1 v2 (.slice s3 n3 c3) L1 L2 d who pc (pc + 1) 0 rg) (hr : 0 ≤ r ∧ r ≤ 3) (ha : 0 ≤ a ∧ a ≤ 3) (hb : 0 ≤ bb ∧ bb ≤ 3) (nn : Nat) (hn : n = nn) (c : CD) (hc : d.chs[nn]? = some c) (hcl : c.list.length ≤ 4) (hcn : d.chs.length ≤ 3) (hok : okC c.cap c.list.length = true) (hrb : r ≠ bb) :
  Calls Tryz.prog 72 #[.pointer (some ⟨b, 0, none⟩), .agg #[.int .i64 8, .int .i64 r, .int .i64 a, .int .i64 bb, .int .i64 n]] w fun e w' => DoP w b S base v1 v2 (.slice s3 n3 c3) L1 L2 d who pc (doM ⟨pc, rg, 0⟩ ⟨8, r, a, bb, n⟩ d.chs d.tr who) e w' := by
 subst hn
 obtain ⟨g2, c2, y9, e9, -⟩ := h.o.chanAt hc
 subst e9
 have ec : d.chs.getD nn zc = c := chs_at hc
 obtain ⟨W, hW, hx, kW, zW⟩ := Xb.new w (.int .i64 8) (.int .i64 r) (.int .i64 a) (.int .i64 bb) (.int .i64 nn) 85
 have HWW := hidW hW
 have HX := hidW hx
 have KW := hidW kW
 have QW := h.put (W2 := w) (fun q _ => rfl) rfl h.bt (Below.refl _ _) h.t kW
 have HQW := hidW QW
 have TV := hidW (fun q => takeV_none (c := c) hok q)
 have TK3 := hidW (takeK_three (cl := c.cl) hok)
 have zv2 : ∀ q, (Value.slice (some ⟨g2, 0, none⟩) d.chs.length c2).ownBlock = some q → q < w.heap.size := fun q hq => (h.o.hit (.inr (.inl (.inl hq)))).2
 have ZV2 := hidW zv2
 have HEC := hidW ec
 have x4 := hx.c4
 have xz := hx.z
 have bn0 : (0 : Int) ≤ (nn : Int) := by omega
 clear hW hx kW QW ec zv2
 go_enter Tryz.func72, Tryz.ntmps72
 go_wp2_with fail
 rw [HWW.out]
 refine (takeFrom_any nn b S base g2 c2 who pc (pc + 1) 0 rg v1 _ L1 L2 d c W HQW.out.r.t HQW.out.r.s HQW.out.r.o HQW.out.r.hb hc hcl hcn).mono ?_
 rintro e w1 ⟨rfl, k⟩
 obtain ⟨L2', q1⟩ := HQW.out.r.chan k
 have HQ1 := hidW q1
 have X1 := HX.out
 have eX : w1.heap[w.heap.size]? = W.heap[w.heap.size]? := k.2.1 _ xz (fun e => by have := ZV2.out _ e; omega)
 have cX : ∀ j, w1.cell? ⟨w.heap.size, j, none⟩ = W.cell? ⟨w.heap.size, j, none⟩ := fun j => World.cell?_of_block eX
 have y0 := (cX 0).trans X1.c0
 have y1 := (cX 1).trans X1.c1
 have y2 := (cX 2).trans X1.c2
 have y3 := (cX 3).trans X1.c3
 have y4 := (cX 4).trans X1.c4
 have z1 := k.2.2.size
 clear k q1 X1 eX cX x4
 rcases TK3.out with hk | hk | hk
 ·have hkk : takeK c.cap c.list c.cl = 0 := hk
  have HKK := hidW hkk
  rw [hkk]
  generalize htv : takeV c.cap c.list = tv at *
  have HTV := hidW htv
  clear hk hkk htv TV
  go_wp2_with fail
  refine (came_any tv 1 8 r a bb nn b S who pc (pc + 1) 0 rg w1 HQ1.out.r.t hr ha hb hrb).mono ?_
  rintro e w2 ⟨rfl, k2⟩
  have q2 := HQ1.out.r.put (W2 := (w1.setCell ⟨b, 5 + r.toNat, none⟩ (.int .i64 tv)).setCell ⟨b, 5 + bb.toNat, none⟩ (.int .i64 1)) (fun q hq => (Below.heap_setCell _ _ _ q hq).trans (Below.heap_setCell _ _ _ q hq)) (by simp) HQ1.out.r.bt.set.set (((Below.refl _ _).setCell (p := ⟨b, _, none⟩) h.hbb _).setCell (p := ⟨b, _, none⟩) h.hbb _) ((HQ1.out.r.t.reg _ (by omega) _).reg _ (by omega) _) k2
  have Q2 := hidW ((HQW.out.then HQ1.out).then q2)
  clear k2 q2 y0 y1 y2 y3 y4
  go_wp2
  go_ret
  refine ⟨?_, s3, n3, c3, L2', ?_⟩
  ·simp only [doM, Int.toNat_natCast, HEC.out]
   simp [chanH, HKK.out, HTV.out]
  ·simp only [doM, Int.toNat_natCast, HEC.out]
   simpa [chanR, chanC, bitN, HKK.out, HTV.out] using Q2.out
 ·have HTV := hidW (TV.out (by rw [hk]; decide))
  have HKK := hidW hk
  rw [hk]
  clear hk TV
  go_wp2_with fail
  refine (came_any 0 0 8 r a bb nn b S who pc (pc + 1) 0 rg w1 HQ1.out.r.t hr ha hb hrb).mono ?_
  rintro e w2 ⟨rfl, k2⟩
  have q2 := HQ1.out.r.put (W2 := (w1.setCell ⟨b, 5 + r.toNat, none⟩ (.int .i64 0)).setCell ⟨b, 5 + bb.toNat, none⟩ (.int .i64 0)) (fun q hq => (Below.heap_setCell _ _ _ q hq).trans (Below.heap_setCell _ _ _ q hq)) (by simp) HQ1.out.r.bt.set.set (((Below.refl _ _).setCell (p := ⟨b, _, none⟩) h.hbb _).setCell (p := ⟨b, _, none⟩) h.hbb _) ((HQ1.out.r.t.reg _ (by omega) _).reg _ (by omega) _) k2
  have Q2 := hidW ((HQW.out.then HQ1.out).then q2)
  clear k2 q2 y0 y1 y2 y3 y4
  go_wp2
  go_ret
  refine ⟨?_, s3, n3, c3, L2', ?_⟩
  ·simp only [doM, Int.toNat_natCast, HEC.out]
   simp [chanH, HKK.out, HTV.out]
  ·simp only [doM, Int.toNat_natCast, HEC.out]
   simpa [chanR, chanC, bitN, HKK.out, HTV.out] using Q2.out
 ·have HTV := hidW (TV.out (by rw [hk]; decide))
  have HKK := hidW hk
  rw [hk]
  clear hk TV
  go_wp2_with fail
  refine (came_any 0 2 8 r a bb nn b S who pc (pc + 1) 0 rg w1 HQ1.out.r.t hr ha hb hrb).mono ?_
  rintro e w2 ⟨rfl, k2⟩
  have q2 := HQ1.out.r.put (W2 := (w1.setCell ⟨b, 5 + r.toNat, none⟩ (.int .i64 0)).setCell ⟨b, 5 + bb.toNat, none⟩ (.int .i64 2)) (fun q hq => (Below.heap_setCell _ _ _ q hq).trans (Below.heap_setCell _ _ _ q hq)) (by simp) HQ1.out.r.bt.set.set (((Below.refl _ _).setCell (p := ⟨b, _, none⟩) h.hbb _).setCell (p := ⟨b, _, none⟩) h.hbb _) ((HQ1.out.r.t.reg _ (by omega) _).reg _ (by omega) _) k2
  have Q2 := hidW ((HQW.out.then HQ1.out).then q2)
  clear k2 q2 y0 y1 y2 y3 y4
  go_wp2
  go_ret
  refine ⟨?_, s3, n3, c3, L2', ?_⟩
  ·simp only [doM, Int.toNat_natCast, HEC.out]
   simp [chanH, HKK.out, HTV.out]
  ·simp only [doM, Int.toNat_natCast, HEC.out]
   simpa [chanR, chanC, bitN, HKK.out, HTV.out] using Q2.out
set_option maxHeartbeats 2000000 in
theorem do7 (o r a bb n : Int) (b S base n3 c3 : Nat) (s3 : Option Addr) (v1 v2 : Value) (L1 L2 : List (Rec × Value)) (d : SD) (who : Nat) (pc : Int) (rg : List Int) (w : World) (h : Rd w b S base v1 v2 (.slice s3 n3 c3) L1 L2 d who pc (pc + 1) 0 rg) (hr : 0 ≤ r ∧ r ≤ 3) (ha : 0 ≤ a ∧ a ≤ 3) (hb : 0 ≤ bb ∧ bb ≤ 3) (nn : Nat) (hn : n = nn) (c : CD) (hc : d.chs[nn]? = some c) (hcl : c.list.length ≤ 4) (hcn : d.chs.length ≤ 3) (hok : okC c.cap c.list.length = true) :
  Calls Tryz.prog 71 #[.pointer (some ⟨b, 0, none⟩), .agg #[.int .i64 7, .int .i64 r, .int .i64 a, .int .i64 bb, .int .i64 n]] w fun e w' => DoP w b S base v1 v2 (.slice s3 n3 c3) L1 L2 d who pc (doM ⟨pc, rg, 0⟩ ⟨7, r, a, bb, n⟩ d.chs d.tr who) e w' := by
 subst hn
 obtain ⟨r', hr'⟩ : ∃ r' : Nat, r = r' := ⟨r.toNat, by omega⟩
 subst hr'
 have br0 : (0 : Int) ≤ (r' : Int) := by omega
 have br1 : (r' : Int) < 4 := by omega
 obtain ⟨g2, c2, y9, e9, -⟩ := h.o.chanAt hc
 subst e9
 have ec : d.chs.getD nn zc = c := chs_at hc
 obtain ⟨W, hW, hx, kW, zW⟩ := Xb.new w (.int .i64 7) (.int .i64 r') (.int .i64 a) (.int .i64 bb) (.int .i64 nn) 85
 have HWW := hidW hW
 have HX := hidW hx
 have KW := hidW kW
 have QW := h.put (W2 := w) (fun q _ => rfl) rfl h.bt (Below.refl _ _) h.t kW
 have HQW := hidW QW
 have TV := hidW (fun q => takeV_none (c := c) hok q)
 have TK3 := hidW (takeK_three (cl := c.cl) hok)
 have zv2 : ∀ q, (Value.slice (some ⟨g2, 0, none⟩) d.chs.length c2).ownBlock = some q → q < w.heap.size := fun q hq => (h.o.hit (.inr (.inl (.inl hq)))).2
 have ZV2 := hidW zv2
 have HEC := hidW ec
 have x4 := hx.c4
 have xz := hx.z
 have bn0 : (0 : Int) ≤ (nn : Int) := by omega
 clear hW hx kW QW ec zv2
 go_enter Tryz.func71, Tryz.ntmps71
 have x0 := HX.out.c0
 have x1 := HX.out.c1
 have x2 := HX.out.c2
 have x3 := HX.out.c3
 go_wp2_with fail
 rw [HWW.out]
 refine (send_any 7 r' a bb nn b S base g2 c2 who pc (pc + 1) 0 rg v1 _ L1 L2 d c W HQW.out.r.t ha HQW.out.r.s HQW.out.r.o HQW.out.r.hb hc hcl hcn).mono ?_
 rintro e w1 ⟨rfl, k⟩
 clear x0 x1 x2 x3
 obtain ⟨L2', q1⟩ := HQW.out.r.chan k
 have HQ1 := hidW q1
 have X1 := HX.out
 have eX : w1.heap[w.heap.size]? = W.heap[w.heap.size]? := k.2.1 _ xz (fun e => by have := ZV2.out _ e; omega)
 have cX : ∀ j, w1.cell? ⟨w.heap.size, j, none⟩ = W.cell? ⟨w.heap.size, j, none⟩ := fun j => World.cell?_of_block eX
 have y0 := (cX 0).trans X1.c0
 have y1 := (cX 1).trans X1.c1
 have y2 := (cX 2).trans X1.c2
 have y3 := (cX 3).trans X1.c3
 have y4 := (cX 4).trans X1.c4
 have z1 := k.2.2.size
 clear k q1 X1 eX cX x4
 clear TK3 TV
 rcases sendK_three c.cap c.list c.cl with hk | hk | hk
 ·have HKK := hidW hk
  rw [hk]
  clear hk
  obtain ⟨c0, c1, c2', c3', c4, cr, cf, cz, -⟩ := HQ1.out.r.t
  have zx1 : w.heap.size < w1.heap.size := by omega
  have hne := ext_ne w1
  have u1 := Ext.fit y1 zx1
  go_wp2_with fail
  refine regionSuf w1 6 (by decide) (by kernel_rfl) (by kernel_rfl) (by kernel_rfl) (by kernel_rfl) ?_
  dsimp only [List.take, List.drop]
  repeat (go_big_quiet_step (fail))
  refine wpQuiet_nil ?_
  clear hne u1
  rintro w3 ⟨X3, rfl⟩
  obtain ⟨V2, hX3⟩ : ∃ V2, X3.w = V2 := ⟨_, rfl⟩
  have hb3 := X3.b
  rw [hX3] at hb3 ⊢
  have T2 := HQ1.out.r.t.below hb3 cz
  have lr2 : V2.cell? ⟨b, 5 + r', none⟩ = some (.int .i64 (rg.getD r' 0)) := T2.r r' (by omega)
  have ff2 := T2.f
  have zf2 := T2.z
  have q2 := HQ1.out.r.put (W2 := w1.setCell ⟨b, 5 + r', none⟩ (.int .i64 1)) (fun q hq => Below.heap_setCell _ _ _ q hq) (by simp) HQ1.out.r.bt.set ((Below.refl _ _).setCell (p := ⟨b, _, none⟩) h.hbb _) (HQ1.out.r.t.reg _ (by omega) _) (belowP hb3)
  have Q2 := hidW ((HQW.out.then HQ1.out).then q2)
  clear hb3 hX3 X3 T2 q2 y0 y1 y2 y3 y4 c0 c1 c2' c3' c4 cr cf cz
  go_wp2
  go_ret
  refine ⟨?_, s3, n3, c3, L2', ?_⟩
  ·simp only [doM, Int.toNat_natCast, HEC.out]
   simp [chanH, HKK.out]
  ·simp only [doM, Int.toNat_natCast, HEC.out]
   simpa [chanR, chanC, bitN, regN, HKK.out] using Q2.out
 ·have HKK := hidW hk
  rw [hk]
  clear hk
  obtain ⟨c0, c1, c2', c3', c4, cr, cf, cz, -⟩ := HQ1.out.r.t
  have zx1 : w.heap.size < w1.heap.size := by omega
  have hne := ext_ne w1
  have u1 := Ext.fit y1 zx1
  go_wp2_with fail
  refine regionSuf w1 6 (by decide) (by kernel_rfl) (by kernel_rfl) (by kernel_rfl) (by kernel_rfl) ?_
  dsimp only [List.take, List.drop]
  repeat (go_big_quiet_step (fail))
  refine wpQuiet_nil ?_
  clear hne u1
  rintro w3 ⟨X3, rfl⟩
  obtain ⟨V2, hX3⟩ : ∃ V2, X3.w = V2 := ⟨_, rfl⟩
  have hb3 := X3.b
  rw [hX3] at hb3 ⊢
  have T2 := HQ1.out.r.t.below hb3 cz
  have lr2 : V2.cell? ⟨b, 5 + r', none⟩ = some (.int .i64 (rg.getD r' 0)) := T2.r r' (by omega)
  have ff2 := T2.f
  have zf2 := T2.z
  have q2 := HQ1.out.r.put (W2 := w1.setCell ⟨b, 5 + r', none⟩ (.int .i64 0)) (fun q hq => Below.heap_setCell _ _ _ q hq) (by simp) HQ1.out.r.bt.set ((Below.refl _ _).setCell (p := ⟨b, _, none⟩) h.hbb _) (HQ1.out.r.t.reg _ (by omega) _) (belowP hb3)
  have Q2 := hidW ((HQW.out.then HQ1.out).then q2)
  clear hb3 hX3 X3 T2 q2 y0 y1 y2 y3 y4 c0 c1 c2' c3' c4 cr cf cz
  go_wp2
  go_ret
  refine ⟨?_, s3, n3, c3, L2', ?_⟩
  ·simp only [doM, Int.toNat_natCast, HEC.out]
   simp [chanH, HKK.out]
  ·simp only [doM, Int.toNat_natCast, HEC.out]
   simpa [chanR, chanC, bitN, regN, HKK.out] using Q2.out
 ·have HKK := hidW hk
  rw [hk]
  clear hk
  have Q2 := hidW (HQW.out.then HQ1.out)
  clear y0 y1 y2 y3 y4
  go_wp2
  go_ret
  refine ⟨?_, s3, n3, c3, L2', ?_⟩
  ·simp only [doM, Int.toNat_natCast, HEC.out]
   simp [chanH, HKK.out]
  ·simp only [doM, Int.toNat_natCast, HEC.out]
   simpa [chanR, chanC, regN, HKK.out] using Q2.out
end
section
set_option linter.unusedSimpArgs false
set_option linter.unusedVariables false
set_option maxRecDepth 100000
open Go.RowKit
set_option maxHeartbeats 4000000 in
theorem do10 (o r a bb n : Int) (b S base n3 c3 : Nat) (s3 : Option Addr) (v1 v2 : Value) (L1 L2 : List (Rec × Value)) (d : SD) (who : Nat) (pc : Int) (rg : List Int) (w : World) (h : Rd w b S base v1 v2 (.slice s3 n3 c3) L1 L2 d who pc (pc + 1) 0 rg) (hr : 0 ≤ r ∧ r ≤ 3) (ha : 0 ≤ a ∧ a ≤ 3) (hb : 0 ≤ bb ∧ bb ≤ 3) (htr : d.tr.length ≤ 4000) :
  Calls Tryz.prog 74 #[.pointer (some ⟨b, 0, none⟩), .agg #[.int .i64 10, .int .i64 r, .int .i64 a, .int .i64 bb, .int .i64 n]] w fun e w' => DoP w b S base v1 v2 (.slice s3 n3 c3) L1 L2 d who pc (doM ⟨pc, rg, 0⟩ ⟨10, r, a, bb, n⟩ d.chs d.tr who) e w' := by
 obtain ⟨s9, c9, e9⟩ := ownSl h.o.n
 injection e9 with h1 h2 h3
 subst h2
 clear h1 h3
 obtain ⟨a', ha'⟩ : ∃ a' : Nat, a = a' := ⟨a.toNat, by omega⟩
 subst ha'
 have ba0 : (0 : Int) ≤ (a' : Int) := by omega
 have ba1 : (a' : Int) < 4 := by omega
 obtain ⟨W, hW, hx, kW, zW⟩ := Xb.new w (.int .i64 10) (.int .i64 r) (.int .i64 a') (.int .i64 bb) (.int .i64 n) 85
 have HWW := hidW hW
 have HX := hidW hx
 have KW := hidW kW
 have QW := h.put (W2 := w) (fun q _ => rfl) rfl h.bt (Below.refl _ _) h.t kW
 have HQW := hidW QW
 have HH := hidW h
 have HTN := hidW h.o.n
 obtain ⟨va, hva⟩ : ∃ v, rg.getD a' 0 = v := ⟨_, rfl⟩
 have HVA := hidW hva
 have TB : Hid (∀ q, (Value.slice s3 d.tr.length c3).ownBlock = some q → q < w.heap.size) := fun q hq => (World.ownsRow.lt HTN.out _ hq).2
 have TN : ∀ q, w.heap.size ≤ q → (Value.slice s3 d.tr.length c3).ownBlock ≠ some q := fun q hq e => by have := TB.out q e; omega
 have Tb : (Value.slice s3 d.tr.length c3).ownBlock ≠ some b := own_bxU HTN.out (by decide) h.bt
 have TS : (Value.slice s3 d.tr.length c3).ownBlock ≠ some S := own_bxS HTN.out (by decide) h.bs
 have hz := h.t.z
 have hzS := h.s.z
 have hbs := h.hb
 have hS0 := h.hS
 have hbb0 := h.hbb
 have nbS := h.ne
 obtain ⟨c0, c1, c2', c3', c4, cr, cf, cz, -⟩ := QW.r.t
 obtain ⟨q0, q1, q2, qf, qz⟩ := QW.r.s
 have la : W.cell? ⟨b, 5 + a', none⟩ = some (.int .i64 va) := by rw [← hva]; exact cr a' (by omega)
 have x2 := hx.c2
 have xz := hx.z
 clear hW hx kW QW hva h
 have hne := extN_ne W (Value.slice s3 d.tr.length c3).ownBlock
 have u1 := ExtN.fit x2 xz (TN _ (Nat.le_refl _))
 have u2 := ExtN.fit q2 qz TS
 have u3 := ExtN.fit c0 cz Tb
 have u4 := ExtN.fit c1 cz Tb
 have ua := ExtN.fit la cz Tb
 go_enter Tryz.func74, Tryz.ntmps74
 go_upto_region 1 with fail
 rw [HWW.out]
 refine regionMix W (CN W (Value.slice s3 d.tr.length c3).ownBlock) 23 25 (by kernel_rfl) (by kernel_rfl) (fun _ _ d _ _ h => by cases d <;> exact h) (CN.drew _ _) ?_
 unfold CN
 dsimp only [List.take, List.drop]
 repeat (go_big_quiet_step (fail))
 refine wpQuiet_nil ?_
 clear hne u1 u2 u3 u4 ua c0 c1 c2' c3' c4 cr cf cz q0 q1 q2 qf qz la x2
 have OT := hidW (show OwnD (W.drew.alloc (.cells #[.int .i64 who, .int .i64 va] 67)) base (.slice s3 d.tr.length c3) d.tr from ownKeep' HTN.out (fun q hq => by have := TB.out q hq; exact (Below.heap_alloc W.drew _ _ (by show q < W.heap.size; omega)).trans (KW.out.block q this)))
 have QY := hidW (HH.out.o.keep (w' := W.drew.alloc (.cells #[.int .i64 who, .int .i64 va] 67)) (fun b _ hb1 => (Below.heap_alloc W.drew _ _ (by show b < W.heap.size; omega)).trans (KW.out.block b hb1)))
 unfold wpListC
 go_wp2
 refine And.intro (fun _ hc => CN.below hc ((Below.refl _ _).alloc (Nat.le_refl _) _)) ?_
 unfold wpListC
 refine app_note rfl _ _ rfl (W.drew.alloc (.cells #[.int .i64 who, .int .i64 va] 67)) base (.slice s3 d.tr.length c3) d.tr.length (flatN d.tr) rfl OT.out W.heap.size (.int .i64 who) (.int .i64 va) rfl rfl rfl (by simp [go_sem]) (by simp [go_sem]) (by omega) (by simp; show base ≤ W.heap.size + 1; omega) ?_
 intro g6 c6 w6 ho6 hg6 hn6 hl6
 refine And.intro (fun _ hc => CN.grown hc hg6) ?_
 refine listC_late _ _ _ _ (by decide) ?_
 have e6 : ∀ q, q < w.heap.size → (Value.slice s3 d.tr.length c3).ownBlock ≠ some q → w6.heap[q]? = w.heap[q]? := fun q h1 h2 => (hg6.block q (by simp; show q < W.heap.size + 1; omega) (fun e => h2 e.symm)).trans ((Below.heap_alloc W.drew _ _ (by show q < W.heap.size; omega)).trans (KW.out.block q h1))
 have zs6 : W.heap.size < w6.heap.size := by have := hg6.size; simp at this; have h9 : W.drew.heap.size = W.heap.size := rfl; omega
 have Q6 := hidW (QY.out.note (⟨who, va⟩ : ND) (v4 := .slice (some ⟨g6, 0, none⟩) (d.tr.length + 1) c6) (by
  show w6.ownsRow base 67 2 _ (d.tr ++ [(⟨who, va⟩ : ND)]).length (flatN (d.tr ++ [(⟨who, va⟩ : ND)]))
  rw [flatN_app, List.length_append]
  exact ho6) (fun b h1 h2 => hg6.block b h1 (fun e => h2 e.symm)))
 have K6 := hidW ((KW.out.mono hbs).trans (Below.grown (((Below.drew (Below.refl _ _)).alloc (by show base ≤ W.heap.size; omega) _)) hg6 (by simp; show base ≤ W.heap.size + 1; omega) (fun q hq => (World.ownsRow.lt HTN.out _ hq).1)))
 have HN6 : Hid ((Value.slice s3 d.tr.length c3).ownBlock = some g6 ∨ w.heap.size ≤ g6) := hn6.imp id (fun h9 => by simp at h9; have h8 : W.drew.heap.size = W.heap.size := rfl; omega)
 have E6 := hidW e6
 have T6 := hidW (HH.out.t.same (e6 b hz Tb) (by omega))
 have S6 := hidW (HH.out.s.keep (e6 S hzS TS) (by omega))
 have BS6 := hidW (HH.out.bs.same (e6 S hzS TS))
 have BT6 := hidW (HH.out.bt.same (e6 b hz Tb))
 clear ho6 hg6 hn6 hl6 OT QY HTN TB TN Tb TS e6
 obtain ⟨c0, c1, c2', c3', c4, cr, cf, cz, -⟩ := T6.out
 obtain ⟨q0, q1, q2, qf, qz⟩ := S6.out
 go_wp2
 go_ret
 refine ⟨by simp [doM], some ⟨g6, 0, none⟩, d.tr.length + 1, c6, L2, ?_⟩
 have hq : DoQ w b S base v1 v2 (.slice s3 d.tr.length c3) L1 L2 d who pc (pc + 1) 0 rg d.chs (d.tr ++ [(⟨who, va⟩ : ND)]) (some ⟨g6, 0, none⟩) (d.tr.length + 1) c6 L2 (w6.setCell ⟨S, 2, none⟩ (.slice (some ⟨g6, 0, none⟩) (d.tr.length + 1) c6)) := by
  refine ⟨⟨T6.out.same (Below.heap_setCell _ _ _ b nbS) (by simp), S6.out.set2 _, BS6.out.set, BT6.out.set, Q6.out.offB BS6.out, nbS, by simp; omega, hS0, hbb0⟩, fun q hq => ?_, fun q h1 h2 h3 h4 => (Below.heap_setCell _ _ _ q h4).trans (E6.out q h1 (fun e => h3 (.inr (.inr e)))), Below.setCell K6.out hS0 _⟩
  rcases hq with hq | hq | hq
  ·exact .inl (.inl hq)
  ·exact .inl (.inr (.inl hq))
  ·have e : g6 = q := Option.some.inj hq
   subst e
   exact HN6.out.imp (fun a => .inr (.inr a)) id
 have ev : regN rg (a' : Int) = va := by simp only [regN, Int.toNat_natCast, HVA.out]
 simp only [doM]
 simpa [ev] using hq
end
section
set_option linter.unusedSimpArgs false
set_option linter.unusedVariables false
set_option maxRecDepth 100000
open Go.RowKit
theorem app_cpy4 {ops : Array Oper} {rest : List Oper} {o : Oper} {a : Act} {Q : Exit → Act → World → Prop} (hgd : o.guard = none) (d s : Operand) (ho : o.op = .call { callee := .builtin .copy, args := #[d, s], argTypes := #[24, 24] })
  (w : World) (R : Nat) (cur : List Value) (hg : w.heap[R]? = some (.cells cur.toArray 3 (0, 0))) (dc sc : Nat) (g off : Nat) (hd : a.eval d = .slice (some ⟨R, 0, none⟩) 4 dc) (hs : a.eval s = .slice (some ⟨g, off, none⟩) 4 sc) (l : List Int) (hl : l.length = 4)
  (hc : ∀ i, i < l.length → w.cell? ⟨g, off + i, none⟩ = some (.int .i64 (l.getD i 0))) (hfit : 4 ≤ cur.length)
  (h : ∀ w', w'.heap[R]? = some (.cells (splice cur 0 (l.map (Value.int .i64))).toArray 3 (0, 0)) → (∀ q, q ≠ R → w'.heap[q]? = w.heap[q]?) → w'.heap.size = w.heap.size → w'.os = w.os → w'.tape = w.tape → w'.output = w.output → wpList Tryz.prog ops Q rest (a.put o.dst (.int .i64 4)) w') : wpList Tryz.prog ops Q (o :: rest) a w := by
 refine wpList_copy_own hgd d s 24 24 ho 3 Tryz.underlying24 rfl R 0 4 dc ⟨g, off, none⟩ 4 sc hd hs cur.toArray 3 hg (l.map (Value.int .i64)) (by simp [hl]) (news_row hc) (by simpa [hl] using hfit) (fun v hv => by obtain ⟨z, -, rfl⟩ := List.mem_map.1 hv; rfl) ?_
 rw [List.length_map, hl]
 refine h _ ?_ (fun q hq => setRow_other w R q _ hq) (by simp [World.setRow]) rfl rfl rfl
 have := setRow_heap w R _ (cur.take 0 ++ (l.map (Value.int .i64) ++ cur.drop (0 + 4))).toArray 3 _ hg
 simpa [splice, hl] using this
/- four registers written one by one, and at once -/
def put4 (w : World) (g : Nat) (a b c d : Int) : World := (((w.setCell ⟨g, 0, none⟩ (.int .i64 a)).setCell ⟨g, 1, none⟩ (.int .i64 b)).setCell ⟨g, 2, none⟩ (.int .i64 c)).setCell ⟨g, 3, none⟩ (.int .i64 d)
theorem put4_off {w : World} {g q : Nat} {a b c d : Int} (h : q ≠ g) : (put4 w g a b c d).heap[q]? = w.heap[q]? := by
 unfold put4
 rw [Below.heap_setCell _ _ _ q h, Below.heap_setCell _ _ _ q h, Below.heap_setCell _ _ _ q h, Below.heap_setCell _ _ _ q h]
theorem put4_at {w : World} {g : Nat} {x0 x1 x2 x3 : Value} {rest : List Value} {T : TypeId} {f : Nat × Nat} {a b c d : Int} (h : w.heap[g]? = some (.cells (x0 :: x1 :: x2 :: x3 :: rest).toArray T f)) : (put4 w g a b c d).heap[g]? = some (.cells (splice (x0 :: x1 :: x2 :: x3 :: rest) 0 [Value.int .i64 a, .int .i64 b, .int .i64 c, .int .i64 d]).toArray T f) := by
 unfold put4
 rw [heap_setS (heap_setS (heap_setS (heap_setS h)))]
 simp [splice]
theorem OwnS.put4 {w : World} {base g c : Nat} {v1 v2 v3 : Value} {L1 L2 : List (Rec × Value)} {d : SD} (h : OwnS w base v1 v2 v3 L1 L2 d) {k : Nat} {t : TD} {x : Rec × Value} (hx : L1[k]? = some x) (ht : d.ths[k]? = some t) (hx2 : x.2 = .slice (some ⟨g, 0, none⟩) 4 c) (h4 : t.regs.length = 4) (a b c' e : Int) :
  ∃ L1', OwnS (put4 w g a b c' e) base v1 v2 v3 L1' L2 ⟨d.ths.set k ⟨t.pc, [a, b, c', e], t.st⟩, d.chs, d.tr⟩ ∧ (∀ q, HitQ v1 L1' q → HitQ v1 L1 q) ∧ ∃ x', L1'[k]? = some x' ∧ x'.2 = .slice (some ⟨g, 0, none⟩) 4 c := by
 have hkl : k < d.ths.length := (List.getElem?_eq_some_iff.1 ht).1
 obtain ⟨pc, rg, st⟩ := t
 simp only at h4
 obtain ⟨r0, r1, r2, r3, rfl⟩ : ∃ a b c d, rg = [a, b, c, d] := by
  match rg, h4 with
  | [a, b, c, d], _ => exact ⟨a, b, c, d, rfl⟩
 obtain ⟨M1, e1, o1, q1⟩ := h.setR hx ht hx2 rfl 0 a
 have t1 : (d.ths.set k ⟨pc, [a, r1, r2, r3], st⟩)[k]? = some ⟨pc, [a, r1, r2, r3], st⟩ := List.getElem?_set_self hkl
 obtain ⟨M2, e2, o2, q2⟩ := OwnS.setR (d := ⟨d.ths.set k ⟨pc, [a, r1, r2, r3], st⟩, d.chs, d.tr⟩) o1 e1 t1 hx2 rfl 1 b
 simp only [List.set_set] at o2
 have t2 : (d.ths.set k ⟨pc, [a, b, r2, r3], st⟩)[k]? = some ⟨pc, [a, b, r2, r3], st⟩ := List.getElem?_set_self hkl
 obtain ⟨M3, e3, o3, q3⟩ := OwnS.setR (d := ⟨d.ths.set k ⟨pc, [a, b, r2, r3], st⟩, d.chs, d.tr⟩) o2 e2 t2 hx2 rfl 2 c'
 simp only [List.set_set] at o3
 have t3 : (d.ths.set k ⟨pc, [a, b, c', r3], st⟩)[k]? = some ⟨pc, [a, b, c', r3], st⟩ := List.getElem?_set_self hkl
 obtain ⟨M4, e4, o4, q4⟩ := OwnS.setR (d := ⟨d.ths.set k ⟨pc, [a, b, c', r3], st⟩, d.chs, d.tr⟩) o3 e3 t3 hx2 rfl 3 e
 simp only [List.set_set] at o4
 exact ⟨M4, o4, fun q hq => q1 q (q2 q (q3 q (q4 q hq))), _, e4, hx2⟩
/- the registers are the thread's -/
structure Mid (w w2 : World) (b S base g1 c1 n3 c3 k : Nat) (s3 : Option Addr) (v2 : Value) (L1 L2 L1' : List (Rec × Value)) (d : SD) (who pc nx st : Int) (rg : List Int) (t : TD) : Prop where
 o : OwnS w2 base (.slice (some ⟨g1, 0, none⟩) d.ths.length c1) v2 (.slice s3 n3 c3) L1' L2 ⟨d.ths.set k ⟨t.pc, rg, t.st⟩, d.chs, d.tr⟩
 t : Tn w2 b S who pc nx st rg
 s : BoF S w2 (.slice (some ⟨g1, 0, none⟩) d.ths.length c1) v2 (.slice s3 n3 c3)
 bs : BxS w2 S
 h : ∀ q, HitQ (.slice (some ⟨g1, 0, none⟩) d.ths.length c1) L1' q → HitQ (.slice (some ⟨g1, 0, none⟩) d.ths.length c1) L1 q
 f : ∀ q, q < w.heap.size → ¬ HitS (.slice (some ⟨g1, 0, none⟩) d.ths.length c1) v2 (.slice s3 n3 c3) L1 L2 q → w2.heap[q]? = w.heap[q]?
 b : Below base w w2
structure SetQ (w w2 : World) (S base g1 c1 n3 c3 k : Nat) (s3 : Option Addr) (v2 : Value) (L1 L2 L1' : List (Rec × Value)) (d : SD) (T : TD) : Prop where
 o : OwnS w2 base (.slice (some ⟨g1, 0, none⟩) d.ths.length c1) v2 (.slice s3 n3 c3) L1' L2 ⟨d.ths.set k T, d.chs, d.tr⟩
 s : BoF S w2 (.slice (some ⟨g1, 0, none⟩) d.ths.length c1) v2 (.slice s3 n3 c3)
 bs : BxS w2 S
 h : ∀ q, HitQ (.slice (some ⟨g1, 0, none⟩) d.ths.length c1) L1' q → HitQ (.slice (some ⟨g1, 0, none⟩) d.ths.length c1) L1 q
 f : ∀ q, q < w.heap.size → ¬ HitS (.slice (some ⟨g1, 0, none⟩) d.ths.length c1) v2 (.slice s3 n3 c3) L1 L2 q → w2.heap[q]? = w.heap[q]?
 b : Below base w w2
theorem ths_same {t : TD} {ths : List TD} {k : Nat} (h : ths[k]? = some t) : ths.set k t = ths := by
 apply List.ext_getElem?
 intro j
 by_cases e : j = k
 ·subst e
  rw [List.getElem?_set_self (List.getElem?_eq_some_iff.1 h).1, h]
 ·rw [List.getElem?_set_ne (Ne.symm e)]
theorem mid_eq {w w2 : World} {b S base g1 c1 n3 c3 k : Nat} {s3 : Option Addr} {v2 : Value} {L1 L2 : List (Rec × Value)} {d : SD} {who pc nx st : Int} {rg : List Int} {t : TD} (h : Rd w b S base (.slice (some ⟨g1, 0, none⟩) d.ths.length c1) v2 (.slice s3 n3 c3) L1 L2 d who pc nx st rg) (ht : d.ths[k]? = some t) (e : rg = t.regs) (kk : Below w.heap.size w w2) : Mid w w2 b S base g1 c1 n3 c3 k s3 v2 L1 L2 L1 d who pc nx st rg t := by
 have q := h.put (W2 := w) (fun q _ => rfl) rfl h.bt (Below.refl _ _) h.t kk
 refine ⟨?_, q.r.t, q.r.s, q.r.bs, fun _ hq => hq, fun q h1 _ => kk.block q h1, kk.mono h.hb⟩
 have e2 : d.ths.set k ⟨t.pc, rg, t.st⟩ = d.ths := by rw [e]; exact ths_same ht
 rw [e2]
 exact q.r.o
theorem mid_ne {w w1 w2 : World} {b S base g1 c1 n3 c3 k gr cr : Nat} {s3 : Option Addr} {v2 : Value} {L1 L2 : List (Rec × Value)} {d : SD} {who pc nx st : Int} {t : TD} {y : Rec × Value} {a0 a1 a2 a3 : Int} {x0 x1 x2 x3 : Value} {rest : List Value} {T : TypeId} (h : Rd w b S base (.slice (some ⟨g1, 0, none⟩) d.ths.length c1) v2 (.slice s3 n3 c3) L1 L2 d who pc nx st [a0, a1, a2, a3]) (ht : d.ths[k]? = some t) (h4 : t.regs.length = 4) (hy : L1[k]? = some y) (hy2 : y.2 = .slice (some ⟨gr, 0, none⟩) 4 cr) (kk : Below w.heap.size w w1) (hgr : base ≤ gr) (hg : w1.heap[gr]? = some (.cells (x0 :: x1 :: x2 :: x3 :: rest).toArray T (0, 0))) (hw : w2.heap[gr]? = some (.cells (splice (x0 :: x1 :: x2 :: x3 :: rest) 0 ([a0, a1, a2, a3].map (Value.int .i64))).toArray T (0, 0))) (hf : ∀ q, q ≠ gr → w2.heap[q]? = w1.heap[q]?) (hs : w2.heap.size = w1.heap.size) (hos : w2.os = w1.os) (htp : w2.tape = w1.tape) (hou : w2.output = w1.output) : ∃ L1', Mid w w2 b S base g1 c1 n3 c3 k s3 v2 L1 L2 L1' d who pc nx st [a0, a1, a2, a3] t := by
 have q := h.put (W2 := w) (fun q _ => rfl) rfl h.bt (Below.refl _ _) h.t kk
 obtain ⟨L1', o, hh, -⟩ := q.r.o.put4 hy ht hy2 h4 a0 a1 a2 a3
 have hit : HitS (.slice (some ⟨g1, 0, none⟩) d.ths.length c1) v2 (.slice s3 n3 c3) L1 L2 gr := .inl (.inr ⟨k, y, hy, by rw [hy2]; rfl⟩)
 have nb : b ≠ gr := fun e => h.o.hitU h.bt (by rw [e]; exact hit)
 have nS : S ≠ gr := fun e => h.o.hitB h.bs (by rw [e]; exact hit)
 have e2 : ∀ q, w2.heap[q]? = (put4 w1 gr a0 a1 a2 a3).heap[q]? := fun q => by
  by_cases e : q = gr
  ·subst e
   rw [hw, put4_at hg]
   rfl
  ·rw [hf q e, put4_off e]
 refine ⟨L1', o.keepB (fun q _ => e2 q), q.r.t.same (hf b nb) (by omega), q.r.s.keep (hf S nS) (by omega), q.r.bs.same (hf S nS), hh, fun q h1 h2 => (hf q (fun e => h2 (by rw [e]; exact hit))).trans (kk.block q h1), ?_⟩
 exact (kk.mono h.hb).trans ⟨hos, htp, hou, by omega, fun q hq => hf q (by omega)⟩
theorem mid_fault {w w2 : World} {b S base g1 c1 n3 c3 k : Nat} {s3 : Option Addr} {v2 : Value} {L1 L2 L1' : List (Rec × Value)} {d : SD} {who pc nx st : Int} {rg : List Int} {t : TD} (h : Mid w w2 b S base g1 c1 n3 c3 k s3 v2 L1 L2 L1' d who pc nx st rg t) (hk : k < d.ths.length) (hg : base ≤ g1) : ∃ M, SetQ w (w2.setCell ⟨g1, k * 3 + 2, none⟩ (.int .i64 2)) S base g1 c1 n3 c3 k s3 v2 L1 L2 M d ⟨t.pc, rg, 2⟩ := by
 have q9 : OwnS w2 base (.slice (some ⟨g1, 0, none⟩) (⟨d.ths.set k ⟨t.pc, rg, t.st⟩, d.chs, d.tr⟩ : SD).ths.length c1) v2 (.slice s3 n3 c3) L1' L2 ⟨d.ths.set k ⟨t.pc, rg, t.st⟩, d.chs, d.tr⟩ := by simp only [List.length_set]; exact h.o
 have T9 : (d.ths.set k ⟨t.pc, rg, t.st⟩)[k]? = some ⟨t.pc, rg, t.st⟩ := List.getElem?_set_self hk
 obtain ⟨M, o, hh⟩ := (q9.setT T9 2).2
 simp only [List.length_set, List.set_set] at o hh
 have nS : S ≠ g1 := fun e => h.o.hitB h.bs (by rw [e]; exact .inl (.inl rfl))
 exact ⟨M, o, h.s.keep (Below.heap_setCell _ _ _ S nS) (by simp), h.bs.set, fun q hq => h.h q (hh q hq), fun q h1 h2 => (Below.heap_setCell _ _ _ q (fun e => h2 (.inl (.inl (by rw [e]; rfl))))).trans (h.f q h1 h2), Below.setCell h.b hg _⟩
theorem mid_done {w w2 : World} {b S base g1 c1 n3 c3 k : Nat} {s3 : Option Addr} {v2 : Value} {L1 L2 L1' : List (Rec × Value)} {d : SD} {who pc nx st : Int} {rg : List Int} {t : TD} (h : Mid w w2 b S base g1 c1 n3 c3 k s3 v2 L1 L2 L1' d who pc nx st rg t) (hk : k < d.ths.length) (hg : base ≤ g1) : ∃ M, SetQ w ((w2.setCell ⟨g1, k * 3, none⟩ (.int .i64 nx)).setCell ⟨g1, k * 3 + 2, none⟩ (.int .i64 st)) S base g1 c1 n3 c3 k s3 v2 L1 L2 M d ⟨nx, rg, st⟩ := by
 have q9 : OwnS w2 base (.slice (some ⟨g1, 0, none⟩) (⟨d.ths.set k ⟨t.pc, rg, t.st⟩, d.chs, d.tr⟩ : SD).ths.length c1) v2 (.slice s3 n3 c3) L1' L2 ⟨d.ths.set k ⟨t.pc, rg, t.st⟩, d.chs, d.tr⟩ := by simp only [List.length_set]; exact h.o
 have T9 : (d.ths.set k ⟨t.pc, rg, t.st⟩)[k]? = some ⟨t.pc, rg, t.st⟩ := List.getElem?_set_self hk
 obtain ⟨M, o, hh⟩ := (q9.setT T9 nx).1
 simp only [List.length_set, List.set_set] at o hh
 have q8 : OwnS (w2.setCell ⟨g1, k * 3, none⟩ (.int .i64 nx)) base (.slice (some ⟨g1, 0, none⟩) (⟨d.ths.set k ⟨nx, rg, t.st⟩, d.chs, d.tr⟩ : SD).ths.length c1) v2 (.slice s3 n3 c3) M L2 ⟨d.ths.set k ⟨nx, rg, t.st⟩, d.chs, d.tr⟩ := by simp only [List.length_set]; exact o
 have T8 : (d.ths.set k ⟨nx, rg, t.st⟩)[k]? = some ⟨nx, rg, t.st⟩ := List.getElem?_set_self hk
 obtain ⟨M2, o2, hh2⟩ := (q8.setT T8 st).2
 simp only [List.length_set, List.set_set] at o2 hh2
 have nS : S ≠ g1 := fun e => h.o.hitB h.bs (by rw [e]; exact .inl (.inl rfl))
 exact ⟨M2, o2, (h.s.keep (Below.heap_setCell _ _ _ S nS) (by simp)).keep (Below.heap_setCell _ _ _ S nS) (by simp), h.bs.set.set, fun q hq => h.h q (hh q (hh2 q hq)), fun q h1 h2 => (Below.heap_setCell _ _ _ q (fun e => h2 (.inl (.inl (by rw [e]; rfl))))).trans ((Below.heap_setCell _ _ _ q (fun e => h2 (.inl (.inl (by rw [e]; rfl))))).trans (h.f q h1 h2)), Below.setCell (Below.setCell h.b hg _) hg _⟩
theorem own_cur {w : World} {base g c : Nat} {l : List Int} (h : OwnN w base (.slice (some ⟨g, 0, none⟩) 4 c) l) (h4 : l.length = 4) : ∃ x0 x1 x2 x3 rest, w.heap[g]? = some (.cells (x0 :: x1 :: x2 :: x3 :: rest).toArray 3 (0, 0)) := by
 rcases h.2 with ⟨q, -⟩ | ⟨g', cap, cur, q, -, hc, h1, h2, h3, h5⟩
 ·cases q
 ·injection q with q1 q2 q3
  injection q1 with q1
  injection q1 with q1
  subst q1
  have hl : 4 ≤ cur.toList.length := by simp at h1 h2 h3 ⊢; omega
  match hcu : cur.toList, hl with
  | x0 :: x1 :: x2 :: x3 :: rest, _ =>
   refine ⟨x0, x1, x2, x3, rest, ?_⟩
   rw [hc, ← hcu]
end
end Go.Proofs.YtknffngbdakblaaGreat
