/- What a turn's doing makes of it, and that this is a step. No condition. What a turn stands on, and what a doing makes of it. No condition. A turn's doings on channels, whole. Conditions: the channel is ChanOk, of at most four numbers. -/
import Derived.Test.YteefnjngcnebpaaGreatJG00
import Derived.Test.YteefnjngcnebpaaGreatJG06
import Derived.Test.YteefnjngcnebpaaGreatJG01
import Derived.Test.YteefnjngcnebpaaGreatJG03
import Derived.Test.YteefnjngcnebpaaGreatJG02
import Derived.Test.YteefnjngcnebpaaGreatJChA
import Derived.Test.YteefnjngcnebpaaGreatJG07
import Derived.Test.YteefnjngcnebpaaGreatJG09
import Derived.Test.YteefnjngcnebpaaGreatJStepIm2
import Derived.Test.YteefnjngcnebpaaGreatJStepIm1
import Derived.Test.YteefnjngcnebpaaGreatJG08
import Derived.Test.YteefnjngcnebpaaGreatJStepIm3
namespace Go.Proofs.YteefnjngcnebpaaGreat
section
set_option linter.unusedSimpArgs false
set_option linter.unusedVariables false
set_option maxRecDepth 100000
open Go.RowKit
structure DR where
 code : Int
 nx : Int
 st : Int
 rg : List Int
 chs : List CD
 tr : List ND
def doM (t : TD) (x : I5) (chs : List CD) (tr : List ND) (k : Nat) : DR :=
 if x.o = 1 then ⟨0, t.pc + 1, 0, putN t.regs x.r x.n, chs, tr⟩
 else if x.o = 2 then ⟨0, t.pc + 1, 0, putN t.regs x.r (IntKind.i64.wrap (regN t.regs x.a + regN t.regs x.b)), chs, tr⟩
 else if x.o = 3 then ⟨0, t.pc + 1, 0, putN t.regs x.r (IntKind.i64.wrap (regN t.regs x.a - regN t.regs x.b)), chs, tr⟩
 else if x.o = 4 then ⟨0, t.pc + 1, 0, putN t.regs x.r (bitN (decide (regN t.regs x.a < regN t.regs x.b))), chs, tr⟩
 else if x.o = 10 then ⟨0, t.pc + 1, 0, t.regs, chs, tr ++ [⟨k, regN t.regs x.a⟩]⟩
 else if x.o = 11 then ⟨0, x.n, 0, t.regs, chs, tr⟩
 else if x.o = 12 then ⟨0, if regN t.regs x.a = 0 then x.n else t.pc + 1, 0, t.regs, chs, tr⟩
 else if x.o = 13 then ⟨0, t.pc, 1, t.regs, chs, tr⟩
 else ⟨chanH x.o (chs.getD x.n.toNat zc), t.pc + 1, 0, chanR x.o t.regs (chs.getD x.n.toNat zc) x.r.toNat x.b.toNat, chs.set x.n.toNat (chanC x.o (chs.getD x.n.toNat zc) (regN t.regs x.a)), tr⟩
def settleT (t : TD) (b : Nat) (o : DR) : TD := if o.code = 2 ∨ ¬ (0 ≤ o.nx ∧ o.nx < b) then ⟨t.pc, o.rg, 2⟩ else ⟨o.nx, o.rg, o.st⟩
theorem settle_move {t : TD} {b : Nat} {o : DR} (hc : o.code ≠ 2) (hs : o.st = 0) : settleT t b o = moveT t b o.rg o.nx := by
 unfold settleT moveT
 by_cases h : 0 ≤ o.nx ∧ o.nx < b
 ·rw [if_neg (fun q => by rcases q with q | q; exact hc q; exact q h), if_pos h, hs]
 ·rw [if_pos (.inr h), if_neg h]
theorem chan_same {c : CD} {chs : List CD} {n : Nat} (h : chs[n]? = some c) : chs.set n c = chs := by
 apply List.ext_getElem?
 intro j
 by_cases e : j = n
 ·subst e
  rw [List.getElem?_set_self (List.getElem?_eq_some_iff.1 h).1, h]
 ·rw [List.getElem?_set_ne (Ne.symm e)]
theorem chs_at {c : CD} {chs : List CD} {n : Nat} (h : chs[n]? = some c) : chs.getD n zc = c := by rw [List.getD_eq_getElem?_getD, h]; rfl
theorem chanC_wait {o : Int} {c : CD} {v : Int} (hok : okC c.cap c.list.length = true) (hop : o = 5 ∨ o = 6 ∨ o = 7 ∨ o = 8 ∨ o = 9) (h : chanH o c = 1) : chanC o c v = c ∧ (o = 5 ∨ o = 6) := by
 obtain ⟨cap, l, cl⟩ := c
 simp only at hok
 rcases hop with rfl | rfl | rfl | rfl | rfl
 ·have hk : sendK cap l cl = 1 := by simpa [chanH] using h
  refine ⟨?_, .inl rfl⟩
  have q : ¬ (okC cap l.length = true ∧ cl = false ∧ (l.length : Int) < cap) := fun q => by
   unfold sendK at hk
   rw [if_pos ⟨q.1, q.2.1⟩, if_pos q.2.2] at hk
   cases hk
  simp [chanC, sendL, q]
 ·have hk : takeK cap l cl = 1 := by
   by_cases e : takeK cap l cl = 1
   ·exact e
   ·simp [chanH, e] at h
  refine ⟨?_, .inr rfl⟩
  unfold takeK at hk
  rw [if_pos hok] at hk
  by_cases e : l = []
  ·subst e
   simp [chanC, takeL]
  ·rw [if_neg e] at hk
   cases hk
 ·by_cases e : sendK cap l cl = 2 <;> simp [chanH, e] at h
 ·simp [chanH] at h
 ·exfalso
  have : closeK cap l cl = 1 := by simpa [chanH] using h
  unfold closeK at this
  split at this <;> cases this
/- a step is what a doing makes, settled -/
theorem doM_step (b : Nat) (pc : Int) (rg : List Int) (o : Int) (r a bb n : Nat) (n' : Int) (chs : List CD) (tr : List ND) (k : Nat) (h0 : 0 ≤ pc) (h1 : pc < b) (hop : 1 ≤ o ∧ o ≤ 13) (hn : 5 ≤ o → o ≤ 9 → n' = n) (hch : 5 ≤ o → o ≤ 9 → ∃ c, chs[n]? = some c ∧ okC c.cap c.list.length = true) (hnr : ¬ (o = 10 ∧ tr.length = 4000)) :
  stepO b ⟨pc, rg, 0⟩ ⟨o, r, a, bb, n'⟩ chs tr k = if (doM ⟨pc, rg, 0⟩ ⟨o, r, a, bb, n'⟩ chs tr k).code = 1 then ⟨⟨pc, rg, 0⟩, chs, tr, 4⟩ else ⟨settleT ⟨pc, rg, 0⟩ b (doM ⟨pc, rg, 0⟩ ⟨o, r, a, bb, n'⟩ chs tr k), (doM ⟨pc, rg, 0⟩ ⟨o, r, a, bb, n'⟩ chs tr k).chs, (doM ⟨pc, rg, 0⟩ ⟨o, r, a, bb, n'⟩ chs tr k).tr, 0⟩ := by
 by_cases h5 : 5 ≤ o ∧ o ≤ 9
 ·have hop5 : o = 5 ∨ o = 6 ∨ o = 7 ∨ o = 8 ∨ o = 9 := by omega
  obtain ⟨c, hc, hok⟩ := hch h5.1 h5.2
  have en := hn h5.1 h5.2
  subst en
  rw [stepO_chan b ⟨pc, rg, 0⟩ o r a bb n chs tr k c hc hok hop5]
  have e : doM ⟨pc, rg, 0⟩ ⟨o, r, a, bb, n⟩ chs tr k = ⟨chanH o c, pc + 1, 0, chanR o rg c r bb, chs.set n (chanC o c (rg.getD a 0)), tr⟩ := by
   have e1 : chs.getD n zc = c := by rw [List.getD_eq_getElem?_getD, hc]; rfl
   unfold doM
   simp only [Int.toNat_natCast, regN, e1]
   rw [if_neg (by omega), if_neg (by omega), if_neg (by omega), if_neg (by omega), if_neg (by omega), if_neg (by omega), if_neg (by omega), if_neg (by omega)]
  rw [e]
  simp only
  rcases chanH_three hok hop5 with h | h | ⟨h, h9⟩
  ·rw [h, if_neg (by decide), if_neg (by decide), if_neg (by decide)]
   rw [settle_move (by simp) rfl]
  ·rw [h, if_pos rfl, if_pos rfl]
  ·rw [h, if_neg (by decide), if_pos rfl, if_neg (by decide)]
   have e2 := chanR_fault (rg := rg) (r := r) (b := bb) h9 h
   simp [settleT, haltT, e2]
 ·have h6 : o = 1 ∨ o = 2 ∨ o = 3 ∨ o = 4 ∨ o = 10 ∨ o = 11 ∨ o = 12 ∨ o = 13 := by omega
  clear hn hch
  rcases h6 with rfl | rfl | rfl | rfl | rfl | rfl | rfl | rfl
  ·rw [settle_move (by simp [doM]) (by simp [doM])]; simp [stepO, doM]
  ·rw [settle_move (by simp [doM]) (by simp [doM])]; simp [stepO, doM]
  ·rw [settle_move (by simp [doM]) (by simp [doM])]; simp [stepO, doM]
  ·rw [settle_move (by simp [doM]) (by simp [doM])]; simp [stepO, doM]
  ·have : ¬ tr.length = 4000 := fun e => hnr ⟨rfl, e⟩
   rw [settle_move (by simp [doM]) (by simp [doM])]; simp [stepO, doM, this]
  ·rw [settle_move (by simp [doM]) (by simp [doM])]; simp [stepO, doM]
  ·rw [settle_move (by simp [doM]) (by simp [doM])]; simp [stepO, doM]
  ·simp [stepO, doM, settleT, haltT, h0, h1]
end
section
set_option linter.unusedSimpArgs false
set_option linter.unusedVariables false
set_option maxRecDepth 100000
open Go.RowKit
def BxU (w : World) (b : Nat) : Prop := ∃ cs f, w.heap[b]? = some (.cells cs 82 f)
theorem own_bxU {w : World} {base size n b : Nat} {e : TypeId} {v : Value} {xs : List Value} (h : w.ownsRow base e size v n xs) (he : e ≠ 82) (hb : BxU w b) : v.ownBlock ≠ some b := by
 obtain ⟨cs, f, c⟩ := hb
 intro hk
 rcases h.2 with ⟨rfl, -⟩ | ⟨g, cap, cur, rfl, -, c', -⟩
 ·cases hk
 ·simp only [Value.ownBlock, Option.some.injEq] at hk
  subst hk
  rw [c] at c'
  injection c' with c'
  injection c' with _ c'
  exact he c'.symm
theorem BxU.set {w : World} {b g o : Nat} {v : Value} (h : BxU w b) : BxU (w.setCell ⟨g, o, none⟩ v) b := by
 obtain ⟨cs, f, c⟩ := h
 by_cases e : b = g
 ·subst e
  exact ⟨_, f, heap_setS c⟩
 ·exact ⟨cs, f, (Below.heap_setCell _ _ _ b e).trans c⟩
theorem BxU.same {w w' : World} {b : Nat} (h : BxU w b) (e : w'.heap[b]? = w.heap[b]?) : BxU w' b := by
 obtain ⟨cs, f, c⟩ := h
 exact ⟨cs, f, e.trans c⟩
theorem OwnS.hitU {w : World} {base b : Nat} {v1 v2 v3 : Value} {L1 L2 : List (Rec × Value)} {d : SD} (h : OwnS w base v1 v2 v3 L1 L2 d) (ht : BxU w b) : ¬ HitS v1 v2 v3 L1 L2 b := by
 rintro ((hk | ⟨i, x, hx, hk⟩) | (hk | ⟨i, x, hx, hk⟩) | hk)
 ·exact own_bxU h.t.row (by decide) ht hk
 ·exact own_bxU (h.t.inn i x hx) (by decide) ht hk
 ·exact own_bxU h.c.row (by decide) ht hk
 ·exact own_bxU (h.c.inn i x hx) (by decide) ht hk
 ·exact own_bxU h.n (by decide) ht hk
structure Rd (w : World) (b S base : Nat) (v1 v2 v3 : Value) (L1 L2 : List (Rec × Value)) (d : SD) (who pc nx st : Int) (rg : List Int) : Prop where
 t : Tn w b S who pc nx st rg
 s : BoF S w v1 v2 v3
 bs : BxS w S
 bt : BxU w b
 o : OwnS w base v1 v2 v3 L1 L2 d
 ne : b ≠ S
 hb : base ≤ w.heap.size
 hS : base ≤ S
 hbb : base ≤ b
structure DoQ (w : World) (b S base : Nat) (v1 v2 v3 : Value) (L1 L2 : List (Rec × Value)) (d : SD) (who pc nx st : Int) (rg : List Int) (chs : List CD) (tr : List ND) (s4 : Option Addr) (n4 c4 : Nat) (L2' : List (Rec × Value)) (w' : World) : Prop where
 r : Rd w' b S base v1 v2 (.slice s4 n4 c4) L1 L2' ⟨d.ths, chs, tr⟩ who pc nx st rg
 h : ∀ q, HitS v1 v2 (.slice s4 n4 c4) L1 L2' q → HitS v1 v2 v3 L1 L2 q ∨ w.heap.size ≤ q
 f : ∀ q, q < w.heap.size → q ≠ b → ¬ HitS v1 v2 v3 L1 L2 q → q ≠ S → w'.heap[q]? = w.heap[q]?
 b : Below base w w'
def DoP (w : World) (b S base : Nat) (v1 v2 v3 : Value) (L1 L2 : List (Rec × Value)) (d : SD) (who pc : Int) (o : DR) (e : Ending) (w' : World) : Prop :=
 e = .returned (.int .i64 o.code) ∧ ∃ s4 n4 c4 L2', DoQ w b S base v1 v2 v3 L1 L2 d who pc o.nx o.st o.rg o.chs o.tr s4 n4 c4 L2' w'
/- stores into the turn's own box alone -/
theorem Rd.put {w W2 w' : World} {b S base n3 c3 : Nat} {s3 : Option Addr} {v1 v2 : Value} {L1 L2 : List (Rec × Value)} {d : SD} {who pc nx st nx' st' : Int} {rg rg' : List Int} (h : Rd w b S base v1 v2 (.slice s3 n3 c3) L1 L2 d who pc nx st rg) (hW : ∀ q, q ≠ b → W2.heap[q]? = w.heap[q]?) (hs : W2.heap.size = w.heap.size) (hu : BxU W2 b) (hB : Below base w W2) (ht : Tn W2 b S who pc nx' st' rg') (k : Below w.heap.size W2 w') : DoQ w b S base v1 v2 (.slice s3 n3 c3) L1 L2 d who pc nx' st' rg' d.chs d.tr s3 n3 c3 L2 w' := by
 have hz := h.t.z
 have hzS := h.s.z
 have hne := h.ne
 have e : ∀ q, q < w.heap.size → q ≠ b → w'.heap[q]? = w.heap[q]? := fun q h1 h2 => (k.block q h1).trans (hW q h2)
 have ks := k.size
 refine ⟨⟨ht.below k hz, h.s.keep (e S hzS (Ne.symm hne)) (by omega), h.bs.same (e S hzS (Ne.symm hne)), hu.same (k.block b hz), ?_, hne, by have := h.hb; omega, h.hS, h.hbb⟩, fun q hq => .inl hq, fun q h1 h2 _ _ => e q h1 h2, hB.trans (k.mono h.hb)⟩
 exact h.o.keepB (fun q hq => e q (h.o.hit hq).2 (fun e => h.o.hitU h.bt (by rw [← e]; exact hq)))
/- a channel put in its place -/
theorem Rd.chan {w w' : World} {b S base n3 c3 n : Nat} {s3 : Option Addr} {v1 v2 : Value} {L1 L2 : List (Rec × Value)} {d : SD} {who pc nx st : Int} {rg : List Int} {y : CD} (h : Rd w b S base v1 v2 (.slice s3 n3 c3) L1 L2 d who pc nx st rg) (k : ChP w base v1 v2 (.slice s3 n3 c3) L1 L2 d n y w') : ∃ L2', DoQ w b S base v1 v2 (.slice s3 n3 c3) L1 L2 d who pc nx st rg (d.chs.set n y) d.tr s3 n3 c3 L2' w' := by
 obtain ⟨⟨L2', o, hh⟩, f, k⟩ := k
 have hz := h.t.z
 have hzS := h.s.z
 have e : ∀ q, q < w.heap.size → ¬ HitS v1 v2 (.slice s3 n3 c3) L1 L2 q → w'.heap[q]? = w.heap[q]? := fun q h1 h2 => f q h1 (fun e => h2 (.inr (.inl (.inl e))))
 have ks := k.size
 have eb := e b hz (h.o.hitU h.bt)
 have eS := e S hzS (h.o.hitB h.bs)
 refine ⟨L2', ⟨h.t.same eb ks, h.s.keep eS ks, h.bs.same eS, h.bt.same eb, o, h.ne, by have := h.hb; omega, h.hS, h.hbb⟩, fun q hq => ?_, fun q h1 _ h3 _ => e q h1 h3, k⟩
 rcases hq with hq | hq | hq
 ·exact .inl (.inl hq)
 ·exact (hh q hq).imp (fun a => .inr (.inl a)) id
 ·exact .inl (.inr (.inr hq))
/- one behind the other -/
theorem DoQ.then {w w1 w2 : World} {b S base n3 c3 n4 c4 n5 c5 : Nat} {s3 s4 s5 : Option Addr} {v1 v2 : Value} {L1 L2 L2' L3 : List (Rec × Value)} {d : SD} {who pc nx st nx' st' : Int} {rg rg' : List Int} {chs chs' : List CD} {tr tr' : List ND} (h : DoQ w b S base v1 v2 (.slice s3 n3 c3) L1 L2 d who pc nx st rg chs tr s4 n4 c4 L2' w1) (k : DoQ w1 b S base v1 v2 (.slice s4 n4 c4) L1 L2' ⟨d.ths, chs, tr⟩ who pc nx' st' rg' chs' tr' s5 n5 c5 L3 w2) : DoQ w b S base v1 v2 (.slice s3 n3 c3) L1 L2 d who pc nx' st' rg' chs' tr' s5 n5 c5 L3 w2 := by
 have hs := h.b.size
 refine ⟨k.r, fun q hq => ?_, fun q h1 h2 h3 h4 => (k.f q (by omega) h2 (fun hq => ?_) h4).trans (h.f q h1 h2 h3 h4), h.b.trans k.b⟩
 ·rcases k.h q hq with h1 | h1
  ·exact h.h q h1
  ·exact .inr (by omega)
 ·rcases h.h q hq with h5 | h5
  ·exact h3 h5
  ·omega
theorem do1 (o r a bb n : Int) (b S base n3 c3 : Nat) (s3 : Option Addr) (v1 v2 : Value) (L1 L2 : List (Rec × Value)) (d : SD) (who : Nat) (pc : Int) (rg : List Int) (w : World) (h : Rd w b S base v1 v2 (.slice s3 n3 c3) L1 L2 d who pc (pc + 1) 0 rg) (hr : 0 ≤ r ∧ r ≤ 3) (ha : 0 ≤ a ∧ a ≤ 3) (hb : 0 ≤ bb ∧ bb ≤ 3) :
  Calls Tryz.prog 52 #[.pointer (some ⟨b, 0, none⟩), .agg #[.int .i64 1, .int .i64 r, .int .i64 a, .int .i64 bb, .int .i64 n]] w fun e w' => DoP w b S base v1 v2 (.slice s3 n3 c3) L1 L2 d who pc (doM ⟨pc, rg, 0⟩ ⟨1, r, a, bb, n⟩ d.chs d.tr who) e w' := by
 have hrn : r.toNat < 4 := by omega
 have hbn : bb.toNat < 4 := by omega
 refine (set_any 1 r a bb n b S who pc (pc + 1) 0 rg w h.t hr ha hb).mono ?_
 rintro e w' ⟨rfl, k⟩
 refine ⟨by simp [doM], s3, n3, c3, L2, ?_⟩
 have q := h.put (W2 := (w.setCell ⟨b, 5 + r.toNat, none⟩ (.int .i64 (n)))) (fun q hq => Below.heap_setCell _ _ _ q hq) (by simp) h.bt.set ((Below.refl _ _).setCell (p := ⟨b, _, none⟩) h.hbb _) (h.t.reg _ hrn _) k
 simpa [doM, putN] using q
theorem do2 (o r a bb n : Int) (b S base n3 c3 : Nat) (s3 : Option Addr) (v1 v2 : Value) (L1 L2 : List (Rec × Value)) (d : SD) (who : Nat) (pc : Int) (rg : List Int) (w : World) (h : Rd w b S base v1 v2 (.slice s3 n3 c3) L1 L2 d who pc (pc + 1) 0 rg) (hr : 0 ≤ r ∧ r ≤ 3) (ha : 0 ≤ a ∧ a ≤ 3) (hb : 0 ≤ bb ∧ bb ≤ 3) :
  Calls Tryz.prog 53 #[.pointer (some ⟨b, 0, none⟩), .agg #[.int .i64 2, .int .i64 r, .int .i64 a, .int .i64 bb, .int .i64 n]] w fun e w' => DoP w b S base v1 v2 (.slice s3 n3 c3) L1 L2 d who pc (doM ⟨pc, rg, 0⟩ ⟨2, r, a, bb, n⟩ d.chs d.tr who) e w' := by
 have hrn : r.toNat < 4 := by omega
 have hbn : bb.toNat < 4 := by omega
 refine (add_any 2 r a bb n b S who pc (pc + 1) 0 rg w h.t hr ha hb).mono ?_
 rintro e w' ⟨rfl, k⟩
 refine ⟨by simp [doM], s3, n3, c3, L2, ?_⟩
 have q := h.put (W2 := (w.setCell ⟨b, 5 + r.toNat, none⟩ (.int .i64 (IntKind.i64.wrap (regN rg a + regN rg bb))))) (fun q hq => Below.heap_setCell _ _ _ q hq) (by simp) h.bt.set ((Below.refl _ _).setCell (p := ⟨b, _, none⟩) h.hbb _) (h.t.reg _ hrn _) k
 simpa [doM, putN] using q
theorem do3 (o r a bb n : Int) (b S base n3 c3 : Nat) (s3 : Option Addr) (v1 v2 : Value) (L1 L2 : List (Rec × Value)) (d : SD) (who : Nat) (pc : Int) (rg : List Int) (w : World) (h : Rd w b S base v1 v2 (.slice s3 n3 c3) L1 L2 d who pc (pc + 1) 0 rg) (hr : 0 ≤ r ∧ r ≤ 3) (ha : 0 ≤ a ∧ a ≤ 3) (hb : 0 ≤ bb ∧ bb ≤ 3) :
  Calls Tryz.prog 54 #[.pointer (some ⟨b, 0, none⟩), .agg #[.int .i64 3, .int .i64 r, .int .i64 a, .int .i64 bb, .int .i64 n]] w fun e w' => DoP w b S base v1 v2 (.slice s3 n3 c3) L1 L2 d who pc (doM ⟨pc, rg, 0⟩ ⟨3, r, a, bb, n⟩ d.chs d.tr who) e w' := by
 have hrn : r.toNat < 4 := by omega
 have hbn : bb.toNat < 4 := by omega
 refine (sub_any 3 r a bb n b S who pc (pc + 1) 0 rg w h.t hr ha hb).mono ?_
 rintro e w' ⟨rfl, k⟩
 refine ⟨by simp [doM], s3, n3, c3, L2, ?_⟩
 have q := h.put (W2 := (w.setCell ⟨b, 5 + r.toNat, none⟩ (.int .i64 (IntKind.i64.wrap (regN rg a - regN rg bb))))) (fun q hq => Below.heap_setCell _ _ _ q hq) (by simp) h.bt.set ((Below.refl _ _).setCell (p := ⟨b, _, none⟩) h.hbb _) (h.t.reg _ hrn _) k
 simpa [doM, putN] using q
theorem do4 (o r a bb n : Int) (b S base n3 c3 : Nat) (s3 : Option Addr) (v1 v2 : Value) (L1 L2 : List (Rec × Value)) (d : SD) (who : Nat) (pc : Int) (rg : List Int) (w : World) (h : Rd w b S base v1 v2 (.slice s3 n3 c3) L1 L2 d who pc (pc + 1) 0 rg) (hr : 0 ≤ r ∧ r ≤ 3) (ha : 0 ≤ a ∧ a ≤ 3) (hb : 0 ≤ bb ∧ bb ≤ 3) :
  Calls Tryz.prog 55 #[.pointer (some ⟨b, 0, none⟩), .agg #[.int .i64 4, .int .i64 r, .int .i64 a, .int .i64 bb, .int .i64 n]] w fun e w' => DoP w b S base v1 v2 (.slice s3 n3 c3) L1 L2 d who pc (doM ⟨pc, rg, 0⟩ ⟨4, r, a, bb, n⟩ d.chs d.tr who) e w' := by
 have hrn : r.toNat < 4 := by omega
 have hbn : bb.toNat < 4 := by omega
 refine (less_any 4 r a bb n b S who pc (pc + 1) 0 rg w h.t hr ha hb).mono ?_
 rintro e w' ⟨rfl, k⟩
 refine ⟨by simp [doM], s3, n3, c3, L2, ?_⟩
 have q := h.put (W2 := (w.setCell ⟨b, 5 + r.toNat, none⟩ (.int .i64 (bitN (decide (regN rg a < regN rg bb)))))) (fun q hq => Below.heap_setCell _ _ _ q hq) (by simp) h.bt.set ((Below.refl _ _).setCell (p := ⟨b, _, none⟩) h.hbb _) (h.t.reg _ hrn _) k
 simpa [doM, putN] using q
theorem do11 (o r a bb n : Int) (b S base n3 c3 : Nat) (s3 : Option Addr) (v1 v2 : Value) (L1 L2 : List (Rec × Value)) (d : SD) (who : Nat) (pc : Int) (rg : List Int) (w : World) (h : Rd w b S base v1 v2 (.slice s3 n3 c3) L1 L2 d who pc (pc + 1) 0 rg) (hr : 0 ≤ r ∧ r ≤ 3) (ha : 0 ≤ a ∧ a ≤ 3) (hb : 0 ≤ bb ∧ bb ≤ 3) :
  Calls Tryz.prog 62 #[.pointer (some ⟨b, 0, none⟩), .agg #[.int .i64 11, .int .i64 r, .int .i64 a, .int .i64 bb, .int .i64 n]] w fun e w' => DoP w b S base v1 v2 (.slice s3 n3 c3) L1 L2 d who pc (doM ⟨pc, rg, 0⟩ ⟨11, r, a, bb, n⟩ d.chs d.tr who) e w' := by
 have hrn : r.toNat < 4 := by omega
 have hbn : bb.toNat < 4 := by omega
 refine (jump_any 11 r a bb n b S who pc (pc + 1) 0 rg w h.t hr ha hb).mono ?_
 rintro e w' ⟨rfl, k⟩
 refine ⟨by simp [doM], s3, n3, c3, L2, ?_⟩
 have q := h.put (W2 := (w.setCell ⟨b, 3, none⟩ (.int .i64 (n)))) (fun q hq => Below.heap_setCell _ _ _ q hq) (by simp) h.bt.set ((Below.refl _ _).setCell (p := ⟨b, _, none⟩) h.hbb _) (h.t.next _) k
 simpa [doM, putN] using q
theorem do13 (o r a bb n : Int) (b S base n3 c3 : Nat) (s3 : Option Addr) (v1 v2 : Value) (L1 L2 : List (Rec × Value)) (d : SD) (who : Nat) (pc : Int) (rg : List Int) (w : World) (h : Rd w b S base v1 v2 (.slice s3 n3 c3) L1 L2 d who pc (pc + 1) 0 rg) (hr : 0 ≤ r ∧ r ≤ 3) (ha : 0 ≤ a ∧ a ≤ 3) (hb : 0 ≤ bb ∧ bb ≤ 3) :
  Calls Tryz.prog 64 #[.pointer (some ⟨b, 0, none⟩), .agg #[.int .i64 13, .int .i64 r, .int .i64 a, .int .i64 bb, .int .i64 n]] w fun e w' => DoP w b S base v1 v2 (.slice s3 n3 c3) L1 L2 d who pc (doM ⟨pc, rg, 0⟩ ⟨13, r, a, bb, n⟩ d.chs d.tr who) e w' := by
 have hrn : r.toNat < 4 := by omega
 have hbn : bb.toNat < 4 := by omega
 refine (end_any 13 r a bb n b S who pc (pc + 1) 0 rg w h.t hr ha hb).mono ?_
 rintro e w' ⟨rfl, k⟩
 refine ⟨by simp [doM], s3, n3, c3, L2, ?_⟩
 have q := h.put (W2 := ((w.setCell ⟨b, 3, none⟩ (.int .i64 (pc))).setCell ⟨b, 4, none⟩ (.int .i64 (1)))) (fun q hq => (Below.heap_setCell _ _ _ q hq).trans (Below.heap_setCell _ _ _ q hq)) (by simp) h.bt.set.set (((Below.refl _ _).setCell (p := ⟨b, _, none⟩) h.hbb _).setCell (p := ⟨b, _, none⟩) h.hbb _) ((h.t.next _).state _) k
 simpa [doM, putN] using q
theorem do12 (o r a bb n : Int) (b S base n3 c3 : Nat) (s3 : Option Addr) (v1 v2 : Value) (L1 L2 : List (Rec × Value)) (d : SD) (who : Nat) (pc : Int) (rg : List Int) (w : World) (h : Rd w b S base v1 v2 (.slice s3 n3 c3) L1 L2 d who pc (pc + 1) 0 rg) (hr : 0 ≤ r ∧ r ≤ 3) (ha : 0 ≤ a ∧ a ≤ 3) (hb : 0 ≤ bb ∧ bb ≤ 3) :
  Calls Tryz.prog 63 #[.pointer (some ⟨b, 0, none⟩), .agg #[.int .i64 12, .int .i64 r, .int .i64 a, .int .i64 bb, .int .i64 n]] w fun e w' => DoP w b S base v1 v2 (.slice s3 n3 c3) L1 L2 d who pc (doM ⟨pc, rg, 0⟩ ⟨12, r, a, bb, n⟩ d.chs d.tr who) e w' := by
 by_cases hz : regN rg a = 0
 ·refine (zero_yes 12 r a bb n b S who pc (pc + 1) 0 rg w h.t hr ha hb hz).mono ?_
  rintro e w' ⟨rfl, k⟩
  refine ⟨by simp [doM], s3, n3, c3, L2, ?_⟩
  have q := h.put (W2 := (w.setCell ⟨b, 3, none⟩ (.int .i64 n))) (fun q hq => Below.heap_setCell _ _ _ q hq) (by simp) h.bt.set ((Below.refl _ _).setCell (p := ⟨b, _, none⟩) h.hbb _) (h.t.next _) k
  simpa [doM, hz] using q
 ·refine (zero_no 12 r a bb n b S who pc (pc + 1) 0 rg w h.t hr ha hb hz).mono ?_
  rintro e w' ⟨rfl, k⟩
  refine ⟨by simp [doM], s3, n3, c3, L2, ?_⟩
  have q := h.put (W2 := w) (fun q _ => rfl) rfl h.bt (Below.refl _ _) h.t k
  simpa [doM, hz] using q
end
section
set_option linter.unusedSimpArgs false
set_option linter.unusedVariables false
set_option maxRecDepth 100000
open Go.RowKit
theorem takeV_none {c : CD} (hok : okC c.cap c.list.length = true) (h : takeK c.cap c.list c.cl ≠ 0) : takeV c.cap c.list = 0 := by
 unfold takeK at h
 rw [if_pos hok] at h
 by_cases e : c.list = []
 ·unfold takeV
  rw [if_pos hok, e]
  rfl
 ·rw [if_neg e] at h
  exact absurd rfl h
set_option maxHeartbeats 2000000 in
theorem do5 (o r a bb n : Int) (b S base n3 c3 : Nat) (s3 : Option Addr) (v1 v2 : Value) (L1 L2 : List (Rec × Value)) (d : SD) (who : Nat) (pc : Int) (rg : List Int) (w : World) (h : Rd w b S base v1 v2 (.slice s3 n3 c3) L1 L2 d who pc (pc + 1) 0 rg) (hr : 0 ≤ r ∧ r ≤ 3) (ha : 0 ≤ a ∧ a ≤ 3) (hb : 0 ≤ bb ∧ bb ≤ 3) (nn : Nat) (hn : n = nn) (c : CD) (hc : d.chs[nn]? = some c) (hcl : c.list.length ≤ 4) (hcn : d.chs.length ≤ 3) (hok : okC c.cap c.list.length = true) :
  Calls Tryz.prog 56 #[.pointer (some ⟨b, 0, none⟩), .agg #[.int .i64 5, .int .i64 r, .int .i64 a, .int .i64 bb, .int .i64 n]] w fun e w' => DoP w b S base v1 v2 (.slice s3 n3 c3) L1 L2 d who pc (doM ⟨pc, rg, 0⟩ ⟨5, r, a, bb, n⟩ d.chs d.tr who) e w' := by
 subst hn
 obtain ⟨g2, c2, y9, e9, -⟩ := h.o.chanAt hc
 subst e9
 have ec : d.chs.getD nn zc = c := chs_at hc
 refine (send_any 5 r a bb nn b S base g2 c2 who pc (pc + 1) 0 rg v1 _ L1 L2 d c w h.t ha h.s h.o h.hb hc hcl hcn).mono ?_
 rintro e w' ⟨rfl, k⟩
 obtain ⟨L2', q⟩ := h.chan k
 refine ⟨?_, s3, n3, c3, L2', ?_⟩
 ·simp only [doM, Int.toNat_natCast, ec]
  simp [chanH]
 ·simp only [doM, Int.toNat_natCast, ec]
  simpa [chanR, chanC] using q
set_option maxHeartbeats 2000000 in
theorem do9 (o r a bb n : Int) (b S base n3 c3 : Nat) (s3 : Option Addr) (v1 v2 : Value) (L1 L2 : List (Rec × Value)) (d : SD) (who : Nat) (pc : Int) (rg : List Int) (w : World) (h : Rd w b S base v1 v2 (.slice s3 n3 c3) L1 L2 d who pc (pc + 1) 0 rg) (hr : 0 ≤ r ∧ r ≤ 3) (ha : 0 ≤ a ∧ a ≤ 3) (hb : 0 ≤ bb ∧ bb ≤ 3) (nn : Nat) (hn : n = nn) (c : CD) (hc : d.chs[nn]? = some c) (hcl : c.list.length ≤ 4) (hcn : d.chs.length ≤ 3) (hok : okC c.cap c.list.length = true) :
  Calls Tryz.prog 60 #[.pointer (some ⟨b, 0, none⟩), .agg #[.int .i64 9, .int .i64 r, .int .i64 a, .int .i64 bb, .int .i64 n]] w fun e w' => DoP w b S base v1 v2 (.slice s3 n3 c3) L1 L2 d who pc (doM ⟨pc, rg, 0⟩ ⟨9, r, a, bb, n⟩ d.chs d.tr who) e w' := by
 subst hn
 obtain ⟨g2, c2, y9, e9, -⟩ := h.o.chanAt hc
 subst e9
 have ec : d.chs.getD nn zc = c := chs_at hc
 refine (shut_any 9 r a bb nn b S base g2 c2 who pc (pc + 1) 0 rg v1 _ L1 L2 d c w h.t ha h.s h.o h.hb hc hcl hcn).mono ?_
 rintro e w' ⟨rfl, k⟩
 obtain ⟨L2', q⟩ := h.chan k
 refine ⟨?_, s3, n3, c3, L2', ?_⟩
 ·simp only [doM, Int.toNat_natCast, ec]
  simp [chanH]
 ·simp only [doM, Int.toNat_natCast, ec]
  simpa [chanR, chanC] using q
set_option maxHeartbeats 2000000 in
theorem do6 (o r a bb n : Int) (b S base n3 c3 : Nat) (s3 : Option Addr) (v1 v2 : Value) (L1 L2 : List (Rec × Value)) (d : SD) (who : Nat) (pc : Int) (rg : List Int) (w : World) (h : Rd w b S base v1 v2 (.slice s3 n3 c3) L1 L2 d who pc (pc + 1) 0 rg) (hr : 0 ≤ r ∧ r ≤ 3) (ha : 0 ≤ a ∧ a ≤ 3) (hb : 0 ≤ bb ∧ bb ≤ 3) (nn : Nat) (hn : n = nn) (c : CD) (hc : d.chs[nn]? = some c) (hcl : c.list.length ≤ 4) (hcn : d.chs.length ≤ 3) (hok : okC c.cap c.list.length = true) (hrb : r ≠ bb) :
  Calls Tryz.prog 57 #[.pointer (some ⟨b, 0, none⟩), .agg #[.int .i64 6, .int .i64 r, .int .i64 a, .int .i64 bb, .int .i64 n]] w fun e w' => DoP w b S base v1 v2 (.slice s3 n3 c3) L1 L2 d who pc (doM ⟨pc, rg, 0⟩ ⟨6, r, a, bb, n⟩ d.chs d.tr who) e w' := by
 subst hn
 obtain ⟨g2, c2, y9, e9, -⟩ := h.o.chanAt hc
 subst e9
 have ec : d.chs.getD nn zc = c := chs_at hc
 obtain ⟨W, hW, hx, kW, zW⟩ := Xb.new w (.int .i64 6) (.int .i64 r) (.int .i64 a) (.int .i64 bb) (.int .i64 nn) 43
 have HWW := hidW hW
 have HX := hidW hx
 have KW := hidW kW
 have QW := h.put (W2 := w) (fun q _ => rfl) rfl h.bt (Below.refl _ _) h.t kW
 have HQW := hidW QW
 have TV := hidW (fun q => takeV_none (c := c) hok q)
 have TK3 := hidW (takeK_three (cl := c.cl) hok)
 have zv2 : ∀ q, (Value.slice (some ⟨g2, 0, none⟩) d.chs.length c2).ownBlock = some q → q < w.heap.size := fun q hq => (h.o.hit (.inr (.inl (.inl hq)))).2
 have ZV2 := hidW zv2
 have HEC := hidW ec
 have x4 := hx.c4
 have xz := hx.z
 have bn0 : (0 : Int) ≤ (nn : Int) := by omega
 clear hW hx kW QW ec zv2
 go_enter Tryz.func57, Tryz.ntmps57
 go_wp2_with fail
 rw [HWW.out]
 refine (takeFrom_any nn b S base g2 c2 who pc (pc + 1) 0 rg v1 _ L1 L2 d c W HQW.out.r.t HQW.out.r.s HQW.out.r.o HQW.out.r.hb hc hcl hcn).mono ?_
 rintro e w1 ⟨rfl, k⟩
 obtain ⟨L2', q1⟩ := HQW.out.r.chan k
 have HQ1 := hidW q1
 have X1 := HX.out
 have eX : w1.heap[w.heap.size]? = W.heap[w.heap.size]? := k.2.1 _ xz (fun e => by have := ZV2.out _ e; omega)
 have cX : ∀ j, w1.cell? ⟨w.heap.size, j, none⟩ = W.cell? ⟨w.heap.size, j, none⟩ := fun j => World.cell?_of_block eX
 have y0 := (cX 0).trans X1.c0
 have y1 := (cX 1).trans X1.c1
 have y2 := (cX 2).trans X1.c2
 have y3 := (cX 3).trans X1.c3
 have y4 := (cX 4).trans X1.c4
 have z1 := k.2.2.size
 clear k q1 X1 eX cX x4
 rcases TK3.out with hk | hk | hk
 ·have hkk : takeK c.cap c.list c.cl = 0 := hk
  have HKK := hidW hkk
  rw [hkk]
  generalize htv : takeV c.cap c.list = tv at *
  have HTV := hidW htv
  clear hk hkk htv TV
  go_wp2_with fail
  refine (came_any tv 1 6 r a bb nn b S who pc (pc + 1) 0 rg w1 HQ1.out.r.t hr ha hb hrb).mono ?_
  rintro e w2 ⟨rfl, k2⟩
  have q2 := HQ1.out.r.put (W2 := (w1.setCell ⟨b, 5 + r.toNat, none⟩ (.int .i64 tv)).setCell ⟨b, 5 + bb.toNat, none⟩ (.int .i64 1)) (fun q hq => (Below.heap_setCell _ _ _ q hq).trans (Below.heap_setCell _ _ _ q hq)) (by simp) HQ1.out.r.bt.set.set (((Below.refl _ _).setCell (p := ⟨b, _, none⟩) h.hbb _).setCell (p := ⟨b, _, none⟩) h.hbb _) ((HQ1.out.r.t.reg _ (by omega) _).reg _ (by omega) _) k2
  have Q2 := hidW ((HQW.out.then HQ1.out).then q2)
  clear k2 q2 y0 y1 y2 y3 y4
  go_wp2
  go_ret
  refine ⟨?_, s3, n3, c3, L2', ?_⟩
  ·simp only [doM, Int.toNat_natCast, HEC.out]
   simp [chanH, HKK.out, HTV.out]
  ·simp only [doM, Int.toNat_natCast, HEC.out]
   simpa [chanR, chanC, bitN, HKK.out, HTV.out] using Q2.out
 ·have HKK := hidW hk
  rw [hk]
  clear hk
  have Q2 := hidW (HQW.out.then HQ1.out)
  clear y0 y1 y2 y3 y4
  go_wp2
  go_ret
  refine ⟨?_, s3, n3, c3, L2', ?_⟩
  ·simp only [doM, Int.toNat_natCast, HEC.out]
   simp [chanH, HKK.out]
  ·simp only [doM, Int.toNat_natCast, HEC.out]
   simpa [chanR, chanC, HKK.out] using Q2.out
 ·have HTV := hidW (TV.out (by rw [hk]; decide))
  have HKK := hidW hk
  rw [hk]
  clear hk TV
  go_wp2_with fail
  refine (came_any 0 0 6 r a bb nn b S who pc (pc + 1) 0 rg w1 HQ1.out.r.t hr ha hb hrb).mono ?_
  rintro e w2 ⟨rfl, k2⟩
  have q2 := HQ1.out.r.put (W2 := (w1.setCell ⟨b, 5 + r.toNat, none⟩ (.int .i64 0)).setCell ⟨b, 5 + bb.toNat, none⟩ (.int .i64 0)) (fun q hq => (Below.heap_setCell _ _ _ q hq).trans (Below.heap_setCell _ _ _ q hq)) (by simp) HQ1.out.r.bt.set.set (((Below.refl _ _).setCell (p := ⟨b, _, none⟩) h.hbb _).setCell (p := ⟨b, _, none⟩) h.hbb _) ((HQ1.out.r.t.reg _ (by omega) _).reg _ (by omega) _) k2
  have Q2 := hidW ((HQW.out.then HQ1.out).then q2)
  clear k2 q2 y0 y1 y2 y3 y4
  go_wp2
  go_ret
  refine ⟨?_, s3, n3, c3, L2', ?_⟩
  ·simp only [doM, Int.toNat_natCast, HEC.out]
   simp [chanH, HKK.out, HTV.out]
  ·simp only [doM, Int.toNat_natCast, HEC.out]
   simpa [chanR, chanC, bitN, HKK.out, HTV.out] using Q2.out
set_option maxHeartbeats 2000000 in
theorem do8 (o r a bb n : Int) (b S base n3 c3 : Nat) (s3 : Option Addr) (v1 v2 : Value) (L1 L2 : List (Rec × Value)) (d : SD) (who : Nat) (pc : Int) (rg : List Int) (w : World) (h : Rd w b S base v1 v2 (.slice s3 n3 c3) L1 L2 d who pc (pc + 1) 0 rg) (hr : 0 ≤ r ∧ r ≤ 3) (ha : 0 ≤ a ∧ a ≤ 3) (hb : 0 ≤ bb ∧ bb ≤ 3) (nn : Nat) (hn : n = nn) (c : CD) (hc : d.chs[nn]? = some c) (hcl : c.list.length ≤ 4) (hcn : d.chs.length ≤ 3) (hok : okC c.cap c.list.length = true) (hrb : r ≠ bb) :
  Calls Tryz.prog 59 #[.pointer (some ⟨b, 0, none⟩), .agg #[.int .i64 8, .int .i64 r, .int .i64 a, .int .i64 bb, .int .i64 n]] w fun e w' => DoP w b S base v1 v2 (.slice s3 n3 c3) L1 L2 d who pc (doM ⟨pc, rg, 0⟩ ⟨8, r, a, bb, n⟩ d.chs d.tr who) e w' := by
 subst hn
 obtain ⟨g2, c2, y9, e9, -⟩ := h.o.chanAt hc
 subst e9
 have ec : d.chs.getD nn zc = c := chs_at hc
 obtain ⟨W, hW, hx, kW, zW⟩ := Xb.new w (.int .i64 8) (.int .i64 r) (.int .i64 a) (.int .i64 bb) (.int .i64 nn) 43
 have HWW := hidW hW
 have HX := hidW hx
 have KW := hidW kW
 have QW := h.put (W2 := w) (fun q _ => rfl) rfl h.bt (Below.refl _ _) h.t kW
 have HQW := hidW QW
 have TV := hidW (fun q => takeV_none (c := c) hok q)
 have TK3 := hidW (takeK_three (cl := c.cl) hok)
 have zv2 : ∀ q, (Value.slice (some ⟨g2, 0, none⟩) d.chs.length c2).ownBlock = some q → q < w.heap.size := fun q hq => (h.o.hit (.inr (.inl (.inl hq)))).2
 have ZV2 := hidW zv2
 have HEC := hidW ec
 have x4 := hx.c4
 have xz := hx.z
 have bn0 : (0 : Int) ≤ (nn : Int) := by omega
 clear hW hx kW QW ec zv2
 go_enter Tryz.func59, Tryz.ntmps59
 go_wp2_with fail
 rw [HWW.out]
 refine (takeFrom_any nn b S base g2 c2 who pc (pc + 1) 0 rg v1 _ L1 L2 d c W HQW.out.r.t HQW.out.r.s HQW.out.r.o HQW.out.r.hb hc hcl hcn).mono ?_
 rintro e w1 ⟨rfl, k⟩
 obtain ⟨L2', q1⟩ := HQW.out.r.chan k
 have HQ1 := hidW q1
 have X1 := HX.out
 have eX : w1.heap[w.heap.size]? = W.heap[w.heap.size]? := k.2.1 _ xz (fun e => by have := ZV2.out _ e; omega)
 have cX : ∀ j, w1.cell? ⟨w.heap.size, j, none⟩ = W.cell? ⟨w.heap.size, j, none⟩ := fun j => World.cell?_of_block eX
 have y0 := (cX 0).trans X1.c0
 have y1 := (cX 1).trans X1.c1
 have y2 := (cX 2).trans X1.c2
 have y3 := (cX 3).trans X1.c3
 have y4 := (cX 4).trans X1.c4
 have z1 := k.2.2.size
 clear k q1 X1 eX cX x4
 rcases TK3.out with hk | hk | hk
 ·have hkk : takeK c.cap c.list c.cl = 0 := hk
  have HKK := hidW hkk
  rw [hkk]
  generalize htv : takeV c.cap c.list = tv at *
  have HTV := hidW htv
  clear hk hkk htv TV
  go_wp2_with fail
  refine (came_any tv 1 8 r a bb nn b S who pc (pc + 1) 0 rg w1 HQ1.out.r.t hr ha hb hrb).mono ?_
  rintro e w2 ⟨rfl, k2⟩
  have q2 := HQ1.out.r.put (W2 := (w1.setCell ⟨b, 5 + r.toNat, none⟩ (.int .i64 tv)).setCell ⟨b, 5 + bb.toNat, none⟩ (.int .i64 1)) (fun q hq => (Below.heap_setCell _ _ _ q hq).trans (Below.heap_setCell _ _ _ q hq)) (by simp) HQ1.out.r.bt.set.set (((Below.refl _ _).setCell (p := ⟨b, _, none⟩) h.hbb _).setCell (p := ⟨b, _, none⟩) h.hbb _) ((HQ1.out.r.t.reg _ (by omega) _).reg _ (by omega) _) k2
  have Q2 := hidW ((HQW.out.then HQ1.out).then q2)
  clear k2 q2 y0 y1 y2 y3 y4
  go_wp2
  go_ret
  refine ⟨?_, s3, n3, c3, L2', ?_⟩
  ·simp only [doM, Int.toNat_natCast, HEC.out]
   simp [chanH, HKK.out, HTV.out]
  ·simp only [doM, Int.toNat_natCast, HEC.out]
   simpa [chanR, chanC, bitN, HKK.out, HTV.out] using Q2.out
 ·have HTV := hidW (TV.out (by rw [hk]; decide))
  have HKK := hidW hk
  rw [hk]
  clear hk TV
  go_wp2_with fail
  refine (came_any 0 0 8 r a bb nn b S who pc (pc + 1) 0 rg w1 HQ1.out.r.t hr ha hb hrb).mono ?_
  rintro e w2 ⟨rfl, k2⟩
  have q2 := HQ1.out.r.put (W2 := (w1.setCell ⟨b, 5 + r.toNat, none⟩ (.int .i64 0)).setCell ⟨b, 5 + bb.toNat, none⟩ (.int .i64 0)) (fun q hq => (Below.heap_setCell _ _ _ q hq).trans (Below.heap_setCell _ _ _ q hq)) (by simp) HQ1.out.r.bt.set.set (((Below.refl _ _).setCell (p := ⟨b, _, none⟩) h.hbb _).setCell (p := ⟨b, _, none⟩) h.hbb _) ((HQ1.out.r.t.reg _ (by omega) _).reg _ (by omega) _) k2
  have Q2 := hidW ((HQW.out.then HQ1.out).then q2)
  clear k2 q2 y0 y1 y2 y3 y4
  go_wp2
  go_ret
  refine ⟨?_, s3, n3, c3, L2', ?_⟩
  ·simp only [doM, Int.toNat_natCast, HEC.out]
   simp [chanH, HKK.out, HTV.out]
  ·simp only [doM, Int.toNat_natCast, HEC.out]
   simpa [chanR, chanC, bitN, HKK.out, HTV.out] using Q2.out
 ·have HTV := hidW (TV.out (by rw [hk]; decide))
  have HKK := hidW hk
  rw [hk]
  clear hk TV
  go_wp2_with fail
  refine (came_any 0 2 8 r a bb nn b S who pc (pc + 1) 0 rg w1 HQ1.out.r.t hr ha hb hrb).mono ?_
  rintro e w2 ⟨rfl, k2⟩
  have q2 := HQ1.out.r.put (W2 := (w1.setCell ⟨b, 5 + r.toNat, none⟩ (.int .i64 0)).setCell ⟨b, 5 + bb.toNat, none⟩ (.int .i64 2)) (fun q hq => (Below.heap_setCell _ _ _ q hq).trans (Below.heap_setCell _ _ _ q hq)) (by simp) HQ1.out.r.bt.set.set (((Below.refl _ _).setCell (p := ⟨b, _, none⟩) h.hbb _).setCell (p := ⟨b, _, none⟩) h.hbb _) ((HQ1.out.r.t.reg _ (by omega) _).reg _ (by omega) _) k2
  have Q2 := hidW ((HQW.out.then HQ1.out).then q2)
  clear k2 q2 y0 y1 y2 y3 y4
  go_wp2
  go_ret
  refine ⟨?_, s3, n3, c3, L2', ?_⟩
  ·simp only [doM, Int.toNat_natCast, HEC.out]
   simp [chanH, HKK.out, HTV.out]
  ·simp only [doM, Int.toNat_natCast, HEC.out]
   simpa [chanR, chanC, bitN, HKK.out, HTV.out] using Q2.out
set_option maxHeartbeats 2000000 in
theorem do7 (o r a bb n : Int) (b S base n3 c3 : Nat) (s3 : Option Addr) (v1 v2 : Value) (L1 L2 : List (Rec × Value)) (d : SD) (who : Nat) (pc : Int) (rg : List Int) (w : World) (h : Rd w b S base v1 v2 (.slice s3 n3 c3) L1 L2 d who pc (pc + 1) 0 rg) (hr : 0 ≤ r ∧ r ≤ 3) (ha : 0 ≤ a ∧ a ≤ 3) (hb : 0 ≤ bb ∧ bb ≤ 3) (nn : Nat) (hn : n = nn) (c : CD) (hc : d.chs[nn]? = some c) (hcl : c.list.length ≤ 4) (hcn : d.chs.length ≤ 3) (hok : okC c.cap c.list.length = true) :
  Calls Tryz.prog 58 #[.pointer (some ⟨b, 0, none⟩), .agg #[.int .i64 7, .int .i64 r, .int .i64 a, .int .i64 bb, .int .i64 n]] w fun e w' => DoP w b S base v1 v2 (.slice s3 n3 c3) L1 L2 d who pc (doM ⟨pc, rg, 0⟩ ⟨7, r, a, bb, n⟩ d.chs d.tr who) e w' := by
 subst hn
 obtain ⟨r', hr'⟩ : ∃ r' : Nat, r = r' := ⟨r.toNat, by omega⟩
 subst hr'
 have br0 : (0 : Int) ≤ (r' : Int) := by omega
 have br1 : (r' : Int) < 4 := by omega
 obtain ⟨g2, c2, y9, e9, -⟩ := h.o.chanAt hc
 subst e9
 have ec : d.chs.getD nn zc = c := chs_at hc
 obtain ⟨W, hW, hx, kW, zW⟩ := Xb.new w (.int .i64 7) (.int .i64 r') (.int .i64 a) (.int .i64 bb) (.int .i64 nn) 43
 have HWW := hidW hW
 have HX := hidW hx
 have KW := hidW kW
 have QW := h.put (W2 := w) (fun q _ => rfl) rfl h.bt (Below.refl _ _) h.t kW
 have HQW := hidW QW
 have TV := hidW (fun q => takeV_none (c := c) hok q)
 have TK3 := hidW (takeK_three (cl := c.cl) hok)
 have zv2 : ∀ q, (Value.slice (some ⟨g2, 0, none⟩) d.chs.length c2).ownBlock = some q → q < w.heap.size := fun q hq => (h.o.hit (.inr (.inl (.inl hq)))).2
 have ZV2 := hidW zv2
 have HEC := hidW ec
 have x4 := hx.c4
 have xz := hx.z
 have bn0 : (0 : Int) ≤ (nn : Int) := by omega
 clear hW hx kW QW ec zv2
 go_enter Tryz.func58, Tryz.ntmps58
 have x0 := HX.out.c0
 have x1 := HX.out.c1
 have x2 := HX.out.c2
 have x3 := HX.out.c3
 go_wp2_with fail
 rw [HWW.out]
 refine (send_any 7 r' a bb nn b S base g2 c2 who pc (pc + 1) 0 rg v1 _ L1 L2 d c W HQW.out.r.t ha HQW.out.r.s HQW.out.r.o HQW.out.r.hb hc hcl hcn).mono ?_
 rintro e w1 ⟨rfl, k⟩
 clear x0 x1 x2 x3
 obtain ⟨L2', q1⟩ := HQW.out.r.chan k
 have HQ1 := hidW q1
 have X1 := HX.out
 have eX : w1.heap[w.heap.size]? = W.heap[w.heap.size]? := k.2.1 _ xz (fun e => by have := ZV2.out _ e; omega)
 have cX : ∀ j, w1.cell? ⟨w.heap.size, j, none⟩ = W.cell? ⟨w.heap.size, j, none⟩ := fun j => World.cell?_of_block eX
 have y0 := (cX 0).trans X1.c0
 have y1 := (cX 1).trans X1.c1
 have y2 := (cX 2).trans X1.c2
 have y3 := (cX 3).trans X1.c3
 have y4 := (cX 4).trans X1.c4
 have z1 := k.2.2.size
 clear k q1 X1 eX cX x4
 clear TK3 TV
 rcases sendK_three c.cap c.list c.cl with hk | hk | hk
 ·have HKK := hidW hk
  rw [hk]
  clear hk
  obtain ⟨c0, c1, c2', c3', c4, cr, cf, cz, -⟩ := HQ1.out.r.t
  have zx1 : w.heap.size < w1.heap.size := by omega
  have hne := ext_ne w1
  have u1 := Ext.fit y1 zx1
  go_wp2_with fail
  refine regionSuf w1 6 (by decide) (by kernel_rfl) (by kernel_rfl) (by kernel_rfl) (by kernel_rfl) ?_
  dsimp only [List.take, List.drop]
  repeat (go_big_quiet_step (fail))
  refine wpQuiet_nil ?_
  clear hne u1
  rintro w3 ⟨X3, rfl⟩
  obtain ⟨V2, hX3⟩ : ∃ V2, X3.w = V2 := ⟨_, rfl⟩
  have hb3 := X3.b
  rw [hX3] at hb3 ⊢
  have T2 := HQ1.out.r.t.below hb3 cz
  have lr2 : V2.cell? ⟨b, 5 + r', none⟩ = some (.int .i64 (rg.getD r' 0)) := T2.r r' (by omega)
  have ff2 := T2.f
  have zf2 := T2.z
  have q2 := HQ1.out.r.put (W2 := w1.setCell ⟨b, 5 + r', none⟩ (.int .i64 1)) (fun q hq => Below.heap_setCell _ _ _ q hq) (by simp) HQ1.out.r.bt.set ((Below.refl _ _).setCell (p := ⟨b, _, none⟩) h.hbb _) (HQ1.out.r.t.reg _ (by omega) _) (belowP hb3)
  have Q2 := hidW ((HQW.out.then HQ1.out).then q2)
  clear hb3 hX3 X3 T2 q2 y0 y1 y2 y3 y4 c0 c1 c2' c3' c4 cr cf cz
  go_wp2
  go_ret
  refine ⟨?_, s3, n3, c3, L2', ?_⟩
  ·simp only [doM, Int.toNat_natCast, HEC.out]
   simp [chanH, HKK.out]
  ·simp only [doM, Int.toNat_natCast, HEC.out]
   simpa [chanR, chanC, bitN, regN, HKK.out] using Q2.out
 ·have HKK := hidW hk
  rw [hk]
  clear hk
  obtain ⟨c0, c1, c2', c3', c4, cr, cf, cz, -⟩ := HQ1.out.r.t
  have zx1 : w.heap.size < w1.heap.size := by omega
  have hne := ext_ne w1
  have u1 := Ext.fit y1 zx1
  go_wp2_with fail
  refine regionSuf w1 6 (by decide) (by kernel_rfl) (by kernel_rfl) (by kernel_rfl) (by kernel_rfl) ?_
  dsimp only [List.take, List.drop]
  repeat (go_big_quiet_step (fail))
  refine wpQuiet_nil ?_
  clear hne u1
  rintro w3 ⟨X3, rfl⟩
  obtain ⟨V2, hX3⟩ : ∃ V2, X3.w = V2 := ⟨_, rfl⟩
  have hb3 := X3.b
  rw [hX3] at hb3 ⊢
  have T2 := HQ1.out.r.t.below hb3 cz
  have lr2 : V2.cell? ⟨b, 5 + r', none⟩ = some (.int .i64 (rg.getD r' 0)) := T2.r r' (by omega)
  have ff2 := T2.f
  have zf2 := T2.z
  have q2 := HQ1.out.r.put (W2 := w1.setCell ⟨b, 5 + r', none⟩ (.int .i64 0)) (fun q hq => Below.heap_setCell _ _ _ q hq) (by simp) HQ1.out.r.bt.set ((Below.refl _ _).setCell (p := ⟨b, _, none⟩) h.hbb _) (HQ1.out.r.t.reg _ (by omega) _) (belowP hb3)
  have Q2 := hidW ((HQW.out.then HQ1.out).then q2)
  clear hb3 hX3 X3 T2 q2 y0 y1 y2 y3 y4 c0 c1 c2' c3' c4 cr cf cz
  go_wp2
  go_ret
  refine ⟨?_, s3, n3, c3, L2', ?_⟩
  ·simp only [doM, Int.toNat_natCast, HEC.out]
   simp [chanH, HKK.out]
  ·simp only [doM, Int.toNat_natCast, HEC.out]
   simpa [chanR, chanC, bitN, regN, HKK.out] using Q2.out
 ·have HKK := hidW hk
  rw [hk]
  clear hk
  have Q2 := hidW (HQW.out.then HQ1.out)
  clear y0 y1 y2 y3 y4
  go_wp2
  go_ret
  refine ⟨?_, s3, n3, c3, L2', ?_⟩
  ·simp only [doM, Int.toNat_natCast, HEC.out]
   simp [chanH, HKK.out]
  ·simp only [doM, Int.toNat_natCast, HEC.out]
   simpa [chanR, chanC, regN, HKK.out] using Q2.out
end
end Go.Proofs.YteefnjngcnebpaaGreat
