/- Stores into a machine that runs: a core's place, its state, a register, its view. No condition. A machine that runs may be marked: its places are apart; what its memory reads is apart from its cores. No condition. A machine that runs, opened at the core that goes on; the boxes of a step. No condition. What steps of both sides end with. No condition. A region that draws its order, whose first operations only read and whose others come one behind the other: one walk of the first ones, in the order of the text, and then the others. No condition. -/
import Derived.Test.YtepfpbcjklaenaaKG00
import Derived.Test.YtepfpbcjklaenaaKG01
import Derived.Test.YtepfpbcjklaenaaKG03
import Derived.Test.YtepfpbcjklaenaaKG06
import Derived.Test.YtepfpbcjklaenaaKKMQ
import Derived.Test.YtepfpbcjklaenaaKG04
import Derived.Test.YtepfpbcjklaenaaKKApp
import Derived.Test.YtepfpbcjklaenaaKKStepK
import Derived.Test.YtepfpbcjklaenaaKKDupM
import Derived.Test.YtepfpbcjklaenaaKMemLd
import Derived.Test.YtepfpbcjklaenaaKG02
namespace Go.Proofs.Ytepfpbcjklaenaa
section
set_option linter.unusedSimpArgs false
set_option linter.unusedVariables false
set_option maxRecDepth 100000
open Go.RowKit
theorem setKV_at {α : Type} {L : List α} {k i : Nat} {y z : α} (h : (L.set k y)[i]? = some z) : (i = k ∧ z = y ∧ k < L.length) ∨ (i ≠ k ∧ L[i]? = some z) := by
 rw [List.getElem?_set] at h
 by_cases e : k = i
 ·subst e
  rw [if_pos rfl] at h
  split at h
  ·injection h with h
   exact .inl ⟨rfl, h.symm, by assumption⟩
  ·cases h
 ·rw [if_neg e] at h
  exact .inr ⟨Ne.symm e, h⟩
theorem flatK_set : ∀ (L : List KV) (k : Nat) (x : KV), L[k]? = some x → ∀ z : Int, (flatK L).set (k * 4) (.int .i64 z) = flatK (L.set k ⟨{ x.d with pc := z }, x.r, x.v⟩) ∧ (flatK L).set (k * 4 + 3) (.int .i64 z) = flatK (L.set k ⟨{ x.d with st := z }, x.r, x.v⟩)
 | [], k, x, h, z => by simp at h
 | y :: r, 0, x, h, z => by simp at h; subst h; exact ⟨rfl, rfl⟩
 | y :: r, k + 1, x, h, z => by
  have q := flatK_set r k x (by simpa using h) z
  have e1 : (k + 1) * 4 = k * 4 + 1 + 1 + 1 + 1 := by omega
  have e2 : (k + 1) * 4 + 3 = (k * 4 + 3) + 1 + 1 + 1 + 1 := by omega
  refine ⟨?_, ?_⟩
  ·rw [e1]
   show _ :: _ :: _ :: _ :: (flatK r).set (k * 4) _ = _ :: _ :: _ :: _ :: flatK (r.set k _)
   rw [q.1]
  ·rw [e2]
   show _ :: _ :: _ :: _ :: (flatK r).set (k * 4 + 3) _ = _ :: _ :: _ :: _ :: flatK (r.set k _)
   rw [q.2]
theorem flatK_same : ∀ (L : List KV) (k : Nat) (a b : KV), L[k]? = some a → a.d.pc = b.d.pc → a.d.st = b.d.st → a.r = b.r → a.v = b.v → flatK (L.set k b) = flatK L
 | [], k, a, b, h, _, _, _, _ => by simp at h
 | y :: r, 0, a, b, h, h1, h2, h3, h4 => by simp at h; subst h; show [_, _, _, _] ++ flatK r = [_, _, _, _] ++ flatK r; rw [h1, h2, h3, h4]
 | y :: r, k + 1, a, b, h, h1, h2, h3, h4 => by show [_, _, _, _] ++ flatK (r.set k b) = [_, _, _, _] ++ flatK r; rw [flatK_same r k a b (by simpa using h) h1 h2 h3 h4]
/- one core's data turned, its rows where they were; the row of cores given anew -/
theorem OwnK.turn {w w' : World} {B : Nat} {v : Value} {L : List KV} {i : Nat} {x y : KV} (h : OwnK w B v L) (hx : L[i]? = some x) (hr : y.r = x.r) (hv : y.v = x.v) (hrow : w'.ownsRow B 46 4 v L.length (flatK (L.set i y))) (hy : OwnN w' B y.r y.d.regs ∧ OwnN w' B y.v y.d.vw) (hk : ∀ (j : Nat) (z : KV), j ≠ i → L[j]? = some z → OwnN w' B z.r z.d.regs ∧ OwnN w' B z.v z.d.vw) : OwnK w' B v (L.set i y) := by
 refine ⟨by rw [List.length_set]; exact hrow, fun j z hz => ?_, fun j z k hz => ?_, fun j j' z z' k hz hz' hne => ?_⟩
 ·rcases setKV_at hz with ⟨rfl, rfl, -⟩ | ⟨hj, hz⟩
  ·exact hy
  ·exact hk j z hj hz
 ·rcases setKV_at hz with ⟨rfl, rfl, -⟩ | ⟨hj, hz⟩
  ·rw [hr, hv]; exact h.two _ x k hx
  ·exact h.two j z k hz
 ·rcases setKV_at hz with ⟨e1, e2, -⟩ | ⟨hj, q1⟩
  ·rcases setKV_at hz' with ⟨e3, e4, -⟩ | ⟨hj', q2⟩
   ·exact absurd (e1.trans e3.symm) hne
   ·subst e1 e2
    rw [hr, hv]
    exact h.sep _ j' x z' k hx q2 hne
  ·rcases setKV_at hz' with ⟨e3, e4, -⟩ | ⟨hj', q2⟩
   ·subst e3 e4
    rw [hr, hv]
    exact h.sep j _ z x k q1 hx hne
   ·exact h.sep j j' z z' k q1 q2 hne
theorem sk_turn {L : List KV} {S : List RS} {i : Nat} {x y : KV} (h : ∀ (i : Nat) (x : KV) (q : Nat), L[i]? = some x → (x.r.ownBlock = some q ∨ x.v.ownBlock = some q) → ∀ a ∈ mAs S, a.block ≠ q) (hx : L[i]? = some x) (hr : y.r = x.r) (hv : y.v = x.v) : ∀ (j : Nat) (z : KV) (q : Nat), (L.set i y)[j]? = some z → (z.r.ownBlock = some q ∨ z.v.ownBlock = some q) → ∀ a ∈ mAs S, a.block ≠ q := fun j z q hz hq => by
 rcases setKV_at hz with ⟨rfl, rfl, -⟩ | ⟨hj, hz⟩
 ·rw [hr, hv] at hq; exact h _ x q hx hq
 ·exact h j z q hz hq
/- a store into the row of cores -/
theorem MQ0.setK {w : World} {B g c : Nat} {vc vm vt : Value} {LC : List CV} {LK : List KV} {S : List RS} {d : MD} (h : MQ0 w B vc (.slice (some ⟨g, 0, none⟩) LK.length c) vm vt LC LK S d) {i : Nat} {x : KV} (hx : LK[i]? = some x) (z : Int) :
  MQ0 (w.setCell ⟨g, i * 4, none⟩ (.int .i64 z)) B vc (.slice (some ⟨g, 0, none⟩) LK.length c) vm vt LC (LK.set i ⟨{ x.d with pc := z }, x.r, x.v⟩) S (putK d i { x.d with pc := z })
  ∧ MQ0 (w.setCell ⟨g, i * 4 + 3, none⟩ (.int .i64 z)) B vc (.slice (some ⟨g, 0, none⟩) LK.length c) vm vt LC (LK.set i ⟨{ x.d with st := z }, x.r, x.v⟩) S (putK d i { x.d with st := z }) := by
 have ne : ∀ {e : TypeId} {size n : Nat} {u : Value} {xs : List Value} (j : Nat) (v : Value), w.ownsRow B e size u n xs → e ≠ 46 → ∀ k, u.ownBlock = some k → (w.setCell ⟨g, j, none⟩ v).heap[k]? = w.heap[k]? := fun j v hu he k hk' => Below.heap_setCell _ _ _ k (fun e => ownType' hu h.k.row he hk' (by rw [e]; rfl))
 have oc : ∀ (j : Nat) (v : Value), OwnC (w.setCell ⟨g, j, none⟩ v) B vc LC := fun j v => ⟨ownKeep' h.c.row (ne j v h.c.row (by decide)), fun i' x' hx' => ownKeep' (h.c.inn i' x' hx') (ne j v (h.c.inn i' x' hx') (by decide)), h.c.sep⟩
 have om : ∀ (j : Nat) (v : Value), OW (w.setCell ⟨g, j, none⟩ v) B vm S d.mem := fun j v => by
  refine ⟨h.m.n, ownKeep' h.m.row (ne j v h.m.row (by decide)), fun i' r l hr hl => ?_, h.m.d⟩
  have q := h.m.r i' r l hr hl
  refine q.kept (ne j v q.own (by decide)) (fun a ha => Below.heap_setCell _ _ _ _ (fun e => ?_)) (by simp)
  obtain ⟨cs, f, c1⟩ := q.vt a ha
  obtain ⟨cs', f', c2⟩ := own_ty h.k.row (k := g) rfl
  rw [e, c2] at c1
  injection c1 with c1
  injection c1 with _ c1
  exact absurd c1 (by decide)
 have on : ∀ (j : Nat) (v : Value), OwnD (w.setCell ⟨g, j, none⟩ v) B vt d.tr := fun j v => ownKeep' h.t (ne j v h.t (by decide))
 have oi : ∀ (j : Nat) (v : Value) (i' : Nat) (x' : KV), LK[i']? = some x' → OwnN (w.setCell ⟨g, j, none⟩ v) B x'.r x'.d.regs ∧ OwnN (w.setCell ⟨g, j, none⟩ v) B x'.v x'.d.vw := fun j v i' x' hx' => ⟨ownKeep' (h.k.inn i' x' hx').1 (ne j v (h.k.inn i' x' hx').1 (by decide)), ownKeep' (h.k.inn i' x' hx').2 (ne j v (h.k.inn i' x' hx').2 (by decide))⟩
 have fs := flatK_set LK i x hx z
 refine ⟨⟨oc _ _, h.ec, ?_, ?_, om _ _, on _ _, sk_turn h.sk hx rfl rfl⟩, ⟨oc _ _, h.ec, ?_, ?_, om _ _, on _ _, sk_turn h.sk hx rfl rfl⟩⟩
 ·refine h.k.turn hx rfl rfl ?_ (oi _ _ i x hx) (fun j z' _ hz' => oi _ _ j z' hz')
  have r := (World.ownsRow.stored h.k.row (i * 4) (.int .i64 z)).1
  rw [fs.1] at r
  exact r
 ·show (LK.set i _).map KV.d = d.cores.set i _
  rw [List.map_set, h.ek]
 ·refine h.k.turn hx rfl rfl ?_ (oi _ _ i x hx) (fun j z' _ hz' => oi _ _ j z' hz')
  have r := (World.ownsRow.stored h.k.row (i * 4 + 3) (.int .i64 z)).1
  rw [fs.2] at r
  exact r
 ·show (LK.set i _).map KV.d = d.cores.set i _
  rw [List.map_set, h.ek]
/- a store into a register -/
theorem MQ0.setR {w : World} {B g c j : Nat} {vc vk vm vt : Value} {LC : List CV} {LK : List KV} {S : List RS} {d : MD} (h : MQ0 w B vc vk vm vt LC LK S d) {i : Nat} {x : KV} (hx : LK[i]? = some x) (hr : x.r = .slice (some ⟨g, 0, none⟩) x.d.regs.length c) (z : Int) :
  MQ0 (w.setCell ⟨g, j, none⟩ (.int .i64 z)) B vc vk vm vt LC (LK.set i ⟨{ x.d with regs := x.d.regs.set j z }, x.r, x.v⟩) S (putK d i { x.d with regs := x.d.regs.set j z }) := by
 have hxo := (h.k.inn i x hx).1
 have hrow : w.ownsRow B 3 1 (.slice (some ⟨g, 0, none⟩) x.d.regs.length c) x.d.regs.length (x.d.regs.map (Value.int .i64)) := by have q := hxo; unfold OwnN at q; rw [hr] at q; exact q
 have hxb : x.r.ownBlock = some g := by rw [hr]; rfl
 have ne : ∀ {e : TypeId} {size n : Nat} {u : Value} {xs : List Value}, w.ownsRow B e size u n xs → e ≠ 3 → ∀ k, u.ownBlock = some k → (w.setCell ⟨g, j, none⟩ (.int .i64 z)).heap[k]? = w.heap[k]? := fun hu he k hk' => Below.heap_setCell _ _ _ k (fun e => ownType' hu hrow he hk' (by rw [e]; rfl))
 have nn : ∀ {u : Value} {l : List Int}, OwnN w B u l → u.ownBlock ≠ some g → OwnN (w.setCell ⟨g, j, none⟩ (.int .i64 z)) B u l := fun hu hn => ownKeep' hu (fun k hk => Below.heap_setCell _ _ _ k (fun e => hn (hk.trans (congrArg some e))))
 refine ⟨⟨ownKeep' h.c.row (ne h.c.row (by decide)), fun i' x' hx' => ownKeep' (h.c.inn i' x' hx') (ne (h.c.inn i' x' hx') (by decide)), h.c.sep⟩, h.ec, ?_, ?_, ?_, ownKeep' h.t (ne h.t (by decide)), sk_turn h.sk hx rfl rfl⟩
 ·refine h.k.turn hx rfl rfl ?_ ⟨?_, nn (h.k.inn i x hx).2 (h.k.two i x g hx hxb)⟩ (fun j' z' hj hz' => ?_)
  ·have r := ownKeep' h.k.row (ne h.k.row (by decide))
   have e := flatK_same LK i x ⟨{ x.d with regs := x.d.regs.set j z }, x.r, x.v⟩ hx rfl rfl rfl rfl
   rw [e]
   exact r
  ·show (w.setCell ⟨g, j, none⟩ (.int .i64 z)).ownsRow B 3 1 x.r (x.d.regs.set j z).length ((x.d.regs.set j z).map (Value.int .i64))
   rw [hr, List.length_set, List.map_set]
   exact (World.ownsRow.stored hrow j (.int .i64 z)).1
  ·have q := h.k.sep i j' x z' g hx hz' (Ne.symm hj) (.inl hxb)
   exact ⟨nn (h.k.inn j' z' hz').1 (fun e => q (.inl e)), nn (h.k.inn j' z' hz').2 (fun e => q (.inr e))⟩
 ·show (LK.set i _).map KV.d = d.cores.set i _
  rw [List.map_set, h.ek]
 ·refine ⟨h.m.n, ownKeep' h.m.row (ne h.m.row (by decide)), fun i' r l hr' hl => ?_, h.m.d⟩
  have q := h.m.r i' r l hr' hl
  refine q.kept (ne q.own (by decide)) (fun a ha => Below.heap_setCell _ _ _ _ (fun e => ?_)) (by simp)
  refine h.sk i x g hx (.inl hxb) a (mem_mAs.2 ⟨r, List.mem_of_getElem? hr', mem_rAs.2 (.inr (mem_vsA.1 ha))⟩) e
theorem HitQ.set {P : Nat → Prop} {vc vk vm vt : Value} {LC : List CV} {LK : List KV} {S : List RS} (h : HitQ P vc vk vm vt LC LK S) (i : Nat) (y : KV) (hy : ∀ q, (y.r.ownBlock = some q ∨ y.v.ownBlock = some q) → P q) : HitQ P vc vk vm vt LC (LK.set i y) S :=
 ⟨h.c, h.ci, h.k, fun j z q hz hq => by
  rcases setKV_at hz with ⟨-, rfl, -⟩ | ⟨-, hz⟩
  ·exact hy q hq
  ·exact h.ki j z q hz hq, h.m, h.mi, h.t⟩
theorem HitQ.same {P : Nat → Prop} {vc vk vm vt : Value} {LC : List CV} {LK : List KV} {S : List RS} {i : Nat} {x : KV} (h : HitQ P vc vk vm vt LC LK S) (hx : LK[i]? = some x) (k : KD) : HitQ P vc vk vm vt LC (LK.set i ⟨k, x.r, x.v⟩) S := h.set i _ (fun q hq => h.ki i x q hx hq)
theorem MQ.setK {Hq : Nat → Prop} {w : World} {B g c : Nat} {vc vm vt : Value} {LC : List CV} {LK : List KV} {S : List RS} {d : MD} (h : MQ w B Hq vc (.slice (some ⟨g, 0, none⟩) LK.length c) vm vt LC LK S d) {i : Nat} {x : KV} (hx : LK[i]? = some x) (z : Int) :
  MQ (w.setCell ⟨g, i * 4, none⟩ (.int .i64 z)) B Hq vc (.slice (some ⟨g, 0, none⟩) LK.length c) vm vt LC (LK.set i ⟨{ x.d with pc := z }, x.r, x.v⟩) S (putK d i { x.d with pc := z })
  ∧ MQ (w.setCell ⟨g, i * 4 + 3, none⟩ (.int .i64 z)) B Hq vc (.slice (some ⟨g, 0, none⟩) LK.length c) vm vt LC (LK.set i ⟨{ x.d with st := z }, x.r, x.v⟩) S (putK d i { x.d with st := z }) := ⟨⟨(h.toMQ0.setK hx z).1, h.hh.same hx _, by simpa using h.hn⟩, ⟨(h.toMQ0.setK hx z).2, h.hh.same hx _, by simpa using h.hn⟩⟩
theorem MQ.setR {Hq : Nat → Prop} {w : World} {B g c j : Nat} {vc vk vm vt : Value} {LC : List CV} {LK : List KV} {S : List RS} {d : MD} (h : MQ w B Hq vc vk vm vt LC LK S d) {i : Nat} {x : KV} (hx : LK[i]? = some x) (hr : x.r = .slice (some ⟨g, 0, none⟩) x.d.regs.length c) (z : Int) :
  MQ (w.setCell ⟨g, j, none⟩ (.int .i64 z)) B Hq vc vk vm vt LC (LK.set i ⟨{ x.d with regs := x.d.regs.set j z }, x.r, x.v⟩) S (putK d i { x.d with regs := x.d.regs.set j z }) := ⟨h.toMQ0.setR hx hr z, h.hh.same hx _, by simpa using h.hn⟩
end
section
set_option linter.unusedSimpArgs false
set_option linter.unusedVariables false
set_option maxRecDepth 100000
open Go.RowKit
theorem OwnC.go' {w : World} {base : Nat} {v : Value} {L : List CV} (h : OwnC w base v L) : ∃ s c R, v = .slice s L.length c ∧ GO w base w.heap.size s TC R (L.map fun x => codeV x.l) ∧ ∀ a ∈ gAs s TC.length R 0, ∃ (i : Nat) (x : CV), L[i]? = some x ∧ x.v.ownBlock = some a.block := by
 rcases Nat.eq_zero_or_pos L.length with h0 | hpos
 ·obtain ⟨s, c, e⟩ := ownSl h.row
  rw [List.length_eq_zero_iff.1 h0]
  rw [h0] at e
  exact ⟨s, c, [], e, GO.nil _ _ _ _ _, fun a ha => by simp [gAs] at ha⟩
 obtain ⟨g, cap, e, -⟩ := World.ownsRow.form h.row hpos
 have hlt := World.ownsRow.lt h.row g (by rw [e]; rfl)
 have hrow := h.row
 rw [e] at hrow
 have step : ∀ k, k ≤ L.length → ∃ R, GO w base w.heap.size (some ⟨g, 0, none⟩) TC R ((L.take k).map fun x => codeV x.l) ∧ ∀ a ∈ gAs (some ⟨g, 0, none⟩) TC.length R 0, ∃ (i : Nat) (x : CV), i < k ∧ L[i]? = some x ∧ x.v.ownBlock = some a.block := by
  intro k
  induction k with
  | zero => intro _; exact ⟨[], GO.nil _ _ _ _ _, fun a ha => by simp [gAs] at ha⟩
  | succ k ih =>
   intro hk
   obtain ⟨R, hR, hA⟩ := ih (by omega)
   obtain ⟨x, hx⟩ : ∃ x, L[k]? = some x := ⟨_, List.getElem?_eq_getElem (by omega)⟩
   obtain ⟨s, c, ev, vo⟩ := own_vo (h.inn k x hx) (fl5_len x.l)
   have tl : ((L.take k).map fun x => codeV x.l).length = k := by simp; omega
   have ow : ∀ a ∈ vAs ((⟨s, x.l.length, c⟩ : VS).wide 5), x.v.ownBlock = some a.block := fun a ha => by rw [ev]; exact vo.own ha
   refine ⟨R ++ [[.r ⟨s, x.l.length, c⟩ 5]], ?_, fun a ha => ?_⟩
   ·have et : (L.take (k + 1)).map (fun x => codeV x.l) = (L.take k).map (fun x => codeV x.l) ++ [codeV x.l] := by rw [List.take_add_one, hx]; simp
    rw [et]
    refine GO.push _ _ hR ⟨_, _, rfl⟩ rfl rfl (fun _ _ _ _ _ _ _ _ _ _ hf => hf) (fun j f u hf hu => ?_) (fun x' e' hx' a ha g' o' hg' => ?_) ?_ (fun a ha ha' => ?_)
    ·match j, hf, hu with
     | 0, hf, hu =>
      simp at hf
      simp [codeV] at hu
      subst hf hu
      rw [tl]
      refine ⟨?_, ⟨hlt.1, hlt.2⟩, vo⟩
      have q := World.ownsRow.cellAt hrow k (by omega)
      rw [List.getElem?_map, hx] at q
      simp only [Option.map_some] at q
      rw [ev] at q
      simpa [adr, TC] using q
    ·simp at hx'
     obtain ⟨rfl, rfl⟩ := hx'
     injection hg' with hg'
     injection hg' with hg'
     intro eb
     refine ownType' (h.inn k x hx) hrow (by decide) (ow a ha) ?_
     rw [eb, ← hg']
     rfl
    ·simp only [recAs, fAs, List.append_nil]
     exact vo.nodup
    ·simp only [recAs, fAs, List.append_nil] at ha'
     obtain ⟨i, z, hi, hz, hb⟩ := hA a ha
     exact h.sep i k z x _ hz hx (by omega) hb (ow a ha')
   ·rw [gAs_append] at ha
    rcases List.mem_append.1 ha with ha | ha
    ·obtain ⟨i, z, hi, hz, hb⟩ := hA a ha
     exact ⟨i, z, by omega, hz, hb⟩
    ·simp only [gAs, recAs, fAs, List.append_nil] at ha
     exact ⟨k, x, by omega, hx, ow a ha⟩
 obtain ⟨R, hR, hA⟩ := step L.length (Nat.le_refl _)
 rw [List.take_length] at hR
 exact ⟨some ⟨g, 0, none⟩, cap, R, e, hR, fun a ha => by obtain ⟨i, x, -, h1, h2⟩ := hA a ha; exact ⟨i, x, h1, h2⟩⟩
def TyB (w : World) (b : Nat) (t : TypeId) : Prop := ∃ cs f, w.heap[b]? = some (.cells cs t f)
theorem TyB.ne {w : World} {b : Nat} {t t' : TypeId} (h : TyB w b t) (h' : TyB w b t') : t = t' := by
 obtain ⟨cs, f, c⟩ := h
 obtain ⟨cs', f', c'⟩ := h'
 rw [c] at c'
 injection c' with c'
 injection c' with _ c'
theorem OW.ty {w : World} {B : Nat} {v : Value} {S : List RS} {m : List (List WD)} (h : OW w B v S m) {a : Addr} (ha : a ∈ mAs S) : TyB w a.block 48 ∨ TyB w a.block 3 := by
 obtain ⟨r, hr, har⟩ := mem_mAs.1 ha
 obtain ⟨i, hi, e⟩ := List.getElem_of_mem hr
 have hr' : S[i]? = some r := by rw [List.getElem?_eq_getElem hi, e]
 obtain ⟨l, hl⟩ := at_same h.n.symm hr'
 have q := h.r i r l hr' hl
 rcases mem_rAs.1 har with ⟨j, hj, rfl⟩ | ⟨x, hx, hax⟩
 ·left
  rcases q.ro.c with e0 | ⟨g, o, es, -⟩
  ·have := q.n
   rw [e0] at this
   simp at this
   rw [this] at hj
   simp at hj
  ·rw [es]
   exact own_ty q.own (by rw [RS.val, es]; rfl)
 ·right
  exact q.vt a (mem_vsA.2 ⟨x, hx, hax⟩)
theorem MQ0.mo {w : World} {B : Nat} {vc vk vm vt : Value} {LC : List CV} {LK : List KV} {S : List RS} {d : MD} (h : MQ0 w B vc vk vm vt LC LK S d) : ∃ p : MP, vc = .slice p.s1 d.codes.length p.c1 ∧ vk = .slice p.s2 d.cores.length p.c2 ∧ vm = .slice p.s3 d.mem.length p.c3 ∧ vt = .slice p.s4 d.tr.length p.c4 ∧ MaO w B w.heap.size p d ∧ ∀ (P : Nat → Prop), HitQ P vc vk vm vt LC LK S → ∀ a ∈ p.as d, P a.block := by
 obtain ⟨s1, c1, RC, e1, g1, a1⟩ := h.c.go'
 obtain ⟨s2, c2, RK, e2, g2, a2⟩ := h.k.go
 obtain ⟨s3, c3, e3, m3⟩ := h.m.om.mo
 obtain ⟨s4, c4, e4⟩ := ownSl h.t
 have l1 : LC.length = d.codes.length := by have := congrArg List.length h.ec; simpa using this
 have l2 : LK.length = d.cores.length := by have := congrArg List.length h.ek; simpa using this
 have q1 : GO w B w.heap.size s1 TC RC (d.codes.map codeV) := by
  rw [← h.ec, List.map_map]
  exact g1
 have q2 : GO w B w.heap.size s2 TK RK (d.cores.map coreV) := by
  rw [← h.ek, List.map_map]
  exact g2
 have ht := h.t
 rw [e4] at ht
 have v4 := OwnD.vo ht rfl
 rw [l1] at e1
 rw [l2] at e2
 have t1 : ∀ a ∈ gAs s1 TC.length RC 0, TyB w a.block 25 := fun a ha => by
  obtain ⟨i, x, hx, hb⟩ := a1 a ha
  exact own_ty (h.c.inn i x hx) hb
 have t2 : ∀ a ∈ gAs s2 TK.length RK 0, TyB w a.block 46 ∨ (TyB w a.block 3 ∧ ∀ b ∈ mAs S, b.block ≠ a.block) := fun a ha => by
  rcases a2 a ha with hb | ⟨i, x, hx, hb⟩
  ·exact .inl (own_ty h.k.row hb)
  ·refine .inr ⟨?_, fun b hb' => h.sk i x _ hx hb b hb'⟩
   rcases hb with hb | hb
   ·exact own_ty (h.k.inn i x hx).1 hb
   ·exact own_ty (h.k.inn i x hx).2 hb
 have t4 : ∀ a ∈ vAs ((⟨s4, d.tr.length, c4⟩ : VS).wide 2), TyB w a.block 78 := fun a ha => own_ty ht (v4.own ha)
 refine ⟨⟨s1, c1, RC, s2, c2, RK, s3, c3, S, s4, c4⟩, e1, e2, e3, e4, ⟨q1, q2, m3, v4, ?_⟩, fun P hP a ha => ?_⟩
 unfold MP.as
 refine List.nodup_append.2 ⟨q1.d, List.nodup_append.2 ⟨q2.d, List.nodup_append.2 ⟨m3.d, v4.nodup, fun a ha b hb e => ?_⟩, fun a ha b hb e => ?_⟩, fun a ha b hb e => ?_⟩
 ·subst e
  rcases h.m.ty ha with q | q
  ·exact absurd (q.ne (t4 a hb)) (by decide)
  ·exact absurd (q.ne (t4 a hb)) (by decide)
 ·subst e
  rcases List.mem_append.1 hb with hb | hb
  ·rcases t2 a ha with q | ⟨q, hs⟩
   ·rcases h.m.ty hb with q' | q'
    ·exact absurd (q.ne q') (by decide)
    ·exact absurd (q.ne q') (by decide)
   ·exact hs a hb rfl
  ·rcases t2 a ha with q | ⟨q, -⟩
   ·exact absurd (q.ne (t4 a hb)) (by decide)
   ·exact absurd (q.ne (t4 a hb)) (by decide)
 ·subst e
  have q := t1 a ha
  rcases List.mem_append.1 hb with hb | hb
  ·rcases t2 a hb with q' | ⟨q', -⟩
   ·exact absurd (q.ne q') (by decide)
   ·exact absurd (q.ne q') (by decide)
  ·rcases List.mem_append.1 hb with hb | hb
   ·rcases h.m.ty hb with q' | q'
    ·exact absurd (q.ne q') (by decide)
    ·exact absurd (q.ne q') (by decide)
   ·exact absurd (q.ne (t4 a hb)) (by decide)
 ·unfold MP.as at ha
  rcases List.mem_append.1 ha with ha | ha
  ·obtain ⟨i, x, hx, hb⟩ := a1 a ha
   exact hP.ci i x _ hx hb
  rcases List.mem_append.1 ha with ha | ha
  ·rcases a2 a ha with hb | ⟨i, x, hx, hb⟩
   ·exact hP.k _ hb
   ·exact hP.ki i x _ hx hb
  rcases List.mem_append.1 ha with ha | ha
  ·exact hP.mi a ha
  ·exact hP.t _ (by rw [e4]; exact v4.own ha)
/- what a memory that is owned reads does not lie in a row of integers apart from its views -/
theorem OW.av {w : World} {B n c g : Nat} {s : Option Addr} {S : List RS} {m : List (List WD)} (h : OW w B (.slice s n c) S m) (ht : TyB w g 3) (hs : ∀ a ∈ mAs S, a.block ≠ g) : MemAv w s m g := by
 intro gm om e
 subst e
 refine ⟨fun e => ?_, fun k gr or_ n1 c1 hk hc hn => ?_⟩
 ·subst e
  exact absurd (TyB.ne ht (own_ty h.row rfl)) (by decide)
 ·have om0 : om = 0 := by
   rcases h.row.2 with ⟨q, -⟩ | ⟨g', cap, cur, q, -⟩
   ·injection q with q; cases q
   ·injection q with q; injection q with q; injection q with _ q
  subst om0
  have hkS : k < S.length := by have := h.n; omega
  obtain ⟨r, hr⟩ : ∃ r, S[k]? = some r := ⟨_, List.getElem?_eq_getElem hkS⟩
  obtain ⟨l, hl⟩ : ∃ l, m[k]? = some l := ⟨_, List.getElem?_eq_getElem hk⟩
  have hrow := h.row
  rcases hrow.2 with ⟨q, -⟩ | ⟨g', cap, cur, q, -⟩
  ·injection q with q; cases q
  injection q with q1 q2 q3
  subst q2
  have cc := World.ownsRow.cellAt hrow k (by omega)
  rw [List.getElem?_map, hr] at cc
  rw [Nat.zero_add, cc] at hc
  have hc' : r.val = .slice (some ⟨gr, or_, none⟩) n1 c1 := by simpa using hc
  unfold RS.val at hc'
  injection hc' with e1 e2 e3
  have q := h.r k r l hr hl
  have hb : r.val.ownBlock = some gr := by unfold RS.val; rw [e1]; rfl
  refine ⟨fun e => ?_, fun j g2 o2 n2 c2 hj hcj hn2 e => ?_⟩
  ·subst e
   exact absurd (TyB.ne ht (own_ty q.own hb)) (by decide)
  ·have hjr : j < r.vs.length := by omega
   obtain ⟨x, hx⟩ : ∃ x, r.vs[j]? = some x := ⟨_, List.getElem?_eq_getElem hjr⟩
   obtain ⟨y, hy⟩ := at_same q.n.symm hx
   rcases q.ro.c with e0 | ⟨g3, o3, es, -, -, hcc⟩
   ·rw [e0] at hy
    simp at hy
   ·obtain ⟨-, -, hv⟩ := hcc j x y hx hy
    rw [es] at e1
    injection e1 with e1
    injection e1 with e4 e5
    subst e4 e5
    rw [hv] at hcj
    injection hcj with hcj
    injection hcj with f1 f2 f3
    have hm : (⟨g2, o2, none⟩ : Addr) ∈ vAs x := mem_vAs.2 ⟨0, by omega, by rw [f1]; rfl⟩
    have := hs ⟨g2, o2, none⟩ (mem_mAs.2 ⟨r, List.mem_of_getElem? hr, mem_rAs.2 (.inr ⟨x, List.mem_of_getElem? hx, hm⟩)⟩)
    exact this e
end
section
set_option linter.unusedSimpArgs false
set_option linter.unusedVariables false
set_option maxRecDepth 100000
open Go.RowKit
structure Op8 (w : World) (B : Nat) (vc vk vm vt : Value) (LK : List KV) (d : MD) (who p : Nat) (k : KD) (code : List I5) (s : I5) (gc cc gk ck gs cs gr cr gv cv gO cO : Nat) (st : Option Addr) (ct : Nat) : Prop where
 ec : vc = .slice (some ⟨gc, 0, none⟩) d.codes.length cc
 ek : vk = .slice (some ⟨gk, 0, none⟩) LK.length ck
 em : vm = .slice (some ⟨gO, 0, none⟩) d.mem.length cO
 et : vt = .slice st d.tr.length ct
 hx : LK[who]? = some ⟨k, .slice (some ⟨gr, 0, none⟩) 8 cr, .slice (some ⟨gv, 0, none⟩) 24 cv⟩
 hp : k.pc = p
 wc : who < d.codes.length
 wk : who < LK.length
 c0 : w.cell? ⟨gc, who, none⟩ = some (.slice (some ⟨gs, 0, none⟩) code.length cs)
 k0 : w.cell? ⟨gk, who * 4, none⟩ = some (.int .i64 k.pc)
 k1 : w.cell? ⟨gk, who * 4 + 1, none⟩ = some (.slice (some ⟨gr, 0, none⟩) 8 cr)
 k2 : w.cell? ⟨gk, who * 4 + 2, none⟩ = some (.slice (some ⟨gv, 0, none⟩) 24 cv)
 k3 : w.cell? ⟨gk, who * 4 + 3, none⟩ = some (.int .i64 k.st)
 s0 : w.cell? ⟨gs, p * 5, none⟩ = some (.int .i64 s.o)
 s1 : w.cell? ⟨gs, p * 5 + 1, none⟩ = some (.int .i64 s.r)
 s2 : w.cell? ⟨gs, p * 5 + 2, none⟩ = some (.int .i64 s.a)
 s3 : w.cell? ⟨gs, p * 5 + 3, none⟩ = some (.int .i64 s.b)
 s4 : w.cell? ⟨gs, p * 5 + 4, none⟩ = some (.int .i64 s.n)
 r : ∀ i, i < 8 → w.cell? ⟨gr, i, none⟩ = some (.int .i64 (k.regs.getD i 0))
 fk : ∀ j, w.frozen? ⟨gk, j, none⟩ = false
 fr : ∀ j, w.frozen? ⟨gr, j, none⟩ = false
 zc : gc < w.heap.size
 zk : gk < w.heap.size
 zs : gs < w.heap.size
 zr : gr < w.heap.size
 zv : gv < w.heap.size
 zO : gO < w.heap.size
 bk : B ≤ gk
 br : B ≤ gr
 bv : B ≤ gv
 bO : B ≤ gO
theorem MQ0.open {w : World} {B : Nat} {vc vk vm vt : Value} {LC : List CV} {LK : List KV} {S : List RS} {d : MD} {who : Nat} {k : KD} {code : List I5} {s : I5} (h : MQ0 w B vc vk vm vt LC LK S d) (ha : At8 d who k code s) :
  ∃ p gc cc gk ck gs cs gr cr gv cv gO cO st ct, Op8 w B vc vk vm vt LK d who p k code s gc cc gk ck gs cs gr cr gv cv gO cO st ct := by
 have hp0 := ha.pc0
 have hpl := ha.pcl
 have hn1 := ha.n1
 obtain ⟨p, hp⟩ : ∃ p : Nat, k.pc = p := ⟨k.pc.toNat, by omega⟩
 have wcl : who < d.codes.length := (List.getElem?_eq_some_iff.1 ha.hc).1
 have wkl : who < d.cores.length := (List.getElem?_eq_some_iff.1 ha.hk).1
 have lc : LC.length = d.codes.length := by rw [← h.ec, List.length_map]
 have lk : LK.length = d.cores.length := by rw [← h.ek, List.length_map]
 obtain ⟨x, hx⟩ : ∃ x, LK[who]? = some x := ⟨_, List.getElem?_eq_getElem (by omega)⟩
 have ex : x.d = k := by
  have q := ha.hk
  rw [← h.ek, List.getElem?_map, hx] at q
  simpa using q
 obtain ⟨y, hy⟩ : ∃ y, LC[who]? = some y := ⟨_, List.getElem?_eq_getElem (by omega)⟩
 have ey : y.l = code := by
  have q := ha.hc
  rw [← h.ec, List.getElem?_map, hy] at q
  simpa using q
 have hrk := h.k.row
 have hrc := h.c.row
 rw [lc] at hrc
 obtain ⟨gc, cc, hvc, -⟩ := World.ownsRow.form hrc (by omega)
 obtain ⟨gk, ck, hvk, -⟩ := World.ownsRow.form hrk (by omega)
 subst hvc
 subst hvk
 have ho := h.c.inn who y hy
 unfold OwnT5 at ho
 rw [ey] at ho
 obtain ⟨gs, cs, hvs, -⟩ := World.ownsRow.form ho (by omega)
 have ho' := ho
 rw [hvs] at ho'
 obtain ⟨hr1, hr2⟩ := h.k.inn who x hx
 rw [ex] at hr1 hr2
 have hr8 := ha.regs
 have hv24 : k.vw.length = 24 := by
  have q := ha.vw
  rw [viewB_iff] at q
  have m := (memB_at ha.mem (i := 0) (by omega)).1
  omega
 obtain ⟨gr, cr, hvr, -⟩ := World.ownsRow.form hr1 (by omega)
 obtain ⟨gv, cv, hvv, -⟩ := World.ownsRow.form hr2 (by omega)
 have hr1' := hr1
 have hr2' := hr2
 unfold OwnN at hr1' hr2'
 rw [hvr] at hr1'
 rw [hvv] at hr2'
 have m24 := (memB_at ha.mem (i := 0) (by omega)).1
 have hrm := h.m.row
 rw [h.m.n] at hrm
 obtain ⟨gO, cO, hvO, -⟩ := World.ownsRow.form hrm (by omega)
 obtain ⟨st, ct, hvt⟩ := ownSl h.t
 obtain ⟨f0, f1, f2, f3⟩ := flatK_at LK who x hx
 rw [hvO] at hrm
 obtain ⟨e0, e1, e2, e3, e4⟩ := fl5_at code p s (by have q := ha.hs; rw [hp, Int.toNat_natCast] at q; exact q)
 have q5 : ∀ j, j < 5 → w.cell? ⟨gs, p * 5 + j, none⟩ = ((fl5 code).map (Value.int .i64))[p * 5 + j]? := fun j hj => World.ownsRow.cellAt ho' _ (by omega)
 rw [hr8] at hvr hr1'
 rw [hv24] at hvv hr2'
 refine ⟨p, gc, cc, gk, ck, gs, cs, gr, cr, gv, cv, gO, cO, st, ct, rfl, rfl, hvO, hvt, ?_, hp, wcl, by omega, ?_, ?_, ?_, ?_, ?_, ?_, ?_, ?_, ?_, ?_, ?_, fun j => World.ownsRow.frozenAt hrk j, fun j => World.ownsRow.frozenAt hr1' j, (World.ownsRow.lt hrc gc rfl).2, (World.ownsRow.lt hrk gk rfl).2, (World.ownsRow.lt ho' gs rfl).2, (World.ownsRow.lt hr1' gr rfl).2, (World.ownsRow.lt hr2' gv rfl).2, (World.ownsRow.lt hrm gO rfl).2, (World.ownsRow.lt hrk gk rfl).1, (World.ownsRow.lt hr1' gr rfl).1, (World.ownsRow.lt hr2' gv rfl).1, (World.ownsRow.lt hrm gO rfl).1⟩
 ·rw [hx, ← ex, ← hvr, ← hvv]
 ·rw [World.ownsRow.cellAt hrc _ (by omega), List.getElem?_map, hy, ← hvs]; rfl
 ·rw [World.ownsRow.cellAt hrk _ (by omega), f0, ex]
 ·rw [World.ownsRow.cellAt hrk _ (by omega), f1, hvr]
 ·rw [World.ownsRow.cellAt hrk _ (by omega), f2, hvv]
 ·rw [World.ownsRow.cellAt hrk _ (by omega), f3, ex]
 ·have q := q5 0 (by omega)
  rw [Nat.add_zero, List.getElem?_map, e0] at q
  exact q
 ·rw [q5 1 (by omega), List.getElem?_map, e1]; rfl
 ·rw [q5 2 (by omega), List.getElem?_map, e2]; rfl
 ·rw [q5 3 (by omega), List.getElem?_map, e3]; rfl
 ·rw [q5 4 (by omega), List.getElem?_map, e4]; rfl
 ·intro i hi
  rw [hvr, ← hr8] at hr1
  exact OwnN.cell hr1 (by omega)
end
section
set_option linter.unusedSimpArgs false
set_option linter.unusedVariables false
set_option maxRecDepth 100000
open Go.RowKit
theorem heap_pair {w V : World} {b g j : Nat} {u : Value} (h : V.heap[b]? = w.heap[b]?) : (V.setCell ⟨g, j, none⟩ u).heap[b]? = (w.setCell ⟨g, j, none⟩ u).heap[b]? := by
 simp only [World.setCell, Array.getElem?_modify, h]
theorem putK_putK (d : MD) (who : Nat) (a b : KD) : putK (putK d who a) who b = putK d who b := by
 unfold putK
 simp only [List.set_set]
theorem goM_put (d : MD) (who : Nat) (a k : KD) (n : Nat) (p : Int) : goM (putK d who a) who k n p = goM d who k n p := by
 unfold goM
 rw [putK_putK, putK_putK]
theorem MQ.reg {Hq : Nat → Prop} {w : World} {B gr cr who : Nat} {vc vk vm vt v : Value} {LC : List CV} {LK : List KV} {S : List RS} {d : MD} {k : KD} (h : MQ w B Hq vc vk vm vt LC LK S d) (hx : LK[who]? = some ⟨k, .slice (some ⟨gr, 0, none⟩) 8 cr, v⟩) (h8 : k.regs.length = 8) (j : Nat) (z : Int) :
  MQ (w.setCell ⟨gr, j, none⟩ (.int .i64 z)) B Hq vc vk vm vt LC (LK.set who ⟨{ k with regs := k.regs.set j z }, .slice (some ⟨gr, 0, none⟩) 8 cr, v⟩) S (putK d who { k with regs := k.regs.set j z }) :=
 MQ.setR h hx (by show _ = _; rw [h8]) z
theorem MQ.go {Hq : Nat → Prop} {w F : World} {B gk ck N who n : Nat} {vc vm vt r v : Value} {LC : List CV} {LK : List KV} {S : List RS} {d : MD} {k : KD} (h : MQ w B Hq vc (.slice (some ⟨gk, 0, none⟩) N ck) vm vt LC LK S d) (hN : LK.length = N) (hx : LK[who]? = some ⟨k, r, v⟩) (p : Int) (hp : p < (n : Int)) (hF : ∀ b, b < w.heap.size → F.heap[b]? = (w.setCell ⟨gk, who * 4, none⟩ (.int .i64 p)).heap[b]?) (hs : w.heap.size ≤ F.heap.size) :
  ∃ LK', MQ F B Hq vc (.slice (some ⟨gk, 0, none⟩) N ck) vm vt LC LK' S (goM d who k n p) := by
 subst hN
 unfold goM
 rw [if_pos hp]
 exact ⟨_, (MQ.setK h hx p).1.keep (fun b _ hb => hF b (by simpa using hb)) (by simpa using hs)⟩
theorem MQ.st {Hq : Nat → Prop} {w F : World} {B gk ck N who : Nat} {vc vm vt r v : Value} {LC : List CV} {LK : List KV} {S : List RS} {d : MD} {k : KD} (h : MQ w B Hq vc (.slice (some ⟨gk, 0, none⟩) N ck) vm vt LC LK S d) (hN : LK.length = N) (hx : LK[who]? = some ⟨k, r, v⟩) (z : Int) (hF : ∀ b, b < w.heap.size → F.heap[b]? = (w.setCell ⟨gk, who * 4 + 3, none⟩ (.int .i64 z)).heap[b]?) (hs : w.heap.size ≤ F.heap.size) :
  ∃ LK', MQ F B Hq vc (.slice (some ⟨gk, 0, none⟩) N ck) vm vt LC LK' S (putK d who { k with st := z }) := by
 subst hN
 exact ⟨_, (MQ.setK h hx z).2.keep (fun b _ hb => hF b (by simpa using hb)) (by simpa using hs)⟩
theorem MQ.no {Hq : Nat → Prop} {w F : World} {B gk ck N who n : Nat} {vc vm vt r v : Value} {LC : List CV} {LK : List KV} {S : List RS} {d : MD} {k : KD} (h : MQ w B Hq vc (.slice (some ⟨gk, 0, none⟩) N ck) vm vt LC LK S d) (hN : LK.length = N) (hx : LK[who]? = some ⟨k, r, v⟩) (p : Int) (hp : ¬ p < (n : Int)) (hF : ∀ b, b < w.heap.size → F.heap[b]? = (w.setCell ⟨gk, who * 4 + 3, none⟩ (.int .i64 2)).heap[b]?) (hs : w.heap.size ≤ F.heap.size) :
  ∃ LK', MQ F B Hq vc (.slice (some ⟨gk, 0, none⟩) N ck) vm vt LC LK' S (goM d who k n p) := by
 unfold goM
 rw [if_neg hp]
 exact h.st hN hx 2 hF hs
theorem set_at {L : List KV} {i : Nat} {x y : KV} (h : L[i]? = some x) : (L.set i y)[i]? = some y := by
 have := (List.getElem?_eq_some_iff.1 h).1
 rw [List.getElem?_set_self this]
theorem Op8.ne {Hq : Nat → Prop} {w : World} {B : Nat} {vc vk vm vt : Value} {LC : List CV} {LK : List KV} {S : List RS} {d : MD} {who p : Nat} {k : KD} {code : List I5} {s : I5} {gc cc gk ck gs cs gr cr gv cv gO cO : Nat} {st : Option Addr} {ct : Nat} (h : MQ w B Hq vc vk vm vt LC LK S d) (o : Op8 w B vc vk vm vt LK d who p k code s gc cc gk ck gs cs gr cr gv cv gO cO st ct) :
  gr ≠ gc ∧ gr ≠ gk ∧ gr ≠ gO ∧ gr ≠ gv ∧ gk ≠ gc ∧ gk ≠ gO ∧ gc ≠ gO ∧ gv ≠ gk ∧ gv ≠ gc ∧ gv ≠ gO := by
 have hr := (h.k.inn who _ o.hx).1
 have hv := (h.k.inn who _ o.hx).2
 have hk := h.k.row
 have hc := h.c.row
 have hm := h.m.row
 have e1 : (Value.slice (some ⟨gr, 0, none⟩) 8 cr).ownBlock = some gr := rfl
 have e2 : (Value.slice (some ⟨gv, 0, none⟩) 24 cv).ownBlock = some gv := rfl
 have e3 : vk.ownBlock = some gk := by rw [o.ek]; rfl
 have e4 : vc.ownBlock = some gc := by rw [o.ec]; rfl
 have e5 : vm.ownBlock = some gO := by rw [o.em]; rfl
 refine ⟨fun e => ?_, fun e => ?_, fun e => ?_, fun e => ?_, fun e => ?_, fun e => ?_, fun e => ?_, fun e => ?_, fun e => ?_, fun e => ?_⟩
 ·exact ownType' hr hc (by decide) e1 (e ▸ e4)
 ·exact ownType' hr hk (by decide) e1 (e ▸ e3)
 ·exact ownType' hr hm (by decide) e1 (e ▸ e5)
 ·exact h.k.two who _ gr o.hx e1 (e ▸ e2)
 ·exact ownType' hk hc (by decide) e3 (e ▸ e4)
 ·exact ownType' hk hm (by decide) e3 (e ▸ e5)
 ·exact ownType' hc hm (by decide) e4 (e ▸ e5)
 ·exact ownType' hv hk (by decide) e2 (e ▸ e3)
 ·exact ownType' hv hc (by decide) e2 (e ▸ e4)
 ·exact ownType' hv hm (by decide) e2 (e ▸ e5)
def bitN (b : Bool) : Int := if b = true then 1 else 0
theorem stepAt1 (d : MD) (who : Nat) (late : Int) (k : KD) (n : Nat) (s : I5) (h : s.o = 1) : stepAt d who late k n s = (goM d who (setR k s.r s.n) n (k.pc + 1), 0) := by
 unfold stepAt
 rw [if_pos h]
theorem stepAt2 (d : MD) (who : Nat) (late : Int) (k : KD) (n : Nat) (s : I5) (h : s.o = 2) : stepAt d who late k n s = (goM d who (setR k s.r (wI (regA k s.a + regA k s.b))) n (k.pc + 1), 0) := by
 unfold stepAt
 rw [if_neg (by rw [h]; decide)]
 rw [if_pos h]
theorem stepAt3 (d : MD) (who : Nat) (late : Int) (k : KD) (n : Nat) (s : I5) (h : s.o = 3) : stepAt d who late k n s = (goM d who (setR k s.r (wI (regA k s.a - regA k s.b))) n (k.pc + 1), 0) := by
 unfold stepAt
 rw [if_neg (by rw [h]; decide)]
 rw [if_neg (by rw [h]; decide)]
 rw [if_pos h]
theorem stepAt4 (d : MD) (who : Nat) (late : Int) (k : KD) (n : Nat) (s : I5) (h : s.o = 4) : stepAt d who late k n s = (goM d who (setR k s.r (if regA k s.a < regA k s.b then 1 else 0)) n (k.pc + 1), 0) := by
 unfold stepAt
 rw [if_neg (by rw [h]; decide)]
 rw [if_neg (by rw [h]; decide)]
 rw [if_neg (by rw [h]; decide)]
 rw [if_pos h]
theorem stepAt9 (d : MD) (who : Nat) (late : Int) (k : KD) (n : Nat) (s : I5) (h : s.o = 9) : stepAt d who late k n s = (if d.tr.length = 4000 then (d, 3) else (goM { d with tr := d.tr ++ [⟨who, regA k s.a⟩] } who k n (k.pc + 1), 0)) := by
 unfold stepAt
 rw [if_neg (by rw [h]; decide)]
 rw [if_neg (by rw [h]; decide)]
 rw [if_neg (by rw [h]; decide)]
 rw [if_neg (by rw [h]; decide)]
 rw [if_pos h]
theorem stepAt10 (d : MD) (who : Nat) (late : Int) (k : KD) (n : Nat) (s : I5) (h : s.o = 10) : stepAt d who late k n s = (goM d who k n s.n, 0) := by
 unfold stepAt
 rw [if_neg (by rw [h]; decide)]
 rw [if_neg (by rw [h]; decide)]
 rw [if_neg (by rw [h]; decide)]
 rw [if_neg (by rw [h]; decide)]
 rw [if_neg (by rw [h]; decide)]
 rw [if_pos h]
theorem stepAt11 (d : MD) (who : Nat) (late : Int) (k : KD) (n : Nat) (s : I5) (h : s.o = 11) : stepAt d who late k n s = (goM d who k n (if regA k s.a = 0 then s.n else k.pc + 1), 0) := by
 unfold stepAt
 rw [if_neg (by rw [h]; decide)]
 rw [if_neg (by rw [h]; decide)]
 rw [if_neg (by rw [h]; decide)]
 rw [if_neg (by rw [h]; decide)]
 rw [if_neg (by rw [h]; decide)]
 rw [if_neg (by rw [h]; decide)]
 rw [if_pos h]
theorem stepAt12 (d : MD) (who : Nat) (late : Int) (k : KD) (n : Nat) (s : I5) (h : s.o = 12) : stepAt d who late k n s = (putK d who { k with st := 1 }, 0) := by
 unfold stepAt
 rw [if_neg (by rw [h]; decide)]
 rw [if_neg (by rw [h]; decide)]
 rw [if_neg (by rw [h]; decide)]
 rw [if_neg (by rw [h]; decide)]
 rw [if_neg (by rw [h]; decide)]
 rw [if_neg (by rw [h]; decide)]
 rw [if_neg (by rw [h]; decide)]
 rw [if_pos h]
theorem stepAt13 (d : MD) (who : Nat) (late : Int) (k : KD) (n : Nat) (s : I5) (h : s.o = 13) : stepAt d who late k n s = (putK d who { k with st := 2 }, 0) := by
 unfold stepAt
 rw [if_neg (by rw [h]; decide)]
 rw [if_neg (by rw [h]; decide)]
 rw [if_neg (by rw [h]; decide)]
 rw [if_neg (by rw [h]; decide)]
 rw [if_neg (by rw [h]; decide)]
 rw [if_neg (by rw [h]; decide)]
 rw [if_neg (by rw [h]; decide)]
 rw [if_neg (by rw [h]; decide)]
 rw [if_pos h]
theorem stepAtM (d : MD) (who : Nat) (late : Int) (k : KD) (n : Nat) (s : I5) (h : 5 ≤ s.o ∧ s.o ≤ 8) : stepAt d who late k n s = (if 0 ≤ cellM k s ∧ cellM k s ≤ 23 then (if s.o ≠ 5 ∧ (d.mem.getD (cellM k s).toNat []).length = 4000 then (d, 3) else (goM (memS d late k s (cellM k s).toNat).1 who (memS d late k s (cellM k s).toNat).2 n (k.pc + 1), 0)) else (putK d who { k with st := 2 }, 0)) := by
 unfold stepAt
 rw [if_neg (by omega)]
 rw [if_neg (by omega)]
 rw [if_neg (by omega)]
 rw [if_neg (by omega)]
 rw [if_neg (by omega)]
 rw [if_neg (by omega)]
 rw [if_neg (by omega)]
 rw [if_neg (by omega)]
 rw [if_neg (by omega)]
theorem wp_note {o : Oper} {a : Act} {w : World} {K : Act → World → Prop} {Q : Exit → Act → World → Prop} (s x : Operand) (ho : o.op = .call { callee := .builtin .append, args := #[s, x], argTypes := #[32, 32] })
  (base : Nat) (v : Value) (n : Nat) (xs : List Value) (hs : a.eval s = v) (hown : w.ownsRow base 78 2 v n xs) (g0 : Nat) (u0 u1 : Value) (hu0 : u0.oneCell' = true) (hu1 : u1.oneCell' = true) (hx : a.eval x = .slice (some ⟨g0, 0, none⟩) 1 1) (hc0 : w.cell? ⟨g0, 0, none⟩ = some u0) (hc1 : w.cell? ⟨g0, 1, none⟩ = some u1) (hn : n ≤ 1073741824) (hbase : base ≤ w.heap.size)
  (h : ∀ g cap w', w'.ownsRow base 78 2 (.slice (some ⟨g, 0, none⟩) (n + 1) cap) (n + 1) (xs ++ [u0, u1]) → w.grownBy w' v.ownBlock → (v.ownBlock = some g ∨ w.heap.size ≤ g) → g < w'.heap.size → K (a.put o.dst (.slice (some ⟨g, 0, none⟩) (n + 1) cap)) w') : Oper.wp Try.prog o a w K Q := by
 obtain ⟨i0, hi, hz0, hz1, hz2⟩ := infoD
 refine wp_append_lies w s x 32 ho base 78 i0 _ 2 16 Try.underlying32 hi hz0 hz1 hz2 rfl (by decide) v n xs hs hown ⟨g0, 0, none⟩ 1 1 [u0, u1] hx rfl (fun j u' hj => ?_) (fun u' hu' => by simp at hu'; rcases hu' with rfl | rfl <;> assumption) (by decide) (by unfold maxLen; omega) (by omega) hbase _ rfl ?_
 ·match j, hj with
  | 0, hj => simp at hj; subst hj; simpa [Addr.add] using hc0
  | 1, hj => simp at hj; subst hj; simpa [Addr.add] using hc1
  | j + 2, hj => simp at hj
 ·intro g cap w' q1 q2 q3 q4
  exact h g cap w' q1 q2 (by rcases q3 with q3 | q3 <;> first | exact .inl q3 | exact .inr (by omega)) q4
/- a note more: the rest of the machine stays -/
theorem MQ0.note {w w' : World} {B g cap : Nat} {vc vk vm vt : Value} {LC : List CV} {LK : List KV} {S : List RS} {d : MD} (nt : ND) (h : MQ0 w B vc vk vm vt LC LK S d) (ho : w'.ownsRow B 78 2 (.slice (some ⟨g, 0, none⟩) (d.tr.length + 1) cap) (d.tr.length + 1) (flatN d.tr ++ [.int .i64 nt.who, .int .i64 nt.v])) (hb : ∀ b, b < w.heap.size → vt.ownBlock ≠ some b → w'.heap[b]? = w.heap[b]?) (hs : w.heap.size ≤ w'.heap.size) : MQ0 w' B vc vk vm (.slice (some ⟨g, 0, none⟩) (d.tr.length + 1) cap) LC LK S { d with tr := d.tr ++ [nt] } := by
 have ne : ∀ {e : TypeId} {size n : Nat} {u : Value} {xs : List Value}, w.ownsRow B e size u n xs → e ≠ 78 → ∀ q, u.ownBlock = some q → w'.heap[q]? = w.heap[q]? := fun hu h1 q hq => hb q (World.ownsRow.lt hu _ hq).2 (ownType' hu h.t h1 hq)
 refine ⟨⟨ownKeep' h.c.row (ne h.c.row (by decide)), fun i x hx => ownKeep' (h.c.inn i x hx) (ne (h.c.inn i x hx) (by decide)), h.c.sep⟩, h.ec, ⟨ownKeep' h.k.row (ne h.k.row (by decide)), fun i x hx => ⟨ownKeep' (h.k.inn i x hx).1 (ne (h.k.inn i x hx).1 (by decide)), ownKeep' (h.k.inn i x hx).2 (ne (h.k.inn i x hx).2 (by decide))⟩, h.k.two, h.k.sep⟩, h.ek, ?_, ?_, h.sk⟩
 ·refine ⟨h.m.n, ownKeep' h.m.row (ne h.m.row (by decide)), fun i' r l hr hl => ?_, h.m.d⟩
  have q := h.m.r i' r l hr hl
  refine q.kept (ne q.own (by decide)) (fun a ha => ?_) hs
  obtain ⟨cs, f, c1⟩ := q.vt a ha
  refine hb a.block (q.blk ha).2 (fun e => ?_)
  obtain ⟨cs', f', c2⟩ := own_ty h.t e
  rw [c2] at c1
  injection c1 with c1
  injection c1 with _ c1
  exact absurd c1 (by decide)
 ·show OwnD w' B _ (d.tr ++ [nt])
  unfold OwnD
  rw [flatN_app, List.length_append]
  exact ho
theorem MQ.note {Hq : Nat → Prop} {w w' : World} {B g cap : Nat} {vc vk vm vt : Value} {LC : List CV} {LK : List KV} {S : List RS} {d : MD} (nt : ND) (h : MQ w B Hq vc vk vm vt LC LK S d) (ho : w'.ownsRow B 78 2 (.slice (some ⟨g, 0, none⟩) (d.tr.length + 1) cap) (d.tr.length + 1) (flatN d.tr ++ [.int .i64 nt.who, .int .i64 nt.v])) (hb : ∀ b, b < w.heap.size → vt.ownBlock ≠ some b → w'.heap[b]? = w.heap[b]?) (hs : w.heap.size ≤ w'.heap.size) (hg : vt.ownBlock = some g ∨ w.heap.size ≤ g) : MQ w' B Hq vc vk vm (.slice (some ⟨g, 0, none⟩) (d.tr.length + 1) cap) LC LK S { d with tr := d.tr ++ [nt] } := ⟨h.toMQ0.note nt ho hb hs, ⟨h.hh.c, h.hh.ci, h.hh.k, h.hh.ki, h.hh.m, h.hh.mi, fun q hq => by injection hq with hq; subst hq; exact hg.elim (fun e => h.hh.t _ e) (fun e => h.hn _ e)⟩, fun q hq => h.hn q (Nat.le_trans hs hq)⟩
theorem app_note {ops : Array Oper} {rest : List Oper} {o : Oper} {a : Act} {Q : Exit → Act → World → Prop} (hgd : o.guard = none) (s x : Operand) (ho : o.op = .call { callee := .builtin .append, args := #[s, x], argTypes := #[32, 32] })
  (w : World) (base : Nat) (v : Value) (n : Nat) (xs : List Value) (hs : a.eval s = v) (hown : w.ownsRow base 78 2 v n xs) (g0 : Nat) (u0 u1 : Value) (hu0 : u0.oneCell' = true) (hu1 : u1.oneCell' = true) (hx : a.eval x = .slice (some ⟨g0, 0, none⟩) 1 1) (hc0 : w.cell? ⟨g0, 0, none⟩ = some u0) (hc1 : w.cell? ⟨g0, 1, none⟩ = some u1) (hn : n ≤ 1073741824) (hbase : base ≤ w.heap.size)
  (h : ∀ g cap w', w'.ownsRow base 78 2 (.slice (some ⟨g, 0, none⟩) (n + 1) cap) (n + 1) (xs ++ [u0, u1]) → w.grownBy w' v.ownBlock → (v.ownBlock = some g ∨ w.heap.size ≤ g) → g < w'.heap.size → wpList Try.prog ops Q rest (a.put o.dst (.slice (some ⟨g, 0, none⟩) (n + 1) cap)) w') : wpList Try.prog ops Q (o :: rest) a w :=
 wpList_plain hgd fun _ hK => wp_note s x ho base v n xs hs hown g0 u0 u1 hu0 hu1 hx hc0 hc1 hn hbase fun g cap w' h1 h2 h3 h4 => hK _ _ (h g cap w' h1 h2 h3 h4)
/- a store into a box of a machine's type -/
theorem MQ0.offB {w : World} {B b j : Nat} {vc vk vm vt u : Value} {LC : List CV} {LK : List KV} {S : List RS} {d : MD} (h : MQ0 w B vc vk vm vt LC LK S d) (ht : BxT w b) : MQ0 (w.setCell ⟨b, j, none⟩ u) B vc vk vm vt LC LK S d := by
 have hb : ∀ k, k ≠ b → (w.setCell ⟨b, j, none⟩ u).heap[k]? = w.heap[k]? := fun k hk => Below.heap_setCell _ _ _ k hk
 exact ⟨h.c.off ht hb, h.ec, h.k.off ht hb, h.ek, h.m.off ht hb (by simp), h.t.off ht hb, h.sk⟩
theorem MQ.offB {Hq : Nat → Prop} {w : World} {B b j : Nat} {vc vk vm vt u : Value} {LC : List CV} {LK : List KV} {S : List RS} {d : MD} (h : MQ w B Hq vc vk vm vt LC LK S d) (ht : BxT w b) : MQ (w.setCell ⟨b, j, none⟩ u) B Hq vc vk vm vt LC LK S d := ⟨h.toMQ0.offB ht, h.hh, by simpa using h.hn⟩
theorem BxT.same {w w' : World} {b : Nat} (h : BxT w b) (e : w'.heap[b]? = w.heap[b]?) : BxT w' b := by
 obtain ⟨cs, f, c⟩ := h
 exact ⟨cs, f, e.trans c⟩
theorem BxT.lt {w : World} {b : Nat} (h : BxT w b) : b < w.heap.size := by
 obtain ⟨cs, f, c⟩ := h
 exact (Array.getElem?_eq_some_iff.1 c).1
theorem BxT.new (w : World) (cs : Array Value) : BxT (w.alloc (.cells cs 34)) w.heap.size := ⟨_, _, heap_alloc_new _ _⟩
end
section
set_option linter.unusedSimpArgs false
set_option linter.unusedVariables false
set_option maxRecDepth 100000
open Go.RowKit
def edgeB (full : List Oper) (i' i : Nat) : Bool := (full[i']?.map fun x => x.after.any fun e => Region.binds .any e && e.on == i).getD false
def lexE (full : List Oper) : Bool := (List.range full.length).all fun i => (full[i]?.map fun x => x.after.all fun e => !Region.binds .any e || decide (e.on < i)).getD true
/- whatever is ahead of number j is listed when j may come up -/
def covB (full : List Oper) (j : Nat) : Bool := (List.range j).all fun i => (List.range (j + 1)).any fun i' => decide (i < i') && edgeB full i' i
def sufOk (full : List Oper) (k : Nat) : Bool := lexE full && ((List.range full.length).all fun j => decide (j < k) || covB full j)
theorem edge_iff {full : List Oper} {i' i : Nat} : edgeB full i' i = true ↔ ∃ x, full[i']? = some x ∧ ∃ e ∈ x.after, Region.binds .any e = true ∧ e.on = i := by
 unfold edgeB
 cases h : full[i']? with
 | none => simp
 | some x =>
  simp only [Option.map_some, Option.getD_some, Array.any_eq_true', Bool.and_eq_true, beq_iff_eq]
  constructor
  ·rintro ⟨e, h1, h2, h3⟩; exact ⟨x, rfl, e, h1, h2, h3⟩
  ·rintro ⟨y, hy, e, h1, h2, h3⟩; injection hy with hy; subst hy; exact ⟨e, h1, h2, h3⟩
theorem mem_rdy {full : List Oper} {listed : Array Bool} {i : Nat} : i ∈ Region.ready .any full.toArray listed ↔ i < full.length ∧ listed.getD i true = false ∧ ∀ i2, edgeB full i i2 = true → listed.getD i2 false = true := by
 unfold Region.ready
 rw [List.mem_filter, List.mem_range, Bool.and_eq_true, Bool.not_eq_true', List.size_toArray, List.getElem?_toArray]
 refine and_congr_right fun hi => and_congr_right fun _ => ?_
 rw [List.getElem?_eq_getElem hi]
 simp only [Option.map_some, Option.getD_some, Array.all_eq_true', Bool.or_eq_true, Bool.not_eq_true']
 constructor
 ·intro h i2 h2
  rw [edge_iff] at h2
  obtain ⟨x, hx, e, he, hb, rfl⟩ := h2
  rw [List.getElem?_eq_getElem hi] at hx
  injection hx with hx
  subst hx
  rcases h e he with h | h
  ·rw [hb] at h; cases h
  ·exact h
 ·intro h e he
  cases hb : Region.binds .any e with
  | false => exact .inl rfl
  | true => exact .inr (h e.on (edge_iff.2 ⟨_, List.getElem?_eq_getElem hi, e, he, hb, rfl⟩))
/- what is listed was waited for -/
def Down (full : List Oper) (listed : Array Bool) : Prop := ∀ i i2, i < full.length → listed.getD i true = true → edgeB full i i2 = true → listed.getD i2 false = true
theorem lex_lt {full : List Oper} (h : lexE full = true) {i i2 : Nat} (he : edgeB full i i2 = true) : i2 < i ∧ i < full.length := by
 rw [edge_iff] at he
 obtain ⟨x, hx, e, hm, hb, rfl⟩ := he
 have hi := (List.getElem?_eq_some_iff.1 hx).1
 unfold lexE at h
 rw [List.all_eq_true] at h
 have q := h i (List.mem_range.2 hi)
 rw [hx] at q
 simp only [Option.map_some, Option.getD_some, Array.all_eq_true', Bool.or_eq_true, Bool.not_eq_true'] at q
 rcases q e hm with q | q
 ·rw [hb] at q; cases q
 ·exact ⟨by simpa using q, hi⟩
theorem getD_in {listed : Array Bool} {i : Nat} (h : i < listed.size) (b c : Bool) : listed.getD i b = listed.getD i c := by simp [Array.getD, h]
theorem down_set {full : List Oper} {listed : Array Bool} (hs : listed.size = full.length) (hd : Down full listed) (hx : lexE full = true) {k : Nat} (hk : k ∈ Region.ready .any full.toArray listed) : Down full (listed.setIfInBounds k true) := fun i i2 hi hl he => by
 have h2 := lex_lt hx he
 have q : listed.getD i2 false = true := by
  by_cases e : i = k
  ·subst e
   exact (mem_rdy.1 hk).2.2 i2 he
  ·refine hd i i2 hi ?_ he
   have : i < listed.size := by omega
   simpa [Array.getD, this, Array.getElem_setIfInBounds, Ne.symm e] using hl
 have : i2 < listed.size := by omega
 by_cases e : k = i2
 ·subst e; simp [Array.getD, this]
 ·simp only [Array.getD, this, dif_pos] at q
  simp [Array.getD, this, Array.getElem_setIfInBounds, e]
  exact q
theorem cov_all {full : List Oper} {listed : Array Bool} (hs : listed.size = full.length) (hd : Down full listed) {j : Nat} (hj : j < full.length) (hc : covB full j = true) (hr : ∀ i2, edgeB full j i2 = true → listed.getD i2 false = true) : ∀ n i, j - i ≤ n → i < j → listed.getD i false = true := by
 intro n
 induction n with
 | zero => intro i h1 h2; omega
 | succ n ih =>
  intro i h1 h2
  unfold covB at hc
  rw [List.all_eq_true] at hc
  have q := hc i (List.mem_range.2 h2)
  rw [List.any_eq_true] at q
  obtain ⟨i', hm, q⟩ := q
  rw [List.mem_range] at hm
  rw [Bool.and_eq_true, decide_eq_true_eq] at q
  by_cases e : i' = j
  ·subst e; exact hr i q.2
  ·have := ih i' (by omega) (by omega)
   exact hd i' i (by omega) (by rw [getD_in (by omega) true false]; exact this) q.2
theorem rdy_some {full : List Oper} (hx : lexE full = true) {listed : Array Bool} (hs : listed.size = full.length) : ∀ (k : Nat), k < full.length → listed.getD k true = false → ∃ i, i ≤ k ∧ i ∈ Region.ready .any full.toArray listed := by
 intro k
 induction k using Nat.strongRecOn with
 | ind k ih =>
  intro hk hf
  by_cases h : ∃ j, j < k ∧ listed.getD j true = false
  ·obtain ⟨j, h1, h2⟩ := h
   obtain ⟨i, h3, h4⟩ := ih j h1 (by omega) h2
   exact ⟨i, by omega, h4⟩
  ·refine ⟨k, Nat.le_refl _, mem_rdy.2 ⟨hk, hf, fun i2 he => ?_⟩⟩
   have h2 := lex_lt hx he
   have hn : ¬ listed.getD i2 true = false := fun hh => h ⟨i2, h2.1, hh⟩
   rw [getD_in (by omega) false true]
   simpa using hn
/- all below k are listed, none from k on -/
def Upto (n : Nat) (listed : Array Bool) (k : Nat) : Prop := listed.size = n ∧ (∀ i, i < k → i < n → listed.getD i true = true) ∧ ∀ i, k ≤ i → i < n → listed.getD i true = false
theorem Upto.next {n k : Nat} {listed : Array Bool} (h : Upto n listed k) (hk : k < n) : Upto n (listed.setIfInBounds k true) (k + 1) := by
 obtain ⟨h1, h2, h3⟩ := h
 refine ⟨by simpa using h1, fun i a b => ?_, fun i a b => ?_⟩
 ·have hi : i < listed.size := by omega
  by_cases e : k = i
  ·subst e; simp [Array.getD, hi]
  ·have q := h2 i (by omega) b
   simp only [Array.getD, hi, dif_pos] at q
   simp [Array.getD, hi, Array.getElem_setIfInBounds, e]
   exact q
 ·have hi : i < listed.size := by omega
  have q := h3 i (by omega) b
  simp only [Array.getD, hi, dif_pos] at q
  simp [Array.getD, hi, Array.getElem_setIfInBounds, show ¬ k = i by omega]
  exact q
theorem forced {P : Program} {Q : Exit → Act → World → Prop} {full : List Oper} (hx : lexE full = true) : ∀ (t : List Oper) (k : Nat) (listed : Array Bool) (a : Act) (w : World), full.drop k = t → (∀ j, k ≤ j → j < full.length → covB full j = true) → Down full listed → Upto full.length listed k → wpList P full.toArray Q t a w → wpAny P .any full.toArray Q t.length listed a w
 | [], k, listed, a, w, ht, hc, hd, hu, h => by
  have hk : full.length ≤ k := List.drop_eq_nil_iff.1 ht
  refine ⟨List.eq_nil_iff_forall_not_mem.2 fun i hi => ?_, h⟩
  obtain ⟨h1, h2, -⟩ := mem_rdy.1 hi
  rw [hu.2.1 i (by omega) h1] at h2
  cases h2
 | o :: t, k, listed, a, w, ht, hc, hd, hu, h => by
  have hk : k < full.length := by
   rcases Nat.lt_or_ge k full.length with q | q
   ·exact q
   ·rw [List.drop_eq_nil_of_le q] at ht; cases ht
  have ho : full[k]? = some o := by
   have : (full.drop k)[0]? = some o := by rw [ht]; rfl
   rw [List.getElem?_drop] at this
   simpa using this
  have hall : ∀ i, i ∈ Region.ready .any full.toArray listed → i = k := fun i hi => by
   obtain ⟨h1, h2, h3⟩ := mem_rdy.1 hi
   rcases Nat.lt_trichotomy i k with q | q | q
   ·rw [hu.2.1 i q h1] at h2; cases h2
   ·exact q
   ·have c := cov_all hu.1 hd h1 (hc i (by omega) h1) h3 i k (by omega) q
    have c2 := hu.2.2 k (Nat.le_refl _) hk
    rw [getD_in (by have := hu.1; omega) true false, c] at c2
    cases c2
  refine ⟨fun h0 => ?_, fun i hi => ?_⟩
  ·obtain ⟨i, -, hi⟩ := rdy_some hx hu.1 k hk (hu.2.2 k (Nat.le_refl _) hk)
   rw [h0] at hi
   cases hi
  ·have e := hall i hi
   subst e
   unfold wpList at h
   unfold wpOp
   have ho2 : full.toArray[i]? = some o := by rw [List.getElem?_toArray]; exact ho
   have hd2 := down_set hu.1 hd hx hi
   have go : ∀ a' w', wpList P full.toArray Q t a' w' → wpAny P .any full.toArray Q t.length (listed.setIfInBounds i true) a' w' := fun a' w' hh => forced hx t (i + 1) _ a' w' (by rw [← List.drop_drop, ht]; rfl) (fun j a b => hc j (by omega) b) hd2 (hu.next hk) hh
   simp only [ho2]
   split
   ·rename_i hw
    rw [if_pos hw] at h
    exact h.imp (Oper.wp_mono go) id
   ·rename_i hw
    rw [if_neg hw] at h
    exact go _ _ h
theorem take_at {full : List Oper} {k i : Nat} (h : i < k) : (full.take k)[i]? = full[i]? := by rw [List.getElem?_take]; simp [h]
theorem edge_take {full : List Oper} {k i i2 : Nat} (h : i < k) : edgeB (full.take k) i i2 = edgeB full i i2 := by unfold edgeB; rw [take_at h]
/- the first k in whatever order, then the others -/
theorem suf_conv {P : Program} {Q : Exit → Act → World → Prop} {C : World → Prop} {Qa : Act → Prop} {full : List Oper} {k : Nat} (hk : k < full.length) (hx : lexE full = true) (hc : ∀ j, k ≤ j → j < full.length → covB full j = true) (hy : ∀ i x, i < k → full[i]? = some x → ∀ t : Array Value, Region.wanted x (yielded (full.take k).toArray t) = Region.wanted x (yielded full.toArray t))
  (hQ : ∀ a w, C w → Qa a → wpList P full.toArray Q (full.drop k) a w) :
  ∀ (fuel : Nat) (l1 listed : Array Bool) (a : Act) (w : World), listed.size = full.length → l1.size = k → (∀ i, i < k → l1.getD i true = listed.getD i true) → (∀ i, k ≤ i → i < full.length → listed.getD i true = false) → Down full listed → C w → wpAnyQ P .any (full.take k).toArray C Qa fuel l1 a → wpAny P .any full.toArray Q (fuel + (full.length - k)) listed a w := by
 have hl : (full.take k).length = k := by rw [List.length_take]; omega
 have hx1 : lexE (full.take k) = true := by
  unfold lexE at hx ⊢
  rw [List.all_eq_true] at hx ⊢
  intro i hi
  rw [List.mem_range, hl] at hi
  rw [take_at hi]
  exact hx i (List.mem_range.2 (by omega))
 have fin : ∀ (fuel : Nat) (l1 listed : Array Bool) (a : Act) (w : World), listed.size = full.length → l1.size = k → (∀ i, i < k → l1.getD i true = listed.getD i true) → (∀ i, k ≤ i → i < full.length → listed.getD i true = false) → Down full listed → Region.ready .any (full.take k).toArray l1 = [] → wpList P full.toArray Q (full.drop k) a w → wpAny P .any full.toArray Q (fuel + (full.length - k)) listed a w := by
  intro fuel l1 listed a w hs h1 hsame hun hd h0 hw
  have hup : Upto full.length listed k := by
   refine ⟨hs, fun i a1 a2 => ?_, hun⟩
   rw [← hsame i a1]
   cases hb : l1.getD i true with
   | true => rfl
   | false =>
    obtain ⟨i', -, hi'⟩ := rdy_some hx1 (by omega) i (by omega) hb
    rw [h0] at hi'
    cases hi'
  have q := forced (P := P) (Q := Q) hx (full.drop k) k listed a w rfl hc hd hup hw
  have mono : ∀ (n : Nat) (f : Nat) (l : Array Bool) (a : Act) (w : World), wpAny P .any full.toArray Q f l a w → wpAny P .any full.toArray Q (n + f) l a w := by
   intro n f
   induction f with
   | zero =>
    intro l a w h
    cases n with
    | zero => exact h
    | succ n => exact ⟨fun _ => h.2, by rw [h.1]; simp⟩
   | succ f ih => intro l a w h; exact ⟨h.1, fun i hi => wpOp_mono (fun a' w' hh => ih _ a' w' hh) (h.2 i hi)⟩
  have e : (full.drop k).length = full.length - k := List.length_drop
  rw [e] at q
  exact mono fuel _ _ _ _ q
 intro fuel
 induction fuel with
 | zero =>
  intro l1 listed a w hs h1 hsame hun hd hC h
  exact fin 0 l1 listed a w hs h1 hsame hun hd h.1 (hQ a w hC h.2)
 | succ fuel ih =>
  intro l1 listed a w hs h1 hsame hun hd hC h
  by_cases h0 : Region.ready .any (full.take k).toArray l1 = []
  ·exact fin (fuel + 1) l1 listed a w hs h1 hsame hun hd h0 (hQ a w hC (h.1 h0))
  ·rw [show fuel + 1 + (full.length - k) = (fuel + (full.length - k)) + 1 by omega]
   have hlt : ∀ i, i ∈ Region.ready .any full.toArray listed → i < k := fun i hi => by
    rcases Nat.lt_or_ge i k with q | q
    ·exact q
    ·exfalso
     obtain ⟨a1, a2, a3⟩ := mem_rdy.1 hi
     apply h0
     refine List.eq_nil_iff_forall_not_mem.2 fun j hj => ?_
     obtain ⟨b1, b2, -⟩ := mem_rdy.1 hj
     rw [hl] at b1
     have c := cov_all hs hd a1 (hc i q a1) a3 i j (by omega) (by omega)
     rw [hsame j b1, getD_in (by omega) true false, c] at b2
     cases b2
   refine ⟨fun hn => ?_, fun i hi => ?_⟩
   ·obtain ⟨i, -, hi⟩ := rdy_some hx hs k hk (hun k (Nat.le_refl _) hk)
    rw [hn] at hi
    cases hi
   ·have hik := hlt i hi
    obtain ⟨a1, a2, a3⟩ := mem_rdy.1 hi
    have hi1 : i ∈ Region.ready .any (full.take k).toArray l1 := by
     refine mem_rdy.2 ⟨by omega, by rw [hsame i hik]; exact a2, fun i2 he => ?_⟩
     rw [edge_take hik] at he
     have := (lex_lt hx he).1
     rw [getD_in (by omega) false true, hsame i2 (by omega), getD_in (by omega) true false]
     exact a3 i2 he
    have hq := h.2 i hi1
    obtain ⟨o, ho⟩ : ∃ o, full[i]? = some o := ⟨_, List.getElem?_eq_getElem a1⟩
    have hq' : qOp P full.toArray C i (wpAnyQ P .any (full.take k).toArray C Qa fuel (l1.setIfInBounds i true)) a := by
     unfold qOp at hq ⊢
     rw [List.getElem?_toArray] at hq ⊢
     rw [take_at hik, ho] at hq
     rw [ho]
     simp only at hq ⊢
     rw [hy i o hik ho] at hq
     exact hq
    refine wpOp_of_qOp hC (fun a' w' hC' hk' => ih _ _ a' w' (by simpa using hs) (by simpa using h1) (fun j hj => ?_) (fun j b1 b2 => ?_) (down_set hs hd hx hi) hC' hk') hq'
    ·have j1 : j < l1.size := by omega
     have j2 : j < listed.size := by omega
     have q := hsame j hj
     simp only [Array.getD, j1, j2, dif_pos] at q
     by_cases e : i = j
     ·subst e; simp [Array.getD, j1, j2]
     ·simp [Array.getD, j1, j2, Array.getElem_setIfInBounds, e]
      exact q
    ·have j2 : j < listed.size := by omega
     have q := hun j b1 b2
     simp only [Array.getD, j2, dif_pos] at q
     simp [Array.getD, j2, Array.getElem_setIfInBounds, show ¬ i = j by omega]
     exact q
/- no guard among the first k looks beyond them -/
def grdB (full : List Oper) (k : Nat) : Bool := (full.take k).all fun x => match x.guard with | some (g, _) => decide (g < k) | none => true
theorem regionSuf {P : Program} {id : Nat} {Q : Exit → Act → World → Prop} {a : Act} (W : World) {full : List Oper} (k : Nat) (hk : decide (k < full.length) = true) (hm : P.follows .mixedOrders = true) (hB : Region.lexB .any (full.take k).toArray = true) (hS : sufOk full k = true) (hG : grdB full k = true)
  (h : wpQuiet P (full.take k).toArray (fun w' => ∃ x : Ext W, w' = x.w) (fun a' => ∀ w', (∃ x : Ext W, w' = x.w) → wpList P full.toArray Q (full.drop k) a' w') (full.take k) a) : (Code.region id full.toArray true).wp P Q a W := by
 rw [decide_eq_true_eq] at hk
 unfold sufOk at hS
 rw [Bool.and_eq_true, List.all_eq_true] at hS
 obtain ⟨hx, hc⟩ := hS
 have hc' : ∀ j, k ≤ j → j < full.length → covB full j = true := fun j a1 a2 => by
  have q := hc j (List.mem_range.2 a2)
  rw [Bool.or_eq_true, decide_eq_true_eq] at q
  rcases q with q | q
  ·omega
  ·exact q
 have hl : (full.take k).length = k := by rw [List.length_take]; omega
 simp only [Region.lexB, Bool.and_eq_true] at hB
 have h2 := wpAnyQ_lex (md := .any) hB.1 (full.take k) 0 (Array.replicate (full.take k).toArray.size false) a (by simp) (by simpa using hB.2) h
 refine wp_region_any hm ?_
 have hy : ∀ i x, i < k → full[i]? = some x → ∀ t : Array Value, Region.wanted x (yielded (full.take k).toArray t) = Region.wanted x (yielded full.toArray t) := fun i x hi hx' t => by
  unfold grdB at hG
  rw [List.all_eq_true] at hG
  have q := hG x (List.mem_of_getElem? (by rw [take_at hi]; exact hx'))
  unfold Region.wanted
  cases hg : x.guard with
  | none => rfl
  | some y =>
   rw [hg] at q
   simp only [decide_eq_true_eq] at q
   have e : yielded (full.take k).toArray t y.1 = yielded full.toArray t y.1 := by
    unfold yielded
    rw [List.getElem?_toArray, List.getElem?_toArray, take_at q]
   simp only [e]
 have q := suf_conv (P := P) (Q := Q) (C := fun w' => ∃ x : Ext W, w' = x.w) (Qa := fun a' => ∀ w', (∃ x : Ext W, w' = x.w) → wpList P full.toArray Q (full.drop k) a' w') hk hx hc' hy (fun a' w' hC hh => hh w' hC) k (Array.replicate k false) (Array.replicate full.length false) a { W with drawn := W.drawn + 1 } (by simp) (by simp) (fun i hi => by simp [Array.getD, hi, show i < full.length by omega]) (fun i _ hi => by simp [Array.getD, hi]) (fun i i2 hi hl => by simp [Array.getD, hi] at hl) ⟨⟨{ W with drawn := W.drawn + 1 }, ⟨rfl, rfl, rfl, Nat.le_refl _, fun _ _ => rfl⟩⟩, rfl⟩ (by simp only [List.size_toArray, hl] at h2; exact h2)
 have e : k + (full.length - k) = full.toArray.size := by simp; omega
 rw [e] at q
 simpa using q
end
end Go.Proofs.Ytepfpbcjklaenaa
