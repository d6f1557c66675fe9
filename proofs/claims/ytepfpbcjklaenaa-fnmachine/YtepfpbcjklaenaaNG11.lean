/- A runner of the program prints. No condition. A machine whose core's view was written where it lies, its memory stored into. No condition. -/
import Derived.Test.YtepfpbcjklaenaaNG00
import Derived.Test.YtepfpbcjklaenaaNG02
import Derived.Test.YtepfpbcjklaenaaNG08
import Derived.Test.YtepfpbcjklaenaaNG10
import Derived.Test.YtepfpbcjklaenaaNG01
import Derived.Test.YtepfpbcjklaenaaNG04
import Derived.Test.YtepfpbcjklaenaaNG09
import Derived.Test.YtepfpbcjklaenaaNG06
namespace Go.Proofs.Ytepfpbcjklaenaa
section
set_option linter.unusedSimpArgs false
set_option linter.unusedVariables false
set_option maxRecDepth 100000
open Go.RowKit
theorem print_no {w : World} {R bm gk gc gs gr gv who nn cv cr cs : Nat} {late : Int} {vc vk vm : Value} {sT : Option Addr} {nT cT nc cc : Nat} {pc st : Int} (v : Int) (h : Rn w R bm gk gc gs gr gv who nn cv cr cs late vc vk vm (.slice sT nT cT) nc cc pc st) (hf : 4000 ≤ nT) :
  Calls Try.prog 83 #[.pointer (some ⟨R, 0, none⟩), .int .i64 v] w fun e w' => e = .returned (.bool false) ∧ w' = w := by
 obtain ⟨r0, r1, r2, r3, r4, m0, m1, m2, m3, fm, ec, c0, k0, k1, k3, fk, wc, zR, zm, zk, zc, zr⟩ := h
 have hfi : (4000 : Int) ≤ (nT : Int) := by omega
 go_enter Try.func83, Try.ntmps83
 go_wp2
 go_ret
 exact ⟨rfl, rfl⟩
set_option maxHeartbeats 1000000 in
theorem print_yes {w : World} {B R bm gk gc gs gr gv who nn cv cr cs : Nat} {late : Int} {vc vk vm : Value} {sT : Option Addr} {cT nc cc : Nat} {pc st : Int} {tr : List ND} (v : Int) (h : Rn w R bm gk gc gs gr gv who nn cv cr cs late vc vk vm (.slice sT tr.length cT) nc cc pc st) (hT : OwnD w B (.slice sT tr.length cT) tr) (hf : tr.length < 4000) (hB : B ≤ w.heap.size) (nR : (Value.slice sT tr.length cT).ownBlock ≠ some R) (nM : (Value.slice sT tr.length cT).ownBlock ≠ some bm) :
  Calls Try.prog 83 #[.pointer (some ⟨R, 0, none⟩), .int .i64 v] w fun e w' => e = .returned (.bool true) ∧ ∃ g6 c6 w6, w6.ownsRow B 78 2 (.slice (some ⟨g6, 0, none⟩) (tr.length + 1) c6) (tr.length + 1) (flatN tr ++ [.int .i64 who, .int .i64 v]) ∧ (w.drew.alloc (.cells #[.int .i64 who, .int .i64 v] 78)).grownBy w6 (Value.slice sT tr.length cT).ownBlock ∧ ((Value.slice sT tr.length cT).ownBlock = some g6 ∨ (w.drew.alloc (.cells #[.int .i64 who, .int .i64 v] 78)).heap.size ≤ g6) ∧ w' = w6.setCell ⟨bm, 3, none⟩ (.slice (some ⟨g6, 0, none⟩) (tr.length + 1) c6) := by
 obtain ⟨r0, r1, r2, r3, r4, m0, m1, m2, m3, fm, ec, c0, k0, k1, k3, fk, wc, zR, zm, zk, zc, zr⟩ := h
 have hfi : ¬ (4000 : Int) ≤ (tr.length : Int) := by omega
 have hfj : (tr.length : Int) < 4000 := by omega
 have HT := hidM1 hT
 have OT : Hid (OwnD (w.drew.alloc (.cells #[.int .i64 who, .int .i64 v] 78)) B (.slice sT tr.length cT) tr) := ownKeep' HT.out (fun q hq => by have := (World.ownsRow.lt HT.out _ hq).2; exact Below.heap_alloc w.drew _ _ this)
 go_enter Try.func83, Try.ntmps83
 go_wp2_with fail
 have hne := extN_ne w (Value.slice sT tr.length cT).ownBlock
 have u0 := ExtN.fit r2 zR nR
 have u1 := ExtN.fit m3 zm nM
 have u2 := ExtN.fit r3 zR nR
 refine regionMix w (CN w (Value.slice sT tr.length cT).ownBlock) 18 20 (by kernel_rfl) (by kernel_rfl) (fun _ _ d _ _ h => by cases d <;> exact h) (CN.drew _ _) ?_
 unfold CN
 dsimp only [List.take, List.drop]
 repeat (go_big_quiet_step (fail))
 refine wpQuiet_nil ?_
 clear hne u0 u1 u2
 unfold wpListC
 go_wp2
 refine And.intro (fun _ hc => CN.below hc ((Below.refl _ _).alloc (Nat.le_refl _) _)) ?_
 unfold wpListC
 refine app_note rfl _ _ rfl (w.drew.alloc (.cells #[.int .i64 who, .int .i64 v] 78)) B (.slice sT tr.length cT) tr.length (flatN tr) rfl OT.out w.heap.size (.int .i64 who) (.int .i64 v) rfl rfl rfl (by simp [go_sem]) (by simp [go_sem]) (by omega) (by simp; show B ≤ w.heap.size + 1; omega) ?_
 intro g6 c6 w6 ho6 hg6 hn6 hl6
 refine And.intro (fun _ hc => CN.grown hc hg6) ?_
 refine listC_late _ _ _ _ (by decide) ?_
 have kb : w6.heap[bm]? = w.heap[bm]? := (hg6.block bm (by simp; show bm < w.heap.size + 1; omega) (fun e => nM e.symm)).trans (Below.heap_alloc w.drew _ _ zm)
 have c3 := (World.cell?_of_block (w := w) (a := ⟨bm, 3, none⟩) kb).trans m3
 have f3 : ∀ j, w6.frozen? ⟨bm, j, none⟩ = false := fun j => (World.frozen?_of_block (w := w) (a := ⟨bm, j, none⟩) kb).trans (fm j)
 have HO := hidM1 ho6
 have HG := hidM1 hg6
 have HNN := hidM1 hn6
 clear ho6 hg6 hn6 kb
 go_wp2
 go_ret
 exact ⟨rfl, g6, c6, w6, HO.out, HG.out, HNN.out, rfl⟩
end
section
set_option linter.unusedSimpArgs false
set_option linter.unusedVariables false
set_option maxRecDepth 100000
open Go.RowKit
theorem MQ0.view {w w' : World} {B g : Nat} {vc vk vm vt : Value} {LC : List CV} {LK : List KV} {S S' : List RS} {d : MD} {i : Nat} {x : KV} {l' : List Int} {m' : List (List WD)} (h : MQ0 w B vc vk vm vt LC LK S d) (hx : LK[i]? = some x) (hg : x.v.ownBlock = some g) (ho : OwnN w' B x.v l') (hm : OW w' B vm S' m')
  (hf : ∀ {e : TypeId} {size n : Nat} {u : Value} {xs : List Value}, w.ownsRow B e size u n xs → e ≠ 48 → e ≠ 44 → u.ownBlock ≠ some g → ∀ q, u.ownBlock = some q → w'.heap[q]? = w.heap[q]?)
  (hp : ∀ a ∈ mAs S', (∃ a' ∈ mAs S, a'.block = a.block) ∨ w.heap.size ≤ a.block) :
  MQ0 w' B vc vk vm vt LC (LK.set i ⟨{ x.d with vw := l' }, x.r, x.v⟩) S' { putK d i { x.d with vw := l' } with mem := m' } := by
 have hv := (h.k.inn i x hx).2
 have ng : ∀ {e : TypeId} {size n : Nat} {u : Value} {xs : List Value}, w.ownsRow B e size u n xs → e ≠ 3 → u.ownBlock ≠ some g := fun hu he e => ownType' hu hv he e hg
 have kc : ∀ {e : TypeId} {size n : Nat} {u : Value} {xs : List Value}, w.ownsRow B e size u n xs → e ≠ 3 → e ≠ 48 → e ≠ 44 → w'.ownsRow B e size u n xs := fun hu h0 h1 h2 => ownKeep' hu (hf hu h1 h2 (ng hu h0))
 have ki : ∀ {u : Value} {l : List Int}, OwnN w B u l → u.ownBlock ≠ some g → OwnN w' B u l := fun hu hn => ownKeep' hu (hf hu (by decide) (by decide) hn)
 refine ⟨⟨kc h.c.row (by decide) (by decide) (by decide), fun j y hy => kc (h.c.inn j y hy) (by decide) (by decide) (by decide), h.c.sep⟩, h.ec, ?_, ?_, hm, kc h.t (by decide) (by decide) (by decide), fun j z q hz hq a ha e => ?_⟩
 ·refine h.k.turn hx rfl rfl ?_ ⟨ki (h.k.inn i x hx).1 (fun e => h.k.two i x g hx e hg), ho⟩ (fun j z hj hz => ?_)
  ·have r := kc h.k.row (by decide) (by decide) (by decide)
   rw [flatK_same LK i x ⟨{ x.d with vw := l' }, x.r, x.v⟩ hx rfl rfl rfl rfl]
   exact r
  ·have q := h.k.sep i j x z g hx hz (Ne.symm hj) (.inr hg)
   exact ⟨ki (h.k.inn j z hz).1 (fun e => q (.inl e)), ki (h.k.inn j z hz).2 (fun e => q (.inr e))⟩
 ·show (LK.set i _).map KV.d = d.cores.set i _
  rw [List.map_set, h.ek]
 ·rcases setKV_at hz with ⟨rfl, rfl, -⟩ | ⟨hj, hz⟩
  ·rcases hp a ha with ⟨a', ha', e'⟩ | hlt
   ·exact h.sk _ x q hx hq a' ha' (e'.trans e)
   ·rcases hq with hq | hq
    ·have := (World.ownsRow.lt (h.k.inn _ x hx).1 _ hq).2; omega
    ·have := (World.ownsRow.lt (h.k.inn _ x hx).2 _ hq).2; omega
  ·rcases hp a ha with ⟨a', ha', e'⟩ | hlt
   ·exact h.sk j z q hz hq a' ha' (e'.trans e)
   ·rcases hq with hq | hq
    ·have := (World.ownsRow.lt (h.k.inn j z hz).1 _ hq).2; omega
    ·have := (World.ownsRow.lt (h.k.inn j z hz).2 _ hq).2; omega
theorem MQ.view {Hq : Nat → Prop} {w w' : World} {B g : Nat} {vc vk vm vt : Value} {LC : List CV} {LK : List KV} {S S' : List RS} {d : MD} {i : Nat} {x : KV} {l' : List Int} {m' : List (List WD)} (h : MQ w B Hq vc vk vm vt LC LK S d) (hx : LK[i]? = some x) (hg : x.v.ownBlock = some g) (ho : OwnN w' B x.v l') (hm : OW w' B vm S' m')
  (hf : ∀ {e : TypeId} {size n : Nat} {u : Value} {xs : List Value}, w.ownsRow B e size u n xs → e ≠ 48 → e ≠ 44 → u.ownBlock ≠ some g → ∀ q, u.ownBlock = some q → w'.heap[q]? = w.heap[q]?)
  (hp : ∀ a ∈ mAs S', (∃ a' ∈ mAs S, a'.block = a.block) ∨ w.heap.size ≤ a.block) (hz : w.heap.size ≤ w'.heap.size) :
  MQ w' B Hq vc vk vm vt LC (LK.set i ⟨{ x.d with vw := l' }, x.r, x.v⟩) S' { putK d i { x.d with vw := l' } with mem := m' } := ⟨h.toMQ0.view hx hg ho hm hf hp, ⟨h.hh.c, h.hh.ci, h.hh.k, (h.hh.same hx _).ki, h.hh.m, fun a ha => (hp a ha).elim (fun ⟨a', h1, h2⟩ => h2 ▸ h.hh.mi a' h1) (fun e => h.hn _ e), h.hh.t⟩, fun q hq => h.hn q (Nat.le_trans hz hq)⟩
/- a load of the program: the view alone is written -/
theorem MQ.viewL {Hq : Nat → Prop} {w w' : World} {B g : Nat} {vc vk vm vt : Value} {LC : List CV} {LK : List KV} {S : List RS} {d : MD} {i : Nat} {x : KV} {l' : List Int} (h : MQ w B Hq vc vk vm vt LC LK S d) (hx : LK[i]? = some x) (hg : x.v.ownBlock = some g) (ho : OwnN w' B x.v l') (he : Exc g (g + 1) w w') :
  MQ w' B Hq vc vk vm vt LC (LK.set i ⟨{ x.d with vw := l' }, x.r, x.v⟩) S (putK d i { x.d with vw := l' }) := by
 have hv := (h.k.inn i x hx).2
 have kb : ∀ b, b < w.heap.size → b ≠ g → w'.heap[b]? = w.heap[b]? := fun b h1 h2 => he.blk b h1 (by omega)
 have hm : OW w' B vm S d.mem := by
  refine ⟨h.m.n, ownKeep' h.m.row (fun k hk => kb k (World.ownsRow.lt h.m.row _ hk).2 (fun e => ownType' h.m.row hv (by decide) hk (by rw [hg, e]))), fun i' r l hr hl => ?_, h.m.d⟩
  have q := h.m.r i' r l hr hl
  refine q.kept (fun k hk => kb k (World.ownsRow.lt q.own _ hk).2 (fun e => ownType' q.own hv (by decide) hk (by rw [hg, e]))) (fun a ha => kb _ (q.blk ha).2 (fun e => ?_)) he.size
  exact h.sk i x g hx (.inr hg) a (mem_mAs.2 ⟨r, List.mem_of_getElem? hr, mem_rAs.2 (.inr (mem_vsA.1 ha))⟩) e
 have q := MQ.view (m' := d.mem) h hx hg ho hm (fun hu _ _ hn q hq => kb q (World.ownsRow.lt hu _ hq).2 (fun e => hn (by rw [hq, e]))) (fun a ha => .inl ⟨a, ha, rfl⟩) he.size
 exact q
theorem hasRoom_c {w : World} {gO n cO c m cc : Nat} {s : Option Addr} (b : Bool) (hc : w.cell? ⟨gO, c, none⟩ = some (.slice s m cc)) (hz : gO < w.heap.size) (hn : c < n) (hb : decide (m < 4000) = b) :
  Calls Try.prog 94 #[.agg #[.slice (some ⟨gO, 0, none⟩) n cO], .int .i64 c] w fun e w' => e = .returned (.bool b) ∧ Below w.heap.size w w' := by
 have b0 : (0 : Int) ≤ (c : Int) := by omega
 have b1 : (c : Int) < (n : Int) := by omega
 have z1 : gO < w.heap.size + 1 := by omega
 subst hb
 by_cases h : m < 4000
 all_goals
  have hi : ((m : Int) < 4000) = (m < 4000) := by simp; omega
  go_enter Try.func94, Try.ntmps94
  go_wp2
  go_ret
  exact ⟨by simp [h], (Below.refl _ _).alloc (Nat.le_refl _) _⟩
end
end Go.Proofs.Ytepfpbcjklaenaa
