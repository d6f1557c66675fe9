/- A machine whose core's view was written where it lies, its memory stored into. No condition. -/
import Derived.Test.YtepfpbcjklaenaaKG00
import Derived.Test.YtepfpbcjklaenaaKG03
import Derived.Test.YtepfpbcjklaenaaKG07
import Derived.Test.YtepfpbcjklaenaaKG06
import Derived.Test.YtepfpbcjklaenaaKKMQ
import Derived.Test.YtepfpbcjklaenaaKG04
import Derived.Test.YtepfpbcjklaenaaKKApp
import Derived.Test.YtepfpbcjklaenaaKG09
namespace Go.Proofs.Ytepfpbcjklaenaa
set_option linter.unusedSimpArgs false
set_option linter.unusedVariables false
set_option maxRecDepth 100000
open Go.RowKit
theorem MQ0.view {w w' : World} {B g : Nat} {vc vk vm vt : Value} {LC : List CV} {LK : List KV} {S S' : List RS} {d : MD} {i : Nat} {x : KV} {l' : List Int} {m' : List (List WD)} (h : MQ0 w B vc vk vm vt LC LK S d) (hx : LK[i]? = some x) (hg : x.v.ownBlock = some g) (ho : OwnN w' B x.v l') (hm : OW w' B vm S' m')
  (hf : ∀ {e : TypeId} {size n : Nat} {u : Value} {xs : List Value}, w.ownsRow B e size u n xs → e ≠ 48 → e ≠ 44 → u.ownBlock ≠ some g → ∀ q, u.ownBlock = some q → w'.heap[q]? = w.heap[q]?)
  (hp : ∀ a ∈ mAs S', (∃ a' ∈ mAs S, a'.block = a.block) ∨ w.heap.size ≤ a.block) :
  MQ0 w' B vc vk vm vt LC (LK.set i ⟨{ x.d with vw := l' }, x.r, x.v⟩) S' { putK d i { x.d with vw := l' } with mem := m' } := by
 have hv := (h.k.inn i x hx).2
 have ng : ∀ {e : TypeId} {size n : Nat} {u : Value} {xs : List Value}, w.ownsRow B e size u n xs → e ≠ 3 → u.ownBlock ≠ some g := fun hu he e => ownType' hu hv he e hg
 have kc : ∀ {e : TypeId} {size n : Nat} {u : Value} {xs : List Value}, w.ownsRow B e size u n xs → e ≠ 3 → e ≠ 48 → e ≠ 44 → w'.ownsRow B e size u n xs := fun hu h0 h1 h2 => ownKeep' hu (hf hu h1 h2 (ng hu h0))
 have ki : ∀ {u : Value} {l : List Int}, OwnN w B u l → u.ownBlock ≠ some g → OwnN w' B u l := fun hu hn => ownKeep' hu (hf hu (by decide) (by decide) hn)
 refine ⟨⟨kc h.c.row (by decide) (by decide) (by decide), fun j y hy => kc (h.c.inn j y hy) (by decide) (by decide) (by decide), h.c.sep⟩, h.ec, ?_, ?_, hm, kc h.t (by decide) (by decide) (by decide), fun j z q hz hq a ha e => ?_⟩
 ·refine h.k.turn hx rfl rfl ?_ ⟨ki (h.k.inn i x hx).1 (fun e => h.k.two i x g hx e hg), ho⟩ (fun j z hj hz => ?_)
  ·have r := kc h.k.row (by decide) (by decide) (by decide)
   rw [flatK_same LK i x ⟨{ x.d with vw := l' }, x.r, x.v⟩ hx rfl rfl rfl rfl]
   exact r
  ·have q := h.k.sep i j x z g hx hz (Ne.symm hj) (.inr hg)
   exact ⟨ki (h.k.inn j z hz).1 (fun e => q (.inl e)), ki (h.k.inn j z hz).2 (fun e => q (.inr e))⟩
 ·show (LK.set i _).map KV.d = d.cores.set i _
  rw [List.map_set, h.ek]
 ·rcases setKV_at hz with ⟨rfl, rfl, -⟩ | ⟨hj, hz⟩
  ·rcases hp a ha with ⟨a', ha', e'⟩ | hlt
   ·exact h.sk _ x q hx hq a' ha' (e'.trans e)
   ·rcases hq with hq | hq
    ·have := (World.ownsRow.lt (h.k.inn _ x hx).1 _ hq).2; omega
    ·have := (World.ownsRow.lt (h.k.inn _ x hx).2 _ hq).2; omega
  ·rcases hp a ha with ⟨a', ha', e'⟩ | hlt
   ·exact h.sk j z q hz hq a' ha' (e'.trans e)
   ·rcases hq with hq | hq
    ·have := (World.ownsRow.lt (h.k.inn j z hz).1 _ hq).2; omega
    ·have := (World.ownsRow.lt (h.k.inn j z hz).2 _ hq).2; omega
theorem MQ.view {Hq : Nat → Prop} {w w' : World} {B g : Nat} {vc vk vm vt : Value} {LC : List CV} {LK : List KV} {S S' : List RS} {d : MD} {i : Nat} {x : KV} {l' : List Int} {m' : List (List WD)} (h : MQ w B Hq vc vk vm vt LC LK S d) (hx : LK[i]? = some x) (hg : x.v.ownBlock = some g) (ho : OwnN w' B x.v l') (hm : OW w' B vm S' m')
  (hf : ∀ {e : TypeId} {size n : Nat} {u : Value} {xs : List Value}, w.ownsRow B e size u n xs → e ≠ 48 → e ≠ 44 → u.ownBlock ≠ some g → ∀ q, u.ownBlock = some q → w'.heap[q]? = w.heap[q]?)
  (hp : ∀ a ∈ mAs S', (∃ a' ∈ mAs S, a'.block = a.block) ∨ w.heap.size ≤ a.block) (hz : w.heap.size ≤ w'.heap.size) :
  MQ w' B Hq vc vk vm vt LC (LK.set i ⟨{ x.d with vw := l' }, x.r, x.v⟩) S' { putK d i { x.d with vw := l' } with mem := m' } := ⟨h.toMQ0.view hx hg ho hm hf hp, ⟨h.hh.c, h.hh.ci, h.hh.k, (h.hh.same hx _).ki, h.hh.m, fun a ha => (hp a ha).elim (fun ⟨a', h1, h2⟩ => h2 ▸ h.hh.mi a' h1) (fun e => h.hn _ e), h.hh.t⟩, fun q hq => h.hn q (Nat.le_trans hz hq)⟩
/- a load of the program: the view alone is written -/
theorem MQ.viewL {Hq : Nat → Prop} {w w' : World} {B g : Nat} {vc vk vm vt : Value} {LC : List CV} {LK : List KV} {S : List RS} {d : MD} {i : Nat} {x : KV} {l' : List Int} (h : MQ w B Hq vc vk vm vt LC LK S d) (hx : LK[i]? = some x) (hg : x.v.ownBlock = some g) (ho : OwnN w' B x.v l') (he : Exc g (g + 1) w w') :
  MQ w' B Hq vc vk vm vt LC (LK.set i ⟨{ x.d with vw := l' }, x.r, x.v⟩) S (putK d i { x.d with vw := l' }) := by
 have hv := (h.k.inn i x hx).2
 have kb : ∀ b, b < w.heap.size → b ≠ g → w'.heap[b]? = w.heap[b]? := fun b h1 h2 => he.blk b h1 (by omega)
 have hm : OW w' B vm S d.mem := by
  refine ⟨h.m.n, ownKeep' h.m.row (fun k hk => kb k (World.ownsRow.lt h.m.row _ hk).2 (fun e => ownType' h.m.row hv (by decide) hk (by rw [hg, e]))), fun i' r l hr hl => ?_, h.m.d⟩
  have q := h.m.r i' r l hr hl
  refine q.kept (fun k hk => kb k (World.ownsRow.lt q.own _ hk).2 (fun e => ownType' q.own hv (by decide) hk (by rw [hg, e]))) (fun a ha => kb _ (q.blk ha).2 (fun e => ?_)) he.size
  exact h.sk i x g hx (.inr hg) a (mem_mAs.2 ⟨r, List.mem_of_getElem? hr, mem_rAs.2 (.inr (mem_vsA.1 ha))⟩) e
 have q := MQ.view (m' := d.mem) h hx hg ho hm (fun hu _ _ hn q hq => kb q (World.ownsRow.lt hu _ hq).2 (fun e => hn (by rw [hq, e]))) (fun a ha => .inl ⟨a, ha, rfl⟩) he.size
 exact q
theorem hasRoom_c {w : World} {gO n cO c m cc : Nat} {s : Option Addr} (b : Bool) (hc : w.cell? ⟨gO, c, none⟩ = some (.slice s m cc)) (hz : gO < w.heap.size) (hn : c < n) (hb : decide (m < 4000) = b) :
  Calls Try.prog 94 #[.agg #[.slice (some ⟨gO, 0, none⟩) n cO], .int .i64 c] w fun e w' => e = .returned (.bool b) ∧ Below w.heap.size w w' := by
 have b0 : (0 : Int) ≤ (c : Int) := by omega
 have b1 : (c : Int) < (n : Int) := by omega
 have z1 : gO < w.heap.size + 1 := by omega
 subst hb
 by_cases h : m < 4000
 all_goals
  have hi : ((m : Int) < 4000) = (m < 4000) := by simp; omega
  go_enter Try.func94, Try.ntmps94
  go_wp2
  go_ret
  exact ⟨by simp [h], (Below.refl _ _).alloc (Nat.le_refl _) _⟩
end Go.Proofs.Ytepfpbcjklaenaa
