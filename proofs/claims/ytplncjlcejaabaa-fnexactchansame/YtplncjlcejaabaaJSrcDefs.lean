/- Sources as they lie in memory: rows of threads, of channels and of notes, read and owned. -/
import Derived.Test.YtplncjlcejaabaaJLists
import Derived.Test.YtplncjlcejaabaaJA2
import Derived.Test.YtplncjlcejaabaaJIntOwn
import Derived.Test.YtplncjlcejaabaaJIntRows
import Derived.Test.YtplncjlcejaabaaJOwnN
namespace Go.Proofs.Ytplncjlcejaabaa
set_option linter.unusedSimpArgs false
set_option linter.unusedVariables false
set_option maxRecDepth 100000
open Go.RowKit
structure TD where
 pc : Int
 regs : List Int
 st : Int
structure CD where
 cap : Int
 list : List Int
 cl : Bool
structure SD where
 ths : List TD
 chs : List CD
 tr : List ND
/- a thread or a channel as three cells -/
structure Rec where
 a : Value
 l : List Int
 z : Value
def TD.rec3 (t : TD) : Rec := ⟨.int .i64 t.pc, t.regs, .int .i64 t.st⟩
def CD.rec3 (t : CD) : Rec := ⟨.int .i64 t.cap, t.list, .bool t.cl⟩
def RecR (w : World) (lo hi g off : Nat) (r : Rec) : Prop :=
 ∃ s c, w.cell? ⟨g, off, none⟩ = some r.a ∧ w.cell? ⟨g, off + 1, none⟩ = some (.slice s r.l.length c) ∧ w.cell? ⟨g, off + 2, none⟩ = some r.z ∧ IntsR w lo hi s r.l
def RecsR (w : World) (lo hi : Nat) (s : Option Addr) (l : List Rec) : Prop :=
 l = [] ∨ ∃ g off, s = some ⟨g, off, none⟩ ∧ lo ≤ g ∧ g < hi ∧ ∀ (i : Nat) (r : Rec), l[i]? = some r → RecR w lo hi g (off + i * 3) r
def SrcR (w : World) (lo hi : Nat) (s1 s2 s3 : Option Addr) (d : SD) : Prop := RecsR w lo hi s1 (d.ths.map TD.rec3) ∧ RecsR w lo hi s2 (d.chs.map CD.rec3) ∧ NtsR w lo hi s3 d.tr
theorem RecR.keep {w w' : World} {lo hi g off : Nat} {r : Rec} (h : RecR w lo hi g off r) (hb : Keep lo hi w w') (hc : ∀ j, w'.cell? ⟨g, j, none⟩ = w.cell? ⟨g, j, none⟩) : RecR w' lo hi g off r := by
 obtain ⟨s, c, h1, h2, h3, h4⟩ := h
 exact ⟨s, c, (hc _).trans h1, (hc _).trans h2, (hc _).trans h3, h4.keep hb⟩
theorem RecsR.keep {w w' : World} {lo hi : Nat} {s : Option Addr} {l : List Rec} (h : RecsR w lo hi s l) (hb : Keep lo hi w w') : RecsR w' lo hi s l := by
 rcases h with h | ⟨g, o, hs, h1, h2, hc⟩
 ·exact .inl h
 ·exact .inr ⟨g, o, hs, h1, h2, fun i r hi => (hc i r hi).keep hb (fun j => hb.cell h1 h2)⟩
theorem SrcR.keep {w w' : World} {lo hi : Nat} {s1 s2 s3 : Option Addr} {d : SD} (h : SrcR w lo hi s1 s2 s3 d) (hb : Keep lo hi w w') : SrcR w' lo hi s1 s2 s3 d := ⟨h.1.keep hb, h.2.1.keep hb, h.2.2.keep hb⟩
/- owned rows -/
def flatR : List (Rec × Value) → List Value
 | [] => []
 | x :: t => [x.1.a, x.2, x.1.z] ++ flatR t
theorem flatR_len : ∀ L : List (Rec × Value), (flatR L).length = L.length * 3
 | [] => rfl
 | x :: t => by simp [flatR, flatR_len t]; omega
theorem flatR_app : ∀ (a b : List (Rec × Value)), flatR (a ++ b) = flatR a ++ flatR b
 | [], b => rfl
 | x :: r, b => by simp [flatR, flatR_app r b]
theorem flatR_at : ∀ (L : List (Rec × Value)) (i : Nat) (x : Rec × Value), L[i]? = some x → (flatR L)[i * 3]? = some x.1.a ∧ (flatR L)[i * 3 + 1]? = some x.2 ∧ (flatR L)[i * 3 + 2]? = some x.1.z
 | [], i, x, h => by simp at h
 | y :: r, 0, x, h => by
  simp at h
  subst h
  exact ⟨rfl, rfl, rfl⟩
 | y :: r, i + 1, x, h => by
  have h' : r[i]? = some x := by simpa using h
  have e := flatR_at r i x h'
  have e0 : (i + 1) * 3 = i * 3 + 3 := by omega
  rw [e0]
  exact e
structure OwnQ (w : World) (base : Nat) (e : TypeId) (v : Value) (L : List (Rec × Value)) : Prop where
 row : w.ownsRow base e 3 v L.length (flatR L)
 inn : ∀ (i : Nat) (x : Rec × Value), L[i]? = some x → OwnN w base x.2 x.1.l
 sep : ∀ (i j : Nat) (x y : Rec × Value) (k : Nat), L[i]? = some x → L[j]? = some y → i ≠ j → x.2.ownBlock = some k → y.2.ownBlock ≠ some k
theorem OwnQ.keep {w w' : World} {base : Nat} {e : TypeId} {v : Value} {L : List (Rec × Value)} (h : OwnQ w base e v L) (hb : ∀ k, base ≤ k → k < w.heap.size → w'.heap[k]? = w.heap[k]?) : OwnQ w' base e v L :=
 ⟨ownKeep' h.row (fun k hk => hb k (World.ownsRow.lt h.row _ hk).1 (World.ownsRow.lt h.row _ hk).2), fun i x hx => ownKeep' (h.inn i x hx) (fun k hk => hb k (World.ownsRow.lt (h.inn i x hx) _ hk).1 (World.ownsRow.lt (h.inn i x hx) _ hk).2), h.sep⟩
theorem OwnQ.below {w w' : World} {base : Nat} {e : TypeId} {v : Value} {L : List (Rec × Value)} (h : OwnQ w base e v L) (hb : Below w.heap.size w w') : OwnQ w' base e v L := h.keep fun k _ hk => hb.block k hk
theorem OwnQ.low {w : World} {b b' : Nat} {e : TypeId} {v : Value} {L : List (Rec × Value)} (h : OwnQ w b e v L) (hb : b' ≤ b) : OwnQ w b' e v L := ⟨ownLow' h.row hb, fun i x hx => ownLow' (h.inn i x hx) hb, h.sep⟩
theorem OwnQ.recs {w : World} {base : Nat} {e : TypeId} {v : Value} {L : List (Rec × Value)} (h : OwnQ w base e v L) : ∃ s c, v = .slice s L.length c ∧ RecsR w base w.heap.size s (L.map Prod.fst) := by
 rcases Nat.eq_zero_or_pos L.length with h0 | hpos
 ·obtain ⟨s, c, e⟩ := ownSl h.row
  exact ⟨s, c, e, .inl (by rw [List.length_eq_zero_iff.1 h0]; rfl)⟩
 ·obtain ⟨g, cap, rfl, -⟩ := World.ownsRow.form h.row hpos
  have hlt := World.ownsRow.lt h.row g rfl
  refine ⟨_, _, rfl, .inr ⟨g, 0, rfl, hlt.1, hlt.2, fun i r hr => ?_⟩⟩
  rw [List.getElem?_map] at hr
  obtain ⟨x, hx, rfl⟩ := Option.map_eq_some_iff.1 hr
  have hi : i < L.length := (List.getElem?_eq_some_iff.1 hx).1
  obtain ⟨e0, e1, e2⟩ := flatR_at L i x hx
  obtain ⟨s, c, hv, hI⟩ := ownN_ints (h.inn i x hx)
  refine ⟨s, c, ?_, ?_, ?_, hI⟩
  ·rw [Nat.zero_add, World.ownsRow.cellAt h.row _ (by omega)]; exact e0
  ·rw [Nat.zero_add, World.ownsRow.cellAt h.row _ (by omega), e1, hv]
  ·rw [Nat.zero_add, World.ownsRow.cellAt h.row _ (by omega)]; exact e2
structure OwnS (w : World) (base : Nat) (v1 v2 v3 : Value) (L1 L2 : List (Rec × Value)) (d : SD) : Prop where
 e1 : L1.map Prod.fst = d.ths.map TD.rec3
 e2 : L2.map Prod.fst = d.chs.map CD.rec3
 t : OwnQ w base 123 v1 L1
 c : OwnQ w base 74 v2 L2
 n : OwnD w base v3 d.tr
 sep : ∀ (i j : Nat) (x y : Rec × Value) (k : Nat), L1[i]? = some x → L2[j]? = some y → x.2.ownBlock = some k → y.2.ownBlock ≠ some k
theorem OwnS.src {w : World} {base : Nat} {v1 v2 v3 : Value} {L1 L2 : List (Rec × Value)} {d : SD} (h : OwnS w base v1 v2 v3 L1 L2 d) : ∃ s1 c1 s2 c2 s3 c3, v1 = .slice s1 d.ths.length c1 ∧ v2 = .slice s2 d.chs.length c2 ∧ v3 = .slice s3 d.tr.length c3 ∧ SrcR w base w.heap.size s1 s2 s3 d := by
 have l1 : L1.length = d.ths.length := by have := congrArg List.length h.e1; simpa using this
 have l2 : L2.length = d.chs.length := by have := congrArg List.length h.e2; simpa using this
 obtain ⟨s1, c1, q1, r1⟩ := h.t.recs
 obtain ⟨s2, c2, q2, r2⟩ := h.c.recs
 obtain ⟨s3, c3, q3, r3⟩ := h.n.nts
 rw [l1] at q1
 rw [l2] at q2
 rw [h.e1] at r1
 rw [h.e2] at r2
 exact ⟨s1, c1, s2, c2, s3, c3, q1, q2, q3, r1, r2, r3⟩
def SFits (d : SD) : Prop := (d.ths.length ≤ 1048576 ∧ ∀ (i : Nat) (t : TD), d.ths[i]? = some t → t.regs.length ≤ 1048576) ∧ (d.chs.length ≤ 1048576 ∧ ∀ (i : Nat) (t : CD), d.chs[i]? = some t → t.list.length ≤ 1048576) ∧ d.tr.length ≤ 1048576
end Go.Proofs.Ytplncjlcejaabaa
