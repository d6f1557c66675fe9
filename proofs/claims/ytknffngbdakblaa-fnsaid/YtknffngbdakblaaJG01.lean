/- Sources as they lie in memory: rows of threads, of channels and of notes, read and owned. Rows of sources that are made and written: what stores make of them, and how the laws copy a list of integers. Conditions: each list of at most 1048576. The plain side of chapter 1: when a place is right, which registers it takes and sets: functions of integers alone. No condition. The leaves of chapter 1: what each small function of the program answers, for every argument, in every world; which place is made of an Ins, and which Ins is made of a place. No condition. -/
import Derived.Test.YtknffngbdakblaaJG00
import Derived.WalkKit
import Derived.Test.YtknffngbdakblaaChecked
import Derived.KernelRfl
import Derived.WalkSpells
import Derived.WalkLawsBesides
namespace Go.Proofs.Ytknffngbdakblaa
section
set_option linter.unusedSimpArgs false
set_option linter.unusedVariables false
set_option maxRecDepth 100000
open Go.RowKit
structure TD where
 pc : Int
 regs : List Int
 st : Int
structure CD where
 cap : Int
 list : List Int
 cl : Bool
structure ND where
 who : Int
 v : Int
structure SD where
 ths : List TD
 chs : List CD
 tr : List ND
/- a thread or a channel as three cells -/
structure Rec where
 a : Value
 l : List Int
 z : Value
def TD.rec3 (t : TD) : Rec := ⟨.int .i64 t.pc, t.regs, .int .i64 t.st⟩
def CD.rec3 (t : CD) : Rec := ⟨.int .i64 t.cap, t.list, .bool t.cl⟩
def RecR (w : World) (lo hi g off : Nat) (r : Rec) : Prop :=
 ∃ s c, w.cell? ⟨g, off, none⟩ = some r.a ∧ w.cell? ⟨g, off + 1, none⟩ = some (.slice s r.l.length c) ∧ w.cell? ⟨g, off + 2, none⟩ = some r.z ∧ IntsR w lo hi s r.l
def RecsR (w : World) (lo hi : Nat) (s : Option Addr) (l : List Rec) : Prop :=
 l = [] ∨ ∃ g off, s = some ⟨g, off, none⟩ ∧ lo ≤ g ∧ g < hi ∧ ∀ (i : Nat) (r : Rec), l[i]? = some r → RecR w lo hi g (off + i * 3) r
def NtR (w : World) (g off : Nat) (n : ND) : Prop := w.cell? ⟨g, off, none⟩ = some (.int .i64 n.who) ∧ w.cell? ⟨g, off + 1, none⟩ = some (.int .i64 n.v)
def NtsR (w : World) (lo hi : Nat) (s : Option Addr) (l : List ND) : Prop :=
 l = [] ∨ ∃ g off, s = some ⟨g, off, none⟩ ∧ lo ≤ g ∧ g < hi ∧ ∀ (i : Nat) (n : ND), l[i]? = some n → NtR w g (off + i * 2) n
def SrcR (w : World) (lo hi : Nat) (s1 s2 s3 : Option Addr) (d : SD) : Prop := RecsR w lo hi s1 (d.ths.map TD.rec3) ∧ RecsR w lo hi s2 (d.chs.map CD.rec3) ∧ NtsR w lo hi s3 d.tr
theorem RecR.keep {w w' : World} {lo hi g off : Nat} {r : Rec} (h : RecR w lo hi g off r) (hb : Keep lo hi w w') (hc : ∀ j, w'.cell? ⟨g, j, none⟩ = w.cell? ⟨g, j, none⟩) : RecR w' lo hi g off r := by
 obtain ⟨s, c, h1, h2, h3, h4⟩ := h
 exact ⟨s, c, (hc _).trans h1, (hc _).trans h2, (hc _).trans h3, h4.keep hb⟩
theorem RecR.mono {w : World} {lo hi lo' hi' g off : Nat} {r : Rec} (h : RecR w lo hi g off r) (h1 : lo' ≤ lo) (h2 : hi ≤ hi') : RecR w lo' hi' g off r := by
 obtain ⟨s, c, a, b, d, e⟩ := h
 exact ⟨s, c, a, b, d, e.mono h1 h2⟩
theorem RecsR.keep {w w' : World} {lo hi : Nat} {s : Option Addr} {l : List Rec} (h : RecsR w lo hi s l) (hb : Keep lo hi w w') : RecsR w' lo hi s l := by
 rcases h with h | ⟨g, o, hs, h1, h2, hc⟩
 ·exact .inl h
 ·exact .inr ⟨g, o, hs, h1, h2, fun i r hi => (hc i r hi).keep hb (fun j => hb.cell h1 h2)⟩
theorem RecsR.mono {w : World} {lo hi lo' hi' : Nat} {s : Option Addr} {l : List Rec} (h : RecsR w lo hi s l) (h1 : lo' ≤ lo) (h2 : hi ≤ hi') : RecsR w lo' hi' s l := by
 rcases h with h | ⟨g, o, hs, a, b, hc⟩
 ·exact .inl h
 ·exact .inr ⟨g, o, hs, by omega, by omega, fun i r hi => (hc i r hi).mono h1 h2⟩
theorem NtsR.keep {w w' : World} {lo hi : Nat} {s : Option Addr} {l : List ND} (h : NtsR w lo hi s l) (hb : Keep lo hi w w') : NtsR w' lo hi s l := by
 rcases h with h | ⟨g, o, hs, h1, h2, hc⟩
 ·exact .inl h
 ·exact .inr ⟨g, o, hs, h1, h2, fun i r hi => ⟨(hb.cell h1 h2).trans (hc i r hi).1, (hb.cell h1 h2).trans (hc i r hi).2⟩⟩
theorem NtsR.mono {w : World} {lo hi lo' hi' : Nat} {s : Option Addr} {l : List ND} (h : NtsR w lo hi s l) (h1 : lo' ≤ lo) (h2 : hi ≤ hi') : NtsR w lo' hi' s l := by
 rcases h with h | ⟨g, o, hs, a, b, hc⟩
 ·exact .inl h
 ·exact .inr ⟨g, o, hs, by omega, by omega, hc⟩
theorem SrcR.keep {w w' : World} {lo hi : Nat} {s1 s2 s3 : Option Addr} {d : SD} (h : SrcR w lo hi s1 s2 s3 d) (hb : Keep lo hi w w') : SrcR w' lo hi s1 s2 s3 d := ⟨h.1.keep hb, h.2.1.keep hb, h.2.2.keep hb⟩
theorem SrcR.mono {w : World} {lo hi lo' hi' : Nat} {s1 s2 s3 : Option Addr} {d : SD} (h : SrcR w lo hi s1 s2 s3 d) (h1 : lo' ≤ lo) (h2 : hi ≤ hi') : SrcR w lo' hi' s1 s2 s3 d := ⟨h.1.mono h1 h2, h.2.1.mono h1 h2, h.2.2.mono h1 h2⟩
/- owned rows -/
def flatR : List (Rec × Value) → List Value
 | [] => []
 | x :: t => [x.1.a, x.2, x.1.z] ++ flatR t
theorem flatR_len : ∀ L : List (Rec × Value), (flatR L).length = L.length * 3
 | [] => rfl
 | x :: t => by simp [flatR, flatR_len t]; omega
theorem flatR_app : ∀ (a b : List (Rec × Value)), flatR (a ++ b) = flatR a ++ flatR b
 | [], b => rfl
 | x :: r, b => by simp [flatR, flatR_app r b]
theorem flatR_at : ∀ (L : List (Rec × Value)) (i : Nat) (x : Rec × Value), L[i]? = some x → (flatR L)[i * 3]? = some x.1.a ∧ (flatR L)[i * 3 + 1]? = some x.2 ∧ (flatR L)[i * 3 + 2]? = some x.1.z
 | [], i, x, h => by simp at h
 | y :: r, 0, x, h => by
  simp at h
  subst h
  exact ⟨rfl, rfl, rfl⟩
 | y :: r, i + 1, x, h => by
  have h' : r[i]? = some x := by simpa using h
  have e := flatR_at r i x h'
  have e0 : (i + 1) * 3 = i * 3 + 3 := by omega
  rw [e0]
  exact e
def flatN : List ND → List Value
 | [] => []
 | x :: t => [.int .i64 x.who, .int .i64 x.v] ++ flatN t
theorem flatN_len : ∀ L : List ND, (flatN L).length = L.length * 2
 | [] => rfl
 | x :: t => by simp [flatN, flatN_len t]; omega
theorem flatN_app : ∀ (a b : List ND), flatN (a ++ b) = flatN a ++ flatN b
 | [], b => rfl
 | x :: r, b => by simp [flatN, flatN_app r b]
theorem flatN_at : ∀ (L : List ND) (i : Nat) (x : ND), L[i]? = some x → (flatN L)[i * 2]? = some (.int .i64 x.who) ∧ (flatN L)[i * 2 + 1]? = some (.int .i64 x.v)
 | [], i, x, h => by simp at h
 | y :: r, 0, x, h => by
  simp at h
  subst h
  exact ⟨rfl, rfl⟩
 | y :: r, i + 1, x, h => by
  have h' : r[i]? = some x := by simpa using h
  have e := flatN_at r i x h'
  have e0 : (i + 1) * 2 = i * 2 + 2 := by omega
  rw [e0]
  exact e
structure OwnQ (w : World) (base : Nat) (e : TypeId) (v : Value) (L : List (Rec × Value)) : Prop where
 row : w.ownsRow base e 3 v L.length (flatR L)
 inn : ∀ (i : Nat) (x : Rec × Value), L[i]? = some x → OwnN w base x.2 x.1.l
 sep : ∀ (i j : Nat) (x y : Rec × Value) (k : Nat), L[i]? = some x → L[j]? = some y → i ≠ j → x.2.ownBlock = some k → y.2.ownBlock ≠ some k
def OwnD (w : World) (base : Nat) (v : Value) (l : List ND) : Prop := w.ownsRow base 35 2 v l.length (flatN l)
theorem ownKeep' {w w' : World} {base : Nat} {e : TypeId} {size n : Nat} {v : Value} {xs : List Value} (h : w.ownsRow base e size v n xs) (hb : ∀ k, v.ownBlock = some k → w'.heap[k]? = w.heap[k]?) : w'.ownsRow base e size v n xs := by
 obtain ⟨h1, h2⟩ := h
 refine ⟨h1, ?_⟩
 rcases h2 with h2 | ⟨g, cap, cur, rfl, b0, c, d⟩
 ·exact .inl h2
 ·exact .inr ⟨g, cap, cur, rfl, b0, (hb g rfl).trans c, d⟩
theorem ownLow' {w : World} {b b' : Nat} {e : TypeId} {size n : Nat} {v : Value} {xs : List Value} (h : w.ownsRow b e size v n xs) (hb : b' ≤ b) : w.ownsRow b' e size v n xs := by
 obtain ⟨h1, h2⟩ := h
 refine ⟨h1, ?_⟩
 rcases h2 with h2 | ⟨g, cap, cur, a, b0, c, d⟩
 ·exact .inl h2
 ·exact .inr ⟨g, cap, cur, a, Nat.le_trans hb b0, c, d⟩
theorem ownType' {w : World} {base base' : Nat} {e e' : TypeId} {size size' n n' : Nat} {v v' : Value} {xs xs' : List Value} (h : w.ownsRow base e size v n xs) (h' : w.ownsRow base' e' size' v' n' xs') (hne : e ≠ e') {k : Nat} (hk : v.ownBlock = some k) : v'.ownBlock ≠ some k := by
 intro hk'
 rcases h.2 with ⟨rfl, -⟩ | ⟨g, cap, cur, rfl, -, c, -⟩
 ·cases hk
 rcases h'.2 with ⟨rfl, -⟩ | ⟨g', cap', cur', rfl, -, c', -⟩
 ·cases hk'
 ·simp only [Value.ownBlock, Option.some.injEq] at hk hk'
  subst hk
  subst hk'
  rw [c] at c'
  injection c' with c'
  injection c' with c1 c2
  exact hne c2
theorem OwnQ.keep {w w' : World} {base : Nat} {e : TypeId} {v : Value} {L : List (Rec × Value)} (h : OwnQ w base e v L) (hb : ∀ k, base ≤ k → k < w.heap.size → w'.heap[k]? = w.heap[k]?) : OwnQ w' base e v L :=
 ⟨ownKeep' h.row (fun k hk => hb k (World.ownsRow.lt h.row _ hk).1 (World.ownsRow.lt h.row _ hk).2), fun i x hx => ownKeep' (h.inn i x hx) (fun k hk => hb k (World.ownsRow.lt (h.inn i x hx) _ hk).1 (World.ownsRow.lt (h.inn i x hx) _ hk).2), h.sep⟩
theorem OwnQ.nil (w : World) (base : Nat) (e : TypeId) : OwnQ w base e (.slice none 0 0) [] := ⟨World.ownsRow_nil _ _ _ _, fun i x hx => by simp at hx, fun i j x y k hx => by simp at hx⟩
theorem OwnQ.low {w : World} {b b' : Nat} {e : TypeId} {v : Value} {L : List (Rec × Value)} (h : OwnQ w b e v L) (hb : b' ≤ b) : OwnQ w b' e v L := ⟨ownLow' h.row hb, fun i x hx => ownLow' (h.inn i x hx) hb, h.sep⟩
theorem ownSl {w : World} {base : Nat} {e : TypeId} {size n : Nat} {v : Value} {xs : List Value} (h : w.ownsRow base e size v n xs) : ∃ s c, v = .slice s n c := by
 rcases h.2 with ⟨h1, h2⟩ | ⟨g, cap, cur, a, -⟩
 ·exact ⟨none, 0, by rw [h1, h2]⟩
 ·exact ⟨_, _, a⟩
theorem ownN_ints {w : World} {base : Nat} {v : Value} {l : List Int} (h : OwnN w base v l) : ∃ s c, v = .slice s l.length c ∧ IntsR w base w.heap.size s l := by
 rcases Nat.eq_zero_or_pos l.length with h0 | hpos
 ·obtain ⟨s, c, e⟩ := ownSl h
  exact ⟨s, c, e, .inl (List.length_eq_zero_iff.1 h0)⟩
 ·obtain ⟨g, cap, rfl, -⟩ := World.ownsRow.form h hpos
  have hlt := World.ownsRow.lt h g rfl
  refine ⟨_, _, rfl, .inr ⟨g, 0, rfl, hlt.1, hlt.2, fun i hi => ?_⟩⟩
  rw [Nat.zero_add, World.ownsRow.cellAt h i (by omega), List.getElem?_map, List.getD_eq_getElem?_getD, List.getElem?_eq_getElem hi]
  rfl
theorem OwnQ.recs {w : World} {base : Nat} {e : TypeId} {v : Value} {L : List (Rec × Value)} (h : OwnQ w base e v L) : ∃ s c, v = .slice s L.length c ∧ RecsR w base w.heap.size s (L.map Prod.fst) := by
 rcases Nat.eq_zero_or_pos L.length with h0 | hpos
 ·obtain ⟨s, c, e⟩ := ownSl h.row
  exact ⟨s, c, e, .inl (by rw [List.length_eq_zero_iff.1 h0]; rfl)⟩
 ·obtain ⟨g, cap, rfl, -⟩ := World.ownsRow.form h.row hpos
  have hlt := World.ownsRow.lt h.row g rfl
  refine ⟨_, _, rfl, .inr ⟨g, 0, rfl, hlt.1, hlt.2, fun i r hr => ?_⟩⟩
  rw [List.getElem?_map] at hr
  obtain ⟨x, hx, rfl⟩ := Option.map_eq_some_iff.1 hr
  have hi : i < L.length := (List.getElem?_eq_some_iff.1 hx).1
  obtain ⟨e0, e1, e2⟩ := flatR_at L i x hx
  obtain ⟨s, c, hv, hI⟩ := ownN_ints (h.inn i x hx)
  refine ⟨s, c, ?_, ?_, ?_, hI⟩
  ·rw [Nat.zero_add, World.ownsRow.cellAt h.row _ (by omega)]; exact e0
  ·rw [Nat.zero_add, World.ownsRow.cellAt h.row _ (by omega), e1, hv]
  ·rw [Nat.zero_add, World.ownsRow.cellAt h.row _ (by omega)]; exact e2
theorem OwnD.nts {w : World} {base : Nat} {v : Value} {l : List ND} (h : OwnD w base v l) : ∃ s c, v = .slice s l.length c ∧ NtsR w base w.heap.size s l := by
 rcases Nat.eq_zero_or_pos l.length with h0 | hpos
 ·obtain ⟨s, c, e⟩ := ownSl h
  exact ⟨s, c, e, .inl (List.length_eq_zero_iff.1 h0)⟩
 ·obtain ⟨g, cap, rfl, -⟩ := World.ownsRow.form h hpos
  have hlt := World.ownsRow.lt h g rfl
  refine ⟨_, _, rfl, .inr ⟨g, 0, rfl, hlt.1, hlt.2, fun i r hr => ?_⟩⟩
  have hi : i < l.length := (List.getElem?_eq_some_iff.1 hr).1
  obtain ⟨e0, e1⟩ := flatN_at l i r hr
  refine ⟨?_, ?_⟩
  ·rw [Nat.zero_add, World.ownsRow.cellAt h _ (by omega)]; exact e0
  ·rw [Nat.zero_add, World.ownsRow.cellAt h _ (by omega)]; exact e1
structure OwnS (w : World) (base : Nat) (v1 v2 v3 : Value) (L1 L2 : List (Rec × Value)) (d : SD) : Prop where
 e1 : L1.map Prod.fst = d.ths.map TD.rec3
 e2 : L2.map Prod.fst = d.chs.map CD.rec3
 t : OwnQ w base 48 v1 L1
 c : OwnQ w base 50 v2 L2
 n : OwnD w base v3 d.tr
 sep : ∀ (i j : Nat) (x y : Rec × Value) (k : Nat), L1[i]? = some x → L2[j]? = some y → x.2.ownBlock = some k → y.2.ownBlock ≠ some k
theorem OwnS.src {w : World} {base : Nat} {v1 v2 v3 : Value} {L1 L2 : List (Rec × Value)} {d : SD} (h : OwnS w base v1 v2 v3 L1 L2 d) : ∃ s1 c1 s2 c2 s3 c3, v1 = .slice s1 d.ths.length c1 ∧ v2 = .slice s2 d.chs.length c2 ∧ v3 = .slice s3 d.tr.length c3 ∧ SrcR w base w.heap.size s1 s2 s3 d := by
 have l1 : L1.length = d.ths.length := by have := congrArg List.length h.e1; simpa using this
 have l2 : L2.length = d.chs.length := by have := congrArg List.length h.e2; simpa using this
 obtain ⟨s1, c1, q1, r1⟩ := h.t.recs
 obtain ⟨s2, c2, q2, r2⟩ := h.c.recs
 obtain ⟨s3, c3, q3, r3⟩ := h.n.nts
 rw [l1] at q1
 rw [l2] at q2
 rw [h.e1] at r1
 rw [h.e2] at r2
 exact ⟨s1, c1, s2, c2, s3, c3, q1, q2, q3, r1, r2, r3⟩
theorem OwnS.keep {w w' : World} {base : Nat} {v1 v2 v3 : Value} {L1 L2 : List (Rec × Value)} {d : SD} (h : OwnS w base v1 v2 v3 L1 L2 d) (hb : ∀ k, base ≤ k → k < w.heap.size → w'.heap[k]? = w.heap[k]?) : OwnS w' base v1 v2 v3 L1 L2 d :=
 ⟨h.e1, h.e2, h.t.keep hb, h.c.keep hb, ownKeep' h.n (fun k hk => hb k (World.ownsRow.lt h.n _ hk).1 (World.ownsRow.lt h.n _ hk).2), h.sep⟩
def SFits (d : SD) : Prop := (d.ths.length ≤ 1048576 ∧ ∀ (i : Nat) (t : TD), d.ths[i]? = some t → t.regs.length ≤ 1048576) ∧ (d.chs.length ≤ 1048576 ∧ ∀ (i : Nat) (t : CD), d.chs[i]? = some t → t.list.length ≤ 1048576) ∧ d.tr.length ≤ 1048576
end
section
set_option linter.unusedSimpArgs false
set_option linter.unusedVariables false
set_option maxRecDepth 100000
open Go.RowKit
/- a store of three cells -/
def set3 (w : World) (g o : Nat) (a b c : Value) : World := ((w.setCell ⟨g, o, none⟩ a).setCell ⟨g, o + 1, none⟩ b).setCell ⟨g, o + 2, none⟩ c
theorem set3_size {g o : Nat} {w : World} {a b c : Value} : (set3 w g o a b c).heap.size = w.heap.size := by simp [set3]
theorem set3_block {g o k : Nat} {w : World} {a b c : Value} (h : k ≠ g) : (set3 w g o a b c).heap[k]? = w.heap[k]? := by
 unfold set3
 rw [Below.heap_setCell _ _ _ k h, Below.heap_setCell _ _ _ k h, Below.heap_setCell _ _ _ k h]
theorem flatN_rep (n : Nat) : flatN (List.replicate n ⟨0, 0⟩) = (madeCells #[.int .i64 0, .int .i64 0] (n * 2)).toList := by
 apply List.ext_getElem?
 intro j
 by_cases hj : j < n * 2
 ·have h1 : (List.replicate n (⟨0, 0⟩ : ND))[j / 2]? = some ⟨0, 0⟩ := by rw [List.getElem?_replicate, if_pos (by omega)]
  obtain ⟨e0, e1⟩ := flatN_at _ _ _ h1
  have hm : (madeCells #[.int .i64 0, .int .i64 0] (n * 2)).toList[j]? = some (.int .i64 0) := by
   simp [madeCells, hj]
   rcases (show j % 2 = 0 ∨ j % 2 = 1 by omega) with h | h <;> rw [h] <;> rfl
  rw [hm]
  rcases (show j % 2 = 0 ∨ j % 2 = 1 by omega) with h | h
  ·rw [show j = j / 2 * 2 by omega, e0]
  ·rw [show j = j / 2 * 2 + 1 by omega, e1]
 ·rw [List.getElem?_eq_none (by rw [flatN_len]; simp; omega), List.getElem?_eq_none (by rw [Array.length_toList, size_madeCells]; omega)]
end
section
set_option linter.unusedSimpArgs false
set_option linter.unusedVariables false
set_option maxRecDepth 100000
namespace Plain
def insB (op r a b n pl ch : Int) : Bool :=
 decide (0 ≤ r ∧ r ≤ 3 ∧ 0 ≤ a ∧ a ≤ 3 ∧ 0 ≤ b ∧ b ≤ 3 ∧ 0 ≤ ch ∧ ch ≤ 3 ∧
  ((op = 1 ∧ -1000000000 ≤ n ∧ n ≤ 1000000000 ∧ a = 0 ∧ b = 0)
   ∨ ((op = 2 ∨ op = 3 ∨ op = 4) ∧ n = 0)
   ∨ (op = 5 ∧ 0 ≤ n ∧ n < ch ∧ r = 0 ∧ b = 0)
   ∨ ((op = 6 ∨ op = 8) ∧ 0 ≤ n ∧ n < ch ∧ a = 0 ∧ r ≠ b)
   ∨ (op = 7 ∧ 0 ≤ n ∧ n < ch ∧ b = 0)
   ∨ (op = 9 ∧ 0 ≤ n ∧ n < ch ∧ r = 0 ∧ a = 0 ∧ b = 0)
   ∨ (op = 10 ∧ r = 0 ∧ b = 0 ∧ n = 0)
   ∨ (op = 11 ∧ 0 ≤ n ∧ n < pl ∧ r = 0 ∧ a = 0 ∧ b = 0)
   ∨ (op = 12 ∧ 0 ≤ n ∧ n < pl ∧ r = 0 ∧ b = 0)
   ∨ (op = 13 ∧ r = 0 ∧ a = 0 ∧ b = 0 ∧ n = 0)))
def oneB (n c : Int) : Bool := decide (0 ≤ n ∧ n < c)
def chansB (c : Int) : Bool := decide (0 ≤ c ∧ c ≤ 3)
def inB (x lo hi : Int) : Bool := decide (lo ≤ x ∧ x ≤ hi)
end Plain
end
section
set_option linter.unusedSimpArgs false
set_option linter.unusedVariables false
set_option maxRecDepth 100000
open Go.RowKit
end
end Go.Proofs.Ytknffngbdakblaa
