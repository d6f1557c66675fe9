/- Sources as they lie in memory: rows of threads, of channels and of notes, read and owned. Rows of sources that are made and written: what stores make of them, and how the laws copy a list of integers. Conditions: each list of at most 1048576. Rows of integers that a call has made, written over with running numbers and looked at again. Conditions: at most 2^20 + 1 integers. Rows of threads and of channels that a call has made, written over with running numbers and looked at again. Conditions: the numbers stay below 10^15. Rows of notes that a call has made, written over with running numbers. Conditions: the numbers stay below 10^15. A source that a call has made, written over with running numbers. Conditions: the numbers stay below 10^15. -/
import Derived.Test.YtfokbjkgdiploaaGreatJG00
import Derived.Test.YtfokbjkgdiploaaGreatJG02
namespace Go.Proofs.YtfokbjkgdiploaaGreat
section
set_option linter.unusedSimpArgs false
set_option linter.unusedVariables false
set_option maxRecDepth 100000
open Go.RowKit
structure TD where
 pc : Int
 regs : List Int
 st : Int
structure CD where
 cap : Int
 list : List Int
 cl : Bool
structure ND where
 who : Int
 v : Int
structure SD where
 ths : List TD
 chs : List CD
 tr : List ND
/- a thread or a channel as three cells -/
structure Rec where
 a : Value
 l : List Int
 z : Value
def TD.rec3 (t : TD) : Rec := ⟨.int .i64 t.pc, t.regs, .int .i64 t.st⟩
def CD.rec3 (t : CD) : Rec := ⟨.int .i64 t.cap, t.list, .bool t.cl⟩
def RecR (w : World) (lo hi g off : Nat) (r : Rec) : Prop :=
 ∃ s c, w.cell? ⟨g, off, none⟩ = some r.a ∧ w.cell? ⟨g, off + 1, none⟩ = some (.slice s r.l.length c) ∧ w.cell? ⟨g, off + 2, none⟩ = some r.z ∧ IntsR w lo hi s r.l
def RecsR (w : World) (lo hi : Nat) (s : Option Addr) (l : List Rec) : Prop :=
 l = [] ∨ ∃ g off, s = some ⟨g, off, none⟩ ∧ lo ≤ g ∧ g < hi ∧ ∀ (i : Nat) (r : Rec), l[i]? = some r → RecR w lo hi g (off + i * 3) r
def NtR (w : World) (g off : Nat) (n : ND) : Prop := w.cell? ⟨g, off, none⟩ = some (.int .i64 n.who) ∧ w.cell? ⟨g, off + 1, none⟩ = some (.int .i64 n.v)
def NtsR (w : World) (lo hi : Nat) (s : Option Addr) (l : List ND) : Prop :=
 l = [] ∨ ∃ g off, s = some ⟨g, off, none⟩ ∧ lo ≤ g ∧ g < hi ∧ ∀ (i : Nat) (n : ND), l[i]? = some n → NtR w g (off + i * 2) n
def SrcR (w : World) (lo hi : Nat) (s1 s2 s3 : Option Addr) (d : SD) : Prop := RecsR w lo hi s1 (d.ths.map TD.rec3) ∧ RecsR w lo hi s2 (d.chs.map CD.rec3) ∧ NtsR w lo hi s3 d.tr
theorem RecR.keep {w w' : World} {lo hi g off : Nat} {r : Rec} (h : RecR w lo hi g off r) (hb : Keep lo hi w w') (hc : ∀ j, w'.cell? ⟨g, j, none⟩ = w.cell? ⟨g, j, none⟩) : RecR w' lo hi g off r := by
 obtain ⟨s, c, h1, h2, h3, h4⟩ := h
 exact ⟨s, c, (hc _).trans h1, (hc _).trans h2, (hc _).trans h3, h4.keep hb⟩
theorem RecsR.keep {w w' : World} {lo hi : Nat} {s : Option Addr} {l : List Rec} (h : RecsR w lo hi s l) (hb : Keep lo hi w w') : RecsR w' lo hi s l := by
 rcases h with h | ⟨g, o, hs, h1, h2, hc⟩
 ·exact .inl h
 ·exact .inr ⟨g, o, hs, h1, h2, fun i r hi => (hc i r hi).keep hb (fun j => hb.cell h1 h2)⟩
theorem NtsR.keep {w w' : World} {lo hi : Nat} {s : Option Addr} {l : List ND} (h : NtsR w lo hi s l) (hb : Keep lo hi w w') : NtsR w' lo hi s l := by
 rcases h with h | ⟨g, o, hs, h1, h2, hc⟩
 ·exact .inl h
 ·exact .inr ⟨g, o, hs, h1, h2, fun i r hi => ⟨(hb.cell h1 h2).trans (hc i r hi).1, (hb.cell h1 h2).trans (hc i r hi).2⟩⟩
theorem SrcR.keep {w w' : World} {lo hi : Nat} {s1 s2 s3 : Option Addr} {d : SD} (h : SrcR w lo hi s1 s2 s3 d) (hb : Keep lo hi w w') : SrcR w' lo hi s1 s2 s3 d := ⟨h.1.keep hb, h.2.1.keep hb, h.2.2.keep hb⟩
/- owned rows -/
def flatR : List (Rec × Value) → List Value
 | [] => []
 | x :: t => [x.1.a, x.2, x.1.z] ++ flatR t
theorem flatR_len : ∀ L : List (Rec × Value), (flatR L).length = L.length * 3
 | [] => rfl
 | x :: t => by simp [flatR, flatR_len t]; omega
theorem flatR_app : ∀ (a b : List (Rec × Value)), flatR (a ++ b) = flatR a ++ flatR b
 | [], b => rfl
 | x :: r, b => by simp [flatR, flatR_app r b]
theorem flatR_at : ∀ (L : List (Rec × Value)) (i : Nat) (x : Rec × Value), L[i]? = some x → (flatR L)[i * 3]? = some x.1.a ∧ (flatR L)[i * 3 + 1]? = some x.2 ∧ (flatR L)[i * 3 + 2]? = some x.1.z
 | [], i, x, h => by simp at h
 | y :: r, 0, x, h => by
  simp at h
  subst h
  exact ⟨rfl, rfl, rfl⟩
 | y :: r, i + 1, x, h => by
  have h' : r[i]? = some x := by simpa using h
  have e := flatR_at r i x h'
  have e0 : (i + 1) * 3 = i * 3 + 3 := by omega
  rw [e0]
  exact e
def flatN : List ND → List Value
 | [] => []
 | x :: t => [.int .i64 x.who, .int .i64 x.v] ++ flatN t
theorem flatN_len : ∀ L : List ND, (flatN L).length = L.length * 2
 | [] => rfl
 | x :: t => by simp [flatN, flatN_len t]; omega
theorem flatN_app : ∀ (a b : List ND), flatN (a ++ b) = flatN a ++ flatN b
 | [], b => rfl
 | x :: r, b => by simp [flatN, flatN_app r b]
theorem flatN_at : ∀ (L : List ND) (i : Nat) (x : ND), L[i]? = some x → (flatN L)[i * 2]? = some (.int .i64 x.who) ∧ (flatN L)[i * 2 + 1]? = some (.int .i64 x.v)
 | [], i, x, h => by simp at h
 | y :: r, 0, x, h => by
  simp at h
  subst h
  exact ⟨rfl, rfl⟩
 | y :: r, i + 1, x, h => by
  have h' : r[i]? = some x := by simpa using h
  have e := flatN_at r i x h'
  have e0 : (i + 1) * 2 = i * 2 + 2 := by omega
  rw [e0]
  exact e
structure OwnQ (w : World) (base : Nat) (e : TypeId) (v : Value) (L : List (Rec × Value)) : Prop where
 row : w.ownsRow base e 3 v L.length (flatR L)
 inn : ∀ (i : Nat) (x : Rec × Value), L[i]? = some x → OwnN w base x.2 x.1.l
 sep : ∀ (i j : Nat) (x y : Rec × Value) (k : Nat), L[i]? = some x → L[j]? = some y → i ≠ j → x.2.ownBlock = some k → y.2.ownBlock ≠ some k
def OwnD (w : World) (base : Nat) (v : Value) (l : List ND) : Prop := w.ownsRow base 99 2 v l.length (flatN l)
theorem ownKeep' {w w' : World} {base : Nat} {e : TypeId} {size n : Nat} {v : Value} {xs : List Value} (h : w.ownsRow base e size v n xs) (hb : ∀ k, v.ownBlock = some k → w'.heap[k]? = w.heap[k]?) : w'.ownsRow base e size v n xs := by
 obtain ⟨h1, h2⟩ := h
 refine ⟨h1, ?_⟩
 rcases h2 with h2 | ⟨g, cap, cur, rfl, b0, c, d⟩
 ·exact .inl h2
 ·exact .inr ⟨g, cap, cur, rfl, b0, (hb g rfl).trans c, d⟩
theorem ownLow' {w : World} {b b' : Nat} {e : TypeId} {size n : Nat} {v : Value} {xs : List Value} (h : w.ownsRow b e size v n xs) (hb : b' ≤ b) : w.ownsRow b' e size v n xs := by
 obtain ⟨h1, h2⟩ := h
 refine ⟨h1, ?_⟩
 rcases h2 with h2 | ⟨g, cap, cur, a, b0, c, d⟩
 ·exact .inl h2
 ·exact .inr ⟨g, cap, cur, a, Nat.le_trans hb b0, c, d⟩
theorem ownType' {w : World} {base base' : Nat} {e e' : TypeId} {size size' n n' : Nat} {v v' : Value} {xs xs' : List Value} (h : w.ownsRow base e size v n xs) (h' : w.ownsRow base' e' size' v' n' xs') (hne : e ≠ e') {k : Nat} (hk : v.ownBlock = some k) : v'.ownBlock ≠ some k := by
 intro hk'
 rcases h.2 with ⟨rfl, -⟩ | ⟨g, cap, cur, rfl, -, c, -⟩
 ·cases hk
 rcases h'.2 with ⟨rfl, -⟩ | ⟨g', cap', cur', rfl, -, c', -⟩
 ·cases hk'
 ·simp only [Value.ownBlock, Option.some.injEq] at hk hk'
  subst hk
  subst hk'
  rw [c] at c'
  injection c' with c'
  injection c' with c1 c2
  exact hne c2
theorem OwnQ.keep {w w' : World} {base : Nat} {e : TypeId} {v : Value} {L : List (Rec × Value)} (h : OwnQ w base e v L) (hb : ∀ k, base ≤ k → k < w.heap.size → w'.heap[k]? = w.heap[k]?) : OwnQ w' base e v L :=
 ⟨ownKeep' h.row (fun k hk => hb k (World.ownsRow.lt h.row _ hk).1 (World.ownsRow.lt h.row _ hk).2), fun i x hx => ownKeep' (h.inn i x hx) (fun k hk => hb k (World.ownsRow.lt (h.inn i x hx) _ hk).1 (World.ownsRow.lt (h.inn i x hx) _ hk).2), h.sep⟩
theorem OwnQ.below {w w' : World} {base : Nat} {e : TypeId} {v : Value} {L : List (Rec × Value)} (h : OwnQ w base e v L) (hb : Below w.heap.size w w') : OwnQ w' base e v L := h.keep fun k _ hk => hb.block k hk
theorem OwnQ.nil (w : World) (base : Nat) (e : TypeId) : OwnQ w base e (.slice none 0 0) [] := ⟨World.ownsRow_nil _ _ _ _, fun i x hx => by simp at hx, fun i j x y k hx => by simp at hx⟩
theorem OwnQ.low {w : World} {b b' : Nat} {e : TypeId} {v : Value} {L : List (Rec × Value)} (h : OwnQ w b e v L) (hb : b' ≤ b) : OwnQ w b' e v L := ⟨ownLow' h.row hb, fun i x hx => ownLow' (h.inn i x hx) hb, h.sep⟩
theorem ownSl {w : World} {base : Nat} {e : TypeId} {size n : Nat} {v : Value} {xs : List Value} (h : w.ownsRow base e size v n xs) : ∃ s c, v = .slice s n c := by
 rcases h.2 with ⟨h1, h2⟩ | ⟨g, cap, cur, a, -⟩
 ·exact ⟨none, 0, by rw [h1, h2]⟩
 ·exact ⟨_, _, a⟩
theorem ownN_ints {w : World} {base : Nat} {v : Value} {l : List Int} (h : OwnN w base v l) : ∃ s c, v = .slice s l.length c ∧ IntsR w base w.heap.size s l := by
 rcases Nat.eq_zero_or_pos l.length with h0 | hpos
 ·obtain ⟨s, c, e⟩ := ownSl h
  exact ⟨s, c, e, .inl (List.length_eq_zero_iff.1 h0)⟩
 ·obtain ⟨g, cap, rfl, -⟩ := World.ownsRow.form h hpos
  have hlt := World.ownsRow.lt h g rfl
  refine ⟨_, _, rfl, .inr ⟨g, 0, rfl, hlt.1, hlt.2, fun i hi => ?_⟩⟩
  rw [Nat.zero_add, World.ownsRow.cellAt h i (by omega), List.getElem?_map, List.getD_eq_getElem?_getD, List.getElem?_eq_getElem hi]
  rfl
theorem OwnQ.recs {w : World} {base : Nat} {e : TypeId} {v : Value} {L : List (Rec × Value)} (h : OwnQ w base e v L) : ∃ s c, v = .slice s L.length c ∧ RecsR w base w.heap.size s (L.map Prod.fst) := by
 rcases Nat.eq_zero_or_pos L.length with h0 | hpos
 ·obtain ⟨s, c, e⟩ := ownSl h.row
  exact ⟨s, c, e, .inl (by rw [List.length_eq_zero_iff.1 h0]; rfl)⟩
 ·obtain ⟨g, cap, rfl, -⟩ := World.ownsRow.form h.row hpos
  have hlt := World.ownsRow.lt h.row g rfl
  refine ⟨_, _, rfl, .inr ⟨g, 0, rfl, hlt.1, hlt.2, fun i r hr => ?_⟩⟩
  rw [List.getElem?_map] at hr
  obtain ⟨x, hx, rfl⟩ := Option.map_eq_some_iff.1 hr
  have hi : i < L.length := (List.getElem?_eq_some_iff.1 hx).1
  obtain ⟨e0, e1, e2⟩ := flatR_at L i x hx
  obtain ⟨s, c, hv, hI⟩ := ownN_ints (h.inn i x hx)
  refine ⟨s, c, ?_, ?_, ?_, hI⟩
  ·rw [Nat.zero_add, World.ownsRow.cellAt h.row _ (by omega)]; exact e0
  ·rw [Nat.zero_add, World.ownsRow.cellAt h.row _ (by omega), e1, hv]
  ·rw [Nat.zero_add, World.ownsRow.cellAt h.row _ (by omega)]; exact e2
theorem OwnD.nts {w : World} {base : Nat} {v : Value} {l : List ND} (h : OwnD w base v l) : ∃ s c, v = .slice s l.length c ∧ NtsR w base w.heap.size s l := by
 rcases Nat.eq_zero_or_pos l.length with h0 | hpos
 ·obtain ⟨s, c, e⟩ := ownSl h
  exact ⟨s, c, e, .inl (List.length_eq_zero_iff.1 h0)⟩
 ·obtain ⟨g, cap, rfl, -⟩ := World.ownsRow.form h hpos
  have hlt := World.ownsRow.lt h g rfl
  refine ⟨_, _, rfl, .inr ⟨g, 0, rfl, hlt.1, hlt.2, fun i r hr => ?_⟩⟩
  have hi : i < l.length := (List.getElem?_eq_some_iff.1 hr).1
  obtain ⟨e0, e1⟩ := flatN_at l i r hr
  refine ⟨?_, ?_⟩
  ·rw [Nat.zero_add, World.ownsRow.cellAt h _ (by omega)]; exact e0
  ·rw [Nat.zero_add, World.ownsRow.cellAt h _ (by omega)]; exact e1
structure OwnS (w : World) (base : Nat) (v1 v2 v3 : Value) (L1 L2 : List (Rec × Value)) (d : SD) : Prop where
 e1 : L1.map Prod.fst = d.ths.map TD.rec3
 e2 : L2.map Prod.fst = d.chs.map CD.rec3
 t : OwnQ w base 82 v1 L1
 c : OwnQ w base 92 v2 L2
 n : OwnD w base v3 d.tr
 sep : ∀ (i j : Nat) (x y : Rec × Value) (k : Nat), L1[i]? = some x → L2[j]? = some y → x.2.ownBlock = some k → y.2.ownBlock ≠ some k
theorem OwnS.src {w : World} {base : Nat} {v1 v2 v3 : Value} {L1 L2 : List (Rec × Value)} {d : SD} (h : OwnS w base v1 v2 v3 L1 L2 d) : ∃ s1 c1 s2 c2 s3 c3, v1 = .slice s1 d.ths.length c1 ∧ v2 = .slice s2 d.chs.length c2 ∧ v3 = .slice s3 d.tr.length c3 ∧ SrcR w base w.heap.size s1 s2 s3 d := by
 have l1 : L1.length = d.ths.length := by have := congrArg List.length h.e1; simpa using this
 have l2 : L2.length = d.chs.length := by have := congrArg List.length h.e2; simpa using this
 obtain ⟨s1, c1, q1, r1⟩ := h.t.recs
 obtain ⟨s2, c2, q2, r2⟩ := h.c.recs
 obtain ⟨s3, c3, q3, r3⟩ := h.n.nts
 rw [l1] at q1
 rw [l2] at q2
 rw [h.e1] at r1
 rw [h.e2] at r2
 exact ⟨s1, c1, s2, c2, s3, c3, q1, q2, q3, r1, r2, r3⟩
theorem OwnS.keep {w w' : World} {base : Nat} {v1 v2 v3 : Value} {L1 L2 : List (Rec × Value)} {d : SD} (h : OwnS w base v1 v2 v3 L1 L2 d) (hb : ∀ k, base ≤ k → k < w.heap.size → w'.heap[k]? = w.heap[k]?) : OwnS w' base v1 v2 v3 L1 L2 d :=
 ⟨h.e1, h.e2, h.t.keep hb, h.c.keep hb, ownKeep' h.n (fun k hk => hb k (World.ownsRow.lt h.n _ hk).1 (World.ownsRow.lt h.n _ hk).2), h.sep⟩
def SFits (d : SD) : Prop := (d.ths.length ≤ 1048576 ∧ ∀ (i : Nat) (t : TD), d.ths[i]? = some t → t.regs.length ≤ 1048576) ∧ (d.chs.length ≤ 1048576 ∧ ∀ (i : Nat) (t : CD), d.chs[i]? = some t → t.list.length ≤ 1048576) ∧ d.tr.length ≤ 1048576
end
section
set_option linter.unusedSimpArgs false
set_option linter.unusedVariables false
set_option maxRecDepth 100000
open Go.RowKit
theorem setApp {α : Type} (b : List α) (i : Nat) (x : α) : ∀ a : List α, (a ++ b).set (a.length + i) x = a ++ b.set i x
 | [] => by simp
 | y :: r => by
  have e : (y :: r).length + i = (r.length + i) + 1 := by simp; omega
  rw [e]
  simp [setApp b i x r]
set_option maxHeartbeats 1000000 in
theorem toIntS_own (s : Option Addr) (c lo hi : Nat) (l : List Int) (w : World) (h : IntsR w lo hi s l) (hB : hi ≤ w.heap.size) (hl : l.length ≤ 1048576) :
  Calls Tryz.prog 12 #[.slice s l.length c] w fun e w' => e = .returned (.slice (some ⟨w.heap.size, 0, none⟩) l.length l.length) ∧ OwnN w' w.heap.size (.slice (some ⟨w.heap.size, 0, none⟩) l.length l.length) l ∧ Below w.heap.size w w' ∧ w.heap.size < w'.heap.size := by
 have hmk := mkInt l.length hl
 have HC : Hid (IntsR w lo hi s l) := h
 clear h
 go_enter Tryz.func12, Tryz.ntmps12
 go_wp2
 clear hmk
 go_loopw [4] (fun i wr => ∃ k : Nat, k ≤ l.length ∧ i = .int .i64 k ∧ Below w.heap.size w wr ∧ w.heap.size < wr.heap.size ∧ wr.ownsRow w.heap.size 3 1 (.slice (some ⟨w.heap.size, 0, none⟩) l.length l.length) l.length ((l.take k ++ List.replicate (l.length - k) 0).map (Value.int .i64))) (fun i _ => l.length - (intOf i).toNat)
 case atStart =>
  refine ⟨0, Nat.zero_le _, rfl, (Below.refl _ _).alloc (Nat.le_refl _) _, by simp, ?_⟩
  have h0 := World.ownsRow_lit (base := w.heap.size) (e := 3) (size := 1) w (madeCells #[.int .i64 0] (l.length * 1)) l.length (Nat.le_refl _) (by unfold maxLen; omega) (size_madeCells _ _)
  rw [toList_madeCells_one] at h0
  simpa using h0
 case round =>
  obtain ⟨k, hk, rfl, hb, hsz, ho⟩ := hrel
  have HB : Hid (Below w.heap.size w wr) := hb
  have HO := (show Hid _ from ho)
  clear hb ho
  by_cases hlt : k < l.length
  ·obtain ⟨g, off, hs, hg, hc⟩ : ∃ g off, s = some ⟨g, off, none⟩ ∧ g < w.heap.size ∧ w.cell? ⟨g, off + k, none⟩ = some (.int .i64 (l.getD k 0)) := by
    rcases HC.out with h | ⟨g, off, a, b, d, e⟩
    ·rw [h] at hlt; simp at hlt
    ·exact ⟨g, off, a, by omega, e k hlt⟩
   subst hs
   have f0 := (HB.out.cell (p := ⟨g, off + k, none⟩) hg).trans hc
   generalize hx : l.getD k 0 = x at f0
   have HX : Hid (l.getD k 0 = x) := hx
   clear hx hc
   obtain ⟨u, hu⟩ : ∃ u, wr.cell? ⟨w.heap.size, k, none⟩ = some u := by
    rw [World.ownsRow.cellAt HO.out k (by omega)]
    exact ⟨_, List.getElem?_eq_getElem (by simp; omega)⟩
   have hz : wr.frozen? ⟨w.heap.size, k, none⟩ = false := World.ownsRow.frozenAt HO.out k
   have b0 : (0 : Int) ≤ (k : Int) := by omega
   have b1 : (k : Int) < (l.length : Int) := by omega
   go_wp2
   go_roundw
   case rel =>
    refine ⟨k + 1, by omega, by go_num, HB.out.setCell (p := ⟨w.heap.size, k, none⟩) (Nat.le_refl _) _, by simpa using hsz, ?_⟩
    have p := (World.ownsRow.stored HO.out k (.int .i64 x)).1
    have e1 : ((l.take k ++ List.replicate (l.length - k) 0).map (Value.int .i64)).set k (.int .i64 x) = (l.take (k + 1) ++ List.replicate (l.length - (k + 1)) 0).map (Value.int .i64) := by
     have e2 := setApp (List.replicate (l.length - k) (0 : Int)) 0 x (l.take k)
     rw [List.length_take, Nat.min_eq_left (by omega), Nat.add_zero] at e2
     have e3 : l.length - k = (l.length - (k + 1)) + 1 := by omega
     have e4 : l.take (k + 1) = l.take k ++ [x] := by
      rw [List.take_add_one, List.getElem?_eq_getElem hlt, ← HX.out, List.getD_eq_getElem?_getD, List.getElem?_eq_getElem hlt]; rfl
     rw [← List.map_set, e2, e3, List.replicate_succ, List.set_cons_zero, e4, List.append_assoc]
     rfl
    rw [e1] at p
    exact p
   case measure => simp [intOf]; omega
  ·go_wp2
   go_ret
   have : k = l.length := by omega
   subst this
   have h1 := HO.out
   simp only [List.take_length, Nat.sub_self, List.replicate_zero, List.append_nil] at h1
   exact ⟨rfl, h1, HB.out, hsz⟩
/- a store of three cells -/
def set3 (w : World) (g o : Nat) (a b c : Value) : World := ((w.setCell ⟨g, o, none⟩ a).setCell ⟨g, o + 1, none⟩ b).setCell ⟨g, o + 2, none⟩ c
theorem set3_below {B g o : Nat} {w w' : World} {a b c : Value} (h : Below B w w') (hg : B ≤ g) : Below B w (set3 w' g o a b c) := ((h.setCell (p := ⟨g, o, none⟩) hg _).setCell (p := ⟨g, o + 1, none⟩) hg _).setCell (p := ⟨g, o + 2, none⟩) hg _
theorem set3_size {g o : Nat} {w : World} {a b c : Value} : (set3 w g o a b c).heap.size = w.heap.size := by simp [set3]
theorem set3_block {g o k : Nat} {w : World} {a b c : Value} (h : k ≠ g) : (set3 w g o a b c).heap[k]? = w.heap[k]? := by
 unfold set3
 rw [Below.heap_setCell _ _ _ k h, Below.heap_setCell _ _ _ k h, Below.heap_setCell _ _ _ k h]
theorem flatR_put (A B : List (Rec × Value)) (x y : Rec × Value) : (((flatR (A ++ x :: B)).set (A.length * 3) y.1.a).set (A.length * 3 + 1) y.2).set (A.length * 3 + 2) y.1.z = flatR (A ++ y :: B) := by
 have hl : A.length * 3 = (flatR A).length := (flatR_len A).symm
 rw [flatR_app, flatR_app, hl]
 have e0 := setApp (flatR (x :: B)) 0 y.1.a (flatR A)
 rw [Nat.add_zero] at e0
 rw [e0, setApp, setApp]
 rfl
theorem put_at {α : Type} (A B : List α) (x y : α) (i : Nat) (h : i ≠ A.length) : (A ++ y :: B)[i]? = (A ++ x :: B)[i]? := by
 rcases Nat.lt_or_ge i A.length with g | g
 ·rw [List.getElem?_append_left g, List.getElem?_append_left g]
 ·rw [List.getElem?_append_right g, List.getElem?_append_right g]
  obtain ⟨m, hm⟩ : ∃ m, i - A.length = m + 1 := ⟨i - A.length - 1, by omega⟩
  rw [hm]
  rfl
theorem put_mid {α : Type} (A B : List α) (y : α) : (A ++ y :: B)[A.length]? = some y := by rw [List.getElem?_append_right (Nat.le_refl _)]; simp
theorem OwnQ.put {w : World} {base G cap n : Nat} {e : TypeId} {A B : List (Rec × Value)} {x : Rec × Value} (y : Rec × Value) (he : 3 ≠ e) (hn : (A ++ x :: B).length = n) (h : OwnQ w base e (.slice (some ⟨G, 0, none⟩) n cap) (A ++ x :: B)) (ho : OwnN w base y.2 y.1.l)
  (hs : ∀ (i : Nat) (z : Rec × Value) (k : Nat), i ≠ A.length → (A ++ x :: B)[i]? = some z → y.2.ownBlock = some k → z.2.ownBlock ≠ some k) : OwnQ (set3 w G (A.length * 3) y.1.a y.2 y.1.z) base e (.slice (some ⟨G, 0, none⟩) n cap) (A ++ y :: B) := by
 have hn' : (A ++ y :: B).length = n := by rw [← hn]; simp
 have hr := h.row
 rw [hn] at hr
 have p3 := (World.ownsRow.stored (World.ownsRow.stored (World.ownsRow.stored hr (A.length * 3) y.1.a).1 (A.length * 3 + 1) y.2).1 (A.length * 3 + 2) y.1.z).1
 rw [flatR_put] at p3
 have hblk : ∀ {v : Value} {l : List Int}, OwnN w base v l → ∀ k, v.ownBlock = some k → (set3 w G (A.length * 3) y.1.a y.2 y.1.z).heap[k]? = w.heap[k]? := fun hv k hk => set3_block (fun e' => ownType' hv hr he hk (by rw [e']; rfl))
 refine ⟨by rw [hn']; exact p3, fun i z hz => ?_, fun i j z z' k hz hz' hne => ?_⟩
 ·by_cases ei : i = A.length
  ·subst ei
   rw [put_mid] at hz
   injection hz with hz
   subst hz
   exact ownKeep' ho (hblk ho)
  ·rw [put_at A B x y i ei] at hz
   exact ownKeep' (h.inn i z hz) (hblk (h.inn i z hz))
 ·by_cases ei : i = A.length <;> by_cases ej : j = A.length
  ·omega
  ·subst ei
   rw [put_mid] at hz
   injection hz with hz
   subst hz
   rw [put_at A B x _ j ej] at hz'
   exact hs j z' k ej hz'
  ·subst ej
   rw [put_mid] at hz'
   injection hz' with hz'
   subst hz'
   rw [put_at A B x _ i ei] at hz
   intro a b
   exact hs i z k ei hz b a
  ·rw [put_at A B x y i ei] at hz
   rw [put_at A B x y j ej] at hz'
   exact h.sep i j z z' k hz hz' hne
def zqT : Rec × Value := (⟨.int .i64 0, [], .int .i64 0⟩, .slice none 0 0)
def zqC : Rec × Value := (⟨.int .i64 0, [], .bool false⟩, .slice none 0 0)
theorem flatR_rep (x : Rec × Value) : ∀ n, flatR (List.replicate n x) = (madeCells #[x.1.a, x.2, x.1.z] (n * 3)).toList := by
 intro n
 apply List.ext_getElem?
 intro j
 by_cases hj : j < n * 3
 ·have h1 : (List.replicate n x)[j / 3]? = some x := by rw [List.getElem?_replicate, if_pos (by omega)]
  obtain ⟨e0, e1, e2⟩ := flatR_at _ _ _ h1
  have hm : (madeCells #[x.1.a, x.2, x.1.z] (n * 3)).toList[j]? = #[x.1.a, x.2, x.1.z][j % 3]? := by
   have h3 : j % 3 < 3 := Nat.mod_lt _ (by omega)
   simp [madeCells, hj, h3]
  rw [hm]
  rcases (show j % 3 = 0 ∨ j % 3 = 1 ∨ j % 3 = 2 by omega) with h | h | h
  ·rw [show j = j / 3 * 3 by omega, e0, show j / 3 * 3 % 3 = 0 by omega]; rfl
  ·rw [show j = j / 3 * 3 + 1 by omega, e1, show (j / 3 * 3 + 1) % 3 = 1 by omega]; rfl
  ·rw [show j = j / 3 * 3 + 2 by omega, e2, show (j / 3 * 3 + 2) % 3 = 2 by omega]; rfl
 ·rw [List.getElem?_eq_none (by rw [flatR_len]; simp; omega), List.getElem?_eq_none (by rw [Array.length_toList, size_madeCells]; omega)]
theorem OwnQ.made (w : World) (e : TypeId) (x : Rec × Value) (hx : x.2 = .slice none 0 0) (hl : x.1.l = []) (n : Nat) (hn : n ≤ 1048576) : OwnQ (w.alloc (.cells (madeCells #[x.1.a, x.2, x.1.z] (n * 3)) e)) w.heap.size e (.slice (some ⟨w.heap.size, 0, none⟩) n n) (List.replicate n x) := by
 have h0 := World.ownsRow_lit (base := w.heap.size) (e := e) (size := 3) w (madeCells #[x.1.a, x.2, x.1.z] (n * 3)) n (Nat.le_refl _) (by unfold maxLen; omega) (size_madeCells _ _)
 rw [← flatR_rep] at h0
 refine ⟨by rw [List.length_replicate]; exact h0, fun i y hy => ?_, fun i j y z k hy hz => ?_⟩
 ·rw [List.getElem?_replicate] at hy
  split at hy
  ·injection hy with hy
   subst hy
   rw [hx, hl]
   exact World.ownsRow_nil _ _ _ _
  ·cases hy
 ·rw [List.getElem?_replicate] at hy
  split at hy
  ·injection hy with hy
   subst hy
   intro _ hk
   rw [hx] at hk
   cases hk
  ·cases hy
def set2 (w : World) (g o : Nat) (a b : Value) : World := (w.setCell ⟨g, o, none⟩ a).setCell ⟨g, o + 1, none⟩ b
theorem set2_below {B g o : Nat} {w w' : World} {a b : Value} (h : Below B w w') (hg : B ≤ g) : Below B w (set2 w' g o a b) := (h.setCell (p := ⟨g, o, none⟩) hg _).setCell (p := ⟨g, o + 1, none⟩) hg _
theorem set2_size {g o : Nat} {w : World} {a b : Value} : (set2 w g o a b).heap.size = w.heap.size := by simp [set2]
theorem flatN_put (A B : List ND) (x y : ND) : ((flatN (A ++ x :: B)).set (A.length * 2) (.int .i64 y.who)).set (A.length * 2 + 1) (.int .i64 y.v) = flatN (A ++ y :: B) := by
 have hl : A.length * 2 = (flatN A).length := (flatN_len A).symm
 rw [flatN_app, flatN_app, hl]
 have e0 := setApp (flatN (x :: B)) 0 (Value.int .i64 y.who) (flatN A)
 rw [Nat.add_zero] at e0
 rw [e0, setApp]
 rfl
theorem flatN_rep (n : Nat) : flatN (List.replicate n ⟨0, 0⟩) = (madeCells #[.int .i64 0, .int .i64 0] (n * 2)).toList := by
 apply List.ext_getElem?
 intro j
 by_cases hj : j < n * 2
 ·have h1 : (List.replicate n (⟨0, 0⟩ : ND))[j / 2]? = some ⟨0, 0⟩ := by rw [List.getElem?_replicate, if_pos (by omega)]
  obtain ⟨e0, e1⟩ := flatN_at _ _ _ h1
  have hm : (madeCells #[.int .i64 0, .int .i64 0] (n * 2)).toList[j]? = some (.int .i64 0) := by
   simp [madeCells, hj]
   rcases (show j % 2 = 0 ∨ j % 2 = 1 by omega) with h | h <;> rw [h] <;> rfl
  rw [hm]
  rcases (show j % 2 = 0 ∨ j % 2 = 1 by omega) with h | h
  ·rw [show j = j / 2 * 2 by omega, e0]
  ·rw [show j = j / 2 * 2 + 1 by omega, e1]
 ·rw [List.getElem?_eq_none (by rw [flatN_len]; simp; omega), List.getElem?_eq_none (by rw [Array.length_toList, size_madeCells]; omega)]
/- rows of two calls, one behind the other, have blocks apart -/
theorem sepQ {w w1 : World} {base base' : Nat} {e e' : TypeId} {v v' : Value} {L L' : List (Rec × Value)} (h : OwnQ w base e v L) (h' : OwnQ w1 base' e' v' L') (hb : w.heap.size ≤ base') : ∀ (i j : Nat) (x y : Rec × Value) (k : Nat), L[i]? = some x → L'[j]? = some y → x.2.ownBlock = some k → y.2.ownBlock ≠ some k := by
 intro i j x y k hx hy hk hk'
 have h1 := (World.ownsRow.lt (h.inn i x hx) _ hk).2
 have h2 := (World.ownsRow.lt (h'.inn j y hy) _ hk').1
 omega
end
section
set_option linter.unusedSimpArgs false
set_option linter.unusedVariables false
set_option maxRecDepth 100000
open Go.RowKit
def relN (q : Int) : Nat → List Int
 | 0 => []
 | n + 1 => relN q n ++ [q + n]
theorem relN_len (q : Int) : ∀ n, (relN q n).length = n
 | 0 => rfl
 | n + 1 => by simp [relN, relN_len q n]
theorem relN_at (q : Int) : ∀ (n i : Nat), i < n → (relN q n)[i]? = some (q + i)
 | 0, i, h => absurd h (by omega)
 | n + 1, i, h => by
  rcases Nat.lt_or_ge i n with g | g
  ·rw [relN, List.getElem?_append_left (by rw [relN_len]; exact g)]
   exact relN_at q n i g
  ·have e : i = n := by omega
   subst e
   rw [relN, List.getElem?_append_right (by rw [relN_len]; exact Nat.le_refl _), relN_len]
   simp
set_option maxHeartbeats 2000000 in
theorem markN_any (base : Nat) (v : Value) (b : List Int) (q : Int) (w : World) (h : OwnN w base v b) (hn : b.length ≤ 1048577) (hq : 0 ≤ q) (hq' : q ≤ 1000000000000000) :
  Calls Tryz.prog 19 #[v, .int .i64 q] w fun e w' => e = .returned (.int .i64 (q + b.length)) ∧ OwnN w' base v (relN q b.length) ∧ w'.heap.size = w.heap.size ∧ w'.os = w.os ∧ w'.tape = w.tape ∧ w'.output = w.output ∧ (∀ k, v.ownBlock ≠ some k → w'.heap[k]? = w.heap[k]?) := by
 obtain ⟨s, c, rfl⟩ : ∃ s c, v = .slice s b.length c := by
  rcases h.2 with ⟨h1, h2⟩ | ⟨g, cap, cur, a, -⟩
  ·exact ⟨none, 0, by rw [h1, h2]⟩
  ·exact ⟨_, _, a⟩
 have H : Hid (OwnN w base (.slice s b.length c) b) := h
 clear h
 go_enter Tryz.func19, Tryz.ntmps19
 go_wp2
 go_loopw [1, 5] (fun a i wr => ∃ k : Nat, k ≤ b.length ∧ i = .int .i64 k ∧ a = .int .i64 (q + k) ∧ OwnN wr base (.slice s b.length c) (relN q k ++ b.drop k) ∧ wr.heap.size = w.heap.size ∧ wr.os = w.os ∧ wr.tape = w.tape ∧ wr.output = w.output ∧ (∀ k, (Value.slice s b.length c).ownBlock ≠ some k → wr.heap[k]? = w.heap[k]?)) (fun _ i _ => b.length - (intOf i).toNat)
 case atStart => exact ⟨0, Nat.zero_le _, rfl, by simp, by simpa [relN] using H.out, rfl, rfl, rfl, rfl, fun _ _ => rfl⟩
 case round =>
  obtain ⟨k, hk, rfl, rfl, ho, hr0⟩ := hrel
  have HO : Hid (OwnN wr base (.slice s b.length c) (relN q k ++ b.drop k)) := ho
  have HR := (show Hid _ from hr0)
  have hlen : (relN q k ++ b.drop k).length = b.length := by rw [List.length_append, relN_len, List.length_drop]; omega
  clear ho hr0
  by_cases hlt : k < b.length
  ·have hr : wr.ownsRow base 3 1 (.slice s b.length c) b.length ((relN q k ++ b.drop k).map (Value.int .i64)) := by have h := HO.out; unfold OwnN at h; rw [hlen] at h; exact h
   obtain ⟨g, hs⟩ : ∃ g, s = some ⟨g, 0, none⟩ := by
    obtain ⟨g, cap, e, -⟩ := World.ownsRow.form hr (by omega)
    injection e with e1 e2 e3
    exact ⟨g, e1⟩
   subst hs
   have HRo := (show Hid _ from hr)
   obtain ⟨u0, c0⟩ : ∃ u, wr.cell? ⟨g, k, none⟩ = some u := by
    rw [World.ownsRow.cellAt hr k (by omega)]
    exact ⟨_, List.getElem?_eq_getElem (by rw [List.length_map, hlen]; omega)⟩
   have hfz : ∀ j, wr.frozen? ⟨g, j, none⟩ = false := fun j => World.ownsRow.frozenAt hr j
   clear hr hlen
   have b0 : (0 : Int) ≤ (k : Int) := by omega
   have b1 : (k : Int) < (b.length : Int) := by omega
   go_wp2
   go_roundw
   case rel =>
    obtain ⟨r1, r2, r3, r4, r5⟩ := HR.out
    have hd : b.drop k = b[k] :: b.drop (k + 1) := List.drop_eq_getElem_cons hlt
    have p5 := (World.ownsRow.stored HRo.out k (.int .i64 (q + k))).1
    have e0 : ((relN q k ++ b.drop k).map (Value.int .i64)).set k (.int .i64 (q + k)) = (relN q (k + 1) ++ b.drop (k + 1)).map (Value.int .i64) := by
     have e1 := setApp (b.drop k) 0 (q + k) (relN q k)
     rw [relN_len, Nat.add_zero] at e1
     rw [← List.map_set, e1, hd, List.set_cons_zero, relN, List.append_assoc]
     rfl
    have e2 : (relN q (k + 1) ++ b.drop (k + 1)).length = b.length := by rw [List.length_append, relN_len, List.length_drop]; omega
    rw [e0] at p5
    refine ⟨k + 1, by omega, by go_num, by go_num, ?_, by simpa using r1, r2, r3, r4, fun j hj => ?_⟩
    ·unfold OwnN
     rw [e2]
     exact p5
    ·exact (Below.heap_setCell _ _ _ j (fun e => hj (by rw [e]; rfl))).trans (r5 j hj)
   case measure => simp [intOf]; omega
  ·go_wp2
   go_ret
   have e : k = b.length := by omega
   subst e
   have ho := HO.out
   rw [List.drop_length, List.append_nil] at ho
   exact ⟨rfl, ho, HR.out⟩
set_option maxHeartbeats 2000000 in
theorem heldN_any (base : Nat) (v : Value) (n : Nat) (q : Int) (w : World) (h : OwnN w base v (relN q n)) (hn : n ≤ 1048577) (hq : 0 ≤ q) (hq' : q ≤ 1000000000000000) :
  Calls Tryz.prog 21 #[v, .int .i64 q] w fun e w' => e = .returned (.int .i64 (q + n)) ∧ w' = w := by
 have h' : w.ownsRow base 3 1 v n ((relN q n).map (Value.int .i64)) := by unfold OwnN at h; rw [relN_len] at h; exact h
 obtain ⟨s, c, rfl⟩ : ∃ s c, v = .slice s n c := by
  rcases h'.2 with ⟨h1, h2⟩ | ⟨g, cap, cur, a, -⟩
  ·exact ⟨none, 0, by rw [h1, h2]⟩
  ·exact ⟨_, _, a⟩
 have H := (show Hid _ from h')
 clear h h'
 go_enter Tryz.func21, Tryz.ntmps21
 go_wp2
 go_loop [1, 5] (fun a i => ∃ k : Nat, k ≤ n ∧ i = .int .i64 k ∧ a = .int .i64 (q + k)) (fun _ i => n - (intOf i).toNat)
 case atStart => exact ⟨0, Nat.zero_le _, rfl, by simp⟩
 case round =>
  obtain ⟨k, hk, rfl, rfl⟩ := hrel
  by_cases hlt : k < n
  ·obtain ⟨g, hs⟩ : ∃ g, s = some ⟨g, 0, none⟩ := by
    obtain ⟨g, cap, e, -⟩ := World.ownsRow.form H.out (by omega)
    injection e with e1 e2 e3
    exact ⟨g, e1⟩
   subst hs
   have c0 : w.cell? ⟨g, k, none⟩ = some (.int .i64 (q + k)) := by
    rw [World.ownsRow.cellAt H.out k (by omega), List.getElem?_map, relN_at q n k hlt]
    rfl
   have b0 : (0 : Int) ≤ (k : Int) := by omega
   have b1 : (k : Int) < (n : Int) := by omega
   go_wp2
   go_round
   case rel => exact ⟨k + 1, by omega, by go_num, by go_num⟩
   case measure => simp [intOf]; omega
  ·go_wp2
   go_ret
   have e : k = n := by omega
   subst e
   exact ⟨rfl, rfl⟩
end
section
set_option linter.unusedSimpArgs false
set_option linter.unusedVariables false
set_option maxRecDepth 100000
open Go.RowKit
def sumQ : List (Rec × Value) → Nat
 | [] => 0
 | x :: r => x.1.l.length + 2 + sumQ r
theorem sumQ_app : ∀ (a b : List (Rec × Value)), sumQ (a ++ b) = sumQ a + sumQ b
 | [], b => by simp [sumQ]
 | x :: r, b => by simp [sumQ, sumQ_app r b]; omega
theorem flatR_put2 (A B : List (Rec × Value)) (x y : Rec × Value) (h : y.2 = x.2) : ((flatR (A ++ x :: B)).set (A.length * 3) y.1.a).set (A.length * 3 + 2) y.1.z = flatR (A ++ y :: B) := by
 have hl : A.length * 3 = (flatR A).length := (flatR_len A).symm
 rw [flatR_app, flatR_app, hl]
 have e0 := setApp (flatR (x :: B)) 0 y.1.a (flatR A)
 rw [Nat.add_zero] at e0
 rw [e0, setApp]
 show _ = flatR A ++ ([y.1.a, y.2, y.1.z] ++ flatR B)
 rw [h]
 rfl
/- one record written over: its first number, its row by a call, its last cell -/
theorem OwnQ.mark {wr w1 : World} {base g n cap : Nat} {e : TypeId} {A B : List (Rec × Value)} {x y : Rec × Value} (he : 3 ≠ e) (hn : (A ++ x :: B).length = n) (h : OwnQ wr base e (.slice (some ⟨g, 0, none⟩) n cap) (A ++ x :: B)) (h2 : y.2 = x.2) (ho1 : OwnN w1 base x.2 y.1.l)
  (hf1 : ∀ k, x.2.ownBlock ≠ some k → w1.heap[k]? = (wr.setCell ⟨g, A.length * 3, none⟩ y.1.a).heap[k]?) : OwnQ (w1.setCell ⟨g, A.length * 3 + 2, none⟩ y.1.z) base e (.slice (some ⟨g, 0, none⟩) n cap) (A ++ y :: B) := by
 have hn' : (A ++ y :: B).length = n := by rw [← hn]; simp
 have hr := h.row
 rw [hn] at hr
 have hx := h.inn A.length x (put_mid _ _ _)
 have hg : x.2.ownBlock ≠ some g := fun e' => ownType' hx hr he e' rfl
 have r1 := (World.ownsRow.stored hr (A.length * 3) y.1.a).1
 have r2 : w1.ownsRow base e 3 (.slice (some ⟨g, 0, none⟩) n cap) n _ := ownKeep' r1 (fun k hk => hf1 k (by injection hk with hk; rw [← hk]; exact hg))
 have r3 := (World.ownsRow.stored r2 (A.length * 3 + 2) y.1.z).1
 rw [flatR_put2 A B x y h2] at r3
 have far : ∀ {v : Value} {l : List Int}, OwnN wr base v l → (∀ k, v.ownBlock = some k → x.2.ownBlock ≠ some k) → OwnN (w1.setCell ⟨g, A.length * 3 + 2, none⟩ y.1.z) base v l := fun {v l} hv hd => ownKeep' hv (fun k hk => by
  have hkg : k ≠ g := fun e' => ownType' hv hr he hk (by rw [e']; rfl)
  rw [Below.heap_setCell _ _ _ k hkg, hf1 k (hd k hk), Below.heap_setCell _ _ _ k hkg])
 refine ⟨by rw [hn']; exact r3, fun i z hz => ?_, fun i j z z' k hz hz' hne => ?_⟩
 ·by_cases ei : i = A.length
  ·subst ei
   rw [put_mid] at hz
   injection hz with hz
   subst hz
   rw [h2]
   exact ownKeep' ho1 (fun k hk => Below.heap_setCell _ _ _ k (fun e' => hg (by have e2 : k = g := e'; rw [← e2]; exact hk)))
  ·rw [put_at A B x y i ei] at hz
   exact far (h.inn i z hz) (fun k hk => h.sep i A.length z x k hz (put_mid _ _ _) ei hk)
 ·by_cases ei : i = A.length <;> by_cases ej : j = A.length
  ·omega
  ·subst ei
   rw [put_mid] at hz
   injection hz with hz
   subst hz
   rw [put_at A B x _ j ej] at hz'
   rw [h2]
   exact h.sep _ j x z' k (put_mid _ _ _) hz' hne
  ·subst ej
   rw [put_mid] at hz'
   injection hz' with hz'
   subst hz'
   rw [put_at A B x _ i ei] at hz
   rw [h2]
   exact h.sep i _ z x k hz (put_mid _ _ _) hne
  ·rw [put_at A B x y i ei] at hz
   rw [put_at A B x y j ej] at hz'
   exact h.sep i j z z' k hz hz' hne
def mkdT (q : Int) (x : Rec × Value) : Rec × Value := (⟨.int .i64 q, relN (q + 1) x.1.l.length, .int .i64 (q + 1 + x.1.l.length)⟩, x.2)
def mksT (q : Int) : List (Rec × Value) → List (Rec × Value)
 | [] => []
 | x :: r => mkdT q x :: mksT (q + x.1.l.length + 2) r
theorem mksT_len : ∀ (L : List (Rec × Value)) (q : Int), (mksT q L).length = L.length
 | [], q => rfl
 | x :: r, q => by simp [mksT, mksT_len r]
theorem mksT_snoc : ∀ (A : List (Rec × Value)) (x : Rec × Value) (q : Int), mksT q (A ++ [x]) = mksT q A ++ [mkdT (q + sumQ A) x]
 | [], x, q => by simp [mksT, sumQ]
 | y :: r, x, q => by
  have e : q + (y.1.l.length : Int) + 2 + (sumQ r : Int) = q + ((y.1.l.length + 2 + sumQ r : Nat) : Int) := by push_cast; omega
  simp only [List.cons_append, mksT, mksT_snoc r x, e, sumQ]
theorem mksT_own : ∀ (A : List (Rec × Value)) (q : Int) (i : Nat) (x : Rec × Value), (mksT q A)[i]? = some x → ∃ y, A[i]? = some y ∧ x.2 = y.2
 | [], q, i, x, h => by simp [mksT] at h
 | y :: r, q, 0, x, h => by
  simp [mksT] at h
  exact ⟨y, rfl, by rw [← h]; rfl⟩
 | y :: r, q, i + 1, x, h => by
  have h' : (mksT (q + y.1.l.length + 2) r)[i]? = some x := by simpa [mksT] using h
  obtain ⟨z, hz, e⟩ := mksT_own r _ i x h'
  exact ⟨z, by simpa using hz, e⟩
set_option maxHeartbeats 4000000 in
theorem markThreadS_any (base : Nat) (v : Value) (L : List (Rec × Value)) (q : Int) (w : World) (h : OwnQ w base 82 v L) (hn : L.length ≤ 1048577) (hls : ∀ (i : Nat) (x : Rec × Value), L[i]? = some x → x.1.l.length ≤ 1048577) (hq : 0 ≤ q) (hq' : q + sumQ L ≤ 1000000000000000) :
  Calls Tryz.prog 48 #[v, .int .i64 q] w fun e w' => e = .returned (.int .i64 (q + sumQ L)) ∧ OwnQ w' base 82 v (mksT q L) ∧ w'.heap.size = w.heap.size ∧ w'.os = w.os ∧ w'.tape = w.tape ∧ w'.output = w.output ∧ (∀ k, v.ownBlock ≠ some k → (∀ (i : Nat) (x : Rec × Value), L[i]? = some x → x.2.ownBlock ≠ some k) → w'.heap[k]? = w.heap[k]?) := by
 obtain ⟨s, c, rfl⟩ := ownSl h.row
 have H : Hid (OwnQ w base 82 (.slice s L.length c) L) := h
 have HL : Hid (∀ (i : Nat) (x : Rec × Value), L[i]? = some x → x.1.l.length ≤ 1048577) := hls
 clear h hls
 go_enter Tryz.func48, Tryz.ntmps48
 go_wp2
 go_loopw [1, 5] (fun a i wr => ∃ A B : List (Rec × Value), L = A ++ B ∧ i = .int .i64 A.length ∧ a = .int .i64 (q + sumQ A) ∧ OwnQ wr base 82 (.slice s L.length c) (mksT q A ++ B) ∧ wr.heap.size = w.heap.size ∧ wr.os = w.os ∧ wr.tape = w.tape ∧ wr.output = w.output ∧ (∀ k, (Value.slice s L.length c).ownBlock ≠ some k → (∀ (i : Nat) (x : Rec × Value), L[i]? = some x → x.2.ownBlock ≠ some k) → wr.heap[k]? = w.heap[k]?)) (fun _ i _ => L.length - (intOf i).toNat)
 case atStart => exact ⟨[], L, rfl, rfl, by simp [sumQ], H.out, rfl, rfl, rfl, rfl, fun _ _ _ => rfl⟩
 case round =>
  obtain ⟨A, B, hAB, rfl, rfl, ho, hr⟩ := hrel
  have HO : Hid (OwnQ wr base 82 (.slice s L.length c) (mksT q A ++ B)) := ho
  have HR := (show Hid _ from hr)
  have HAB : Hid (L = A ++ B) := hAB
  have hlen : L.length = A.length + B.length := by rw [hAB]; simp
  clear ho hr hAB
  cases B with
  | cons x B =>
   simp only [List.length_cons] at hlen
   have hlt : A.length < L.length := by omega
   obtain ⟨k, hk⟩ : ∃ k, A.length = k := ⟨_, rfl⟩
   have hml : (mksT q A).length = k := by rw [mksT_len]; exact hk
   have hll : (mksT q A ++ x :: B).length = L.length := by rw [List.length_append, mksT_len]; simp; omega
   have hrow := HO.out.row
   rw [hll] at hrow
   obtain ⟨g, hs⟩ : ∃ g, s = some ⟨g, 0, none⟩ := by
    obtain ⟨g, cap, e, -⟩ := World.ownsRow.form hrow (by omega)
    injection e with e1 e2 e3
    exact ⟨g, e1⟩
   subst hs
   have hx : (mksT q A ++ x :: B)[k]? = some x := by rw [← hml]; exact put_mid _ _ _
   have hLx : L[k]? = some x := by rw [HAB.out, ← hk]; exact put_mid _ _ _
   obtain ⟨m0, m1, m2⟩ := flatR_at _ _ _ hx
   have f0 : wr.cell? ⟨g, k * 3, none⟩ = some x.1.a := by rw [World.ownsRow.cellAt hrow _ (by omega)]; exact m0
   have f1 : wr.cell? ⟨g, k * 3 + 1, none⟩ = some x.2 := by rw [World.ownsRow.cellAt hrow _ (by omega)]; exact m1
   have f2 : wr.cell? ⟨g, k * 3 + 2, none⟩ = some x.1.z := by rw [World.ownsRow.cellAt hrow _ (by omega)]; exact m2
   have hfz : ∀ j, wr.frozen? ⟨g, j, none⟩ = false := fun j => World.ownsRow.frozenAt hrow j
   have hin := HO.out.inn k x hx
   obtain ⟨sx, cx, hx2⟩ := ownSl hin
   have hxl := HL.out k x hLx
   have hsum : (sumQ L : Int) = sumQ A + (x.1.l.length + 2) + sumQ B := by rw [HAB.out, sumQ_app]; show ((sumQ A + (x.1.l.length + 2 + sumQ B) : Nat) : Int) = _; push_cast; omega
   have HX : Hid ((mksT q A ++ x :: B)[k]? = some x) := hx
   have HLX : Hid (L[k]? = some x) := hLx
   have HI : Hid (∀ u, OwnN (wr.setCell ⟨g, k * 3, none⟩ u) base x.2 x.1.l) := fun u => ownKeep' hin (fun kk hkk => Below.heap_setCell _ _ _ kk (fun e => ownType' hin hrow (by decide) hkk (by rw [e]; rfl)))
   have HG : Hid (x.2.ownBlock ≠ some g) := fun e => ownType' hin hrow (by decide) e rfl
   have HK : Hid (A.length = k) := hk
   have HSM : Hid ((sumQ L : Int) = sumQ A + (x.1.l.length + 2) + sumQ B) := hsum
   have hs1 : q + (sumQ A : Int) + x.1.l.length + 2 ≤ 1000000000000000 := by omega
   obtain ⟨sa, hsa⟩ : ∃ sa : Int, (sumQ A : Int) = sa := ⟨_, rfl⟩
   have hsa0 : 0 ≤ sa := by omega
   have HSA : Hid ((sumQ A : Int) = sa) := hsa
   rw [hk, hsa]
   rw [hsa] at hs1
   rw [hx2] at f1
   have hkl : k < L.length := by omega
   have b0 : (0 : Int) ≤ (k : Int) := by omega
   have b1 : (k : Int) < (L.length : Int) := by omega
   have HX2 : Hid (x.2 = .slice sx x.1.l.length cx) := hx2
   obtain ⟨xn, hxn⟩ : ∃ xn, x.1.l.length = xn := ⟨_, rfl⟩
   rw [hxn] at f1 hxl hs1
   have HXN : Hid (x.1.l.length = xn) := hxn
   generalize hga : x.1.a = ga at f0
   generalize hgz : x.1.z = gz at f2
   clear hx hLx hin hx2 m0 m1 m2 hrow hll hml hk hsum hsa hxn hga hgz hlt hlen
   go_wp2_with (go_at_call 19; refine (markN_any base (.slice sx xn cx) x.1.l (q + sa + 1) _ (by have h := HI.out (.int .i64 (q + sa)); rw [HX2.out, HXN.out] at h; exact h) (by rw [HXN.out]; exact hxl) (by omega) (by omega)).mono ?_; rintro e w1 ⟨rfl, ho1, hz1, h11, h12, h13, hf1⟩; rw [HXN.out]; have hgb : (Value.slice sx xn cx).ownBlock ≠ some g := (by have h := HG.out; rw [HX2.out, HXN.out] at h; exact h); have c2' : w1.cell? ⟨g, k * 3 + 2, none⟩ = some gz := (World.cell?_of_block (w := wr.setCell ⟨g, k * 3, none⟩ (.int .i64 (q + sa))) (a := ⟨g, k * 3 + 2, none⟩) (hf1 g hgb)).trans ((setC_off (by omega)).trans f2); have fz' : ∀ j, w1.frozen? ⟨g, j, none⟩ = false := (fun j => by rw [World.frozen?_of_block (w := wr.setCell ⟨g, k * 3, none⟩ (.int .i64 (q + sa))) (a := ⟨g, j, none⟩) (hf1 g hgb), World.frozen?_setCell]; exact hfz j); have HW := (show Hid _ from And.intro ho1 (And.intro hz1 (And.intro h11 (And.intro h12 (And.intro h13 hf1))))); clear ho1 hz1 h11 h12 h13 hf1 hgb)
   all_goals
    go_roundw
    case rel =>
     obtain ⟨ho1, hz1, h11, h12, h13, hf1⟩ := HW.out
     obtain ⟨r1, r2, r3, r4, r5⟩ := HR.out
     have hkA := HK.out
     have hml : (mksT q A).length = k := by rw [mksT_len]; exact hkA
     refine ⟨A ++ [x], B, by rw [HAB.out]; simp, ?_, ?_, ?_, ?_, h11.trans r2, h12.trans r3, h13.trans r4, fun j hj hjx => ?_⟩
     ·rw [List.length_append, hkA]; simp
     ·rw [sumQ_app]
      have e1 := HSA.out
      have e2 := HXN.out
      congr 1
      show _ = q + ((sumQ A + (x.1.l.length + 2 + 0) : Nat) : Int)
      rw [e2]
      push_cast
      omega
     ·have hm := OwnQ.mark (wr := wr) (w1 := w1) (A := mksT q A) (B := B) (x := x) (y := mkdT (q + sumQ A) x) (by decide) (by rw [List.length_append, mksT_len, HAB.out]; simp) HO.out rfl (by
       show OwnN w1 base x.2 (relN (q + sumQ A + 1) x.1.l.length)
       rw [HX2.out, HXN.out, HSA.out]
       rw [HXN.out] at ho1
       exact ho1) (fun j hj => by
       have h := hf1 j (by rw [HX2.out, HXN.out] at hj; exact hj)
       rw [hml]
       show _ = (wr.setCell ⟨g, k * 3, none⟩ (.int .i64 (q + sumQ A))).heap[j]?
       rw [HSA.out]
       exact h)
      rw [hml] at hm
      rw [mksT_snoc, List.append_assoc]
      have e3 : (mkdT (q + sumQ A) x).1.z = .int .i64 (q + sa + 1 + xn) := by unfold mkdT; simp only; rw [HSA.out, HXN.out]
      rw [e3] at hm
      exact hm
     ·rw [World.size_setCell, hz1, World.size_setCell]; exact r1
     ·have hjg : j ≠ g := fun e => hj (by rw [e]; rfl)
      rw [Below.heap_setCell _ _ _ j hjg, hf1 j (by have h := hjx k x HLX.out; rw [HX2.out, HXN.out] at h; exact h), Below.heap_setCell _ _ _ j hjg]
      exact r5 j hj hjx
    case measure => simp [intOf]; omega
  | nil =>
   go_wp2
   go_ret
   have e : A = L := by rw [HAB.out]; simp
   subst e
   have h1 := HO.out
   rw [List.append_nil] at h1
   exact ⟨rfl, h1, HR.out⟩
def mkdC (q : Int) (x : Rec × Value) : Rec × Value := (⟨.int .i64 q, relN (q + 1) x.1.l.length, .bool (((q + 1 + x.1.l.length) % 3) == 0)⟩, x.2)
def mksC (q : Int) : List (Rec × Value) → List (Rec × Value)
 | [] => []
 | x :: r => mkdC q x :: mksC (q + x.1.l.length + 2) r
theorem mksC_len : ∀ (L : List (Rec × Value)) (q : Int), (mksC q L).length = L.length
 | [], q => rfl
 | x :: r, q => by simp [mksC, mksC_len r]
theorem mksC_snoc : ∀ (A : List (Rec × Value)) (x : Rec × Value) (q : Int), mksC q (A ++ [x]) = mksC q A ++ [mkdC (q + sumQ A) x]
 | [], x, q => by simp [mksC, sumQ]
 | y :: r, x, q => by
  have e : q + (y.1.l.length : Int) + 2 + (sumQ r : Int) = q + ((y.1.l.length + 2 + sumQ r : Nat) : Int) := by push_cast; omega
  simp only [List.cons_append, mksC, mksC_snoc r x, e, sumQ]
theorem mksC_own : ∀ (A : List (Rec × Value)) (q : Int) (i : Nat) (x : Rec × Value), (mksC q A)[i]? = some x → ∃ y, A[i]? = some y ∧ x.2 = y.2
 | [], q, i, x, h => by simp [mksC] at h
 | y :: r, q, 0, x, h => by
  simp [mksC] at h
  exact ⟨y, rfl, by rw [← h]; rfl⟩
 | y :: r, q, i + 1, x, h => by
  have h' : (mksC (q + y.1.l.length + 2) r)[i]? = some x := by simpa [mksC] using h
  obtain ⟨z, hz, e⟩ := mksC_own r _ i x h'
  exact ⟨z, by simpa using hz, e⟩
set_option maxHeartbeats 4000000 in
theorem markChanS_any (base : Nat) (v : Value) (L : List (Rec × Value)) (q : Int) (w : World) (h : OwnQ w base 92 v L) (hn : L.length ≤ 1048577) (hls : ∀ (i : Nat) (x : Rec × Value), L[i]? = some x → x.1.l.length ≤ 1048577) (hq : 0 ≤ q) (hq' : q + sumQ L ≤ 1000000000000000) :
  Calls Tryz.prog 49 #[v, .int .i64 q] w fun e w' => e = .returned (.int .i64 (q + sumQ L)) ∧ OwnQ w' base 92 v (mksC q L) ∧ w'.heap.size = w.heap.size ∧ w'.os = w.os ∧ w'.tape = w.tape ∧ w'.output = w.output ∧ (∀ k, v.ownBlock ≠ some k → (∀ (i : Nat) (x : Rec × Value), L[i]? = some x → x.2.ownBlock ≠ some k) → w'.heap[k]? = w.heap[k]?) := by
 obtain ⟨s, c, rfl⟩ := ownSl h.row
 have H : Hid (OwnQ w base 92 (.slice s L.length c) L) := h
 have HL : Hid (∀ (i : Nat) (x : Rec × Value), L[i]? = some x → x.1.l.length ≤ 1048577) := hls
 clear h hls
 go_enter Tryz.func49, Tryz.ntmps49
 go_wp2
 go_loopw [1, 5] (fun a i wr => ∃ A B : List (Rec × Value), L = A ++ B ∧ i = .int .i64 A.length ∧ a = .int .i64 (q + sumQ A) ∧ OwnQ wr base 92 (.slice s L.length c) (mksC q A ++ B) ∧ wr.heap.size = w.heap.size ∧ wr.os = w.os ∧ wr.tape = w.tape ∧ wr.output = w.output ∧ (∀ k, (Value.slice s L.length c).ownBlock ≠ some k → (∀ (i : Nat) (x : Rec × Value), L[i]? = some x → x.2.ownBlock ≠ some k) → wr.heap[k]? = w.heap[k]?)) (fun _ i _ => L.length - (intOf i).toNat)
 case atStart => exact ⟨[], L, rfl, rfl, by simp [sumQ], H.out, rfl, rfl, rfl, rfl, fun _ _ _ => rfl⟩
 case round =>
  obtain ⟨A, B, hAB, rfl, rfl, ho, hr⟩ := hrel
  have HO : Hid (OwnQ wr base 92 (.slice s L.length c) (mksC q A ++ B)) := ho
  have HR := (show Hid _ from hr)
  have HAB : Hid (L = A ++ B) := hAB
  have hlen : L.length = A.length + B.length := by rw [hAB]; simp
  clear ho hr hAB
  cases B with
  | cons x B =>
   simp only [List.length_cons] at hlen
   have hlt : A.length < L.length := by omega
   obtain ⟨k, hk⟩ : ∃ k, A.length = k := ⟨_, rfl⟩
   have hml : (mksC q A).length = k := by rw [mksC_len]; exact hk
   have hll : (mksC q A ++ x :: B).length = L.length := by rw [List.length_append, mksC_len]; simp; omega
   have hrow := HO.out.row
   rw [hll] at hrow
   obtain ⟨g, hs⟩ : ∃ g, s = some ⟨g, 0, none⟩ := by
    obtain ⟨g, cap, e, -⟩ := World.ownsRow.form hrow (by omega)
    injection e with e1 e2 e3
    exact ⟨g, e1⟩
   subst hs
   have hx : (mksC q A ++ x :: B)[k]? = some x := by rw [← hml]; exact put_mid _ _ _
   have hLx : L[k]? = some x := by rw [HAB.out, ← hk]; exact put_mid _ _ _
   obtain ⟨m0, m1, m2⟩ := flatR_at _ _ _ hx
   have f0 : wr.cell? ⟨g, k * 3, none⟩ = some x.1.a := by rw [World.ownsRow.cellAt hrow _ (by omega)]; exact m0
   have f1 : wr.cell? ⟨g, k * 3 + 1, none⟩ = some x.2 := by rw [World.ownsRow.cellAt hrow _ (by omega)]; exact m1
   have f2 : wr.cell? ⟨g, k * 3 + 2, none⟩ = some x.1.z := by rw [World.ownsRow.cellAt hrow _ (by omega)]; exact m2
   have hfz : ∀ j, wr.frozen? ⟨g, j, none⟩ = false := fun j => World.ownsRow.frozenAt hrow j
   have hin := HO.out.inn k x hx
   obtain ⟨sx, cx, hx2⟩ := ownSl hin
   have hxl := HL.out k x hLx
   have hsum : (sumQ L : Int) = sumQ A + (x.1.l.length + 2) + sumQ B := by rw [HAB.out, sumQ_app]; show ((sumQ A + (x.1.l.length + 2 + sumQ B) : Nat) : Int) = _; push_cast; omega
   have HX : Hid ((mksC q A ++ x :: B)[k]? = some x) := hx
   have HLX : Hid (L[k]? = some x) := hLx
   have HI : Hid (∀ u, OwnN (wr.setCell ⟨g, k * 3, none⟩ u) base x.2 x.1.l) := fun u => ownKeep' hin (fun kk hkk => Below.heap_setCell _ _ _ kk (fun e => ownType' hin hrow (by decide) hkk (by rw [e]; rfl)))
   have HG : Hid (x.2.ownBlock ≠ some g) := fun e => ownType' hin hrow (by decide) e rfl
   have HK : Hid (A.length = k) := hk
   have HSM : Hid ((sumQ L : Int) = sumQ A + (x.1.l.length + 2) + sumQ B) := hsum
   have hs1 : q + (sumQ A : Int) + x.1.l.length + 2 ≤ 1000000000000000 := by omega
   obtain ⟨sa, hsa⟩ : ∃ sa : Int, (sumQ A : Int) = sa := ⟨_, rfl⟩
   have hsa0 : 0 ≤ sa := by omega
   have HSA : Hid ((sumQ A : Int) = sa) := hsa
   rw [hk, hsa]
   rw [hsa] at hs1
   rw [hx2] at f1
   have hkl : k < L.length := by omega
   have b0 : (0 : Int) ≤ (k : Int) := by omega
   have b1 : (k : Int) < (L.length : Int) := by omega
   have HX2 : Hid (x.2 = .slice sx x.1.l.length cx) := hx2
   obtain ⟨xn, hxn⟩ : ∃ xn, x.1.l.length = xn := ⟨_, rfl⟩
   rw [hxn] at f1 hxl hs1
   have HXN : Hid (x.1.l.length = xn) := hxn
   generalize hga : x.1.a = ga at f0
   generalize hgz : x.1.z = gz at f2
   clear hx hLx hin hx2 m0 m1 m2 hrow hll hml hk hsum hsa hxn hga hgz hlt hlen
   go_wp2_with (go_at_call 19; refine (markN_any base (.slice sx xn cx) x.1.l (q + sa + 1) _ (by have h := HI.out (.int .i64 (q + sa)); rw [HX2.out, HXN.out] at h; exact h) (by rw [HXN.out]; exact hxl) (by omega) (by omega)).mono ?_; rintro e w1 ⟨rfl, ho1, hz1, h11, h12, h13, hf1⟩; rw [HXN.out]; have hgb : (Value.slice sx xn cx).ownBlock ≠ some g := (by have h := HG.out; rw [HX2.out, HXN.out] at h; exact h); have c2' : w1.cell? ⟨g, k * 3 + 2, none⟩ = some gz := (World.cell?_of_block (w := wr.setCell ⟨g, k * 3, none⟩ (.int .i64 (q + sa))) (a := ⟨g, k * 3 + 2, none⟩) (hf1 g hgb)).trans ((setC_off (by omega)).trans f2); have fz' : ∀ j, w1.frozen? ⟨g, j, none⟩ = false := (fun j => by rw [World.frozen?_of_block (w := wr.setCell ⟨g, k * 3, none⟩ (.int .i64 (q + sa))) (a := ⟨g, j, none⟩) (hf1 g hgb), World.frozen?_setCell]; exact hfz j); have HW := (show Hid _ from And.intro ho1 (And.intro hz1 (And.intro h11 (And.intro h12 (And.intro h13 hf1))))); clear ho1 hz1 h11 h12 h13 hf1 hgb)
   all_goals
    go_roundw
    case rel =>
     obtain ⟨ho1, hz1, h11, h12, h13, hf1⟩ := HW.out
     obtain ⟨r1, r2, r3, r4, r5⟩ := HR.out
     have hkA := HK.out
     have hml : (mksC q A).length = k := by rw [mksC_len]; exact hkA
     refine ⟨A ++ [x], B, by rw [HAB.out]; simp, ?_, ?_, ?_, ?_, h11.trans r2, h12.trans r3, h13.trans r4, fun j hj hjx => ?_⟩
     ·rw [List.length_append, hkA]; simp
     ·rw [sumQ_app]
      have e1 := HSA.out
      have e2 := HXN.out
      congr 1
      show _ = q + ((sumQ A + (x.1.l.length + 2 + 0) : Nat) : Int)
      rw [e2]
      push_cast
      omega
     ·have hm := OwnQ.mark (wr := wr) (w1 := w1) (A := mksC q A) (B := B) (x := x) (y := mkdC (q + sumQ A) x) (by decide) (by rw [List.length_append, mksC_len, HAB.out]; simp) HO.out rfl (by
       show OwnN w1 base x.2 (relN (q + sumQ A + 1) x.1.l.length)
       rw [HX2.out, HXN.out, HSA.out]
       rw [HXN.out] at ho1
       exact ho1) (fun j hj => by
       have h := hf1 j (by rw [HX2.out, HXN.out] at hj; exact hj)
       rw [hml]
       show _ = (wr.setCell ⟨g, k * 3, none⟩ (.int .i64 (q + sumQ A))).heap[j]?
       rw [HSA.out]
       exact h)
      rw [hml] at hm
      rw [mksC_snoc, List.append_assoc]
      have e3 : (mkdC (q + sumQ A) x).1.z = .bool (((q + sa + 1 + xn) % 3) == 0) := by unfold mkdC; simp only; rw [HSA.out, HXN.out]
      rw [e3] at hm
      exact hm
     ·rw [World.size_setCell, hz1, World.size_setCell]; exact r1
     ·have hjg : j ≠ g := fun e => hj (by rw [e]; rfl)
      rw [Below.heap_setCell _ _ _ j hjg, hf1 j (by have h := hjx k x HLX.out; rw [HX2.out, HXN.out] at h; exact h), Below.heap_setCell _ _ _ j hjg]
      exact r5 j hj hjx
    case measure => simp [intOf]; omega
  | nil =>
   go_wp2
   go_ret
   have e : A = L := by rw [HAB.out]; simp
   subst e
   have h1 := HO.out
   rw [List.append_nil] at h1
   exact ⟨rfl, h1, HR.out⟩
end
section
set_option linter.unusedSimpArgs false
set_option linter.unusedVariables false
set_option maxRecDepth 100000
open Go.RowKit
def runD (q : Int) : Nat → List ND
 | 0 => []
 | n + 1 => runD q n ++ [⟨q + 2 * n, q + 2 * n + 1⟩]
theorem runD_len (q : Int) : ∀ n, (runD q n).length = n
 | 0 => rfl
 | n + 1 => by simp [runD, runD_len q n]
theorem runD_at (q : Int) : ∀ (n i : Nat), i < n → (runD q n)[i]? = some ⟨q + 2 * i, q + 2 * i + 1⟩
 | 0, i, h => absurd h (by omega)
 | n + 1, i, h => by
  rcases Nat.lt_or_ge i n with g | g
  ·rw [runD, List.getElem?_append_left (by rw [runD_len]; exact g)]
   exact runD_at q n i g
  ·have e : i = n := by omega
   subst e
   rw [runD, List.getElem?_append_right (by rw [runD_len]; exact Nat.le_refl _), runD_len]
   simp
set_option maxHeartbeats 2000000 in
theorem markNoteS_any (base : Nat) (v : Value) (b : List ND) (q : Int) (w : World) (h : OwnD w base v b) (hn : b.length ≤ 1048577) (hq : 0 ≤ q) (hq' : q ≤ 1000000000000000) :
  Calls Tryz.prog 50 #[v, .int .i64 q] w fun e w' => e = .returned (.int .i64 (q + 2 * b.length)) ∧ OwnD w' base v (runD q b.length) ∧ w'.heap.size = w.heap.size ∧ w'.os = w.os ∧ w'.tape = w.tape ∧ w'.output = w.output ∧ (∀ k, v.ownBlock ≠ some k → w'.heap[k]? = w.heap[k]?) := by
 obtain ⟨s, c, rfl⟩ := ownSl h
 have H : Hid (OwnD w base (.slice s b.length c) b) := h
 clear h
 go_enter Tryz.func50, Tryz.ntmps50
 go_wp2
 go_loopw [1, 5] (fun a i wr => ∃ k : Nat, k ≤ b.length ∧ i = .int .i64 k ∧ a = .int .i64 (q + 2 * k) ∧ wr.ownsRow base 99 2 (.slice s b.length c) b.length (flatN (runD q k ++ b.drop k)) ∧ wr.heap.size = w.heap.size ∧ wr.os = w.os ∧ wr.tape = w.tape ∧ wr.output = w.output ∧ (∀ k, (Value.slice s b.length c).ownBlock ≠ some k → wr.heap[k]? = w.heap[k]?)) (fun _ i _ => b.length - (intOf i).toNat)
 case atStart => exact ⟨0, Nat.zero_le _, rfl, by simp, by have h0 := H.out; unfold OwnD at h0; simpa [runD] using h0, rfl, rfl, rfl, rfl, fun _ _ => rfl⟩
 case round =>
  obtain ⟨k, hk, rfl, rfl, ho, hr0⟩ := hrel
  have HO := (show Hid _ from ho)
  have HR := (show Hid _ from hr0)
  clear ho hr0
  by_cases hlt : k < b.length
  ·obtain ⟨g, hs⟩ : ∃ g, s = some ⟨g, 0, none⟩ := by
    obtain ⟨g, cap, e, -⟩ := World.ownsRow.form HO.out (by omega)
    injection e with e1 e2 e3
    exact ⟨g, e1⟩
   subst hs
   have hlen : (runD q k ++ b.drop k).length = b.length := by rw [List.length_append, runD_len, List.length_drop]; omega
   obtain ⟨u0, c0⟩ : ∃ u, wr.cell? ⟨g, k * 2, none⟩ = some u := by
    rw [World.ownsRow.cellAt HO.out (k * 2) (by omega)]
    exact ⟨_, List.getElem?_eq_getElem (by rw [flatN_len, hlen]; omega)⟩
   obtain ⟨u1, c1⟩ : ∃ u, wr.cell? ⟨g, k * 2 + 1, none⟩ = some u := by
    rw [World.ownsRow.cellAt HO.out (k * 2 + 1) (by omega)]
    exact ⟨_, List.getElem?_eq_getElem (by rw [flatN_len, hlen]; omega)⟩
   have hfz : ∀ j, wr.frozen? ⟨g, j, none⟩ = false := fun j => World.ownsRow.frozenAt HO.out j
   clear hlen
   have b0 : (0 : Int) ≤ (k : Int) := by omega
   have b1 : (k : Int) < (b.length : Int) := by omega
   go_wp2
   go_roundw
   case rel =>
    obtain ⟨r1, r2, r3, r4, r5⟩ := HR.out
    have hd : b.drop k = b[k] :: b.drop (k + 1) := List.drop_eq_getElem_cons hlt
    have p5 := (World.ownsRow.stored (World.ownsRow.stored HO.out (k * 2) (.int .i64 (q + 2 * k))).1 (k * 2 + 1) (.int .i64 (q + 2 * k + 1))).1
    have fp := flatN_put (runD q k) (b.drop (k + 1)) b[k] ⟨q + 2 * k, q + 2 * k + 1⟩
    rw [runD_len] at fp
    rw [hd, fp] at p5
    have e1 : runD q (k + 1) ++ b.drop (k + 1) = runD q k ++ ⟨q + 2 * k, q + 2 * k + 1⟩ :: b.drop (k + 1) := by simp [runD]
    refine ⟨k + 1, by omega, by go_num, ?_, ?_, by simpa using r1, r2, r3, r4, fun j hj => ?_⟩
    ·congr 1
     rw [Int.natCast_add]
     omega
    ·rw [e1]
     exact p5
    ·have hjg : j ≠ g := fun e => hj (by rw [e]; rfl)
     rw [Below.heap_setCell _ _ _ j hjg, Below.heap_setCell _ _ _ j hjg]
     exact r5 j hj
   case measure => simp [intOf]; omega
  ·go_wp2
   go_ret
   have e : k = b.length := by omega
   subst e
   have ho := HO.out
   rw [List.drop_length, List.append_nil] at ho
   exact ⟨rfl, by unfold OwnD; rw [runD_len]; exact ho, HR.out⟩
end
section
set_option linter.unusedSimpArgs false
set_option linter.unusedVariables false
set_option maxRecDepth 100000
open Go.RowKit
theorem OwnQ.keepB {w w' : World} {base : Nat} {e : TypeId} {v : Value} {L : List (Rec × Value)} (h : OwnQ w base e v L) (h1 : ∀ k, v.ownBlock = some k → w'.heap[k]? = w.heap[k]?) (h2 : ∀ (i : Nat) (x : Rec × Value), L[i]? = some x → ∀ k, x.2.ownBlock = some k → w'.heap[k]? = w.heap[k]?) : OwnQ w' base e v L :=
 ⟨ownKeep' h.row h1, fun i x hx => ownKeep' (h.inn i x hx) (h2 i x hx), h.sep⟩
def HitQ (v : Value) (L : List (Rec × Value)) (k : Nat) : Prop := v.ownBlock = some k ∨ ∃ (i : Nat) (x : Rec × Value), L[i]? = some x ∧ x.2.ownBlock = some k
def HitS (v1 v2 v3 : Value) (L1 L2 : List (Rec × Value)) (k : Nat) : Prop := HitQ v1 L1 k ∨ HitQ v2 L2 k ∨ v3.ownBlock = some k
theorem OwnQ.hit {w : World} {base : Nat} {e : TypeId} {v : Value} {L : List (Rec × Value)} (h : OwnQ w base e v L) {k : Nat} (hk : HitQ v L k) : base ≤ k ∧ k < w.heap.size := by
 rcases hk with hk | ⟨i, x, hx, hk⟩
 ·exact World.ownsRow.lt h.row _ hk
 ·exact World.ownsRow.lt (h.inn i x hx) _ hk
theorem OwnS.hit {w : World} {base : Nat} {v1 v2 v3 : Value} {L1 L2 : List (Rec × Value)} {d : SD} (h : OwnS w base v1 v2 v3 L1 L2 d) {k : Nat} (hk : HitS v1 v2 v3 L1 L2 k) : base ≤ k ∧ k < w.heap.size := by
 rcases hk with hk | hk | hk
 ·exact h.t.hit hk
 ·exact h.c.hit hk
 ·exact World.ownsRow.lt h.n _ hk
theorem OwnS.l1 {w : World} {base : Nat} {v1 v2 v3 : Value} {L1 L2 : List (Rec × Value)} {d : SD} (h : OwnS w base v1 v2 v3 L1 L2 d) : L1.length = d.ths.length := by have := congrArg List.length h.e1; simpa using this
theorem OwnS.l2 {w : World} {base : Nat} {v1 v2 v3 : Value} {L1 L2 : List (Rec × Value)} {d : SD} (h : OwnS w base v1 v2 v3 L1 L2 d) : L2.length = d.chs.length := by have := congrArg List.length h.e2; simpa using this
theorem OwnS.at1 {w : World} {base : Nat} {v1 v2 v3 : Value} {L1 L2 : List (Rec × Value)} {d : SD} (h : OwnS w base v1 v2 v3 L1 L2 d) {i : Nat} {x : Rec × Value} (hx : L1[i]? = some x) : ∃ t, d.ths[i]? = some t ∧ x.1 = t.rec3 := by
 have e := congrArg (fun l => l[i]?) h.e1
 simp only [List.getElem?_map, hx, Option.map_some] at e
 obtain ⟨t, ht, e'⟩ := Option.map_eq_some_iff.1 e.symm
 exact ⟨t, ht, e'.symm⟩
theorem OwnS.at2 {w : World} {base : Nat} {v1 v2 v3 : Value} {L1 L2 : List (Rec × Value)} {d : SD} (h : OwnS w base v1 v2 v3 L1 L2 d) {i : Nat} {x : Rec × Value} (hx : L2[i]? = some x) : ∃ t, d.chs[i]? = some t ∧ x.1 = t.rec3 := by
 have e := congrArg (fun l => l[i]?) h.e2
 simp only [List.getElem?_map, hx, Option.map_some] at e
 obtain ⟨t, ht, e'⟩ := Option.map_eq_some_iff.1 e.symm
 exact ⟨t, ht, e'.symm⟩
/- how a source lies that is written over from q on -/
structure MarkedS (w : World) (base : Nat) (v1 v2 v3 : Value) (L1 L2 : List (Rec × Value)) (n : Nat) (q : Int) : Prop where
 t : OwnQ w base 82 v1 (mksT q L1)
 c : OwnQ w base 92 v2 (mksC (q + sumQ L1) L2)
 n : OwnD w base v3 (runD (q + sumQ L1 + sumQ L2) n)
theorem MarkedS.keep {w w' : World} {base : Nat} {v1 v2 v3 : Value} {L1 L2 : List (Rec × Value)} {n : Nat} {q : Int} (h : MarkedS w base v1 v2 v3 L1 L2 n q) (hb : ∀ k, base ≤ k → k < w.heap.size → w'.heap[k]? = w.heap[k]?) : MarkedS w' base v1 v2 v3 L1 L2 n q :=
 ⟨h.t.keep hb, h.c.keep hb, ownKeep' h.n (fun k hk => hb k (World.ownsRow.lt h.n _ hk).1 (World.ownsRow.lt h.n _ hk).2)⟩
set_option maxHeartbeats 2000000 in
theorem markSource_any (base : Nat) (v1 v2 v3 : Value) (L1 L2 : List (Rec × Value)) (d : SD) (q : Int) (w : World) (h : OwnS w base v1 v2 v3 L1 L2 d) (hf : SFits d) (hq : 0 ≤ q) (hq' : q + sumQ L1 + sumQ L2 + 2 * d.tr.length ≤ 1000000000000000) :
  Calls Tryz.prog 18 #[.agg #[v1, v2, v3], .int .i64 q] w fun e w' => e = .returned (.int .i64 (q + sumQ L1 + sumQ L2 + 2 * d.tr.length)) ∧ MarkedS w' base v1 v2 v3 L1 L2 d.tr.length q ∧ w.heap.size ≤ w'.heap.size ∧ w'.os = w.os ∧ w'.tape = w.tape ∧ w'.output = w.output ∧ (∀ k, k < w.heap.size → ¬ HitS v1 v2 v3 L1 L2 k → w'.heap[k]? = w.heap[k]?) := by
 obtain ⟨⟨f1, f1'⟩, ⟨f2, f2'⟩, f3⟩ := hf
 obtain ⟨A, hA⟩ : ∃ A, w.alloc (.cells #[v1, v2, v3] 37) = A := ⟨_, rfl⟩
 have zA : A.heap.size = w.heap.size + 1 := by rw [← hA]; simp
 have bA : ∀ k, k < w.heap.size → A.heap[k]? = w.heap[k]? := fun k hk => by rw [← hA]; exact Below.heap_alloc _ _ _ hk
 have oA : OwnS A base v1 v2 v3 L1 L2 d := h.keep (fun k _ hk => bA k hk)
 have n1 : ¬ HitQ v1 L1 w.heap.size := fun e => by have := (h.t.hit e).2; omega
 have n2 : ¬ HitQ v2 L2 w.heap.size := fun e => by have := (h.c.hit e).2; omega
 have cA1 : A.cell? ⟨w.heap.size, 1, none⟩ = some v2 := by rw [← hA]; simp [go_sem]
 have cA2 : A.cell? ⟨w.heap.size, 2, none⟩ = some v3 := by rw [← hA]; simp [go_sem]
 have osA : A.os = w.os ∧ A.tape = w.tape ∧ A.output = w.output := by rw [← hA]; exact ⟨rfl, rfl, rfl⟩
 have g1 : ∀ (i : Nat) (x : Rec × Value), L1[i]? = some x → x.1.l.length ≤ 1048577 := fun i x hx => by
  obtain ⟨t, ht, e⟩ := h.at1 hx
  rw [e]
  exact Nat.le_succ_of_le (f1' i t ht)
 have g2 : ∀ (i : Nat) (x : Rec × Value), L2[i]? = some x → x.1.l.length ≤ 1048577 := fun i x hx => by
  obtain ⟨t, ht, e⟩ := h.at2 hx
  rw [e]
  exact Nat.le_succ_of_le (f2' i t ht)
 have l1 := h.l1
 have l2 := h.l2
 have hs1 : 0 ≤ (sumQ L1 : Int) := by omega
 have hs2 : 0 ≤ (sumQ L2 : Int) := by omega
 have HE := (show Hid (w.alloc (.cells #[v1, v2, v3] 37) = A) from hA)
 have HO : Hid (OwnS A base v1 v2 v3 L1 L2 d) := oA
 have HG := (show Hid _ from And.intro g1 (And.intro g2 (And.intro bA (And.intro osA (And.intro n1 n2)))))
 clear h oA f1' f2' g1 g2 bA osA hA n1 n2
 go_enter Tryz.func18, Tryz.ntmps18
 go_wp2_with fail
 rw [HE.out]
 refine (markThreadS_any base v1 L1 q _ HO.out.t (by omega) HG.out.1 hq (by omega)).mono ?_
 rintro e w1 ⟨rfl, ho1, hz1, h11, h12, h13, hf1⟩
 have nh1 : ∀ k, ¬ HitQ v1 L1 k → w1.heap[k]? = A.heap[k]? := fun k hk => hf1 k (fun e => hk (.inl e)) (fun i x hx e => hk (.inr ⟨i, x, hx, e⟩))
 have c1 : w1.cell? ⟨w.heap.size, 1, none⟩ = some v2 := (World.cell?_of_block (w := A) (a := ⟨w.heap.size, 1, none⟩) (nh1 _ HG.out.2.2.2.2.1)).trans cA1
 have c2 : w1.cell? ⟨w.heap.size, 2, none⟩ = some v3 := (World.cell?_of_block (w := A) (a := ⟨w.heap.size, 2, none⟩) (nh1 _ HG.out.2.2.2.2.1)).trans cA2
 have oc1 : OwnQ w1 base 92 v2 L2 := HO.out.c.keepB (fun k hk => nh1 k (by
   rintro (e | ⟨i, x, hx, e⟩)
   ·exact ownType' HO.out.c.row HO.out.t.row (by decide) hk e
   ·exact ownType' HO.out.c.row (HO.out.t.inn i x hx) (by decide) hk e)) (fun j y hy k hk => nh1 k (by
   rintro (e | ⟨i, x, hx, e⟩)
   ·exact ownType' (HO.out.c.inn j y hy) HO.out.t.row (by decide) hk e
   ·exact HO.out.sep i j x y k hx hy e hk))
 have on1 : OwnD w1 base v3 d.tr := ownKeep' HO.out.n (fun k hk => nh1 k (by
   rintro (e | ⟨i, x, hx, e⟩)
   ·exact ownType' HO.out.n HO.out.t.row (by decide) hk e
   ·exact ownType' HO.out.n (HO.out.t.inn i x hx) (by decide) hk e))
 have H1 := (show Hid _ from And.intro ho1 (And.intro hz1 (And.intro h11 (And.intro h12 (And.intro h13 (And.intro nh1 (And.intro oc1 on1)))))))
 clear ho1 hz1 h11 h12 h13 hf1 nh1 oc1 on1 cA1 cA2
 go_wp2_with fail
 refine (markChanS_any base v2 L2 (q + sumQ L1) _ H1.out.2.2.2.2.2.2.1 (by omega) HG.out.2.1 (by omega) (by omega)).mono ?_
 rintro e w2 ⟨rfl, ho2, hz2, h21, h22, h23, hf2⟩
 have nh2 : ∀ k, ¬ HitQ v2 L2 k → w2.heap[k]? = w1.heap[k]? := fun k hk => hf2 k (fun e => hk (.inl e)) (fun i x hx e => hk (.inr ⟨i, x, hx, e⟩))
 have c3 : w2.cell? ⟨w.heap.size, 2, none⟩ = some v3 := (World.cell?_of_block (w := w1) (a := ⟨w.heap.size, 2, none⟩) (nh2 _ HG.out.2.2.2.2.2)).trans c2
 have ot2 : OwnQ w2 base 82 v1 (mksT q L1) := H1.out.1.keepB (fun k hk => nh2 k (by
   rintro (e | ⟨i, x, hx, e⟩)
   ·exact ownType' HO.out.t.row HO.out.c.row (by decide) hk e
   ·exact ownType' HO.out.t.row (HO.out.c.inn i x hx) (by decide) hk e)) (fun j y hy k hk => nh2 k (by
   obtain ⟨y', hy', ey⟩ := mksT_own _ _ _ _ hy
   rw [ey] at hk
   rintro (e | ⟨i, x, hx, e⟩)
   ·exact ownType' (HO.out.t.inn j y' hy') HO.out.c.row (by decide) hk e
   ·exact HO.out.sep j i y' x k hy' hx hk e))
 have on2 : OwnD w2 base v3 d.tr := ownKeep' H1.out.2.2.2.2.2.2.2 (fun k hk => nh2 k (by
   rintro (e | ⟨i, x, hx, e⟩)
   ·exact ownType' HO.out.n HO.out.c.row (by decide) hk e
   ·exact ownType' HO.out.n (HO.out.c.inn i x hx) (by decide) hk e))
 have H2 := (show Hid _ from And.intro ho2 (And.intro hz2 (And.intro h21 (And.intro h22 (And.intro h23 (And.intro nh2 (And.intro ot2 on2)))))))
 clear ho2 hz2 h21 h22 h23 hf2 nh2 ot2 on2 c1 c2
 go_wp2_with fail
 refine (markNoteS_any base v3 d.tr (q + sumQ L1 + sumQ L2) _ H2.out.2.2.2.2.2.2.2 (by omega) (by omega) (by omega)).mono ?_
 rintro e w3 ⟨rfl, ho3, hz3, h31, h32, h33, hf3⟩
 go_wp2
 go_ret
 obtain ⟨ho1, hz1, h11, h12, h13, nh1, oc1, on1⟩ := H1.out
 obtain ⟨ho2, hz2, h21, h22, h23, nh2, ot2, on2⟩ := H2.out
 obtain ⟨g1, g2, bA, osA, n1, n2⟩ := HG.out
 refine ⟨rfl, ⟨?_, ?_, ho3⟩, by omega, ((h31.trans h21).trans h11).trans osA.1, ((h32.trans h22).trans h12).trans osA.2.1, ((h33.trans h23).trans h13).trans osA.2.2, fun k hk hn => ?_⟩
 ·exact ot2.keepB (fun k hk => hf3 k (fun e => ownType' HO.out.t.row HO.out.n (by decide) hk e)) (fun j y hy k hk => hf3 k (fun e => by
   obtain ⟨y', hy', ey⟩ := mksT_own _ _ _ _ hy
   rw [ey] at hk
   exact ownType' (HO.out.t.inn j y' hy') HO.out.n (by decide) hk e))
 ·exact ho2.keepB (fun k hk => hf3 k (fun e => ownType' HO.out.c.row HO.out.n (by decide) hk e)) (fun j y hy k hk => hf3 k (fun e => by
   obtain ⟨y', hy', ey⟩ := mksC_own _ _ _ _ hy
   rw [ey] at hk
   exact ownType' (HO.out.c.inn j y' hy') HO.out.n (by decide) hk e))
 ·rw [hf3 k (fun e => hn (.inr (.inr e))), nh2 k (fun e => hn (.inr (.inl e))), nh1 k (fun e => hn (.inl e))]
  exact bA k hk
end
end Go.Proofs.YtfokbjkgdiploaaGreat
