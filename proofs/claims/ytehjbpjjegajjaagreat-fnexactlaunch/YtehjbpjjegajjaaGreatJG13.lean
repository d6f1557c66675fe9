/- Memories as they lie: cells, each a row of writes, each write with its view; read, and owned with the places of their integers. No condition. How the laws copy memories into new memory. Conditions: they are counted. Rows of notes as they lie in memory, and how the laws count, copy and compare them. Conditions: each list of at most 1048576. Machines as they lie in memory: rows of code, of cores, a memory, notes; how great they are. No condition. How great memories are counted. No condition but the lists' own bounds. How great machines are counted. No condition but the lists' own bounds. Append of one integer, of a row of integers, onto a row that a call has made. Conditions: fewer than 2^30 of them. -/
import Derived.Test.YtehjbpjjegajjaaGreatJG00
import Derived.Test.YtehjbpjjegajjaaGreatJG02
import Derived.Test.YtehjbpjjegajjaaGreatJG12
import Derived.Deep.RegionWith
import Derived.Test.YtehjbpjjegajjaaGreatJG01
import Derived.Test.YtehjbpjjegajjaaGreatJG10
import Derived.Laws.AppendOwnNone
import Derived.Deep.QuietTactic
import Derived.BigQuiet
import Derived.BigRegion
import Derived.Deep.RegionLaw
import Derived.Deep.RegionHeld3
namespace Go.Proofs.YtehjbpjjegajjaaGreat
section
set_option linter.unusedSimpArgs false
set_option linter.unusedVariables false
set_option maxRecDepth 100000
open Go.RowKit
structure WD where
 v : Int
 vw : List Int
def WR (w : World) (lo hi g off : Nat) (x : WD) : Prop :=
 ∃ s c, w.cell? ⟨g, off, none⟩ = some (.int .i64 x.v) ∧ w.cell? ⟨g, off + 1, none⟩ = some (.slice s x.vw.length c) ∧ IntsR w lo hi s x.vw
def WsR (w : World) (lo hi : Nat) (s : Option Addr) (l : List WD) : Prop :=
 l = [] ∨ ∃ g off, s = some ⟨g, off, none⟩ ∧ lo ≤ g ∧ g < hi ∧ ∀ (i : Nat) (x : WD), l[i]? = some x → WR w lo hi g (off + i * 2) x
def RwR (w : World) (lo hi g off : Nat) (l : List WD) : Prop := ∃ s c, w.cell? ⟨g, off, none⟩ = some (.slice s l.length c) ∧ WsR w lo hi s l
def MemR (w : World) (lo hi : Nat) (s : Option Addr) (m : List (List WD)) : Prop :=
 m = [] ∨ ∃ g off, s = some ⟨g, off, none⟩ ∧ lo ≤ g ∧ g < hi ∧ ∀ (i : Nat) (l : List WD), m[i]? = some l → RwR w lo hi g (off + i) l
theorem WR.keep {w w' : World} {lo hi g off : Nat} {x : WD} (h : WR w lo hi g off x) (hb : Keep lo hi w w') (hc : ∀ j, w'.cell? ⟨g, j, none⟩ = w.cell? ⟨g, j, none⟩) : WR w' lo hi g off x := by
 obtain ⟨s, c, h1, h2, h3⟩ := h
 exact ⟨s, c, (hc _).trans h1, (hc _).trans h2, h3.keep hb⟩
theorem WsR.keep {w w' : World} {lo hi : Nat} {s : Option Addr} {l : List WD} (h : WsR w lo hi s l) (hb : Keep lo hi w w') : WsR w' lo hi s l := by
 rcases h with h | ⟨g, o, hs, h1, h2, hc⟩
 ·exact .inl h
 ·exact .inr ⟨g, o, hs, h1, h2, fun i r hi => (hc i r hi).keep hb (fun j => hb.cell h1 h2)⟩
theorem RwR.keep {w w' : World} {lo hi g off : Nat} {l : List WD} (h : RwR w lo hi g off l) (hb : Keep lo hi w w') (hc : ∀ j, w'.cell? ⟨g, j, none⟩ = w.cell? ⟨g, j, none⟩) : RwR w' lo hi g off l := by
 obtain ⟨s, c, h1, h2⟩ := h
 exact ⟨s, c, (hc _).trans h1, h2.keep hb⟩
theorem MemR.keep {w w' : World} {lo hi : Nat} {s : Option Addr} {m : List (List WD)} (h : MemR w lo hi s m) (hb : Keep lo hi w w') : MemR w' lo hi s m := by
 rcases h with h | ⟨g, o, hs, h1, h2, hc⟩
 ·exact .inl h
 ·exact .inr ⟨g, o, hs, h1, h2, fun i r hi => (hc i r hi).keep hb (fun j => hb.cell h1 h2)⟩
theorem WR.mono {w : World} {lo hi lo' hi' g off : Nat} {x : WD} (h : WR w lo hi g off x) (h1 : lo' ≤ lo) (h2 : hi ≤ hi') : WR w lo' hi' g off x := by
 obtain ⟨s, c, a, b, d⟩ := h
 exact ⟨s, c, a, b, d.mono h1 h2⟩
theorem WsR.mono {w : World} {lo hi lo' hi' : Nat} {s : Option Addr} {l : List WD} (h : WsR w lo hi s l) (h1 : lo' ≤ lo) (h2 : hi ≤ hi') : WsR w lo' hi' s l := by
 rcases h with h | ⟨g, o, hs, a, b, hc⟩
 ·exact .inl h
 ·exact .inr ⟨g, o, hs, by omega, by omega, fun i r hi => (hc i r hi).mono h1 h2⟩
theorem MemR.mono {w : World} {lo hi lo' hi' : Nat} {s : Option Addr} {m : List (List WD)} (h : MemR w lo hi s m) (h1 : lo' ≤ lo) (h2 : hi ≤ hi') : MemR w lo' hi' s m := by
 rcases h with h | ⟨g, o, hs, a, b, hc⟩
 ·exact .inl h
 ·exact .inr ⟨g, o, hs, by omega, by omega, fun i r hi => by obtain ⟨s', c', e1, e2⟩ := hc i r hi; exact ⟨s', c', e1, e2.mono h1 h2⟩⟩
theorem MemR.row {w : World} {lo hi : Nat} {s : Option Addr} {m : List (List WD)} (h : MemR w lo hi s m) {i : Nat} {l : List WD} (hi' : m[i]? = some l) : ∃ g off s' c', s = some ⟨g, off, none⟩ ∧ lo ≤ g ∧ g < hi ∧ w.cell? ⟨g, off + i, none⟩ = some (.slice s' l.length c') ∧ WsR w lo hi s' l := by
 rcases h with rfl | ⟨g, o, hs, a, b, hc⟩
 ·simp at hi'
 ·obtain ⟨s', c', e1, e2⟩ := hc i l hi'
  exact ⟨g, o, s', c', hs, a, b, e1, e2⟩
theorem WsR.at {w : World} {lo hi : Nat} {s : Option Addr} {l : List WD} (h : WsR w lo hi s l) {i : Nat} {x : WD} (hi' : l[i]? = some x) : ∃ g off s' c', s = some ⟨g, off, none⟩ ∧ lo ≤ g ∧ g < hi ∧ w.cell? ⟨g, off + i * 2, none⟩ = some (.int .i64 x.v) ∧ w.cell? ⟨g, off + i * 2 + 1, none⟩ = some (.slice s' x.vw.length c') ∧ IntsR w lo hi s' x.vw := by
 rcases h with rfl | ⟨g, o, hs, a, b, hc⟩
 ·simp at hi'
 ·obtain ⟨s', c', e1, e2, e3⟩ := hc i x hi'
  exact ⟨g, o, s', c', hs, a, b, e1, e2, e3⟩
def szV : List WD → Nat
 | [] => 0
 | x :: r => x.vw.length + szV r
def szR : List (List WD) → Nat
 | [] => 0
 | l :: r => l.length + szV l + szR r
theorem szV_take : ∀ (l : List WD) (k : Nat) (x : WD), l[k]? = some x → szV (l.take (k + 1)) = szV (l.take k) + x.vw.length
 | [], k, x, h => by simp at h
 | y :: r, 0, x, h => by simp at h; subst h; simp [szV]
 | y :: r, k + 1, x, h => by
  have := szV_take r k x (by simpa using h)
  simp [szV, this]
  omega
theorem szR_take : ∀ (m : List (List WD)) (k : Nat) (l : List WD), m[k]? = some l → szR (m.take (k + 1)) = szR (m.take k) + (l.length + szV l)
 | [], k, x, h => by simp at h
 | y :: r, 0, x, h => by simp at h; subst h; simp [szR]
 | y :: r, k + 1, x, h => by
  have := szR_take r k x (by simpa using h)
  simp [szR, this]
  omega
theorem szV_at : ∀ (l : List WD) (k : Nat) (x : WD), l[k]? = some x → x.vw.length ≤ szV l
 | [], k, x, h => by simp at h
 | y :: r, 0, x, h => by simp at h; subst h; simp [szV]
 | y :: r, k + 1, x, h => by
  have := szV_at r k x (by simpa using h)
  simp [szV]
  omega
theorem szR_at : ∀ (m : List (List WD)) (k : Nat) (l : List WD), m[k]? = some l → l.length + szV l ≤ szR m
 | [], k, x, h => by simp at h
 | y :: r, 0, x, h => by simp at h; subst h; simp [szR]
 | y :: r, k + 1, x, h => by
  have := szR_at r k x (by simpa using h)
  simp [szR]
  omega
structure RS where
 s : Option Addr
 c : Nat
 vs : List VS
def rAs (s : Option Addr) : List VS → Nat → List Addr
 | [], _ => []
 | x :: r, k => adr s (k * 2) :: (vAs x ++ rAs s r (k + 1))
def mAs : List RS → List Addr
 | [] => []
 | r :: t => rAs r.s r.vs 0 ++ mAs t
theorem rAs_app (s : Option Addr) (x : VS) : ∀ (vs : List VS) (k : Nat), rAs s (vs ++ [x]) k = rAs s vs k ++ adr s ((k + vs.length) * 2) :: vAs x
 | [], k => by simp [rAs]
 | y :: r, k => by
  have h := rAs_app s x r (k + 1)
  have e : k + 1 + r.length = k + (r.length + 1) := by omega
  simp [rAs, h, e]
theorem mAs_app (x : RS) : ∀ (S : List RS), mAs (S ++ [x]) = mAs S ++ rAs x.s x.vs 0
 | [] => by simp [mAs]
 | r :: t => by simp [mAs, mAs_app x t]
theorem mem_rAs {s : Option Addr} {a : Addr} : ∀ {vs : List VS} {k : Nat}, a ∈ rAs s vs k ↔ (∃ i, i < vs.length ∧ a = adr s ((k + i) * 2)) ∨ ∃ x ∈ vs, a ∈ vAs x
 | [], k => by simp [rAs]
 | y :: r, k => by
  simp only [rAs, List.mem_cons, List.mem_append, mem_rAs (vs := r) (k := k + 1)]
  constructor
  ·rintro (h | h | ⟨i, h, e⟩ | ⟨x, h, e⟩)
   ·exact .inl ⟨0, by simp, by simpa using h⟩
   ·exact .inr ⟨y, .inl rfl, h⟩
   ·exact .inl ⟨i + 1, by simpa using h, by rw [e]; congr 2; omega⟩
   ·exact .inr ⟨x, .inr h, e⟩
  ·rintro (⟨i, h, e⟩ | ⟨x, h | h, e⟩)
   ·rcases Nat.eq_zero_or_pos i with rfl | hp
    ·exact .inl (by simpa using e)
    ·refine .inr (.inr (.inl ⟨i - 1, by simp at h; omega, ?_⟩))
     rw [e]; congr 2; omega
   ·subst h; exact .inr (.inl e)
   ·exact .inr (.inr (.inr ⟨x, h, e⟩))
theorem mem_mAs {a : Addr} : ∀ {S : List RS}, a ∈ mAs S ↔ ∃ r ∈ S, a ∈ rAs r.s r.vs 0
 | [] => by simp [mAs]
 | r :: t => by simp [mAs, mem_mAs (S := t)]
theorem vAs_nodup {x : VS} {g o : Nat} (h : x.s = some ⟨g, o, none⟩) : (vAs x).Nodup := by
 unfold vAs
 rw [h]
 refine List.Pairwise.map _ (fun a b hab e => ?_) List.nodup_range
 simp [adr] at e
 exact hab e
/- owned: with the places -/
structure VO (w : World) (lo hi : Nat) (x : VS) (l : List Int) : Prop where
 n : x.n = l.length
 c : l = [] ∨ ∃ g o, x.s = some ⟨g, o, none⟩ ∧ lo ≤ g ∧ g < hi ∧ ∀ i, i < l.length → w.cell? ⟨g, o + i, none⟩ = some (.int .i64 (l.getD i 0)) ∧ w.frozen? ⟨g, o + i, none⟩ = false
structure RO (w : World) (lo hi : Nat) (r : RS) (l : List WD) : Prop where
 n : r.vs.length = l.length
 c : l = [] ∨ ∃ g o, r.s = some ⟨g, o, none⟩ ∧ lo ≤ g ∧ g < hi ∧ ∀ (i : Nat) (x : VS) (y : WD), r.vs[i]? = some x → l[i]? = some y → w.cell? ⟨g, o + i * 2, none⟩ = some (.int .i64 y.v) ∧ w.frozen? ⟨g, o + i * 2, none⟩ = false ∧ w.cell? ⟨g, o + i * 2 + 1, none⟩ = some (.slice x.s x.n x.c)
 v : ∀ (i : Nat) (x : VS) (y : WD), r.vs[i]? = some x → l[i]? = some y → VO w lo hi x y.vw
 o : ∀ x ∈ r.vs, ∀ a ∈ vAs x, ∀ g o, r.s = some ⟨g, o, none⟩ → a.block ≠ g
 d : (rAs r.s r.vs 0).Nodup
structure MO (w : World) (lo hi : Nat) (so : Option Addr) (S : List RS) (m : List (List WD)) : Prop where
 n : S.length = m.length
 c : m = [] ∨ ∃ g o, so = some ⟨g, o, none⟩ ∧ lo ≤ g ∧ g < hi ∧ ∀ (i : Nat) (r : RS), S[i]? = some r → w.cell? ⟨g, o + i, none⟩ = some (.slice r.s r.vs.length r.c)
 r : ∀ (i : Nat) (r : RS) (l : List WD), S[i]? = some r → m[i]? = some l → RO w lo hi r l
 d : (mAs S).Nodup
theorem VO.keep {w w' : World} {lo hi : Nat} {x : VS} {l : List Int} (h : VO w lo hi x l) (hb : Keep lo hi w w') : VO w' lo hi x l := by
 refine ⟨h.n, ?_⟩
 rcases h.c with h | ⟨g, o, hs, h1, h2, hc⟩
 ·exact .inl h
 ·exact .inr ⟨g, o, hs, h1, h2, fun i hi => ⟨(hb.cell (p := ⟨g, o + i, none⟩) h1 h2).trans (hc i hi).1, (hb.frozen (p := ⟨g, o + i, none⟩) h1 h2).trans (hc i hi).2⟩⟩
theorem RO.keep {w w' : World} {lo hi : Nat} {r : RS} {l : List WD} (h : RO w lo hi r l) (hb : Keep lo hi w w') : RO w' lo hi r l := by
 refine ⟨h.n, ?_, fun i x y hx hy => (h.v i x y hx hy).keep hb, h.o, h.d⟩
 rcases h.c with h | ⟨g, o, hs, h1, h2, hc⟩
 ·exact .inl h
 ·refine .inr ⟨g, o, hs, h1, h2, fun i x y hx hy => ?_⟩
  obtain ⟨a, b, c⟩ := hc i x y hx hy
  exact ⟨(hb.cell (p := ⟨g, o + i * 2, none⟩) h1 h2).trans a, (hb.frozen (p := ⟨g, o + i * 2, none⟩) h1 h2).trans b, (hb.cell (p := ⟨g, o + i * 2 + 1, none⟩) h1 h2).trans c⟩
theorem MO.keep {w w' : World} {lo hi : Nat} {so : Option Addr} {S : List RS} {m : List (List WD)} (h : MO w lo hi so S m) (hb : Keep lo hi w w') : MO w' lo hi so S m := by
 refine ⟨h.n, ?_, fun i r l hr hl => (h.r i r l hr hl).keep hb, h.d⟩
 rcases h.c with h | ⟨g, o, hs, h1, h2, hc⟩
 ·exact .inl h
 ·exact .inr ⟨g, o, hs, h1, h2, fun i r hr => (hb.cell (p := ⟨g, o + i, none⟩) h1 h2).trans (hc i r hr)⟩
theorem VO.mono {w : World} {lo hi lo' hi' : Nat} {x : VS} {l : List Int} (h : VO w lo hi x l) (a : lo' ≤ lo) (b : hi ≤ hi') : VO w lo' hi' x l := by
 refine ⟨h.n, ?_⟩
 rcases h.c with h | ⟨g, o, hs, h1, h2, hc⟩
 ·exact .inl h
 ·exact .inr ⟨g, o, hs, by omega, by omega, hc⟩
theorem RO.mono {w : World} {lo hi lo' hi' : Nat} {r : RS} {l : List WD} (h : RO w lo hi r l) (a : lo' ≤ lo) (b : hi ≤ hi') : RO w lo' hi' r l := by
 refine ⟨h.n, ?_, fun i x y hx hy => (h.v i x y hx hy).mono a b, h.o, h.d⟩
 rcases h.c with h | ⟨g, o, hs, h1, h2, hc⟩
 ·exact .inl h
 ·exact .inr ⟨g, o, hs, by omega, by omega, hc⟩
theorem MO.mono {w : World} {lo hi lo' hi' : Nat} {so : Option Addr} {S : List RS} {m : List (List WD)} (h : MO w lo hi so S m) (a : lo' ≤ lo) (b : hi ≤ hi') : MO w lo' hi' so S m := by
 refine ⟨h.n, ?_, fun i r l hr hl => (h.r i r l hr hl).mono a b, h.d⟩
 rcases h.c with h | ⟨g, o, hs, h1, h2, hc⟩
 ·exact .inl h
 ·exact .inr ⟨g, o, hs, by omega, by omega, hc⟩
theorem at_same {α β : Type} {a : List α} {b : List β} (h : a.length = b.length) {i : Nat} {y : β} (hy : b[i]? = some y) : ∃ x, a[i]? = some x := by
 have := (List.getElem?_eq_some_iff.1 hy).1
 exact ⟨_, List.getElem?_eq_getElem (by omega)⟩
theorem VO.ints {w : World} {lo hi : Nat} {x : VS} {l : List Int} (h : VO w lo hi x l) : IntsR w lo hi x.s l := by
 rcases h.c with h | ⟨g, o, hs, h1, h2, hc⟩
 ·exact .inl h
 ·exact .inr ⟨g, o, hs, h1, h2, fun i hi => (hc i hi).1⟩
theorem RO.ws {w : World} {lo hi : Nat} {r : RS} {l : List WD} (h : RO w lo hi r l) : WsR w lo hi r.s l := by
 rcases h.c with e | ⟨g, o, hs, h1, h2, hc⟩
 ·exact .inl e
 ·refine .inr ⟨g, o, hs, h1, h2, fun i y hy => ?_⟩
  obtain ⟨x, hx⟩ := at_same h.n hy
  obtain ⟨a, b, c⟩ := hc i x y hx hy
  have hv := h.v i x y hx hy
  exact ⟨x.s, x.c, a, by rw [c, hv.n], hv.ints⟩
theorem MO.mem {w : World} {lo hi : Nat} {so : Option Addr} {S : List RS} {m : List (List WD)} (h : MO w lo hi so S m) : MemR w lo hi so m := by
 rcases h.c with e | ⟨g, o, hs, h1, h2, hc⟩
 ·exact .inl e
 ·refine .inr ⟨g, o, hs, h1, h2, fun i l hl => ?_⟩
  obtain ⟨r, hr⟩ := at_same h.n hl
  have hv := h.r i r l hr hl
  exact ⟨r.s, r.c, by rw [hc i r hr, hv.n], hv.ws⟩
/- where the places lie -/
theorem VO.blk {w : World} {lo hi : Nat} {x : VS} {l : List Int} (h : VO w lo hi x l) {a : Addr} (ha : a ∈ vAs x) : lo ≤ a.block ∧ a.block < hi := by
 obtain ⟨i, hi', rfl⟩ := mem_vAs.1 ha
 rcases h.c with e | ⟨g, o, hs, h1, h2, hc⟩
 ·have := h.n; rw [e] at this; simp at this; omega
 ·rw [hs]; exact ⟨h1, h2⟩
theorem RO.blk {w : World} {lo hi : Nat} {r : RS} {l : List WD} (h : RO w lo hi r l) {a : Addr} (ha : a ∈ rAs r.s r.vs 0) : lo ≤ a.block ∧ a.block < hi := by
 rcases mem_rAs.1 ha with ⟨i, hi', rfl⟩ | ⟨x, hx, hax⟩
 ·rcases h.c with e | ⟨g, o, hs, h1, h2, hc⟩
  ·have := h.n; rw [e] at this; simp at this; rw [this] at hi'; simp at hi'
  ·rw [hs]; exact ⟨h1, h2⟩
 ·obtain ⟨i, hi', e⟩ := List.getElem_of_mem hx
  have hl : i < l.length := by have := h.n; omega
  exact (h.v i x l[i] (by rw [List.getElem?_eq_getElem hi', e]) (List.getElem?_eq_getElem hl)).blk hax
theorem MO.blk {w : World} {lo hi : Nat} {so : Option Addr} {S : List RS} {m : List (List WD)} (h : MO w lo hi so S m) {a : Addr} (ha : a ∈ mAs S) : lo ≤ a.block ∧ a.block < hi := by
 obtain ⟨r, hr, har⟩ := mem_mAs.1 ha
 obtain ⟨i, hi', e⟩ := List.getElem_of_mem hr
 have hl : i < m.length := by have := h.n; omega
 exact (h.r i r m[i] (by rw [List.getElem?_eq_getElem hi', e]) (List.getElem?_eq_getElem hl)).blk har
theorem RO.nil (w : World) (lo hi : Nat) (s : Option Addr) (c : Nat) : RO w lo hi ⟨s, c, []⟩ [] := ⟨rfl, .inl rfl, fun i x y hx => by simp at hx, fun x hx => by simp at hx, by simp [rAs]⟩
theorem MO.nil (w : World) (lo hi : Nat) (s : Option Addr) : MO w lo hi s [] [] := ⟨rfl, .inl rfl, fun i x y hx => by simp at hx, by simp [mAs]⟩
theorem RO.far2 {w w' : World} {lo hi : Nat} {r : RS} {l : List WD} (h : RO w lo hi r l) (hk : ∀ a ∈ rAs r.s r.vs 0, w'.heap[a.block]? = w.heap[a.block]?) : RO w' lo hi r l := by
 refine ⟨h.n, ?_, fun i x y e1 e2 => ?_, h.o, h.d⟩
 ·rcases h.c with h0 | ⟨g, o, es, b1, b2, hc⟩
  ·exact .inl h0
  ·refine .inr ⟨g, o, es, b1, b2, fun i x y e1 e2 => ?_⟩
   have hi' := (List.getElem?_eq_some_iff.1 e1).1
   have hne : w'.heap[g]? = w.heap[g]? := by
    have := hk (adr r.s (i * 2)) (mem_rAs.2 (.inl ⟨i, hi', by rw [Nat.zero_add]⟩))
    rw [es] at this
    exact this
   obtain ⟨a, b, c⟩ := hc i x y e1 e2
   exact ⟨(World.cell?_of_block (w := w) hne).trans a, (World.frozen?_of_block (w := w) hne).trans b, (World.cell?_of_block (w := w) hne).trans c⟩
 ·have hv := h.v i x y e1 e2
  refine ⟨hv.n, ?_⟩
  rcases hv.c with h0 | ⟨g, o, es, b1, b2, hc⟩
  ·exact .inl h0
  ·refine .inr ⟨g, o, es, b1, b2, fun j hj => ?_⟩
   have hne : w'.heap[g]? = w.heap[g]? := by
    have := hk (adr x.s j) (mem_rAs.2 (.inr ⟨x, List.mem_of_getElem? e1, mem_vAs.2 ⟨j, by rw [hv.n]; exact hj, rfl⟩⟩))
    rw [es] at this
    exact this
   exact ⟨(World.cell?_of_block (w := w) hne).trans (hc j hj).1, (World.frozen?_of_block (w := w) hne).trans (hc j hj).2⟩
/- a row grows by one write -/
theorem RO.push {w w' : World} {lo hi G O c : Nat} {vs : List VS} {l : List WD} (x : VS) (y : WD) (h : RO w lo hi ⟨some ⟨G, O, none⟩, c, vs⟩ l) (hG : lo ≤ G ∧ G < hi)
  (hs : ∀ a : Addr, a ≠ ⟨G, O + l.length * 2, none⟩ → a ≠ ⟨G, O + l.length * 2 + 1, none⟩ → w'.cell? a = w.cell? a ∧ w'.frozen? a = w.frozen? a)
  (h1 : w'.cell? ⟨G, O + l.length * 2, none⟩ = some (.int .i64 y.v)) (h2 : w'.frozen? ⟨G, O + l.length * 2, none⟩ = false) (h3 : w'.cell? ⟨G, O + l.length * 2 + 1, none⟩ = some (.slice x.s x.n x.c))
  (hx : VO w' lo hi x y.vw) (hxg : ∀ a ∈ vAs x, a.block ≠ G) (hxd : (vAs x).Nodup) (hd : ∀ x' ∈ vs, ∀ a ∈ vAs x', a ∉ vAs x) : RO w' lo hi ⟨some ⟨G, O, none⟩, c, vs ++ [x]⟩ (l ++ [y]) := by
 have hn : vs.length = l.length := h.n
 have far : ∀ x' ∈ vs, ∀ a ∈ vAs x', w'.cell? a = w.cell? a ∧ w'.frozen? a = w.frozen? a := fun x' hx' a ha => by
  have := h.o x' hx' a ha G O rfl
  exact hs a (fun e => this (by rw [e])) (fun e => this (by rw [e]))
 refine ⟨by simp [hn], .inr ⟨G, O, rfl, hG.1, hG.2, fun i x1 y1 e1 e2 => ?_⟩, fun i x1 y1 e1 e2 => ?_, fun x' hx' a ha g o e => ?_, ?_⟩
 ·rcases getElem?_push e1 with e1 | ⟨i1, rfl⟩
  ·rcases getElem?_push e2 with e2 | ⟨i2, rfl⟩
   ·rcases h.c with h0 | ⟨g, o, e, -, -, hc⟩
    ·rw [h0] at e2; simp at e2
    ·injection e with e; injection e with e3 e4 e5
     subst e3 e4
     obtain ⟨a, b, c⟩ := hc i x1 y1 e1 e2
     have hi2 := (List.getElem?_eq_some_iff.1 e2).1
     have q1 := hs ⟨G, O + i * 2, none⟩ (by intro e; injection e with a1 a2; omega) (by intro e; injection e with a1 a2; omega)
     have q2 := hs ⟨G, O + i * 2 + 1, none⟩ (by intro e; injection e with a1 a2; omega) (by intro e; injection e with a1 a2; omega)
     exact ⟨q1.1.trans a, q1.2.trans b, q2.1.trans c⟩
   ·have := (List.getElem?_eq_some_iff.1 e1).1
    have h9 : vs.length = l.length := hn
    omega
  ·rcases getElem?_push e2 with e2 | ⟨i2, rfl⟩
   ·have := (List.getElem?_eq_some_iff.1 e2).1
    omega
   ·subst i2
    exact ⟨h1, h2, h3⟩
 ·rcases getElem?_push e1 with e1 | ⟨i1, rfl⟩
  ·rcases getElem?_push e2 with e2 | ⟨i2, rfl⟩
   ·have hv := h.v i x1 y1 e1 e2
    refine ⟨hv.n, ?_⟩
    rcases hv.c with h0 | ⟨g, o, es, b1, b2, hc⟩
    ·exact .inl h0
    ·refine .inr ⟨g, o, es, b1, b2, fun j hj => ?_⟩
     have q := far x1 (List.mem_of_getElem? e1) ⟨g, o + j, none⟩ (mem_vAs.2 ⟨j, by rw [hv.n]; exact hj, by rw [es]; rfl⟩)
     exact ⟨q.1.trans (hc j hj).1, q.2.trans (hc j hj).2⟩
   ·have := (List.getElem?_eq_some_iff.1 e1).1
    omega
  ·rcases getElem?_push e2 with e2 | ⟨i2, rfl⟩
   ·have := (List.getElem?_eq_some_iff.1 e2).1
    omega
   ·exact hx
 ·injection e with e; injection e with e3 e4 e5
  subst e3
  rcases List.mem_append.1 hx' with hx' | hx'
  ·exact h.o x' hx' a ha G O rfl
  ·simp at hx'
   subst hx'
   exact hxg a ha
 ·show (rAs (some ⟨G, O, none⟩) (vs ++ [x]) 0).Nodup
  rw [rAs_app, Nat.zero_add]
  refine List.nodup_append.2 ⟨h.d, List.nodup_cons.2 ⟨fun hm => hxg _ hm rfl, hxd⟩, fun a ha b hb e => ?_⟩
  subst e
  rcases mem_rAs.1 ha with ⟨i, hi', e⟩ | ⟨x', hx', hax⟩
  ·simp only [Nat.zero_add] at e
   rcases List.mem_cons.1 hb with hb | hb
   ·rw [e] at hb
    simp [adr] at hb
    omega
   ·exact hxg _ hb (by rw [e]; rfl)
  ·rcases List.mem_cons.1 hb with hb | hb
   ·exact h.o x' hx' a hax G O rfl (by rw [hb]; rfl)
   ·exact hd x' hx' a hax hb
end
section
set_option linter.unusedSimpArgs false
set_option linter.unusedVariables false
set_option maxRecDepth 100000
open Go.RowKit
end
section
set_option linter.unusedSimpArgs false
set_option linter.unusedVariables false
set_option maxRecDepth 100000
open Go.RowKit
structure ND where
 who : Int
 v : Int
def NtR (w : World) (g off : Nat) (n : ND) : Prop := w.cell? ⟨g, off, none⟩ = some (.int .i64 n.who) ∧ w.cell? ⟨g, off + 1, none⟩ = some (.int .i64 n.v)
def NtsR (w : World) (lo hi : Nat) (s : Option Addr) (l : List ND) : Prop :=
 l = [] ∨ ∃ g off, s = some ⟨g, off, none⟩ ∧ lo ≤ g ∧ g < hi ∧ ∀ (i : Nat) (n : ND), l[i]? = some n → NtR w g (off + i * 2) n
theorem NtsR.keep {w w' : World} {lo hi : Nat} {s : Option Addr} {l : List ND} (h : NtsR w lo hi s l) (hb : Keep lo hi w w') : NtsR w' lo hi s l := by
 rcases h with h | ⟨g, o, hs, h1, h2, hc⟩
 ·exact .inl h
 ·exact .inr ⟨g, o, hs, h1, h2, fun i r hi => ⟨(hb.cell h1 h2).trans (hc i r hi).1, (hb.cell h1 h2).trans (hc i r hi).2⟩⟩
theorem eqNote_alike (a b : Int) (w : World) : Calls Tryz.prog 57 #[.agg #[.int .i64 a, .int .i64 b], .agg #[.int .i64 a, .int .i64 b]] w fun e w' => e = .returned (.bool true) ∧ Below w.heap.size w w' := by
 go_enter Tryz.func57, Tryz.ntmps57
 go_wp2
 go_ret
 exact ⟨rfl, ((Below.refl _ _).alloc (Nat.le_refl _) _).alloc (by simp) _⟩
set_option maxHeartbeats 2000000 in
theorem eqNoteS_alike (s s' : Option Addr) (c c' lo hi lo' hi' : Nat) (l : List ND) (w : World) (h : NtsR w lo hi s l) (h' : NtsR w lo' hi' s' l) (hB : hi ≤ w.heap.size) (hB' : hi' ≤ w.heap.size) (hl : l.length ≤ 2000000) :
  Calls Tryz.prog 24 #[.slice s l.length c, .slice s' l.length c'] w fun e w' => e = .returned (.bool true) ∧ Below w.heap.size w w' := by
 have H1 : Hid (NtsR w lo hi s l) := h
 have H2 : Hid (NtsR w lo' hi' s' l) := h'
 clear h h'
 have hne : ((l.length : Int) != (l.length : Int)) = false := by simp
 go_enter Tryz.func24, Tryz.ntmps24
 go_wp2
 go_loopw [5] (fun i wr => ∃ k : Nat, k ≤ l.length ∧ i = .int .i64 k ∧ Below w.heap.size w wr) (fun i _ => l.length - (intOf i).toNat)
 case atStart => exact ⟨0, Nat.zero_le _, rfl, Below.refl _ _⟩
 case round =>
  obtain ⟨k, hk, rfl, hb⟩ := hrel
  have HB : Hid (Below w.heap.size w wr) := hb
  have hsz := hb.size
  clear hb
  by_cases hlt : k < l.length
  ·obtain ⟨t, ht⟩ : ∃ t, l[k]? = some t := ⟨_, List.getElem?_eq_getElem hlt⟩
   obtain ⟨g, off, hs, hg, f0, f1⟩ : ∃ g off, s = some ⟨g, off, none⟩ ∧ g < w.heap.size ∧ NtR wr g (off + k * 2) t := by
    rcases H1.out with h | ⟨g, off, a, b, d, e⟩
    ·rw [h] at hlt; simp at hlt
    ·exact ⟨g, off, a, by omega, (HB.out.cell (p := ⟨g, _, none⟩) (by show g < _; omega)).trans (e k t ht).1, (HB.out.cell (p := ⟨g, _, none⟩) (by show g < _; omega)).trans (e k t ht).2⟩
   obtain ⟨g', off', hs', hg', f0', f1'⟩ : ∃ g off, s' = some ⟨g, off, none⟩ ∧ g < w.heap.size ∧ NtR wr g (off + k * 2) t := by
    rcases H2.out with h | ⟨g, off, a, b, d, e⟩
    ·rw [h] at hlt; simp at hlt
    ·exact ⟨g, off, a, by omega, (HB.out.cell (p := ⟨g, _, none⟩) (by show g < _; omega)).trans (e k t ht).1, (HB.out.cell (p := ⟨g, _, none⟩) (by show g < _; omega)).trans (e k t ht).2⟩
   subst hs
   subst hs'
   obtain ⟨ta, tb⟩ := t
   simp only at f0 f1 f0' f1'
   clear ht
   have b0 : (0 : Int) ≤ (k : Int) := by omega
   have b1 : (k : Int) < (l.length : Int) := by omega
   go_wp2_with fail
   first | go_region_with (go_at_call 57; refine (eqNote_alike ta tb _).mono ?_; rintro e w1 ⟨rfl, hb1⟩) | fail
   all_goals
    have HB1 : Hid (Below wr.heap.size wr w1) := ⟨hb1.os, hb1.tape, hb1.output, hb1.size, hb1.block⟩
    clear hb1
    go_wp2
    go_roundw
    case rel => exact ⟨k + 1, by omega, by go_num, HB.out.trans (HB1.out.mono hsz)⟩
    case measure => simp [intOf]; omega
  ·go_wp2
   go_ret
   exact ⟨rfl, HB.out⟩
end
section
set_option linter.unusedSimpArgs false
set_option linter.unusedVariables false
set_option maxRecDepth 100000
open Go.RowKit
def CR (w : World) (lo hi g off : Nat) (l : List I5) : Prop := ∃ s c, w.cell? ⟨g, off, none⟩ = some (.slice s l.length c) ∧ InsR w lo hi s l
def CsR (w : World) (lo hi : Nat) (s : Option Addr) (l : List (List I5)) : Prop :=
 l = [] ∨ ∃ g off, s = some ⟨g, off, none⟩ ∧ lo ≤ g ∧ g < hi ∧ ∀ (i : Nat) (x : List I5), l[i]? = some x → CR w lo hi g (off + i) x
structure KD where
 pc : Int
 regs : List Int
 vw : List Int
 st : Int
def KR (w : World) (lo hi g off : Nat) (k : KD) : Prop :=
 ∃ s c s' c', w.cell? ⟨g, off, none⟩ = some (.int .i64 k.pc) ∧ w.cell? ⟨g, off + 1, none⟩ = some (.slice s k.regs.length c) ∧ w.cell? ⟨g, off + 2, none⟩ = some (.slice s' k.vw.length c') ∧ w.cell? ⟨g, off + 3, none⟩ = some (.int .i64 k.st) ∧ IntsR w lo hi s k.regs ∧ IntsR w lo hi s' k.vw
def KsR (w : World) (lo hi : Nat) (s : Option Addr) (l : List KD) : Prop :=
 l = [] ∨ ∃ g off, s = some ⟨g, off, none⟩ ∧ lo ≤ g ∧ g < hi ∧ ∀ (i : Nat) (k : KD), l[i]? = some k → KR w lo hi g (off + i * 4) k
structure MD where
 codes : List (List I5)
 cores : List KD
 mem : List (List WD)
 tr : List ND
def MaR (w : World) (lo hi : Nat) (s1 s2 s3 s4 : Option Addr) (d : MD) : Prop := CsR w lo hi s1 d.codes ∧ KsR w lo hi s2 d.cores ∧ MemR w lo hi s3 d.mem ∧ NtsR w lo hi s4 d.tr
theorem CR.keep {w w' : World} {lo hi g off : Nat} {l : List I5} (h : CR w lo hi g off l) (hb : Keep lo hi w w') (hc : ∀ j, w'.cell? ⟨g, j, none⟩ = w.cell? ⟨g, j, none⟩) : CR w' lo hi g off l := by
 obtain ⟨s, c, h1, h2⟩ := h
 exact ⟨s, c, (hc _).trans h1, h2.keep hb⟩
theorem CR.mono {w : World} {lo hi lo' hi' g off : Nat} {l : List I5} (h : CR w lo hi g off l) (p : lo' ≤ lo) (q : hi ≤ hi') : CR w lo' hi' g off l := by
 obtain ⟨s, c, h1, h2⟩ := h
 exact ⟨s, c, h1, h2.mono p q⟩
theorem KR.keep {w w' : World} {lo hi g off : Nat} {k : KD} (h : KR w lo hi g off k) (hb : Keep lo hi w w') (hc : ∀ j, w'.cell? ⟨g, j, none⟩ = w.cell? ⟨g, j, none⟩) : KR w' lo hi g off k := by
 obtain ⟨s, c, s', c', h1, h2, h3, h4, h5, h6⟩ := h
 exact ⟨s, c, s', c', (hc _).trans h1, (hc _).trans h2, (hc _).trans h3, (hc _).trans h4, h5.keep hb, h6.keep hb⟩
theorem KR.mono {w : World} {lo hi lo' hi' g off : Nat} {k : KD} (h : KR w lo hi g off k) (p : lo' ≤ lo) (q : hi ≤ hi') : KR w lo' hi' g off k := by
 obtain ⟨s, c, s', c', h1, h2, h3, h4, h5, h6⟩ := h
 exact ⟨s, c, s', c', h1, h2, h3, h4, h5.mono p q, h6.mono p q⟩
theorem CsR.keep {w w' : World} {lo hi : Nat} {s : Option Addr} {l : List (List I5)} (h : CsR w lo hi s l) (hb : Keep lo hi w w') : CsR w' lo hi s l := by
 rcases h with h | ⟨g, o, hs, h1, h2, hc⟩
 ·exact .inl h
 ·exact .inr ⟨g, o, hs, h1, h2, fun i r hi => (hc i r hi).keep hb (fun j => hb.cell h1 h2)⟩
theorem CsR.mono {w : World} {lo hi lo' hi' : Nat} {s : Option Addr} {l : List (List I5)} (h : CsR w lo hi s l) (p : lo' ≤ lo) (q : hi ≤ hi') : CsR w lo' hi' s l := by
 rcases h with h | ⟨g, o, hs, h1, h2, hc⟩
 ·exact .inl h
 ·exact .inr ⟨g, o, hs, by omega, by omega, fun i r hi => (hc i r hi).mono p q⟩
theorem KsR.keep {w w' : World} {lo hi : Nat} {s : Option Addr} {l : List (KD)} (h : KsR w lo hi s l) (hb : Keep lo hi w w') : KsR w' lo hi s l := by
 rcases h with h | ⟨g, o, hs, h1, h2, hc⟩
 ·exact .inl h
 ·exact .inr ⟨g, o, hs, h1, h2, fun i r hi => (hc i r hi).keep hb (fun j => hb.cell h1 h2)⟩
theorem KsR.mono {w : World} {lo hi lo' hi' : Nat} {s : Option Addr} {l : List (KD)} (h : KsR w lo hi s l) (p : lo' ≤ lo) (q : hi ≤ hi') : KsR w lo' hi' s l := by
 rcases h with h | ⟨g, o, hs, h1, h2, hc⟩
 ·exact .inl h
 ·exact .inr ⟨g, o, hs, by omega, by omega, fun i r hi => (hc i r hi).mono p q⟩
theorem CsR.at {w : World} {lo hi : Nat} {s : Option Addr} {l : List (List I5)} (h : CsR w lo hi s l) {i : Nat} {x : List I5} (hi' : l[i]? = some x) : ∃ g off s' c', s = some ⟨g, off, none⟩ ∧ lo ≤ g ∧ g < hi ∧ w.cell? ⟨g, off + i, none⟩ = some (.slice s' x.length c') ∧ InsR w lo hi s' x := by
 rcases h with rfl | ⟨g, o, hs, a, b, hc⟩
 ·simp at hi'
 ·obtain ⟨s', c', e1, e2⟩ := hc i x hi'
  exact ⟨g, o, s', c', hs, a, b, e1, e2⟩
theorem KsR.at {w : World} {lo hi : Nat} {s : Option Addr} {l : List KD} (h : KsR w lo hi s l) {i : Nat} {x : KD} (hi' : l[i]? = some x) : ∃ g off s1 c1 s2 c2, s = some ⟨g, off, none⟩ ∧ lo ≤ g ∧ g < hi ∧ w.cell? ⟨g, off + i * 4, none⟩ = some (.int .i64 x.pc) ∧ w.cell? ⟨g, off + i * 4 + 1, none⟩ = some (.slice s1 x.regs.length c1) ∧ w.cell? ⟨g, off + i * 4 + 2, none⟩ = some (.slice s2 x.vw.length c2) ∧ w.cell? ⟨g, off + i * 4 + 3, none⟩ = some (.int .i64 x.st) ∧ IntsR w lo hi s1 x.regs ∧ IntsR w lo hi s2 x.vw := by
 rcases h with rfl | ⟨g, o, hs, a, b, hc⟩
 ·simp at hi'
 ·obtain ⟨s', c', s2, c2, e⟩ := hc i x hi'
  exact ⟨g, o, s', c', s2, c2, hs, a, b, e⟩
theorem MaR.keep {w w' : World} {lo hi : Nat} {s1 s2 s3 s4 : Option Addr} {d : MD} (h : MaR w lo hi s1 s2 s3 s4 d) (hb : Keep lo hi w w') : MaR w' lo hi s1 s2 s3 s4 d := ⟨h.1.keep hb, h.2.1.keep hb, h.2.2.1.keep hb, h.2.2.2.keep hb⟩
/- how great they are -/
def szC : List (List I5) → Nat
 | [] => 0
 | x :: r => x.length + szC r
def szK : List KD → Nat
 | [] => 0
 | x :: r => x.regs.length + x.vw.length + szK r
theorem szC_take : ∀ (l : List (List I5)) (k : Nat) (x : List I5), l[k]? = some x → szC (l.take (k + 1)) = szC (l.take k) + x.length
 | [], k, x, h => by simp at h
 | y :: r, 0, x, h => by simp at h; subst h; simp [szC]
 | y :: r, k + 1, x, h => by
  have := szC_take r k x (by simpa using h)
  simp [szC, this]
  omega
theorem szK_take : ∀ (l : List KD) (k : Nat) (x : KD), l[k]? = some x → szK (l.take (k + 1)) = szK (l.take k) + (x.regs.length + x.vw.length)
 | [], k, x, h => by simp at h
 | y :: r, 0, x, h => by simp at h; subst h; simp [szK]
 | y :: r, k + 1, x, h => by
  have := szK_take r k x (by simpa using h)
  simp [szK, this]
  omega
theorem szC_at : ∀ (l : List (List I5)) (k : Nat) (x : List I5), l[k]? = some x → x.length ≤ szC l
 | [], k, x, h => by simp at h
 | y :: r, 0, x, h => by simp at h; subst h; simp [szC]
 | y :: r, k + 1, x, h => by
  have := szC_at r k x (by simpa using h)
  simp [szC]
  omega
theorem szK_at : ∀ (l : List KD) (k : Nat) (x : KD), l[k]? = some x → x.regs.length + x.vw.length ≤ szK l
 | [], k, x, h => by simp at h
 | y :: r, 0, x, h => by simp at h; subst h; simp [szK]
 | y :: r, k + 1, x, h => by
  have := szK_at r k x (by simpa using h)
  simp [szK]
  omega
structure MaFits (d : MD) : Prop where
 c : d.codes.length + szC d.codes ≤ 1048576
 k : d.cores.length + szK d.cores ≤ 1048576
 m : d.mem.length + szR d.mem ≤ 2000000
 t : d.tr.length ≤ 2000000
end
section
set_option linter.unusedSimpArgs false
set_option linter.unusedVariables false
set_option maxRecDepth 100000
open Go.RowKit
end
section
set_option linter.unusedSimpArgs false
set_option linter.unusedVariables false
set_option maxRecDepth 100000
open Go.RowKit
structure B4 (w : World) (b : Nat) (v0 v1 v2 v3 : Value) : Prop where
 z : b < w.heap.size
 c0 : w.cell? ⟨b, 0, none⟩ = some v0
 c1 : w.cell? ⟨b, 1, none⟩ = some v1
 c2 : w.cell? ⟨b, 2, none⟩ = some v2
 c3 : w.cell? ⟨b, 3, none⟩ = some v3
theorem B4.keep {w w' : World} {b : Nat} {v0 v1 v2 v3 : Value} (h : B4 w b v0 v1 v2 v3) {B : Nat} (hb : Below B w w') (hB : b < B) : B4 w' b v0 v1 v2 v3 :=
 ⟨Nat.lt_of_lt_of_le h.z hb.size, (hb.cell (p := ⟨b, 0, none⟩) hB).trans h.c0, (hb.cell (p := ⟨b, 1, none⟩) hB).trans h.c1, (hb.cell (p := ⟨b, 2, none⟩) hB).trans h.c2, (hb.cell (p := ⟨b, 3, none⟩) hB).trans h.c3⟩
theorem B4.new (w : World) (v0 v1 v2 v3 : Value) (T : TypeId) : ∃ W, w.alloc (.cells #[v0, v1, v2, v3] T) = W ∧ B4 W w.heap.size v0 v1 v2 v3 ∧ Below w.heap.size w W ∧ w.heap.size < W.heap.size := by
 refine ⟨_, rfl, ⟨?_, ?_, ?_, ?_, ?_⟩, (Below.refl _ _).alloc (Nat.le_refl _) _, ?_⟩ <;> simp [go_sem]
end
section
set_option linter.unusedSimpArgs false
set_option linter.unusedVariables false
set_option maxRecDepth 100000
open Go.RowKit
theorem news_row {w : World} {g o : Nat} {l : List Int} (hc : ∀ i, i < l.length → w.cell? ⟨g, o + i, none⟩ = some (.int .i64 (l.getD i 0))) : ∀ j u, (l.map (Value.int .i64))[j]? = some u → w.cell? (Addr.add ⟨g, o, none⟩ j) = some u := by
 intro j u hu
 rw [List.getElem?_map] at hu
 by_cases hj : j < l.length
 ·have e : (Addr.add ⟨g, o, none⟩ j) = ⟨g, o + j, none⟩ := by
   by_cases h : j = 0
   ·subst h; rfl
   ·simp [Addr.add, h]
  rw [e, hc j hj]
  rw [List.getElem?_eq_getElem hj] at hu
  simp at hu
  rw [← hu]
  simp [List.getD_eq_getElem?_getD, List.getElem?_eq_getElem hj]
 ·rw [List.getElem?_eq_none (by omega)] at hu
  cases hu
theorem app_row {ops : Array Oper} {rest : List Oper} {o : Oper} {a : Act} {Q : Exit → Act → World → Prop} (hgd : o.guard = none) (s x : Operand) (ho : o.op = .call { callee := .builtin .append, args := #[s, x], argTypes := #[22, 22] })
  (w : World) (base : Nat) (v : Value) (ls : List Int) (hs : a.eval s = v) (hown : OwnN w base v ls) (g0 o0 c : Nat) (l : List Int) (hx : a.eval x = .slice (some ⟨g0, o0, none⟩) l.length c) (hc : ∀ i, i < l.length → w.cell? ⟨g0, o0 + i, none⟩ = some (.int .i64 (l.getD i 0)))
  (hl : 0 < l.length) (hn : ls.length + l.length ≤ 1099511627776) (hbase : base ≤ w.heap.size)
  (h : ∀ g cap w', OwnN w' base (.slice (some ⟨g, 0, none⟩) (ls.length + l.length) cap) (ls ++ l) → Below base w w' → g < w'.heap.size → base ≤ g → wpList Tryz.prog ops Q rest (a.put o.dst (.slice (some ⟨g, 0, none⟩) (ls.length + l.length) cap)) w') :
  wpList Tryz.prog ops Q (o :: rest) a w := by
 obtain ⟨i0, hi, hz0, hz1, hz2⟩ := infoInt
 refine wpList_append_lies _ hgd s x 22 ho base 3 i0 _ 1 8 Tryz.underlying22 hi hz0 hz1 hz2 rfl (by decide) v ls.length _ hs hown ⟨g0, o0, none⟩ l.length c (l.map (Value.int .i64)) hx (by simp) (news_row hc) (fun u hu => by obtain ⟨z, -, rfl⟩ := List.mem_map.1 hu; rfl) hl (by unfold maxLen; omega) (by omega) hbase _ rfl ?_
 intro g cap w' q1 q2 q3 q4
 have hb : Below base w w' := Below.grown (Below.refl _ _) q2 hbase (fun j hj => (World.ownsRow.lt hown _ hj).1)
 have ho' : OwnN w' base (.slice (some ⟨g, 0, none⟩) (ls.length + l.length) cap) (ls ++ l) := by
  show w'.ownsRow base 3 1 _ (ls ++ l).length ((ls ++ l).map (Value.int .i64))
  rw [List.map_append, List.length_append]
  exact q1
 refine h g cap w' ho' hb q4 ?_
 rcases q3 with q3 | q3
 ·exact (World.ownsRow.lt hown _ q3).1
 ·omega
structure Copied (w w' : World) (sv : Option Addr) (cv : Nat) (base n : Nat) (s' : Option Addr) (c' : Nat) : Prop where
 far : ∀ k, k < w.heap.size → (Value.slice sv 0 cv).ownBlock ≠ some k → w'.heap[k]? = w.heap[k]?
 low : Below base w w'
 blk : ∀ k, (Value.slice s' n c').ownBlock = some k → w.heap.size ≤ k ∨ (Value.slice sv 0 cv).ownBlock = some k
end
end Go.Proofs.YtehjbpjjegajjaaGreat
