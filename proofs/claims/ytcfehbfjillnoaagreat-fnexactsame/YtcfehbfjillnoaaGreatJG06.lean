/- Rows of notes as they lie in memory, and how the laws count, copy and compare them. Conditions: each list of at most 1048576. Sources as they lie in memory: rows of threads, of channels and of notes, read and owned. A row of integers that is not empty lies somewhere. No condition. -/
import Derived.Test.YtcfehbfjillnoaaGreatJG00
import Derived.Test.YtcfehbfjillnoaaGreatJG04
import Derived.Test.YtcfehbfjillnoaaGreatJG05
import Derived.Deep.RegionWith
namespace Go.Proofs.YtcfehbfjillnoaaGreat
section
set_option linter.unusedSimpArgs false
set_option linter.unusedVariables false
set_option maxRecDepth 100000
open Go.RowKit
structure ND where
 who : Int
 v : Int
def NtR (w : World) (g off : Nat) (n : ND) : Prop := w.cell? ⟨g, off, none⟩ = some (.int .i64 n.who) ∧ w.cell? ⟨g, off + 1, none⟩ = some (.int .i64 n.v)
def NtsR (w : World) (lo hi : Nat) (s : Option Addr) (l : List ND) : Prop :=
 l = [] ∨ ∃ g off, s = some ⟨g, off, none⟩ ∧ lo ≤ g ∧ g < hi ∧ ∀ (i : Nat) (n : ND), l[i]? = some n → NtR w g (off + i * 2) n
theorem NtsR.keep {w w' : World} {lo hi : Nat} {s : Option Addr} {l : List ND} (h : NtsR w lo hi s l) (hb : Keep lo hi w w') : NtsR w' lo hi s l := by
 rcases h with h | ⟨g, o, hs, h1, h2, hc⟩
 ·exact .inl h
 ·exact .inr ⟨g, o, hs, h1, h2, fun i r hi => ⟨(hb.cell h1 h2).trans (hc i r hi).1, (hb.cell h1 h2).trans (hc i r hi).2⟩⟩
def flatN : List ND → List Value
 | [] => []
 | x :: t => [.int .i64 x.who, .int .i64 x.v] ++ flatN t
theorem flatN_len : ∀ L : List ND, (flatN L).length = L.length * 2
 | [] => rfl
 | x :: t => by simp [flatN, flatN_len t]; omega
theorem flatN_app : ∀ (a b : List ND), flatN (a ++ b) = flatN a ++ flatN b
 | [], b => rfl
 | x :: r, b => by simp [flatN, flatN_app r b]
theorem flatN_at : ∀ (L : List ND) (i : Nat) (x : ND), L[i]? = some x → (flatN L)[i * 2]? = some (.int .i64 x.who) ∧ (flatN L)[i * 2 + 1]? = some (.int .i64 x.v)
 | [], i, x, h => by simp at h
 | y :: r, 0, x, h => by
  simp at h
  subst h
  exact ⟨rfl, rfl⟩
 | y :: r, i + 1, x, h => by
  have h' : r[i]? = some x := by simpa using h
  have e := flatN_at r i x h'
  have e0 : (i + 1) * 2 = i * 2 + 2 := by omega
  rw [e0]
  exact e
def OwnD (w : World) (base : Nat) (v : Value) (l : List ND) : Prop := w.ownsRow base 86 2 v l.length (flatN l)
theorem OwnD.nts {w : World} {base : Nat} {v : Value} {l : List ND} (h : OwnD w base v l) : ∃ s c, v = .slice s l.length c ∧ NtsR w base w.heap.size s l := by
 rcases Nat.eq_zero_or_pos l.length with h0 | hpos
 ·obtain ⟨s, c, e⟩ := ownSl h
  exact ⟨s, c, e, .inl (List.length_eq_zero_iff.1 h0)⟩
 ·obtain ⟨g, cap, rfl, -⟩ := World.ownsRow.form h hpos
  have hlt := World.ownsRow.lt h g rfl
  refine ⟨_, _, rfl, .inr ⟨g, 0, rfl, hlt.1, hlt.2, fun i r hr => ?_⟩⟩
  have hi : i < l.length := (List.getElem?_eq_some_iff.1 hr).1
  obtain ⟨e0, e1⟩ := flatN_at l i r hr
  refine ⟨?_, ?_⟩
  ·rw [Nat.zero_add, World.ownsRow.cellAt h _ (by omega)]; exact e0
  ·rw [Nat.zero_add, World.ownsRow.cellAt h _ (by omega)]; exact e1
theorem flatN_put (A B : List ND) (x y : ND) : ((flatN (A ++ x :: B)).set (A.length * 2) (.int .i64 y.who)).set (A.length * 2 + 1) (.int .i64 y.v) = flatN (A ++ y :: B) := by
 have hl : A.length * 2 = (flatN A).length := (flatN_len A).symm
 rw [flatN_app, flatN_app, hl]
 have e0 := setApp (flatN (x :: B)) 0 (Value.int .i64 y.who) (flatN A)
 rw [Nat.add_zero] at e0
 rw [e0, setApp]
 rfl
theorem flatN_rep (n : Nat) : flatN (List.replicate n ⟨0, 0⟩) = (madeCells #[.int .i64 0, .int .i64 0] (n * 2)).toList := by
 apply List.ext_getElem?
 intro j
 by_cases hj : j < n * 2
 ·have h1 : (List.replicate n (⟨0, 0⟩ : ND))[j / 2]? = some ⟨0, 0⟩ := by rw [List.getElem?_replicate, if_pos (by omega)]
  obtain ⟨e0, e1⟩ := flatN_at _ _ _ h1
  have hm : (madeCells #[.int .i64 0, .int .i64 0] (n * 2)).toList[j]? = some (.int .i64 0) := by
   simp [madeCells, hj]
   rcases (show j % 2 = 0 ∨ j % 2 = 1 by omega) with h | h <;> rw [h] <;> rfl
  rw [hm]
  rcases (show j % 2 = 0 ∨ j % 2 = 1 by omega) with h | h
  ·rw [show j = j / 2 * 2 by omega, e0]
  ·rw [show j = j / 2 * 2 + 1 by omega, e1]
 ·rw [List.getElem?_eq_none (by rw [flatN_len]; simp; omega), List.getElem?_eq_none (by rw [Array.length_toList, size_madeCells]; omega)]
theorem toNote_any (a b : Int) (w : World) : Calls Tryz.prog 72 #[.agg #[.int .i64 a, .int .i64 b]] w fun e w' => e = .returned (.agg #[.int .i64 a, .int .i64 b]) ∧ Below w.heap.size w w' := by
 go_enter Tryz.func72, Tryz.ntmps72
 go_wp2
 exact bodyPost_ret (v := .agg #[.int .i64 a, .int .i64 b]) (by simp [results, Tryz.results72, go_sem]) rfl ⟨rfl, (((Below.refl _ _).alloc (Nat.le_refl _) _).alloc (by simp) _).alloc (by simp; omega) _⟩
theorem mkN (n : Nat) (hn : n ≤ 1048576) (w : World) : (Instr.makeSlice 51 (.int .i64 (n : Int)) (.int .i64 (n : Int))).run Tryz.prog w = .ok (.slice (some ⟨w.heap.size, 0, none⟩) n n) (w.alloc (.cells (madeCells #[.int .i64 0, .int .i64 0] (n * 2)) 86)) := by
 have h := run_make (P := Tryz.prog) w 51 86 _ (.agg #[.int .i64 0, .int .i64 0]) Tryz.underlying51 rfl rfl .i64 .i64 n n (by omega) (Int.le_refl _) (by show (16 : Int) * _ ≤ _; omega) (by omega)
 have e : (Value.agg #[.int .i64 0, .int .i64 0]).cells = #[.int .i64 0, .int .i64 0] := rfl
 have e' : ∀ t, Tryz.prog.info? 86 = some t → t.size = 2 := by intro t h; cases h; rfl
 rw [e, e' _ rfl] at h
 simpa using h
set_option maxHeartbeats 1000000 in
theorem toNoteS_own (s : Option Addr) (c lo hi : Nat) (l : List ND) (w : World) (h : NtsR w lo hi s l) (hB : hi ≤ w.heap.size) (hl : l.length ≤ 1048576) :
  Calls Tryz.prog 34 #[.slice s l.length c] w fun e w' => e = .returned (.slice (some ⟨w.heap.size, 0, none⟩) l.length l.length) ∧ OwnD w' w.heap.size (.slice (some ⟨w.heap.size, 0, none⟩) l.length l.length) l ∧ Below w.heap.size w w' ∧ w.heap.size < w'.heap.size := by
 have hmk := mkN l.length hl
 have HC : Hid (NtsR w lo hi s l) := h
 clear h
 go_enter Tryz.func34, Tryz.ntmps34
 go_wp2
 clear hmk
 go_loopw [4] (fun i wr => ∃ k : Nat, k ≤ l.length ∧ i = .int .i64 k ∧ Below w.heap.size w wr ∧ w.heap.size < wr.heap.size ∧ wr.ownsRow w.heap.size 86 2 (.slice (some ⟨w.heap.size, 0, none⟩) l.length l.length) l.length (flatN (l.take k ++ List.replicate (l.length - k) ⟨0, 0⟩))) (fun i _ => l.length - (intOf i).toNat)
 case atStart =>
  refine ⟨0, Nat.zero_le _, rfl, (Below.refl _ _).alloc (Nat.le_refl _) _, by simp, ?_⟩
  have h0 := World.ownsRow_lit (base := w.heap.size) (e := 86) (size := 2) w (madeCells #[.int .i64 0, .int .i64 0] (l.length * 2)) l.length (Nat.le_refl _) (by unfold maxLen; omega) (size_madeCells _ _)
  rw [← flatN_rep] at h0
  simpa using h0
 case round =>
  obtain ⟨k, hk, rfl, hb, hsz, ho⟩ := hrel
  have HB : Hid (Below w.heap.size w wr) := hb
  have HO := (show Hid _ from ho)
  clear hb ho
  by_cases hlt : k < l.length
  ·obtain ⟨t, ht⟩ : ∃ t, l[k]? = some t := ⟨_, List.getElem?_eq_getElem hlt⟩
   obtain ⟨g, off, hs, hg, hc⟩ : ∃ g off, s = some ⟨g, off, none⟩ ∧ g < w.heap.size ∧ NtR w g (off + k * 2) t := by
    rcases HC.out with h | ⟨g, off, a, b, d, e⟩
    ·rw [h] at hlt; simp at hlt
    ·exact ⟨g, off, a, by omega, e k t ht⟩
   subst hs
   have f0 := (HB.out.cell (p := ⟨g, off + k * 2, none⟩) hg).trans hc.1
   have f1 := (HB.out.cell (p := ⟨g, off + k * 2 + 1, none⟩) hg).trans hc.2
   have HT : Hid (l[k]? = some t) := ht
   clear ht hc
   obtain ⟨ta, tb⟩ := t
   simp only at f0 f1
   have b0 : (0 : Int) ≤ (k : Int) := by omega
   have b1 : (k : Int) < (l.length : Int) := by omega
   go_wp2_with fail
   refine (toNote_any ta tb _).mono ?_
   rintro e w1 ⟨rfl, hb1⟩
   have HB1 : Hid (Below wr.heap.size wr w1) := hb1
   have hlr : (l.take k ++ List.replicate (l.length - k) (⟨0, 0⟩ : ND)).length = l.length := by simp; omega
   have HO1 : Hid (w1.ownsRow w.heap.size 86 2 (.slice (some ⟨w.heap.size, 0, none⟩) l.length l.length) l.length (flatN (l.take k ++ List.replicate (l.length - k) ⟨0, 0⟩))) := ownKeep' HO.out (fun k hk => hb1.block k (World.ownsRow.lt HO.out _ hk).2)
   clear hb1 f0 f1
   have cc : ∀ j, j < 2 → ∃ u, w1.cell? ⟨w.heap.size, k * 2 + j, none⟩ = some u := fun j hj => by
    rw [World.ownsRow.cellAt HO1.out (k * 2 + j) (by omega)]
    exact ⟨_, List.getElem?_eq_getElem (by rw [flatN_len, hlr]; omega)⟩
   have hfz : ∀ j, w1.frozen? ⟨w.heap.size, j, none⟩ = false := fun j => World.ownsRow.frozenAt HO1.out j
   obtain ⟨u0, g0⟩ := cc 0 (by omega)
   obtain ⟨u1, g1⟩ := cc 1 (by omega)
   rw [Nat.add_zero] at g0
   clear cc hlr
   go_wp2
   go_roundw
   case rel =>
    have hs1 := HB1.out.size
    show ∃ k' : Nat, _ ∧ _ ∧ Below w.heap.size w (set2 w1 w.heap.size (k * 2) (.int .i64 ta) (.int .i64 tb)) ∧ _ < (set2 w1 w.heap.size (k * 2) (.int .i64 ta) (.int .i64 tb)).heap.size ∧ World.ownsRow (set2 w1 w.heap.size (k * 2) (.int .i64 ta) (.int .i64 tb)) _ _ _ _ _ _
    refine ⟨k + 1, by omega, by go_num, set2_below (HB.out.trans (HB1.out.mono (by omega))) (Nat.le_refl _), by rw [set2_size]; omega, ?_⟩
    have p := (World.ownsRow.stored (World.ownsRow.stored HO1.out (k * 2) (.int .i64 ta)).1 (k * 2 + 1) (.int .i64 tb)).1
    have e3 : l.length - k = (l.length - (k + 1)) + 1 := by omega
    have e4 : l.take (k + 1) = l.take k ++ [⟨ta, tb⟩] := by rw [List.take_add_one, HT.out]; rfl
    have e5 : (l.take k).length = k := by rw [List.length_take]; omega
    have fp := flatN_put (l.take k) (List.replicate (l.length - (k + 1)) ⟨0, 0⟩) ⟨0, 0⟩ ⟨ta, tb⟩
    rw [e5] at fp
    rw [e3, List.replicate_succ, fp] at p
    rw [e4, List.append_assoc]
    exact p
   case measure => simp [intOf]; omega
  ·go_wp2
   go_ret
   have : k = l.length := by omega
   subst this
   have h1 := HO.out
   simp only [List.take_length, Nat.sub_self, List.replicate_zero, List.append_nil] at h1
   exact ⟨rfl, h1, HB.out, hsz⟩
theorem szNoteS_all (s : Option Addr) (n c : Nat) (q : Int) (w : World) (hn : n ≤ maxLen) (hq : 0 ≤ q) (hq' : q ≤ 1048576) : Calls Tryz.prog 20 #[.slice s n c, .int .i64 q] w fun e w' => e = .returned (.int .i64 (if q < n then -1 else q - (n : Int))) ∧ w' = w := by
 unfold maxLen at hn
 by_cases h : q < n
 ·rw [if_pos h]
  have h1 : q - (n : Int) < 0 := by omega
  go_enter Tryz.func20, Tryz.ntmps20
  go_wp2
  go_ret
  exact ⟨rfl, rfl⟩
 ·rw [if_neg h]
  have h1 : ¬ q - (n : Int) < 0 := by omega
  go_enter Tryz.func20, Tryz.ntmps20
  go_wp2
  go_ret
  exact ⟨rfl, rfl⟩
theorem eqNote_alike (a b : Int) (w : World) : Calls Tryz.prog 94 #[.agg #[.int .i64 a, .int .i64 b], .agg #[.int .i64 a, .int .i64 b]] w fun e w' => e = .returned (.bool true) ∧ Below w.heap.size w w' := by
 go_enter Tryz.func94, Tryz.ntmps94
 go_wp2
 go_ret
 exact ⟨rfl, ((Below.refl _ _).alloc (Nat.le_refl _) _).alloc (by simp) _⟩
set_option maxHeartbeats 2000000 in
theorem eqNoteS_alike (s s' : Option Addr) (c c' lo hi lo' hi' : Nat) (l : List ND) (w : World) (h : NtsR w lo hi s l) (h' : NtsR w lo' hi' s' l) (hB : hi ≤ w.heap.size) (hB' : hi' ≤ w.heap.size) (hl : l.length ≤ 2000000) :
  Calls Tryz.prog 47 #[.slice s l.length c, .slice s' l.length c'] w fun e w' => e = .returned (.bool true) ∧ Below w.heap.size w w' := by
 have H1 : Hid (NtsR w lo hi s l) := h
 have H2 : Hid (NtsR w lo' hi' s' l) := h'
 clear h h'
 have hne : ((l.length : Int) != (l.length : Int)) = false := by simp
 go_enter Tryz.func47, Tryz.ntmps47
 go_wp2
 go_loopw [5] (fun i wr => ∃ k : Nat, k ≤ l.length ∧ i = .int .i64 k ∧ Below w.heap.size w wr) (fun i _ => l.length - (intOf i).toNat)
 case atStart => exact ⟨0, Nat.zero_le _, rfl, Below.refl _ _⟩
 case round =>
  obtain ⟨k, hk, rfl, hb⟩ := hrel
  have HB : Hid (Below w.heap.size w wr) := hb
  have hsz := hb.size
  clear hb
  by_cases hlt : k < l.length
  ·obtain ⟨t, ht⟩ : ∃ t, l[k]? = some t := ⟨_, List.getElem?_eq_getElem hlt⟩
   obtain ⟨g, off, hs, hg, f0, f1⟩ : ∃ g off, s = some ⟨g, off, none⟩ ∧ g < w.heap.size ∧ NtR wr g (off + k * 2) t := by
    rcases H1.out with h | ⟨g, off, a, b, d, e⟩
    ·rw [h] at hlt; simp at hlt
    ·exact ⟨g, off, a, by omega, (HB.out.cell (p := ⟨g, _, none⟩) (by show g < _; omega)).trans (e k t ht).1, (HB.out.cell (p := ⟨g, _, none⟩) (by show g < _; omega)).trans (e k t ht).2⟩
   obtain ⟨g', off', hs', hg', f0', f1'⟩ : ∃ g off, s' = some ⟨g, off, none⟩ ∧ g < w.heap.size ∧ NtR wr g (off + k * 2) t := by
    rcases H2.out with h | ⟨g, off, a, b, d, e⟩
    ·rw [h] at hlt; simp at hlt
    ·exact ⟨g, off, a, by omega, (HB.out.cell (p := ⟨g, _, none⟩) (by show g < _; omega)).trans (e k t ht).1, (HB.out.cell (p := ⟨g, _, none⟩) (by show g < _; omega)).trans (e k t ht).2⟩
   subst hs
   subst hs'
   obtain ⟨ta, tb⟩ := t
   simp only at f0 f1 f0' f1'
   clear ht
   have b0 : (0 : Int) ≤ (k : Int) := by omega
   have b1 : (k : Int) < (l.length : Int) := by omega
   go_wp2_with fail
   first | go_region_with (go_at_call 94; refine (eqNote_alike ta tb _).mono ?_; rintro e w1 ⟨rfl, hb1⟩) | fail
   all_goals
    have HB1 : Hid (Below wr.heap.size wr w1) := ⟨hb1.os, hb1.tape, hb1.output, hb1.size, hb1.block⟩
    clear hb1
    go_wp2
    go_roundw
    case rel => exact ⟨k + 1, by omega, by go_num, HB.out.trans (HB1.out.mono hsz)⟩
    case measure => simp [intOf]; omega
  ·go_wp2
   go_ret
   exact ⟨rfl, HB.out⟩
end
section
set_option linter.unusedSimpArgs false
set_option linter.unusedVariables false
set_option maxRecDepth 100000
open Go.RowKit
structure TD where
 pc : Int
 regs : List Int
 st : Int
structure CD where
 cap : Int
 list : List Int
 cl : Bool
structure SD where
 ths : List TD
 chs : List CD
 tr : List ND
/- a thread or a channel as three cells -/
structure Rec where
 a : Value
 l : List Int
 z : Value
def TD.rec3 (t : TD) : Rec := ⟨.int .i64 t.pc, t.regs, .int .i64 t.st⟩
def CD.rec3 (t : CD) : Rec := ⟨.int .i64 t.cap, t.list, .bool t.cl⟩
def RecR (w : World) (lo hi g off : Nat) (r : Rec) : Prop :=
 ∃ s c, w.cell? ⟨g, off, none⟩ = some r.a ∧ w.cell? ⟨g, off + 1, none⟩ = some (.slice s r.l.length c) ∧ w.cell? ⟨g, off + 2, none⟩ = some r.z ∧ IntsR w lo hi s r.l
def RecsR (w : World) (lo hi : Nat) (s : Option Addr) (l : List Rec) : Prop :=
 l = [] ∨ ∃ g off, s = some ⟨g, off, none⟩ ∧ lo ≤ g ∧ g < hi ∧ ∀ (i : Nat) (r : Rec), l[i]? = some r → RecR w lo hi g (off + i * 3) r
def SrcR (w : World) (lo hi : Nat) (s1 s2 s3 : Option Addr) (d : SD) : Prop := RecsR w lo hi s1 (d.ths.map TD.rec3) ∧ RecsR w lo hi s2 (d.chs.map CD.rec3) ∧ NtsR w lo hi s3 d.tr
theorem RecR.keep {w w' : World} {lo hi g off : Nat} {r : Rec} (h : RecR w lo hi g off r) (hb : Keep lo hi w w') (hc : ∀ j, w'.cell? ⟨g, j, none⟩ = w.cell? ⟨g, j, none⟩) : RecR w' lo hi g off r := by
 obtain ⟨s, c, h1, h2, h3, h4⟩ := h
 exact ⟨s, c, (hc _).trans h1, (hc _).trans h2, (hc _).trans h3, h4.keep hb⟩
theorem RecsR.keep {w w' : World} {lo hi : Nat} {s : Option Addr} {l : List Rec} (h : RecsR w lo hi s l) (hb : Keep lo hi w w') : RecsR w' lo hi s l := by
 rcases h with h | ⟨g, o, hs, h1, h2, hc⟩
 ·exact .inl h
 ·exact .inr ⟨g, o, hs, h1, h2, fun i r hi => (hc i r hi).keep hb (fun j => hb.cell h1 h2)⟩
theorem SrcR.keep {w w' : World} {lo hi : Nat} {s1 s2 s3 : Option Addr} {d : SD} (h : SrcR w lo hi s1 s2 s3 d) (hb : Keep lo hi w w') : SrcR w' lo hi s1 s2 s3 d := ⟨h.1.keep hb, h.2.1.keep hb, h.2.2.keep hb⟩
/- owned rows -/
def flatR : List (Rec × Value) → List Value
 | [] => []
 | x :: t => [x.1.a, x.2, x.1.z] ++ flatR t
theorem flatR_len : ∀ L : List (Rec × Value), (flatR L).length = L.length * 3
 | [] => rfl
 | x :: t => by simp [flatR, flatR_len t]; omega
theorem flatR_app : ∀ (a b : List (Rec × Value)), flatR (a ++ b) = flatR a ++ flatR b
 | [], b => rfl
 | x :: r, b => by simp [flatR, flatR_app r b]
theorem flatR_at : ∀ (L : List (Rec × Value)) (i : Nat) (x : Rec × Value), L[i]? = some x → (flatR L)[i * 3]? = some x.1.a ∧ (flatR L)[i * 3 + 1]? = some x.2 ∧ (flatR L)[i * 3 + 2]? = some x.1.z
 | [], i, x, h => by simp at h
 | y :: r, 0, x, h => by
  simp at h
  subst h
  exact ⟨rfl, rfl, rfl⟩
 | y :: r, i + 1, x, h => by
  have h' : r[i]? = some x := by simpa using h
  have e := flatR_at r i x h'
  have e0 : (i + 1) * 3 = i * 3 + 3 := by omega
  rw [e0]
  exact e
structure OwnQ (w : World) (base : Nat) (e : TypeId) (v : Value) (L : List (Rec × Value)) : Prop where
 row : w.ownsRow base e 3 v L.length (flatR L)
 inn : ∀ (i : Nat) (x : Rec × Value), L[i]? = some x → OwnN w base x.2 x.1.l
 sep : ∀ (i j : Nat) (x y : Rec × Value) (k : Nat), L[i]? = some x → L[j]? = some y → i ≠ j → x.2.ownBlock = some k → y.2.ownBlock ≠ some k
theorem OwnQ.keep {w w' : World} {base : Nat} {e : TypeId} {v : Value} {L : List (Rec × Value)} (h : OwnQ w base e v L) (hb : ∀ k, base ≤ k → k < w.heap.size → w'.heap[k]? = w.heap[k]?) : OwnQ w' base e v L :=
 ⟨ownKeep' h.row (fun k hk => hb k (World.ownsRow.lt h.row _ hk).1 (World.ownsRow.lt h.row _ hk).2), fun i x hx => ownKeep' (h.inn i x hx) (fun k hk => hb k (World.ownsRow.lt (h.inn i x hx) _ hk).1 (World.ownsRow.lt (h.inn i x hx) _ hk).2), h.sep⟩
theorem OwnQ.below {w w' : World} {base : Nat} {e : TypeId} {v : Value} {L : List (Rec × Value)} (h : OwnQ w base e v L) (hb : Below w.heap.size w w') : OwnQ w' base e v L := h.keep fun k _ hk => hb.block k hk
theorem OwnQ.low {w : World} {b b' : Nat} {e : TypeId} {v : Value} {L : List (Rec × Value)} (h : OwnQ w b e v L) (hb : b' ≤ b) : OwnQ w b' e v L := ⟨ownLow' h.row hb, fun i x hx => ownLow' (h.inn i x hx) hb, h.sep⟩
theorem OwnQ.recs {w : World} {base : Nat} {e : TypeId} {v : Value} {L : List (Rec × Value)} (h : OwnQ w base e v L) : ∃ s c, v = .slice s L.length c ∧ RecsR w base w.heap.size s (L.map Prod.fst) := by
 rcases Nat.eq_zero_or_pos L.length with h0 | hpos
 ·obtain ⟨s, c, e⟩ := ownSl h.row
  exact ⟨s, c, e, .inl (by rw [List.length_eq_zero_iff.1 h0]; rfl)⟩
 ·obtain ⟨g, cap, rfl, -⟩ := World.ownsRow.form h.row hpos
  have hlt := World.ownsRow.lt h.row g rfl
  refine ⟨_, _, rfl, .inr ⟨g, 0, rfl, hlt.1, hlt.2, fun i r hr => ?_⟩⟩
  rw [List.getElem?_map] at hr
  obtain ⟨x, hx, rfl⟩ := Option.map_eq_some_iff.1 hr
  have hi : i < L.length := (List.getElem?_eq_some_iff.1 hx).1
  obtain ⟨e0, e1, e2⟩ := flatR_at L i x hx
  obtain ⟨s, c, hv, hI⟩ := ownN_ints (h.inn i x hx)
  refine ⟨s, c, ?_, ?_, ?_, hI⟩
  ·rw [Nat.zero_add, World.ownsRow.cellAt h.row _ (by omega)]; exact e0
  ·rw [Nat.zero_add, World.ownsRow.cellAt h.row _ (by omega), e1, hv]
  ·rw [Nat.zero_add, World.ownsRow.cellAt h.row _ (by omega)]; exact e2
structure OwnS (w : World) (base : Nat) (v1 v2 v3 : Value) (L1 L2 : List (Rec × Value)) (d : SD) : Prop where
 e1 : L1.map Prod.fst = d.ths.map TD.rec3
 e2 : L2.map Prod.fst = d.chs.map CD.rec3
 t : OwnQ w base 116 v1 L1
 c : OwnQ w base 118 v2 L2
 n : OwnD w base v3 d.tr
 sep : ∀ (i j : Nat) (x y : Rec × Value) (k : Nat), L1[i]? = some x → L2[j]? = some y → x.2.ownBlock = some k → y.2.ownBlock ≠ some k
theorem OwnS.src {w : World} {base : Nat} {v1 v2 v3 : Value} {L1 L2 : List (Rec × Value)} {d : SD} (h : OwnS w base v1 v2 v3 L1 L2 d) : ∃ s1 c1 s2 c2 s3 c3, v1 = .slice s1 d.ths.length c1 ∧ v2 = .slice s2 d.chs.length c2 ∧ v3 = .slice s3 d.tr.length c3 ∧ SrcR w base w.heap.size s1 s2 s3 d := by
 have l1 : L1.length = d.ths.length := by have := congrArg List.length h.e1; simpa using this
 have l2 : L2.length = d.chs.length := by have := congrArg List.length h.e2; simpa using this
 obtain ⟨s1, c1, q1, r1⟩ := h.t.recs
 obtain ⟨s2, c2, q2, r2⟩ := h.c.recs
 obtain ⟨s3, c3, q3, r3⟩ := h.n.nts
 rw [l1] at q1
 rw [l2] at q2
 rw [h.e1] at r1
 rw [h.e2] at r2
 exact ⟨s1, c1, s2, c2, s3, c3, q1, q2, q3, r1, r2, r3⟩
def SFits (d : SD) : Prop := (d.ths.length ≤ 1048576 ∧ ∀ (i : Nat) (t : TD), d.ths[i]? = some t → t.regs.length ≤ 1048576) ∧ (d.chs.length ≤ 1048576 ∧ ∀ (i : Nat) (t : CD), d.chs[i]? = some t → t.list.length ≤ 1048576) ∧ d.tr.length ≤ 1048576
end
section
set_option linter.unusedSimpArgs false
set_option linter.unusedVariables false
set_option maxRecDepth 100000
open Go.RowKit
theorem IntsR.pos {w : World} {lo hi : Nat} {s : Option Addr} {l : List Int} (h : IntsR w lo hi s l) (hl : 0 < l.length) : ∃ g off, s = some ⟨g, off, none⟩ ∧ lo ≤ g ∧ g < hi ∧ ∀ i, i < l.length → w.cell? ⟨g, off + i, none⟩ = some (.int .i64 (l.getD i 0)) := by
 rcases h with rfl | h
 ·simp at hl
 ·exact h
end
end Go.Proofs.YtcfehbfjillnoaaGreat
