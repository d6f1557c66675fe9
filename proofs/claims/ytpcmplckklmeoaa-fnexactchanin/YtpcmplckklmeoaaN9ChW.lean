/- Channels compared, marked, held; ChanIn of both sides. Conditions: what comes in is counted. -/
import Derived.Test.YtpcmplckklmeoaaN9Chan
import Derived.Test.YtpcmplckklmeoaaN9ChanS
namespace Go.Proofs.Ytpcmplckklmeoaa
set_option linter.unusedSimpArgs false
set_option linter.unusedVariables false
set_option maxRecDepth 100000
open Go.RowKit

structure Bo3 (G : Nat) (W : World) (a b c : Value) : Prop where
  c0 : W.cell? ⟨G, 0, none⟩ = some a
  c1 : W.cell? ⟨G, 1, none⟩ = some b
  c2 : W.cell? ⟨G, 2, none⟩ = some c
theorem Bo3.new (w : World) (a b c : Value) (T : TypeId) : ∃ W, w.alloc (.cells #[a, b, c] T) = W ∧ Bo3 w.heap.size W a b c ∧ Below w.heap.size w W ∧ W.heap.size = w.heap.size + 1 :=
  ⟨_, rfl, ⟨by simp [go_sem], by simp [go_sem], by simp [go_sem]⟩, (Below.refl _ _).alloc (Nat.le_refl _) _, by simp⟩
theorem Bo3.keep {G : Nat} {W W' : World} {a b c : Value} (h : Bo3 G W a b c) (hk : Keep G (G + 1) W W') : Bo3 G W' a b c := ⟨(hk.cell (p := ⟨G, 0, none⟩) (Nat.le_refl _) (Nat.lt_succ_self _)).trans h.c0, (hk.cell (p := ⟨G, 1, none⟩) (Nat.le_refl _) (Nat.lt_succ_self _)).trans h.c1, (hk.cell (p := ⟨G, 2, none⟩) (Nat.le_refl _) (Nat.lt_succ_self _)).trans h.c2⟩

theorem eqChanN {lo hi lo' hi' : Nat} {s s' : Option Addr} (cap : Int) (cl : Bool) (c c' : Nat) {l : List Int} {w : World} (h : IntsR w lo hi s l) (h' : IntsR w lo' hi' s' l) (hB : hi ≤ w.heap.size) (hB' : hi' ≤ w.heap.size) (hl : l.length ≤ 1048577) :
    Calls Try.prog 14 #[.agg #[.int .i64 cap, .slice s l.length c, .bool cl], .agg #[.int .i64 cap, .slice s' l.length c', .bool cl]] w fun e w' => e = .returned (.bool true) ∧ Below w.heap.size w w' := by
  have H : Hid (IntsR w lo hi s l) := h
  have H' : Hid (IntsR w lo' hi' s' l) := h'
  clear h h'
  have hd : (cl != cl) = false := by simp
  go_enter Try.func14, Try.ntmps14
  go_wp2_with fail
  obtain ⟨W, hW⟩ : ∃ W, (w.alloc (.cells #[.int .i64 cap, .slice s l.length c, .bool cl] 32)).alloc (.cells #[.int .i64 cap, .slice s' l.length c', .bool cl] 32) = W := ⟨_, rfl⟩
  have kw : Below w.heap.size w W := by rw [← hW]; exact ((Below.refl _ _).alloc (Nat.le_refl _) _).alloc (by simp) _
  have zw := kw.size
  have x0 : X3 W w.heap.size (.int .i64 cap) (.slice s l.length c) (.bool cl) := by rw [← hW]; exact (X3.new w _ _ _ _).below ((Below.refl _ _).alloc (Nat.le_refl _) _) (by simp)
  have x1 : X3 W (w.heap.size + 1) (.int .i64 cap) (.slice s' l.length c') (.bool cl) := by rw [← hW]; have := X3.new (w.alloc (.cells #[.int .i64 cap, .slice s l.length c, .bool cl] 32)) (.int .i64 cap) (.slice s' l.length c') (.bool cl) 32; simpa using this
  rw [hW]
  clear hW
  have KW : Hid (Below w.heap.size w W) := kw
  have R1 := H.out.keep (Keep.of_below kw hB)
  have R2 := H'.out.keep (Keep.of_below kw hB')
  have X0 : Hid (X3 W w.heap.size (.int .i64 cap) (.slice s l.length c) (.bool cl)) := x0
  have X1 : Hid (X3 W (w.heap.size + 1) (.int .i64 cap) (.slice s' l.length c') (.bool cl)) := x1
  clear kw x0 x1
  refine (eqN_true c c' R1 R2 (by omega) (by omega) hl).mono ?_
  rintro e w1 ⟨rfl, hb⟩
  have z1 := hb.size
  obtain ⟨a0, a1, a2, a3, a4⟩ := X0.out.below hb X0.out.lt
  obtain ⟨b0, b1, b2, b3, b4⟩ := X1.out.below hb X1.out.lt
  have HB : Hid (Below W.heap.size W w1) := hb
  clear hb R1 R2
  go_wp2
  go_ret
  exact ⟨rfl, KW.out.trans (HB.out.mono zw)⟩
theorem markChanN {lo hi c : Nat} {s : Option Addr} {l : List Int} {w : World} (cap : Int) (cl : Bool) (q : Int) (h : NB w lo hi (.slice s l.length c) l) (hB : hi ≤ w.heap.size) (hn : l.length ≤ 1000) (hq : 0 ≤ q) (hq' : q ≤ 1000) :
    Calls Try.prog 18 #[.agg #[.int .i64 cap, .slice s l.length c, .bool cl], .int .i64 q] w fun e w' => e = .returned (.int .i64 (q + l.length)) ∧ NB w' lo hi (.slice s l.length c) (relN q l.length) ∧ Exc lo hi w w' := by
  have HN : Hid (NB w lo hi (.slice s l.length c) l) := h
  clear h
  go_enter Try.func18, Try.ntmps18
  go_wp2_with fail
  refine (markN_exc q (HN.out.keep (Keep.of_below ((Below.refl w.heap.size w).alloc (Nat.le_refl _) _) hB)) (by omega) hq (by omega)).mono ?_
  rintro e w1 ⟨rfl, hm, he⟩
  have HM := (show Hid _ from hm)
  have HE := (show Hid _ from he)
  clear hm he
  go_wp2
  go_ret
  have h1 := HE.out
  refine ⟨rfl, HM.out, ⟨h1.os, h1.tape, h1.out, by have := h1.size; simp at this; omega, fun k hk hne => (h1.blk k (by simp; omega) hne).trans (Below.heap_alloc _ _ _ hk)⟩⟩
theorem heldChanN {lo hi c n : Nat} {s : Option Addr} {w : World} (cap : Int) (cl : Bool) (q : Int) (h : NB w lo hi (.slice s n c) (relN q n)) (hn : n ≤ 1000) (hq : 0 ≤ q) (hq' : q ≤ 1000) :
    Calls Try.prog 19 #[.agg #[.int .i64 cap, .slice s n c, .bool cl], .int .i64 q] w fun e w' => e = .returned (.int .i64 (q + n)) ∧ Below w.heap.size w w' := by
  have HN : Hid (NB w lo hi (.slice s n c) (relN q n)) := h
  clear h
  have hp : ¬ (q + (n : Int) < 0) := by omega
  go_enter Try.func19, Try.ntmps19
  go_wp2_with fail
  refine (heldN_any lo _ n q _ (HN.out.o.alloc _) (by omega) hq (by omega)).mono ?_
  rintro e w1 ⟨rfl, hw1⟩
  subst w1
  go_wp2
  go_ret
  exact ⟨rfl, (Below.refl _ _).alloc (Nat.le_refl _) _⟩
theorem chan_len (m : List (List WD)) (l : List Int) (n : Int) : (chanM m l n).ls.length ≤ 4 := by
  unfold chanM
  split
  · rename_i h
    rw [Bool.and_eq_true, Bool.and_eq_true, decide_eq_true_eq] at h
    rcases baseV_cases l n with hb | ⟨b, r, k, hn, hk, hb, hr, r1, r4, fit⟩
    · omega
    · subst hn
      have hf := h.2
      rw [hb, Int.toNat_natCast, Int.toNat_natCast, hr, Int.toNat_natCast] at hf
      unfold fitB at hf
      rw [Bool.and_eq_true, Bool.and_eq_true, decide_eq_true_eq, decide_eq_true_eq] at hf
      show (listV m _ _).length ≤ 4
      rw [listV_len, hb, Int.toNat_natCast]
      omega
  · simp [zeroCH]
theorem implChanC (s s1 : Option Addr) (c c1 lo hi lo1 hi1 : Nat) (m : List (List WD)) (l : List Int) (n : Int) (w : World) (cap : Int) (ls : List Int) (cl ok : Bool) (h : MemR w lo hi s m) (h1 : IntsR w lo1 hi1 s1 l) (hB : hi ≤ w.heap.size) (hB1 : hi1 ≤ w.heap.size) (hl : l.length ≤ 2000000) (hm : m.length + szR m ≤ 2000000) (hc : chanM m l n = ⟨cap, ls, cl, ok⟩) :
    Calls Try.prog 13 #[.agg #[.slice s m.length c], .slice s1 l.length c1, .int .i64 n] w fun e w' => ∃ s c, e = .returned (.tuple #[.agg #[.int .i64 cap, .slice s ls.length c, .bool cl], .bool ok]) ∧ IntsR w' w.heap.size w'.heap.size s ls ∧ NB w' w.heap.size w'.heap.size (.slice s ls.length c) ls ∧ Below w.heap.size w w' := by
  refine (implChanIn_any s s1 c c1 lo hi lo1 hi1 m l n w h h1 hB hB1 hl hm).mono ?_
  rintro e w' ⟨v, he, ho, hb⟩
  rw [hc] at he ho
  obtain ⟨s', c', rfl, hi', hn'⟩ := NB.ints ho
  exact ⟨s', c', he, hi', hn', hb⟩
theorem specChanC (s s1 : Option Addr) (c c1 lo hi lo1 hi1 : Nat) (m : List (List WD)) (l : List Int) (n : Int) (w : World) (cap : Int) (ls : List Int) (cl ok : Bool) (h : MemR w lo hi s m) (h1 : IntsR w lo1 hi1 s1 l) (hB : hi ≤ w.heap.size) (hB1 : hi1 ≤ w.heap.size) (hl : l.length ≤ 2000000) (hm : m.length + szR m ≤ 2000000) (hc : chanM m l n = ⟨cap, ls, cl, ok⟩) :
    Calls Try.prog 11 #[.agg #[.slice s m.length c], .slice s1 l.length c1, .int .i64 n] w fun e w' => ∃ s c, e = .returned (.tuple #[.agg #[.int .i64 cap, .slice s ls.length c, .bool cl], .bool ok]) ∧ IntsR w' w.heap.size w'.heap.size s ls ∧ NB w' w.heap.size w'.heap.size (.slice s ls.length c) ls ∧ Below w.heap.size w w' := by
  refine (specChanIn_any s s1 c c1 lo hi lo1 hi1 m l n w h h1 hB hB1 hl hm).mono ?_
  rintro e w' ⟨v, he, ho, hb⟩
  rw [hc] at he ho
  obtain ⟨s', c', rfl, hi', hn'⟩ := NB.ints ho
  exact ⟨s', c', he, hi', hn', hb⟩

end Go.Proofs.Ytpcmplckklmeoaa
