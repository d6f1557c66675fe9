/- TraceText of the program and of the specification: at every row of notes, its text. Conditions: at most 1048576 notes, numbers of 64 bits, strconv's table as laid. -/
import Derived.Test.YtfgikjipkfggbaaGreatDoorT16Pure
import Derived.Test.YtfgikjipkfggbaaGreatDoorT16Env
import Derived.Test.YtfgikjipkfggbaaGreatDoorQuietC
import Derived.Test.YtfgikjipkfggbaaGreatDoorIntRows
import Derived.Test.YtfgikjipkfggbaaGreatDoorDigits
import Derived.Test.YtfgikjipkfggbaaGreatDoorT16Row
import Derived.Test.YtfgikjipkfggbaaGreatDoorSrcDefs
namespace Go.Proofs.YtfgikjipkfggbaaGreatDoor
set_option linter.unusedSimpArgs false
set_option linter.unusedVariables false
set_option maxRecDepth 100000
open Go.RowKit

def I64 (n : Int) : Prop := -9223372036854775808 ≤ n ∧ n ≤ 9223372036854775807
def ntT (l : List ND) : List (List UInt8) := l.map fun x => noteT x.who x.v
def trT (l : List ND) : List UInt8 := if l = [] then [45] else Lib.join (ntT l) [32]
def NtB (l : List ND) : Prop := ∀ (i : Nat) (t : ND), l[i]? = some t → I64 t.who ∧ I64 t.v
theorem noteT_len {a b : Int} (ha : I64 a) (hb : I64 b) : (noteT a b).length ≤ 41 := by
  have h1 := itoa_len ha.1 ha.2
  have h2 := itoa_len hb.1 hb.2
  simp [noteT]; omega
theorem ntT_each {l : List ND} (h : NtB l) : ∀ x ∈ ntT l, x.length ≤ 41 := by
  intro x hx
  obtain ⟨t, ht, rfl⟩ := List.mem_map.1 hx
  obtain ⟨i, hi⟩ := List.getElem?_of_mem ht
  exact noteT_len (h i t hi).1 (h i t hi).2
theorem ntT_join {l : List ND} (h : NtB l) : (Lib.join (ntT l) [32]).length ≤ 42 * l.length := by
  have := join_le 41 (ntT l) [32] (ntT_each h) (by simp)
  simpa [ntT] using this

set_option maxHeartbeats 2000000 in
theorem noteText_any (a b : Int) (ha : I64 a) (hb : I64 b) (w : World) (hE : Env w w.heap.size) : Calls Tryz.prog 31 #[.agg #[.int .i64 a, .int .i64 b]] w fun e w' => e = .returned (.string ⟨(noteT a b).toArray⟩) ∧ Below w.heap.size w w' := by
  have la := itoa_len ha.1 ha.2
  have lb := itoa_len hb.1 hb.2
  have IA : Hid (∀ X, Env X X.heap.size → Calls Tryz.prog 33 #[.int .i64 a] X fun e w' => e = .returned (.string ⟨(Lib.itoa a).toArray⟩) ∧ Below X.heap.size X w') := fun X h => itoa_any a ha.1 ha.2 X h
  have IB : Hid (∀ X, Env X X.heap.size → Calls Tryz.prog 33 #[.int .i64 b] X fun e w' => e = .returned (.string ⟨(Lib.itoa b).toArray⟩) ∧ Below X.heap.size X w') := fun X h => itoa_any b hb.1 hb.2 X h
  unfold noteT
  have HE := hidT hE
  clear ha hb hE
  generalize Lib.itoa a = ta at la IA
  generalize Lib.itoa b = tb at lb IB
  have s1 := addS ta [58] (by simp; omega)
  have s2 := addS (ta ++ [58]) tb (by simp; omega)
  go_enter Tryz.func31, Tryz.ntmps31
  go_wp2_with fail
  obtain ⟨W, hW⟩ : ∃ W, w.alloc (.cells #[.int .i64 a, .int .i64 b] 49) = W := ⟨_, rfl⟩
  have kW : Below w.heap.size w W := by subst hW; exact (Below.refl _ _).alloc (Nat.le_refl _) _
  have sW : w.heap.size < W.heap.size := by subst hW; simp
  have y0 : W.cell? ⟨w.heap.size, 0, none⟩ = some (.int .i64 a) := by subst hW; simp [go_sem]
  have y1 : W.cell? ⟨w.heap.size, 1, none⟩ = some (.int .i64 b) := by subst hW; simp [go_sem]
  rw [hW]
  clear hW
  have hne := ext_ne W
  have u0 := Ext.fit y0 sW
  have u1 := Ext.fit y1 sW
  have KW := hidT kW
  have EW := hidT ((HE.out.keep kW).mono (Nat.le_of_lt sW))
  clear y0 y1 kW
  refine regionExt W (by kernel_rfl) (by kernel_rfl) ?_
  repeat (go_big_quiet_step (first | (rename_i X; go_at_call 33; (with_reducible refine Calls.mono (IA.out _ ((EW.out.keep X.b).mono X.b.size)) ?_); rintro e w3 ⟨rfl, hb3⟩; exact ⟨rfl, X.on hb3⟩) | (rename_i X; go_at_call 33; (with_reducible refine Calls.mono (IB.out _ ((EW.out.keep X.b).mono X.b.size)) ?_); rintro e w3 ⟨rfl, hb3⟩; exact ⟨rfl, X.on hb3⟩) | fail))
  refine wpQuiet_nil ?_
  rintro w3 ⟨X3, rfl⟩
  have KU := hidT (KW.out.trans (X3.b.mono (Nat.le_of_lt sW)))
  clear hne u0 u1
  go_wp2
  go_ret
  refine ⟨?_, KU.out⟩
  show Ending.returned (.string ⟨(ta ++ 58 :: tb).toArray⟩) = _
  simp

theorem nts_at {w : World} {lo hi : Nat} {s : Option Addr} {l : List ND} (h : NtsR w lo hi s l) {k : Nat} {t : ND} (ht : l[k]? = some t) : ∃ g off, s = some ⟨g, off, none⟩ ∧ g < hi ∧ NtR w g (off + k * 2) t := by
  rcases h with h | ⟨g, off, a, b, d, e⟩
  · rw [h] at ht; simp at ht
  · exact ⟨g, off, a, d, e k t ht⟩

/- what TraceText's closure goes by -/
structure TrI (s : Option Addr) (c lo hi B : Nat) (l : List ND) (X : World) : Prop where
  bx : X.cell? ⟨B, 0, none⟩ = some (.slice s l.length c)
  nt : NtsR X lo hi s l
  ev : Env X B
  hi : hi ≤ B
theorem TrI.keep {s : Option Addr} {c lo hi B : Nat} {l : List ND} {X Y : World} (h : TrI s c lo hi B l X) (hb : Below (B + 1) X Y) : TrI s c lo hi B l Y :=
  ⟨(hb.cell (p := ⟨B, 0, none⟩) (Nat.lt_succ_self _)).trans h.bx, h.nt.keep (Keep.of_below hb (Nat.le_succ_of_le h.hi)), h.ev.keep (hb.mono (Nat.le_succ _)), h.hi⟩

set_option maxHeartbeats 2000000 in
theorem trT1_any (s : Option Addr) (c lo hi B : Nat) (l : List ND) (k : Nat) (t : ND) (w : World) (h : TrI s c lo hi B l w) (hn : NtB l) (hB : B < w.heap.size) (hl : l.length ≤ 1048576) (ht : l[k]? = some t) :
    Calls Tryz.prog 30 #[.int .i64 k, .pointer (some ⟨B, 0, none⟩)] w fun e w' => e = .returned (.string ⟨(noteT t.who t.v).toArray⟩) ∧ Below w.heap.size w w' := by
  obtain ⟨g, off, hs, hg, c0, c1⟩ := nts_at h.nt ht
  subst hs
  have hlt : k < l.length := (List.getElem?_eq_some_iff.1 ht).1
  have i0 : (0 : Int) ≤ (k : Int) := by omega
  have i1 : (k : Int) < (l.length : Int) := by omega
  have bx := h.bx
  have HE := hidT (h.ev.mono (Nat.le_of_lt hB))
  have hnt := hn k t ht
  have HN := hidT hnt
  obtain ⟨ta, tb⟩ := t
  simp only at c0 c1 HN ⊢
  clear h hn ht hnt
  go_enter Tryz.func30, Tryz.ntmps30
  go_wp2_with fail
  refine (noteText_any ta tb HN.out.1 HN.out.2 w HE.out).mono ?_
  rintro e w1 ⟨rfl, hb1⟩
  have K1 := hidT hb1
  clear hb1
  go_wp2
  go_ret
  exact ⟨rfl, K1.out⟩

set_option maxHeartbeats 2000000 in
theorem implTrace_any (s : Option Addr) (c lo hi : Nat) (l : List ND) (w : World) (h : NtsR w lo hi s l) (hB : hi ≤ w.heap.size) (hl : l.length ≤ 1048576) (hn : NtB l) (hE : Env w w.heap.size) :
    Calls Tryz.prog 11 #[.slice s l.length c] w fun e w' => e = .returned (.string ⟨(trT l).toArray⟩) ∧ Below w.heap.size w w' := by
  by_cases h0 : l = []
  · subst h0
    clear h hn hE
    go_enter Tryz.func11, Tryz.ntmps11
    go_wp2
    go_ret
    exact ⟨rfl, (Below.refl _ _).alloc (Nat.le_refl _) _⟩
  · have hp : 0 < l.length := List.length_pos_iff.2 h0
    have HT : Hid (trT l = Lib.join (ntT l) [32]) := by show _ = _; unfold trT; rw [if_neg h0]
    have hj := ntT_join hn
    have hx : ((l.length : Int) == 0) = false := by simpa using h0
    have HX : Hid (((List.range l.length).map fun k => noteT (l.getD k ⟨0, 0⟩).who (l.getD k ⟨0, 0⟩).v) = ntT l) := by
      show _ = _
      apply List.ext_getElem?
      intro i
      unfold ntT
      rw [List.getElem?_map, List.getElem?_map]
      by_cases hi : i < l.length
      · rw [List.getElem?_range hi]; simp [List.getElem?_eq_getElem hi]
      · rw [List.getElem?_eq_none (by simp; omega), List.getElem?_eq_none (by omega)]; rfl
    have kW : Below w.heap.size w (w.alloc (.cells #[.slice s l.length c] 29)) := (Below.refl _ _).alloc (Nat.le_refl _) _
    have TI : TrI s c lo hi w.heap.size l (w.alloc (.cells #[.slice s l.length c] 29)) := ⟨by simp [go_sem], h.keep (Keep.of_below kW hB), hE.keep kW, hB⟩
    have HI := hidT TI
    have KW := hidT kW
    have HN := hidT hn
    clear h hn hE kW TI h0
    go_enter Tryz.func11, Tryz.ntmps11
    go_wp2_with fail
    refine Calls.mono (rowsT_any l.length (.pointer (some ⟨w.heap.size, 0, none⟩)) (fun k => noteT (l.getD k ⟨0, 0⟩).who (l.getD k ⟨0, 0⟩).v) (TrI s c lo hi w.heap.size l) w.heap.size _ hl (by simp) HI.out (fun X X' hX hb => hX.keep (hb.mono (by simp))) (fun k X hk hX hi => ?_)) ?_
    · have ht : l[k]? = some (l.getD k ⟨0, 0⟩) := by rw [List.getD_eq_getElem?_getD, List.getElem?_eq_getElem hk]; rfl
      refine (trT1_any s c lo _ w.heap.size l k _ X hi HN.out (by simp at hX; omega) hl ht).mono ?_
      rintro e X' ⟨rfl, hb⟩
      exact ⟨rfl, hi.keep (hb.mono (by simp at hX; omega)), Kb.of hb⟩
    · rintro e w1 ⟨v, rfl, ho, hi1, hk1⟩
      rw [HX.out] at ho
      have s1 := hk1.size
      rw [World.size_alloc] at s1
      have K1 : Hid (Below w.heap.size w w1) := KW.out.trans (hk1.below (Nat.le_refl _) (by simp))
      have HO := hidT ho
      clear ho hi1 hk1 HI KW HN HX
      go_wp2_with fail
      refine (joinO v (ntT l) [32] _ w1 HO.out (by simp [ntT]; omega) (by omega)).mono ?_
      rintro e w2 ⟨rfl, hb2⟩
      have K2 := hidT (K1.out.trans (hb2.mono (by omega)))
      clear hb2
      go_wp2
      go_ret
      exact ⟨by rw [HT.out]; rfl, K2.out⟩

theorem ntT_take {l : List ND} {k : Nat} {t : ND} (h : l[k]? = some t) : ntT (l.take (k + 1)) = ntT (l.take k) ++ [noteT t.who t.v] := map_takeS (fun x : ND => noteT x.who x.v) t h
theorem ntT_one {l : List ND} {t : ND} (h : l[0]? = some t) : Lib.join (ntT (l.take (0 + 1))) [32] = noteT t.who t.v := by
  rw [ntT_take h]
  simp [ntT, Lib.join_one]
theorem ntT_more {l : List ND} {k : Nat} {t : ND} (h : l[k]? = some t) (hk : 0 < k) : Lib.join (ntT (l.take (k + 1))) [32] = Lib.join (ntT (l.take k)) [32] ++ [32] ++ noteT t.who t.v := by
  have hl : k < l.length := (List.getElem?_eq_some_iff.1 h).1
  rw [ntT_take h, join_snoc]
  intro e
  have := congrArg List.length e
  simp only [ntT, List.length_map, List.length_take, List.length_nil] at this
  omega
theorem ntT_ne {l : List ND} (h : l ≠ []) : Lib.join (ntT l) [32] ≠ [] := by
  obtain ⟨a, r, rfl⟩ := List.exists_cons_of_ne_nil h
  show Lib.join (noteT a.who a.v :: ntT r) [32] ≠ []
  rw [Lib.join_cons]
  intro e
  exact noteT_ne _ _ (List.append_eq_nil_iff.1 e).1
theorem NtB.take {l : List ND} (h : NtB l) (k : Nat) : NtB (l.take k) := fun i t ht => h i t (by
  rw [List.getElem?_take] at ht
  split at ht
  · exact ht
  · cases ht)

set_option maxHeartbeats 4000000 in
theorem specTrace_any (s : Option Addr) (c lo hi : Nat) (l : List ND) (w : World) (h : NtsR w lo hi s l) (hB : hi ≤ w.heap.size) (hl : l.length ≤ 1048576) (hn : NtB l) :
    Calls Tryz.prog 15 #[.slice s l.length c] w fun e w' => e = .returned (.string ⟨(trT l).toArray⟩) ∧ Below w.heap.size w w' := by
  have HP := hidT h
  have HN := hidT hn
  clear h hn
  go_enter Tryz.func15, Tryz.ntmps15
  go_wp2_with fail
  go_loopw [3, 4] (fun t i wr => ∃ k : Nat, k ≤ l.length ∧ i = .int .i64 k ∧ t = .string ⟨(Lib.join (ntT (l.take k)) [32]).toArray⟩ ∧ Below w.heap.size w wr) (fun _ i _ => l.length - (intOf i).toNat)
  case atStart => exact ⟨0, Nat.zero_le _, rfl, by simp [ntT, Lib.join_nil], Below.refl _ _⟩
  case round =>
    obtain ⟨k, hk, rfl, rfl, hbr⟩ := hrel
    have KR := hidT hbr
    have hsr := hbr.size
    clear hbr
    by_cases hlt : k < l.length
    · have i0 : (0 : Int) ≤ (k : Int) := by omega
      have i1 : (k : Int) < (l.length : Int) := by omega
      obtain ⟨t, ht⟩ : ∃ t, l[k]? = some t := ⟨_, List.getElem?_eq_getElem hlt⟩
      have hj := ntT_join (HN.out.take k)
      have hj2 : (Lib.join (ntT (l.take k)) [32]).length ≤ 44040192 := by
        have : (l.take k).length ≤ l.length := by rw [List.length_take]; omega
        omega
      clear hj
      have b := HN.out k t ht
      obtain ⟨g, off, hs, hg, c0, c1⟩ := nts_at (HP.out.keep (Keep.of_below KR.out hB)) ht
      subst hs
      have hg' : g < wr.heap.size := by omega
      have u0 := Ext.fit c0 hg'
      have u1 := Ext.fit c1 hg'
      have hne := ext_ne wr
      have la := itoa_len b.1.1 b.1.2
      have lb := itoa_len b.2.1 b.2.2
      have IA : Hid (∀ X : World, Calls Tryz.prog 36 #[.int .i64 t.who] X fun e w' => e = .returned (.string ⟨(Lib.itoa t.who).toArray⟩) ∧ Below X.heap.size X w') := fun X => l2Digits_any _ b.1.1 b.1.2 X
      have IB : Hid (∀ X : World, Calls Tryz.prog 36 #[.int .i64 t.v] X fun e w' => e = .returned (.string ⟨(Lib.itoa t.v).toArray⟩) ∧ Below X.heap.size X w') := fun X => l2Digits_any _ b.2.1 b.2.2 X
      by_cases h0 : 0 < k
      · have HX : Hid (Lib.join (ntT (l.take (k + 1))) [32] = Lib.join (ntT (l.take k)) [32] ++ [32] ++ (Lib.itoa t.who ++ [58] ++ Lib.itoa t.v)) := ntT_more ht h0
        have i2 : (0 : Int) < (k : Int) := by omega
        obtain ⟨tw, tv⟩ := t
        simp only at u0 u1 la lb IA IB HX
        clear c0 c1 b ht
        generalize Lib.join (ntT (l.take k)) [32] = tx at hj2 HX
        generalize Lib.itoa tw = ta at la IA HX
        generalize Lib.itoa tv = tb at lb IB HX
        have s0 := addS tx [32] (by simp; omega)
        have s1 := addS (tx ++ [32]) ta (by simp; omega)
        have s2 := addS (tx ++ [32] ++ ta) [58] (by simp; omega)
        have s3 := addS (tx ++ [32] ++ ta ++ [58]) tb (by simp; omega)
        have HY : Hid (Lib.join (ntT (l.take (k + 1))) [32] = tx ++ [32] ++ ta ++ [58] ++ tb) := by show _ = _; rw [HX.out]; simp
        clear HX
        obtain ⟨t1, h1⟩ : ∃ t1, tx ++ [32] = t1 := ⟨_, rfl⟩
        rw [h1] at s0 s1 s2 s3 HY
        obtain ⟨t2, h2⟩ : ∃ t2, t1 ++ ta = t2 := ⟨_, rfl⟩
        rw [h2] at s1 s2 s3 HY
        obtain ⟨t3, h3⟩ : ∃ t3, t2 ++ [58] = t3 := ⟨_, rfl⟩
        rw [h3] at s2 s3 HY
        obtain ⟨t4, h4⟩ : ∃ t4, t3 ++ tb = t4 := ⟨_, rfl⟩
        rw [h4] at s3 HY
        clear h1 h2 h3 h4
        go_wp2_with fail
        refine regionExt wr (by kernel_rfl) (by kernel_rfl) ?_
        repeat (go_big_quiet_step (first | (rename_i X; go_at_call 36; (with_reducible refine Calls.mono (IA.out _) ?_); rintro e w3 ⟨rfl, hb3⟩; exact ⟨rfl, X.on hb3⟩) | (rename_i X; go_at_call 36; (with_reducible refine Calls.mono (IB.out _) ?_); rintro e w3 ⟨rfl, hb3⟩; exact ⟨rfl, X.on hb3⟩) | fail))
        refine wpQuiet_nil ?_
        rintro w3 ⟨X3, rfl⟩
        have KU := hidT (KR.out.trans (X3.b.mono hsr))
        clear hne u0 u1
        go_wp2
        go_roundw
        case rel => exact ⟨k + 1, by omega, by go_num, by rw [HY.out], KU.out⟩
        case measure => simp [intOf]; omega
      · have HX : Hid (Lib.join (ntT (l.take (k + 1))) [32] = Lib.itoa t.who ++ [58] ++ Lib.itoa t.v) := by
          show _ = _
          obtain rfl : k = 0 := by omega
          exact ntT_one ht
        have HZ : Hid (Lib.join (ntT (l.take k)) [32] = []) := by
          show _ = _
          obtain rfl : k = 0 := by omega
          simp [ntT, Lib.join_nil]
        have i2 : ¬ (0 : Int) < (k : Int) := by omega
        rw [HZ.out]
        obtain ⟨tw, tv⟩ := t
        simp only at u0 u1 la lb IA IB HX
        clear c0 c1 b ht hj2
        generalize Lib.itoa tw = ta at la IA HX
        generalize Lib.itoa tv = tb at lb IB HX
        have s1 := addS [] ta (by simp; omega)
        rw [List.nil_append] at s1
        have s2 := addS ta [58] (by simp; omega)
        have s3 := addS (ta ++ [58]) tb (by simp; omega)
        obtain ⟨t3, h3⟩ : ∃ t3, ta ++ [58] = t3 := ⟨_, rfl⟩
        rw [h3] at s2 s3 HX
        obtain ⟨t4, h4⟩ : ∃ t4, t3 ++ tb = t4 := ⟨_, rfl⟩
        rw [h4] at s3 HX
        clear h3 h4
        go_wp2_with fail
        refine regionExt wr (by kernel_rfl) (by kernel_rfl) ?_
        repeat (go_big_quiet_step (first | (rename_i X; go_at_call 36; (with_reducible refine Calls.mono (IA.out _) ?_); rintro e w3 ⟨rfl, hb3⟩; exact ⟨rfl, X.on hb3⟩) | (rename_i X; go_at_call 36; (with_reducible refine Calls.mono (IB.out _) ?_); rintro e w3 ⟨rfl, hb3⟩; exact ⟨rfl, X.on hb3⟩) | fail))
        refine wpQuiet_nil ?_
        rintro w3 ⟨X3, rfl⟩
        have KU := hidT (KR.out.trans (X3.b.mono hsr))
        clear hne u0 u1
        go_wp2
        go_roundw
        case rel => exact ⟨k + 1, by omega, by go_num, by rw [HX.out], KU.out⟩
        case measure => simp [intOf]; omega
    · have i1 : ¬ (k : Int) < (l.length : Int) := by omega
      have e : l.take k = l := List.take_of_length_le (by omega)
      rw [e]
      clear e
      by_cases h0 : l = []
      · have HT : Hid (trT l = [45]) := by show _ = _; unfold trT; rw [if_pos h0]
        have e2 : Lib.join (ntT l) [32] = [] := by rw [h0]; rfl
        rw [e2]
        clear e2 h0
        go_wp2
        go_ret
        exact ⟨by rw [HT.out]; rfl, KR.out⟩
      · have HT : Hid (trT l = Lib.join (ntT l) [32]) := by show _ = _; unfold trT; rw [if_neg h0]
        have hx := ntT_ne h0
        clear h0
        generalize Lib.join (ntT l) [32] = tx at hx HT
        have hx2 : (tx == []) = false := by simpa using hx
        go_wp2
        go_ret
        exact ⟨by rw [HT.out]; rfl, KR.out⟩

end Go.Proofs.YtfgikjipkfggbaaGreatDoor
