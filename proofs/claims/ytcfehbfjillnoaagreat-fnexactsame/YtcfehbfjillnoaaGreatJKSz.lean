/- How great machines are counted. No condition but the lists' own bounds. -/
import Derived.Test.YtcfehbfjillnoaaGreatJG00
import Derived.Test.YtcfehbfjillnoaaGreatJG06
import Derived.Test.YtcfehbfjillnoaaGreatJG08
import Derived.Test.YtcfehbfjillnoaaGreatJG05
import Derived.Test.YtcfehbfjillnoaaGreatJG01
import Derived.Test.YtcfehbfjillnoaaGreatJG12
import Derived.Test.YtcfehbfjillnoaaGreatJG13
namespace Go.Proofs.YtcfehbfjillnoaaGreat
set_option linter.unusedSimpArgs false
set_option linter.unusedVariables false
set_option maxRecDepth 100000
open Go.RowKit
theorem szStepS_all (s : Option Addr) (n c : Nat) (q : Int) (w : World) (hn : n ≤ maxLen) (hq : 0 ≤ q) (hq' : q ≤ 1048576) : Calls Tryz.prog 51 #[.slice s n c, .int .i64 q] w fun e w' => e = .returned (.int .i64 (if q < n then -1 else q - (n : Int))) ∧ w' = w := by
 unfold maxLen at hn
 by_cases h : q < n
 ·rw [if_pos h]
  have h1 : q - (n : Int) < 0 := by omega
  go_enter Tryz.func51, Tryz.ntmps51
  go_wp2
  go_ret
  exact ⟨rfl, rfl⟩
 ·rw [if_neg h]
  have h1 : ¬ q - (n : Int) < 0 := by omega
  go_enter Tryz.func51, Tryz.ntmps51
  go_wp2
  go_ret
  exact ⟨rfl, rfl⟩
set_option maxHeartbeats 1000000 in
theorem szStepSS_any (s : Option Addr) (c lo hi : Nat) (l : List (List I5)) (q : Int) (w : World) (h : CsR w lo hi s l) (hB : hi ≤ w.heap.size) (hn : l.length ≤ maxLen) (hls : ∀ (i : Nat) (t : List I5), l[i]? = some t → t.length ≤ maxLen) (hq : 0 ≤ q) (hq' : q ≤ 1048576) :
  Calls Tryz.prog 17 #[.slice s l.length c, .int .i64 q] w fun e w' => (∃ v : Int, e = .returned (.int .i64 v) ∧ (v < 0 ∨ (0 ≤ v ∧ v = q - ((l.length : Int) + szC l)))) ∧ Below w.heap.size w w' := by
 unfold maxLen at hn
 have HLS : Hid (∀ (i : Nat) (t : List I5), l[i]? = some t → t.length ≤ maxLen) := hls
 have HC : Hid (CsR w lo hi s l) := h
 clear hls h
 by_cases hb : q < (l.length : Int)
 ·have h1 : q - (l.length : Int) < 0 := by omega
  go_enter Tryz.func17, Tryz.ntmps17
  go_wp2
  go_ret
  exact ⟨⟨-1, rfl, .inl (by omega)⟩, Below.refl _ _⟩
 ·have h1 : ¬ q - (l.length : Int) < 0 := by omega
  go_enter Tryz.func17, Tryz.ntmps17
  go_wp2
  go_loopw [1, 5] (fun a i wr => ∃ (k : Nat) (v : Int), k ≤ l.length ∧ i = .int .i64 k ∧ a = .int .i64 v ∧ 0 ≤ v ∧ v ≤ 1048576 ∧ Below w.heap.size w wr ∧ Hid (v = q - ((l.length : Int) + szC (l.take k)))) (fun _ i _ => l.length - (intOf i).toNat)
  case atStart => exact ⟨0, _, Nat.zero_le _, rfl, rfl, by omega, by omega, Below.refl _ _, show _ = _ by simp [szC]⟩
  case round =>
   obtain ⟨k, v, hk, rfl, rfl, hv, hv', hbl, HD⟩ := hrel
   have HB : Hid (Below w.heap.size w wr) := hbl
   clear hbl
   by_cases hlt : k < l.length
   ·obtain ⟨t, ht⟩ : ∃ t, l[k]? = some t := ⟨_, List.getElem?_eq_getElem hlt⟩
    obtain ⟨g, off, s1, c1, hs, hg1, hg, f1, -⟩ := (HC.out.keep (Keep.of_below HB.out hB)).at ht
    subst hs
    have hm := HLS.out k t ht
    have HT : Hid (szC (l.take (k + 1)) = szC (l.take k) + t.length) := szC_take l k t ht
    generalize hx : t.length = n at f1 hm HT
    clear hx ht
    have b0 : (0 : Int) ≤ (k : Int) := by omega
    have b1 : (k : Int) < (l.length : Int) := by omega
    by_cases hvn : v < (n : Int)
    ·go_wp2_with (go_at_call 51; refine (szStepS_all _ _ _ _ _ hm hv hv').mono ?_; rintro e w' ⟨rfl, hw⟩; have hw' := hw.symm; clear hw; subst hw'; rw [if_pos hvn])
     go_ret
     exact ⟨⟨-1, rfl, .inl (by omega)⟩, HB.out⟩
    ·have hnn : ¬ v - (n : Int) < 0 := by omega
     go_wp2_with (go_at_call 51; refine (szStepS_all _ _ _ _ _ hm hv hv').mono ?_; rintro e w' ⟨rfl, hw⟩; have hw' := hw.symm; clear hw; subst hw'; rw [if_neg hvn])
     go_roundw
     case rel =>
      refine ⟨k + 1, _, by omega, by go_num, rfl, by omega, by omega, HB.out, ?_⟩
      show _ = _
      rw [HT.out, HD.out]
      omega
     case measure => simp [intOf]; omega
   ·go_wp2
    go_ret
    have : k = l.length := by omega
    subst this
    have hd := HD.out
    rw [List.take_length] at hd
    exact ⟨⟨v, rfl, .inr ⟨hv, hd⟩⟩, HB.out⟩
set_option maxHeartbeats 400000 in
theorem szCore_all (v v' : Int) (s s' : Option Addr) (n c n' c' : Nat) (q : Int) (w : World) (hn : n ≤ maxLen) (hn' : n' ≤ maxLen) (hq : 0 ≤ q) (hq' : q ≤ 1048576) :
  Calls Tryz.prog 52 #[.agg #[.int .i64 v, .slice s n c, .slice s' n' c', .int .i64 v'], .int .i64 q] w fun e w' => e = .returned (.int .i64 (if q < ((n + n' : Nat) : Int) then -1 else q - ((n + n' : Nat) : Int))) ∧ Below w.heap.size w w' := by
 by_cases h : q < n
 ·rw [if_pos (by omega)]
  go_enter Tryz.func52, Tryz.ntmps52
  go_wp2_with fail
  refine (szIntS_any s n c q _ hn hq hq').mono ?_
  rintro e w' ⟨rfl, hw⟩
  subst w'
  rw [if_pos h]
  go_wp2
  go_ret
  exact ⟨rfl, (Below.refl _ _).alloc (Nat.le_refl _) _⟩
 ·have hnn : ¬ q - (n : Int) < 0 := by omega
  by_cases h2 : q - (n : Int) < n'
  ·rw [if_pos (by omega)]
   go_enter Tryz.func52, Tryz.ntmps52
   go_wp2_with fail
   refine (szIntS_any s n c q _ hn hq hq').mono ?_
   rintro e w' ⟨rfl, hw⟩
   subst w'
   rw [if_neg (show ¬ q < (n : Int) by omega)]
   go_wp2_with fail
   refine (szIntS_any s' n' c' (q - (n : Int)) _ hn' (by omega) (by omega)).mono ?_
   rintro e w' ⟨rfl, hw⟩
   subst w'
   rw [if_pos h2]
   go_wp2
   go_ret
   exact ⟨rfl, (Below.refl _ _).alloc (Nat.le_refl _) _⟩
  ·have hnn2 : ¬ q - (n : Int) - (n' : Int) < 0 := by omega
   rw [if_neg (by omega), show q - ((n + n' : Nat) : Int) = q - n - n' by omega]
   go_enter Tryz.func52, Tryz.ntmps52
   go_wp2_with fail
   refine (szIntS_any s n c q _ hn hq hq').mono ?_
   rintro e w' ⟨rfl, hw⟩
   subst w'
   rw [if_neg (show ¬ q < (n : Int) by omega)]
   go_wp2_with fail
   refine (szIntS_any s' n' c' (q - (n : Int)) _ hn' (by omega) (by omega)).mono ?_
   rintro e w' ⟨rfl, hw⟩
   subst w'
   rw [if_neg (show ¬ q - (n : Int) < (n' : Int) by omega)]
   go_wp2
   go_ret
   exact ⟨rfl, (Below.refl _ _).alloc (Nat.le_refl _) _⟩
set_option maxHeartbeats 1000000 in
theorem szCoreS_any (s : Option Addr) (c lo hi : Nat) (l : List KD) (q : Int) (w : World) (h : KsR w lo hi s l) (hB : hi ≤ w.heap.size) (hn : l.length ≤ maxLen) (hls : ∀ (i : Nat) (t : KD), l[i]? = some t → t.regs.length ≤ maxLen ∧ t.vw.length ≤ maxLen) (hq : 0 ≤ q) (hq' : q ≤ 1048576) :
  Calls Tryz.prog 18 #[.slice s l.length c, .int .i64 q] w fun e w' => (∃ v : Int, e = .returned (.int .i64 v) ∧ (v < 0 ∨ (0 ≤ v ∧ v = q - ((l.length : Int) + szK l)))) ∧ Below w.heap.size w w' := by
 unfold maxLen at hn
 have HLS : Hid (∀ (i : Nat) (t : KD), l[i]? = some t → t.regs.length ≤ maxLen ∧ t.vw.length ≤ maxLen) := hls
 have HC : Hid (KsR w lo hi s l) := h
 clear hls h
 by_cases hb : q < (l.length : Int)
 ·have h1 : q - (l.length : Int) < 0 := by omega
  go_enter Tryz.func18, Tryz.ntmps18
  go_wp2
  go_ret
  exact ⟨⟨-1, rfl, .inl (by omega)⟩, Below.refl _ _⟩
 ·have h1 : ¬ q - (l.length : Int) < 0 := by omega
  go_enter Tryz.func18, Tryz.ntmps18
  go_wp2
  go_loopw [1, 5] (fun a i wr => ∃ (k : Nat) (v : Int), k ≤ l.length ∧ i = .int .i64 k ∧ a = .int .i64 v ∧ 0 ≤ v ∧ v ≤ 1048576 ∧ Below w.heap.size w wr ∧ Hid (v = q - ((l.length : Int) + szK (l.take k)))) (fun _ i _ => l.length - (intOf i).toNat)
  case atStart => exact ⟨0, _, Nat.zero_le _, rfl, rfl, by omega, by omega, Below.refl _ _, show _ = _ by simp [szK]⟩
  case round =>
   obtain ⟨k, v, hk, rfl, rfl, hv, hv', hbl, HD⟩ := hrel
   have HB : Hid (Below w.heap.size w wr) := hbl
   clear hbl
   by_cases hlt : k < l.length
   ·obtain ⟨t, ht⟩ : ∃ t, l[k]? = some t := ⟨_, List.getElem?_eq_getElem hlt⟩
    obtain ⟨g, off, s1, c1, s2, c2, hs, hg1, hg, f0, f1, f2, f3, -⟩ := (HC.out.keep (Keep.of_below HB.out hB)).at ht
    subst hs
    have hm := HLS.out k t ht
    have HT : Hid (szK (l.take (k + 1)) = szK (l.take k) + (t.regs.length + t.vw.length)) := szK_take l k t ht
    obtain ⟨pc, rg, vw, st⟩ := t
    simp only at f0 f1 f2 f3 hm HT
    generalize hx : rg.length = n at f1 hm HT
    generalize hy : vw.length = n' at f2 hm HT
    obtain ⟨hm1, hm2⟩ := hm
    clear hx hy ht
    have b0 : (0 : Int) ≤ (k : Int) := by omega
    have b1 : (k : Int) < (l.length : Int) := by omega
    by_cases hvn : v < ((n + n' : Nat) : Int)
    ·go_wp2_with (go_at_call 52; refine (szCore_all _ _ _ _ _ _ _ _ _ _ hm1 hm2 hv hv').mono ?_; rintro e w' ⟨rfl, hw⟩; rw [if_pos hvn])
     go_ret
     exact ⟨⟨-1, rfl, .inl (by omega)⟩, HB.out.trans (hw.mono HB.out.size)⟩
    ·have hnn : ¬ v - ((n + n' : Nat) : Int) < 0 := by omega
     go_wp2_with (go_at_call 52; refine (szCore_all _ _ _ _ _ _ _ _ _ _ hm1 hm2 hv hv').mono ?_; rintro e w' ⟨rfl, hw⟩; have HW : Hid (Below wr.heap.size wr w') := hw; clear hw; rw [if_neg hvn])
     go_roundw
     case rel =>
      refine ⟨k + 1, _, by omega, by go_num, rfl, by omega, by omega, HB.out.trans (HW.out.mono HB.out.size), ?_⟩
      show _ = _
      rw [HT.out, HD.out]
      omega
     case measure => simp [intOf]; omega
   ·go_wp2
    go_ret
    have : k = l.length := by omega
    subst this
    have hd := HD.out
    rw [List.take_length] at hd
    exact ⟨⟨v, rfl, .inr ⟨hv, hd⟩⟩, HB.out⟩
set_option maxHeartbeats 1000000 in
theorem szMemory_le (s : Option Addr) (c lo hi : Nat) (m : List (List WD)) (q : Int) (w : World) (h : MemR w lo hi s m) (hB : hi ≤ w.heap.size) (hls : MLens m) (hq : 0 ≤ q) (hq' : q ≤ 1048576) :
  Calls Tryz.prog 19 #[.agg #[.slice s m.length c], .int .i64 q] w fun e w' => (∃ v : Int, e = .returned (.int .i64 v) ∧ (v < 0 ∨ (0 ≤ v ∧ v = q - ((m.length : Int) + szR m)))) ∧ Below w.heap.size w w' := by
 have HLS : Hid (MLens m) := hls
 have HC : Hid (MemR w lo hi s m) := h
 clear hls h
 go_enter Tryz.func19, Tryz.ntmps19
 go_wp2_with fail
 have k1 : Below w.heap.size w (w.alloc (.cells #[.slice s m.length c] 30)) := (Below.refl _ _).alloc (Nat.le_refl _) _
 refine (szWriteSS_any s c lo hi m q _ (HC.out.keep (Keep.of_below k1 hB)) (by simp; omega) HLS.out hq hq').mono ?_
 rintro e w1 ⟨⟨u, rfl, hu⟩, hb1⟩
 have HB1 : Hid (Below w.heap.size w w1) := k1.trans (hb1.mono (by simp))
 clear hb1 k1
 rcases hu with hu | ⟨hu, hu2⟩
 ·go_wp2
  go_ret
  exact ⟨⟨-1, rfl, .inl (by omega)⟩, HB1.out⟩
 ·have hnn : ¬ u < 0 := by omega
  have HU : Hid (u = q - ((m.length : Int) + szR m)) := hu2
  clear hu2
  go_wp2
  go_ret
  exact ⟨⟨u, rfl, .inr ⟨hu, HU.out⟩⟩, HB1.out⟩
structure B4 (w : World) (b : Nat) (v0 v1 v2 v3 : Value) : Prop where
 z : b < w.heap.size
 c0 : w.cell? ⟨b, 0, none⟩ = some v0
 c1 : w.cell? ⟨b, 1, none⟩ = some v1
 c2 : w.cell? ⟨b, 2, none⟩ = some v2
 c3 : w.cell? ⟨b, 3, none⟩ = some v3
theorem B4.keep {w w' : World} {b : Nat} {v0 v1 v2 v3 : Value} (h : B4 w b v0 v1 v2 v3) {B : Nat} (hb : Below B w w') (hB : b < B) : B4 w' b v0 v1 v2 v3 :=
 ⟨Nat.lt_of_lt_of_le h.z hb.size, (hb.cell (p := ⟨b, 0, none⟩) hB).trans h.c0, (hb.cell (p := ⟨b, 1, none⟩) hB).trans h.c1, (hb.cell (p := ⟨b, 2, none⟩) hB).trans h.c2, (hb.cell (p := ⟨b, 3, none⟩) hB).trans h.c3⟩
theorem B4.new (w : World) (v0 v1 v2 v3 : Value) (T : TypeId) : ∃ W, w.alloc (.cells #[v0, v1, v2, v3] T) = W ∧ B4 W w.heap.size v0 v1 v2 v3 ∧ Below w.heap.size w W ∧ w.heap.size < W.heap.size := by
 refine ⟨_, rfl, ⟨?_, ?_, ?_, ?_, ?_⟩, (Below.refl _ _).alloc (Nat.le_refl _) _, ?_⟩ <;> simp [go_sem]
set_option maxHeartbeats 2000000 in
theorem szMachine_q (s1 s2 s3 s4 : Option Addr) (c1 c2 c3 c4 lo hi : Nat) (d : MD) (w : World) (h : MaR w lo hi s1 s2 s3 s4 d) (hB : hi ≤ w.heap.size) (hls : MaLens d) (q : Int) (hq : 0 ≤ q) (hq' : q ≤ 1048576) :
  Calls Tryz.prog 5 #[.agg #[.slice s1 d.codes.length c1, .slice s2 d.cores.length c2, .slice s3 d.mem.length c3, .slice s4 d.tr.length c4], .int .i64 q] w fun e w' => (∃ v : Int, e = .returned (.int .i64 v) ∧ (v < 0 ∨ (0 ≤ v ∧ MaSz d ≤ 1048576))) ∧ Below w.heap.size w w' := by
 have HL : Hid (MaLens d) := hls
 have HR : Hid (MaR w lo hi s1 s2 s3 s4 d) := h
 clear hls h
 go_enter Tryz.func5, Tryz.ntmps5
 go_wp2_with fail
 obtain ⟨W, hW, bx, kb, zb⟩ := B4.new w (.slice s1 d.codes.length c1) (.slice s2 d.cores.length c2) (.slice s3 d.mem.length c3) (.slice s4 d.tr.length c4) 33
 rw [hW]
 clear hW
 have B0 : Hid (B4 W w.heap.size _ _ _ _) := bx
 have K0 : Hid (Below w.heap.size w W) := kb
 clear bx kb
 refine (szStepSS_any s1 c1 lo hi d.codes q W (HR.out.keep (Keep.of_below K0.out hB)).1 (by omega) HL.out.cn HL.out.c (by omega) (by omega)).mono ?_
 rintro e w1 ⟨⟨u1, rfl, hu1⟩, hb1⟩
 have B1 : Hid (B4 w1 w.heap.size _ _ _ _) := B0.out.keep (hb1.mono (Nat.le_refl _)) (B0.out.z)
 have K1 : Hid (Below w.heap.size w w1) := K0.out.trans (hb1.mono (by omega))
 have z1 := hb1.size
 clear hb1
 obtain ⟨-, b0, b1, b2, b3⟩ := B1.out
 have zz1 : w.heap.size < w1.heap.size := by omega
 rcases hu1 with hu1 | ⟨hu1, hx1⟩
 ·go_wp2
  go_ret
  exact ⟨⟨-1, rfl, .inl (by omega)⟩, K1.out⟩
 have hn1 : ¬ u1 < 0 := by omega
 have hl1 : u1 ≤ 1048576 := by omega
 have X1 : Hid (u1 = q - ((d.codes.length : Int) + szC d.codes)) := hx1
 clear hx1
 go_wp2_with fail
 refine (szCoreS_any s2 c2 lo hi d.cores u1 w1 (HR.out.keep (Keep.of_below K1.out hB)).2.1 (by omega) HL.out.kn HL.out.k hu1 hl1).mono ?_
 rintro e w2 ⟨⟨u2, rfl, hu2⟩, hb2⟩
 have B2 : Hid (B4 w2 w.heap.size _ _ _ _) := B1.out.keep (hb2.mono (Nat.le_refl _)) (B1.out.z)
 have K2 : Hid (Below w.heap.size w w2) := K1.out.trans (hb2.mono (by omega))
 have z2 := hb2.size
 clear hb2
 obtain ⟨-, b0, b1, b2, b3⟩ := B2.out
 have zz2 : w.heap.size < w2.heap.size := by omega
 rcases hu2 with hu2 | ⟨hu2, hx2⟩
 ·go_wp2
  go_ret
  exact ⟨⟨-1, rfl, .inl (by omega)⟩, K2.out⟩
 have hn2 : ¬ u2 < 0 := by omega
 have hl2 : u2 ≤ 1048576 := by omega
 have X2 : Hid (u2 = u1 - ((d.cores.length : Int) + szK d.cores)) := hx2
 clear hx2
 go_wp2_with fail
 refine (szMemory_le s3 c3 lo hi d.mem u2 w2 (HR.out.keep (Keep.of_below K2.out hB)).2.2.1 (by omega) HL.out.m hu2 hl2).mono ?_
 rintro e w3 ⟨⟨u3, rfl, hu3⟩, hb3⟩
 have B3 : Hid (B4 w3 w.heap.size _ _ _ _) := B2.out.keep (hb3.mono (Nat.le_refl _)) (B2.out.z)
 have K3 : Hid (Below w.heap.size w w3) := K2.out.trans (hb3.mono (by omega))
 have z3 := hb3.size
 clear hb3
 obtain ⟨-, b0, b1, b2, b3⟩ := B3.out
 have zz3 : w.heap.size < w3.heap.size := by omega
 rcases hu3 with hu3 | ⟨hu3, hx3⟩
 ·go_wp2
  go_ret
  exact ⟨⟨-1, rfl, .inl (by omega)⟩, K3.out⟩
 have hn3 : ¬ u3 < 0 := by omega
 have hl3 : u3 ≤ 1048576 := by omega
 have X3 : Hid (u3 = u2 - ((d.mem.length : Int) + szR d.mem)) := hx3
 clear hx3
 go_wp2_with fail
 refine (szNoteS_all s4 d.tr.length c4 u3 w3 HL.out.t hu3 hl3).mono ?_
 rintro e w4 ⟨rfl, hw4⟩
 subst w4
 by_cases ht : u3 < (d.tr.length : Int)
 ·rw [if_pos ht]
  go_wp2
  go_ret
  exact ⟨⟨-1, rfl, .inl (by omega)⟩, K3.out⟩
 ·rw [if_neg ht]
  have hn4 : ¬ u3 - (d.tr.length : Int) < 0 := by omega
  have HF : Hid (MaSz d ≤ 1048576) := by
   have a := X1.out; have b := X2.out; have c := X3.out
   show MaSz d ≤ 1048576
   unfold MaSz
   omega
  go_wp2
  go_ret
  exact ⟨⟨_, rfl, .inr ⟨by omega, HF.out⟩⟩, K3.out⟩
set_option maxHeartbeats 2000000 in
theorem szMachine_r (s1 s2 s3 s4 : Option Addr) (c1 c2 c3 c4 lo hi : Nat) (d : MD) (w : World) (h : MaR w lo hi s1 s2 s3 s4 d) (hB : hi ≤ w.heap.size) (hls : MaLens d) (q : Int) (hq : 0 ≤ q) (hq' : q ≤ 1048576) :
  Calls Tryz.prog 5 #[.agg #[.slice s1 d.codes.length c1, .slice s2 d.cores.length c2, .slice s3 d.mem.length c3, .slice s4 d.tr.length c4], .int .i64 q] w fun e w' => (∃ v : Int, e = .returned (.int .i64 v) ∧ (v < 0 ∨ (0 ≤ v ∧ v ≤ 1048576 ∧ MaSz d ≤ 1048576))) ∧ Below w.heap.size w w' := by
 have HL : Hid (MaLens d) := hls
 have HR : Hid (MaR w lo hi s1 s2 s3 s4 d) := h
 clear hls h
 go_enter Tryz.func5, Tryz.ntmps5
 go_wp2_with fail
 obtain ⟨W, hW, bx, kb, zb⟩ := B4.new w (.slice s1 d.codes.length c1) (.slice s2 d.cores.length c2) (.slice s3 d.mem.length c3) (.slice s4 d.tr.length c4) 33
 rw [hW]
 clear hW
 have B0 : Hid (B4 W w.heap.size _ _ _ _) := bx
 have K0 : Hid (Below w.heap.size w W) := kb
 clear bx kb
 refine (szStepSS_any s1 c1 lo hi d.codes q W (HR.out.keep (Keep.of_below K0.out hB)).1 (by omega) HL.out.cn HL.out.c (by omega) (by omega)).mono ?_
 rintro e w1 ⟨⟨u1, rfl, hu1⟩, hb1⟩
 have B1 : Hid (B4 w1 w.heap.size _ _ _ _) := B0.out.keep (hb1.mono (Nat.le_refl _)) (B0.out.z)
 have K1 : Hid (Below w.heap.size w w1) := K0.out.trans (hb1.mono (by omega))
 have z1 := hb1.size
 clear hb1
 obtain ⟨-, b0, b1, b2, b3⟩ := B1.out
 have zz1 : w.heap.size < w1.heap.size := by omega
 rcases hu1 with hu1 | ⟨hu1, hx1⟩
 ·go_wp2
  go_ret
  exact ⟨⟨-1, rfl, .inl (by omega)⟩, K1.out⟩
 have hn1 : ¬ u1 < 0 := by omega
 have hl1 : u1 ≤ 1048576 := by omega
 have X1 : Hid (u1 = q - ((d.codes.length : Int) + szC d.codes)) := hx1
 clear hx1
 go_wp2_with fail
 refine (szCoreS_any s2 c2 lo hi d.cores u1 w1 (HR.out.keep (Keep.of_below K1.out hB)).2.1 (by omega) HL.out.kn HL.out.k hu1 hl1).mono ?_
 rintro e w2 ⟨⟨u2, rfl, hu2⟩, hb2⟩
 have B2 : Hid (B4 w2 w.heap.size _ _ _ _) := B1.out.keep (hb2.mono (Nat.le_refl _)) (B1.out.z)
 have K2 : Hid (Below w.heap.size w w2) := K1.out.trans (hb2.mono (by omega))
 have z2 := hb2.size
 clear hb2
 obtain ⟨-, b0, b1, b2, b3⟩ := B2.out
 have zz2 : w.heap.size < w2.heap.size := by omega
 rcases hu2 with hu2 | ⟨hu2, hx2⟩
 ·go_wp2
  go_ret
  exact ⟨⟨-1, rfl, .inl (by omega)⟩, K2.out⟩
 have hn2 : ¬ u2 < 0 := by omega
 have hl2 : u2 ≤ 1048576 := by omega
 have X2 : Hid (u2 = u1 - ((d.cores.length : Int) + szK d.cores)) := hx2
 clear hx2
 go_wp2_with fail
 refine (szMemory_le s3 c3 lo hi d.mem u2 w2 (HR.out.keep (Keep.of_below K2.out hB)).2.2.1 (by omega) HL.out.m hu2 hl2).mono ?_
 rintro e w3 ⟨⟨u3, rfl, hu3⟩, hb3⟩
 have B3 : Hid (B4 w3 w.heap.size _ _ _ _) := B2.out.keep (hb3.mono (Nat.le_refl _)) (B2.out.z)
 have K3 : Hid (Below w.heap.size w w3) := K2.out.trans (hb3.mono (by omega))
 have z3 := hb3.size
 clear hb3
 obtain ⟨-, b0, b1, b2, b3⟩ := B3.out
 have zz3 : w.heap.size < w3.heap.size := by omega
 rcases hu3 with hu3 | ⟨hu3, hx3⟩
 ·go_wp2
  go_ret
  exact ⟨⟨-1, rfl, .inl (by omega)⟩, K3.out⟩
 have hn3 : ¬ u3 < 0 := by omega
 have hl3 : u3 ≤ 1048576 := by omega
 have X3 : Hid (u3 = u2 - ((d.mem.length : Int) + szR d.mem)) := hx3
 clear hx3
 go_wp2_with fail
 refine (szNoteS_all s4 d.tr.length c4 u3 w3 HL.out.t hu3 hl3).mono ?_
 rintro e w4 ⟨rfl, hw4⟩
 subst w4
 by_cases ht : u3 < (d.tr.length : Int)
 ·rw [if_pos ht]
  go_wp2
  go_ret
  exact ⟨⟨-1, rfl, .inl (by omega)⟩, K3.out⟩
 ·rw [if_neg ht]
  have hn4 : ¬ u3 - (d.tr.length : Int) < 0 := by omega
  have HF : Hid (MaSz d ≤ 1048576) := by
   have a := X1.out; have b := X2.out; have c := X3.out
   show MaSz d ≤ 1048576
   unfold MaSz
   omega
  go_wp2
  go_ret
  exact ⟨⟨_, rfl, .inr ⟨by omega, by omega, HF.out⟩⟩, K3.out⟩
end Go.Proofs.YtcfehbfjillnoaaGreat
