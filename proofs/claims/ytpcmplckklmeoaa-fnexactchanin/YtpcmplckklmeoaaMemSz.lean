/- How great memories are counted. No condition but the lists' own bounds. -/
import Derived.Test.YtpcmplckklmeoaaMemDefs
namespace Go.Proofs.Ytpcmplckklmeoaa
set_option linter.unusedSimpArgs false
set_option linter.unusedVariables false
set_option maxRecDepth 100000
open Go.RowKit

set_option maxHeartbeats 400000 in
theorem szWrite_all (v : Int) (s : Option Addr) (n c : Nat) (q : Int) (w : World) (hn : n ≤ maxLen) (hq : 0 ≤ q) (hq' : q ≤ 1048576) :
    Calls Try.prog 49 #[.agg #[.int .i64 v, .slice s n c], .int .i64 q] w fun e w' => e = .returned (.int .i64 (if q < n then -1 else q - (n : Int))) ∧ Below w.heap.size w w' := by
  by_cases h : q < n
  · rw [if_pos h]
    go_enter Try.func49, Try.ntmps49
    go_wp2_with (go_at_call 53; refine (szIntS_any _ _ _ _ _ hn hq hq').mono ?_; rintro e w' ⟨rfl, hw⟩; have hw' := hw.symm; clear hw; subst hw'; rw [if_pos h])
    go_ret
    exact ⟨rfl, (Below.refl _ _).alloc (Nat.le_refl _) _⟩
  · rw [if_neg h]
    have hnn : ¬ q - (n : Int) < 0 := by omega
    go_enter Try.func49, Try.ntmps49
    go_wp2_with (go_at_call 53; refine (szIntS_any _ _ _ _ _ hn hq hq').mono ?_; rintro e w' ⟨rfl, hw⟩; have hw' := hw.symm; clear hw; subst hw'; rw [if_neg h])
    go_ret
    exact ⟨rfl, (Below.refl _ _).alloc (Nat.le_refl _) _⟩

set_option maxHeartbeats 1000000 in
theorem szWriteS_any (s : Option Addr) (c lo hi : Nat) (l : List WD) (q : Int) (w : World) (h : WsR w lo hi s l) (hB : hi ≤ w.heap.size) (hn : l.length ≤ maxLen) (hls : ∀ (i : Nat) (t : WD), l[i]? = some t → t.vw.length ≤ maxLen) (hq : 0 ≤ q) (hq' : q ≤ 1048576) :
    Calls Try.prog 41 #[.slice s l.length c, .int .i64 q] w fun e w' => (∃ v : Int, e = .returned (.int .i64 v) ∧ (v < 0 ∨ (0 ≤ v ∧ v = q - ((l.length : Int) + szV l)))) ∧ Below w.heap.size w w' := by
  unfold maxLen at hn
  have HLS : Hid (∀ (i : Nat) (t : WD), l[i]? = some t → t.vw.length ≤ maxLen) := hls
  have HC : Hid (WsR w lo hi s l) := h
  clear hls h
  by_cases hb : q < (l.length : Int)
  · have h1 : q - (l.length : Int) < 0 := by omega
    go_enter Try.func41, Try.ntmps41
    go_wp2
    go_ret
    exact ⟨⟨-1, rfl, .inl (by omega)⟩, Below.refl _ _⟩
  · have h1 : ¬ q - (l.length : Int) < 0 := by omega
    go_enter Try.func41, Try.ntmps41
    go_wp2
    go_loopw [1, 5] (fun a i wr => ∃ (k : Nat) (v : Int), k ≤ l.length ∧ i = .int .i64 k ∧ a = .int .i64 v ∧ 0 ≤ v ∧ v ≤ 1048576 ∧ Below w.heap.size w wr ∧ Hid (v = q - ((l.length : Int) + szV (l.take k)))) (fun _ i _ => l.length - (intOf i).toNat)
    case atStart => exact ⟨0, _, Nat.zero_le _, rfl, rfl, by omega, by omega, Below.refl _ _, show _ = _ by simp [szV]⟩
    case round =>
      obtain ⟨k, v, hk, rfl, rfl, hv, hv', hbl, HD⟩ := hrel
      have HB : Hid (Below w.heap.size w wr) := hbl
      clear hbl
      by_cases hlt : k < l.length
      · obtain ⟨t, ht⟩ : ∃ t, l[k]? = some t := ⟨_, List.getElem?_eq_getElem hlt⟩
        obtain ⟨g, off, s1, c1, hs, hg1, hg, f0, f1, -⟩ := (HC.out.keep (Keep.of_below HB.out hB)).at ht
        subst hs
        have hm := HLS.out k t ht
        have HT : Hid (szV (l.take (k + 1)) = szV (l.take k) + t.vw.length) := szV_take l k t ht
        obtain ⟨pc, rg⟩ := t
        simp only at f0 f1 hm
        generalize hx : rg.length = n at f1 hm HT
        clear hx ht
        have b0 : (0 : Int) ≤ (k : Int) := by omega
        have b1 : (k : Int) < (l.length : Int) := by omega
        by_cases hvn : v < (n : Int)
        · go_wp2_with (go_at_call 49; refine (szWrite_all _ _ _ _ _ _ hm hv hv').mono ?_; rintro e w' ⟨rfl, hw⟩; rw [if_pos hvn])
          go_ret
          exact ⟨⟨-1, rfl, .inl (by omega)⟩, HB.out.trans (hw.mono HB.out.size)⟩
        · have hnn : ¬ v - (n : Int) < 0 := by omega
          go_wp2_with (go_at_call 49; refine (szWrite_all _ _ _ _ _ _ hm hv hv').mono ?_; rintro e w' ⟨rfl, hw⟩; have HW : Hid (Below wr.heap.size wr w') := hw; clear hw; rw [if_neg hvn])
          go_roundw
          case rel =>
            refine ⟨k + 1, _, by omega, by go_num, rfl, by omega, by omega, HB.out.trans (HW.out.mono HB.out.size), ?_⟩
            show _ = _
            rw [HT.out, HD.out]
            omega
          case measure => simp [intOf]; omega
      · go_wp2
        go_ret
        have : k = l.length := by omega
        subst this
        have hd := HD.out
        rw [List.take_length] at hd
        exact ⟨⟨v, rfl, .inr ⟨hv, hd⟩⟩, HB.out⟩

set_option maxHeartbeats 1000000 in
theorem szWriteSS_any (s : Option Addr) (c lo hi : Nat) (m : List (List WD)) (q : Int) (w : World) (h : MemR w lo hi s m) (hB : hi ≤ w.heap.size) (hls : MLens m) (hq : 0 ≤ q) (hq' : q ≤ 1048576) :
    Calls Try.prog 27 #[.slice s m.length c, .int .i64 q] w fun e w' => (∃ v : Int, e = .returned (.int .i64 v) ∧ (v < 0 ∨ (0 ≤ v ∧ v = q - ((m.length : Int) + szR m)))) ∧ Below w.heap.size w w' := by
  have hn := hls.n
  unfold maxLen at hn
  have HLS : Hid (MLens m) := hls
  have HC : Hid (MemR w lo hi s m) := h
  clear hls h
  by_cases hb : q < (m.length : Int)
  · have h1 : q - (m.length : Int) < 0 := by omega
    go_enter Try.func27, Try.ntmps27
    go_wp2
    go_ret
    exact ⟨⟨-1, rfl, .inl (by omega)⟩, Below.refl _ _⟩
  · have h1 : ¬ q - (m.length : Int) < 0 := by omega
    go_enter Try.func27, Try.ntmps27
    go_wp2
    go_loopw [1, 5] (fun a i wr => ∃ (k : Nat) (v : Int), k ≤ m.length ∧ i = .int .i64 k ∧ a = .int .i64 v ∧ 0 ≤ v ∧ v ≤ 1048576 ∧ Below w.heap.size w wr ∧ Hid (v = q - ((m.length : Int) + szR (m.take k)))) (fun _ i _ => m.length - (intOf i).toNat)
    case atStart => exact ⟨0, _, Nat.zero_le _, rfl, rfl, by omega, by omega, Below.refl _ _, show _ = _ by simp [szR]⟩
    case round =>
      obtain ⟨k, v, hk, rfl, rfl, hv, hv', hbl, HD⟩ := hrel
      have HB : Hid (Below w.heap.size w wr) := hbl
      have hsz := hbl.size
      clear hbl
      by_cases hlt : k < m.length
      · obtain ⟨t, ht⟩ : ∃ t, m[k]? = some t := ⟨_, List.getElem?_eq_getElem hlt⟩
        obtain ⟨g, off, s1, c1, hs, hg1, hg, f0, f1⟩ := (HC.out.keep (Keep.of_below HB.out hB)).row ht
        subst hs
        have hm := HLS.out.r k t ht
        have HM2 : Hid (∀ (i : Nat) (x : WD), t[i]? = some x → x.vw.length ≤ maxLen) := fun i x hx => HLS.out.v k t i x ht hx
        have HT : Hid (szR (m.take (k + 1)) = szR (m.take k) + (t.length + szV t)) := szR_take m k t ht
        have HF : Hid (WsR wr lo hi s1 t) := f1
        clear f1 ht
        have b0 : (0 : Int) ≤ (k : Int) := by omega
        have b1 : (k : Int) < (m.length : Int) := by omega
        go_wp2_with fail
        refine (szWriteS_any s1 c1 lo hi t v wr HF.out (by omega) hm HM2.out hv hv').mono ?_
        rintro e w1 ⟨⟨u, rfl, hu⟩, hb1⟩
        have HB1 : Hid (Below w.heap.size w w1) := HB.out.trans (hb1.mono hsz)
        clear hb1
        rcases hu with hu | ⟨hu, hu2⟩
        · go_wp2
          go_ret
          exact ⟨⟨-1, rfl, .inl (by omega)⟩, HB1.out⟩
        · have hnn : ¬ u < 0 := by omega
          have HU : Hid (u = v - ((t.length : Int) + szV t)) := hu2
          have hu3 : u ≤ 1048576 := by omega
          clear hu2
          go_wp2
          go_roundw
          case rel =>
            refine ⟨k + 1, _, by omega, by go_num, rfl, by omega, by omega, HB1.out, ?_⟩
            show _ = _
            rw [HT.out, HU.out, HD.out]
            omega
          case measure => simp [intOf]; omega
      · go_wp2
        go_ret
        have : k = m.length := by omega
        subst this
        have hd := HD.out
        rw [List.take_length] at hd
        exact ⟨⟨v, rfl, .inr ⟨hv, hd⟩⟩, HB.out⟩

set_option maxHeartbeats 400000 in
theorem szMemory_any (s : Option Addr) (c lo hi : Nat) (m : List (List WD)) (w : World) (h : MemR w lo hi s m) (hB : hi ≤ w.heap.size) (hls : MLens m) :
    Calls Try.prog 10 #[.agg #[.slice s m.length c], .int .i64 1048576] w fun e w' => (∃ v : Int, e = .returned (.int .i64 v) ∧ (v < 0 ∨ (0 ≤ v ∧ MFits m))) ∧ Below w.heap.size w w' := by
  have HLS : Hid (MLens m) := hls
  have HC : Hid (MemR w lo hi s m) := h
  clear hls h
  go_enter Try.func10, Try.ntmps10
  go_wp2_with fail
  have k1 : Below w.heap.size w (w.alloc (.cells #[.slice s m.length c] 29)) := (Below.refl _ _).alloc (Nat.le_refl _) _
  refine (szWriteSS_any s c lo hi m 1048576 _ (HC.out.keep (Keep.of_below k1 hB)) (by simp; omega) HLS.out (by omega) (by omega)).mono ?_
  rintro e w1 ⟨⟨u, rfl, hu⟩, hb1⟩
  have HB1 : Hid (Below w.heap.size w w1) := k1.trans (hb1.mono (by simp))
  clear hb1 k1
  rcases hu with hu | ⟨hu, hu2⟩
  · go_wp2
    go_ret
    exact ⟨⟨-1, rfl, .inl (by omega)⟩, HB1.out⟩
  · have hnn : ¬ u < 0 := by omega
    have HU : Hid (MFits m) := by show m.length + szR m ≤ 1048576; omega
    clear hu2
    go_wp2
    go_ret
    exact ⟨⟨u, rfl, .inr ⟨hu, HU.out⟩⟩, HB1.out⟩

end Go.Proofs.Ytpcmplckklmeoaa
