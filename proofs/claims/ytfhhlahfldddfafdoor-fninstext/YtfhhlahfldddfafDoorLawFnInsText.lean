/- The law FnInsText of the given statements: a drawn place is read from its line as it was; a line that is read is written as it was. Condition: the card's own (the listed tables hold what the program's text lays). -/
import Derived.Test.YtfhhlahfldddfafDoorFrameD
import Derived.Test.YtfhhlahfldddfafDoorDent
import Derived.Test.YtfhhlahfldddfafDoorRead5
import Derived.Test.YtfhhlahfldddfafDoorSRead5
import Derived.Test.YtfhhlahfldddfafDoorCards
import Derived.Test.YtfhhlahfldddfafDoorTie
import Derived.SevenTiedAt
import Derived.OpenVars
namespace Go.Proofs.YtfhhlahfldddfafDoor
set_option linter.unusedSimpArgs false
set_option linter.unusedVariables false
set_option maxRecDepth 100000
open Go.ChangeShapes Go.WideShapes Go.ChangeAt Go.RowKit

theorem big_any (s : Option Addr) (n c : Nat) (w : World) : Calls Tryd.prog 4 #[.slice s n c] w fun e w' => e = .returned (.bool (decide (1048576 < n))) ∧ w' = w := by
  go_enter Tryd.func4, Tryd.ntmps4
  go_wp2
  go_ret
  refine ⟨ret_bool ?_, rfl⟩
  rw [Bool.eq_iff_iff]
  simp
  omega
theorem bytes_up {w w' : World} {s : Option Addr} {n : Nat} (h : Bytes w w.heap.size s n) (hb : Below w.heap.size w w') : Bytes w' w'.heap.size s n := by
  have h1 := h.below hb (Nat.le_refl _)
  have hz := hb.size
  rcases h1 with h1 | ⟨g, o, hs, hg, hc⟩
  · exact .inl h1
  · exact .inr ⟨g, o, hs, by omega, hc⟩
theorem readV_none : readV none = .tuple #[.agg #[.int .i64 0, .int .i64 0, .int .i64 0, .int .i64 0, .int .i64 0], .bool false] := rfl
theorem readV_some (o r a b n : Int) : readV (some ⟨o, r, a, b, n⟩) = .tuple #[.agg #[.int .i64 o, .int .i64 r, .int .i64 a, .int .i64 b, .int .i64 n], .bool true] := rfl
theorem read_text {l : List UInt8} {x : R5} (h : readL l = some x) : textL x.o x.r x.a x.b x.n = l := by
  have h2 := spec_of_read h
  unfold specW at h2
  split at h2
  · cases h2
  · rename_i vs hvs
    by_cases hc : l = [] ∨ textR (putX (opL ((splitA 32 [] l).headD [])) (vs.getD 0 0) (vs.getD 1 0) (vs.getD 2 0)) ≠ l
    · rw [if_pos hc] at h2; cases h2
    · rw [if_neg hc] at h2
      injection h2 with h2
      have ht : textR x = l := by rw [← h2]; exact Classical.byContradiction fun e => hc (.inr e)
      exact ht

set_option maxHeartbeats 8000000 in
theorem walkFnInsText (s : Option Addr) (n c : Nat) (w : World) (hb : Bytes w w.heap.size s n) (hn : n ≤ maxLen) (hE : Env w w.heap.size) :
    Calls Tryd.prog 3 #[.slice s n c] w fun e w' => e = .returned (.bool true) ∧ Below w.heap.size w w' := by
  have HB : Hid (Bytes w w.heap.size s n) := hb
  have HE : Hid (Env w w.heap.size) := hE
  clear hb hE
  by_cases hbig : 1048576 < n
  · go_enter Tryd.func3, Tryd.ntmps3
    go_wp2_with (go_at_call 4; refine (big_any _ _ _ _).mono ?_; rintro e w' ⟨rfl, hw⟩; have hw' := hw.symm; clear hw; subst hw'; rw [decide_eq_true hbig])
    go_ret
    exact ⟨rfl, Below.refl _ _⟩
  · go_enter Tryd.func3, Tryd.ntmps3
    go_wp2_with (go_at_call 4; refine (big_any _ _ _ _).mono ?_; rintro e w' ⟨rfl, hw⟩; have hw' := hw.symm; clear hw; subst hw'; rw [decide_eq_false hbig])
    refine (drawInsText_any s n c w HB.out hn).mono ?_
    rintro e w1 ⟨o, r, a, b, m, rfl, hb1⟩
    have K1 : Hid (Below w.heap.size w w1) := hb1
    have KA : Hid (Below w.heap.size w (w1.alloc (box5 o r a b m))) := K1.out.alloc K1.out.size _
    have EA : Hid (Env (w1.alloc (box5 o r a b m)) (w1.alloc (box5 o r a b m)).heap.size) := (HE.out.keep KA.out).mono KA.out.size
    have XA : Hid ((w1.alloc (box5 o r a b m)).heap[w1.heap.size]? = some (box5 o r a b m)) := push_last _ _
    clear hb1
    go_wp2_with fail
    refine (implInsText_any o r a b m _ EA.out).mono ?_
    rintro e w2 ⟨rfl, hb2⟩
    have hx2 := (hb2.block w1.heap.size (by simp)).trans XA.out
    have K2 : Hid (Below w.heap.size w w2) := KA.out.trans (hb2.mono KA.out.size)
    have z2 : w1.heap.size < w2.heap.size := by have := hb2.size; simp at this; omega
    have X2 : Hid (w2.heap[w1.heap.size]? = some (box5 o r a b m)) := hx2
    obtain ⟨x0, x1, x2, x3, x4⟩ := box5_cells hx2
    clear hb2 hx2 KA EA XA
    go_wp2_with fail
    refine (specInsText_any o r a b m _).mono ?_
    rintro e w3 ⟨rfl, hb3⟩
    have hx3 := (hb3.block w1.heap.size z2).trans X2.out
    have K3 : Hid (Below w.heap.size w w3) := K2.out.trans (hb3.mono K2.out.size)
    have z3 : w1.heap.size < w3.heap.size := by have := hb3.size; omega
    have X3 : Hid (w3.heap[w1.heap.size]? = some (box5 o r a b m)) := hx3
    clear x0 x1 x2 x3 x4
    obtain ⟨x0, x1, x2, x3, x4⟩ := box5_cells hx3
    clear hb3 hx3
    cases hv : Plain.insB o r a b m 24 3
    · have T : Hid (textL o r a b m = []) := by show _ = _; unfold textL; rw [hv]; rfl
      have V : Hid (Plain.insB o r a b m 24 3 = false) := hv
      rw [T.out]
      clear hv
      go_wp2_with fail
      refine (insOk_any o r a b m 24 3 _).mono ?_
      rintro e wN ⟨rfl, hbN⟩
      rw [V.out]
      have KN : Hid (Below w.heap.size w wN) := K3.out.trans (hbN.mono K3.out.size)
      clear hbN x0 x1 x2 x3 x4
      go_wp2_with fail
      refine (drawInsRead_any s n c wN (bytes_up HB.out KN.out) hn).mono ?_
      rintro e w6 ⟨l, rfl, hl, hb6⟩
      have K6 : Hid (Below w.heap.size w w6) := KN.out.trans (hb6.mono KN.out.size)
      have E6 : Hid (Env w6 w6.heap.size) := (HE.out.keep K6.out).mono K6.out.size
      clear hb6
      go_wp2_with fail
      refine (implInsRead_any l (by omega) _ E6.out).mono ?_
      rintro e w7 ⟨rfl, hb7⟩
      have K7 : Hid (Below w.heap.size w w7) := K6.out.trans (hb7.mono K6.out.size)
      clear hb7
      cases hr : readL l with
      | none =>
        have HRN : Hid (readL l = none) := hr
        clear hr
        rw [readV_none]
        have KA : Hid (Below w.heap.size w (w7.alloc (box5 0 0 0 0 0))) := K7.out.alloc K7.out.size _
        have XA : Hid ((w7.alloc (box5 0 0 0 0 0)).heap[w7.heap.size]? = some (box5 0 0 0 0 0)) := push_last _ _
        go_wp2_with fail
        refine (specInsRead_any l (by omega) _).mono ?_
        rintro e w8 ⟨rfl, hb8⟩
        have hx8 := (hb8.block w7.heap.size (by simp)).trans XA.out
        have K8 : Hid (Below w.heap.size w w8) := KA.out.trans (hb8.mono (by have := K7.out.size; simp; omega))
        have z8 : w7.heap.size < w8.heap.size := by have := hb8.size; simp at this; omega
        obtain ⟨y0, y1, y2, y3, y4⟩ := box5_cells hx8
        rw [HRN.out, readV_none]
        clear hb8 hx8 XA KA
        have KB : Hid (Below w.heap.size w (w8.alloc (box5 0 0 0 0 0))) := K8.out.alloc K8.out.size _
        go_wp2
        go_ret
        exact ⟨rfl, KB.out⟩
      | some x =>
        have HRN : Hid (readL l = some x) := hr
        have HTX : Hid (textL x.o x.r x.a x.b x.n = l) := read_text hr
        clear hr
        obtain ⟨xo, xr, xa, xb, xn⟩ := x
        rw [readV_some]
        have KA : Hid (Below w.heap.size w (w7.alloc (box5 xo xr xa xb xn))) := K7.out.alloc K7.out.size _
        have XA : Hid ((w7.alloc (box5 xo xr xa xb xn)).heap[w7.heap.size]? = some (box5 xo xr xa xb xn)) := push_last _ _
        go_wp2_with fail
        refine (specInsRead_any l (by omega) _).mono ?_
        rintro e w8 ⟨rfl, hb8⟩
        have hx8 := (hb8.block w7.heap.size (by simp)).trans XA.out
        have K8 : Hid (Below w.heap.size w w8) := KA.out.trans (hb8.mono (by have := K7.out.size; simp; omega))
        have z8 : w7.heap.size < w8.heap.size := by have := hb8.size; simp at this; omega
        obtain ⟨y0, y1, y2, y3, y4⟩ := box5_cells hx8
        rw [HRN.out, readV_some]
        clear hb8 hx8 XA KA
        have KB : Hid (Below w.heap.size w (w8.alloc (box5 xo xr xa xb xn))) := K8.out.alloc K8.out.size _
        have EB : Hid (Env (w8.alloc (box5 xo xr xa xb xn)) (w8.alloc (box5 xo xr xa xb xn)).heap.size) := (HE.out.keep KB.out).mono KB.out.size
        have HT2 : Hid (textL xo xr xa xb xn = l) := HTX.out
        clear HTX
        go_wp2_with fail
        refine (implInsText_any xo xr xa xb xn _ EB.out).mono ?_
        rintro e w9 ⟨rfl, hb9⟩
        have K9 : Hid (Below w.heap.size w w9) := KB.out.trans (hb9.mono KB.out.size)
        rw [HT2.out]
        clear hb9
        go_wp2
        go_ret
        exact ⟨rfl, K9.out⟩
    · have T : Hid (textL o r a b m = wordL o.toNat ++ numText (numsL o r a b m)) := by show _ = _; unfold textL; rw [if_pos hv]
      have V : Hid (Plain.insB o r a b m 24 3 = true) := hv
      have hop := op_in hv
      have htl := textL_le o r a b m
      have HRT : Hid (readL (textL o r a b m) = some ⟨o, r, a, b, m⟩) := by
        obtain ⟨q, rfl⟩ : ∃ q : Nat, o = q := ⟨o.toNat, by omega⟩
        show _ = _
        rw [T.out]
        simpa using read_of_text hv
      have HNE : Hid ((textL o r a b m == []) = false) := by
        show _ = _
        rw [T.out]
        have := word_some (q := o.toNat) (by omega) (by omega)
        simp [this]
      clear hv
      generalize textL o r a b m = tx at HRT HNE htl
      have hne := HNE.out
      go_wp2_with fail
      refine (insOk_any o r a b m 24 3 _).mono ?_
      rintro e w4 ⟨rfl, hb4⟩
      rw [V.out]
      have hx4 := (hb4.block w1.heap.size z3).trans X3.out
      have K4 : Hid (Below w.heap.size w w4) := K3.out.trans (hb4.mono K3.out.size)
      have z4 : w1.heap.size < w4.heap.size := by have := hb4.size; omega
      have E4 : Hid (Env w4 w4.heap.size) := (HE.out.keep K4.out).mono K4.out.size
      have X4 : Hid (w4.heap[w1.heap.size]? = some (box5 o r a b m)) := hx4
      clear hb4 x0 x1 x2 x3 x4 hx4
      go_wp2_with fail
      refine (implInsRead_any tx (by omega) _ E4.out).mono ?_
      rintro e w5 ⟨rfl, hb5⟩
      rw [HRT.out, readV_some]
      have hx5 := (hb5.block w1.heap.size z4).trans X4.out
      have K5 : Hid (Below w.heap.size w w5) := K4.out.trans (hb5.mono K4.out.size)
      have z5 : w1.heap.size < w5.heap.size := by have := hb5.size; omega
      obtain ⟨x0, x1, x2, x3, x4⟩ := box5_cells hx5
      clear hb5 hx5
      obtain ⟨wN, hwN⟩ : ∃ wN, wN = w5.alloc (box5 o r a b m) := ⟨_, rfl⟩
      have KN : Hid (Below w.heap.size w wN) := by rw [hwN]; exact K5.out.alloc K5.out.size _
      have HWN : Hid (wN = w5.alloc (box5 o r a b m)) := hwN
      clear hwN
      go_wp2_with fail
      clear x0 x1 x2 x3 x4
      have KN5 : Hid (Below w.heap.size w (w5.alloc (box5 o r a b m))) := K5.out.alloc K5.out.size _
      clear KN HWN
      revert KN5
      have hq : w5.alloc (.cells #[.int .i64 o, .int .i64 r, .int .i64 a, .int .i64 b, .int .i64 m] 25) = w5.alloc (box5 o r a b m) := rfl
      rw [hq]
      clear hq
      generalize w5.alloc (box5 o r a b m) = wN
      intro KN
      refine (drawInsRead_any s n c wN (bytes_up HB.out KN.out) hn).mono ?_
      rintro e w6 ⟨l, rfl, hl, hb6⟩
      have K6 : Hid (Below w.heap.size w w6) := KN.out.trans (hb6.mono KN.out.size)
      have E6 : Hid (Env w6 w6.heap.size) := (HE.out.keep K6.out).mono K6.out.size
      clear hb6
      go_wp2_with fail
      refine (implInsRead_any l (by omega) _ E6.out).mono ?_
      rintro e w7 ⟨rfl, hb7⟩
      have K7 : Hid (Below w.heap.size w w7) := K6.out.trans (hb7.mono K6.out.size)
      clear hb7
      cases hr : readL l with
      | none =>
        have HRN : Hid (readL l = none) := hr
        clear hr
        rw [readV_none]
        have KA : Hid (Below w.heap.size w (w7.alloc (box5 0 0 0 0 0))) := K7.out.alloc K7.out.size _
        have XA : Hid ((w7.alloc (box5 0 0 0 0 0)).heap[w7.heap.size]? = some (box5 0 0 0 0 0)) := push_last _ _
        go_wp2_with fail
        refine (specInsRead_any l (by omega) _).mono ?_
        rintro e w8 ⟨rfl, hb8⟩
        have hx8 := (hb8.block w7.heap.size (by simp)).trans XA.out
        have K8 : Hid (Below w.heap.size w w8) := KA.out.trans (hb8.mono (by have := K7.out.size; simp; omega))
        have z8 : w7.heap.size < w8.heap.size := by have := hb8.size; simp at this; omega
        obtain ⟨y0, y1, y2, y3, y4⟩ := box5_cells hx8
        rw [HRN.out, readV_none]
        clear hb8 hx8 XA KA
        have KB : Hid (Below w.heap.size w (w8.alloc (box5 0 0 0 0 0))) := K8.out.alloc K8.out.size _
        go_wp2
        go_ret
        exact ⟨rfl, KB.out⟩
      | some x =>
        have HRN : Hid (readL l = some x) := hr
        have HTX : Hid (textL x.o x.r x.a x.b x.n = l) := read_text hr
        clear hr
        obtain ⟨xo, xr, xa, xb, xn⟩ := x
        rw [readV_some]
        have KA : Hid (Below w.heap.size w (w7.alloc (box5 xo xr xa xb xn))) := K7.out.alloc K7.out.size _
        have XA : Hid ((w7.alloc (box5 xo xr xa xb xn)).heap[w7.heap.size]? = some (box5 xo xr xa xb xn)) := push_last _ _
        go_wp2_with fail
        refine (specInsRead_any l (by omega) _).mono ?_
        rintro e w8 ⟨rfl, hb8⟩
        have hx8 := (hb8.block w7.heap.size (by simp)).trans XA.out
        have K8 : Hid (Below w.heap.size w w8) := KA.out.trans (hb8.mono (by have := K7.out.size; simp; omega))
        have z8 : w7.heap.size < w8.heap.size := by have := hb8.size; simp at this; omega
        obtain ⟨y0, y1, y2, y3, y4⟩ := box5_cells hx8
        rw [HRN.out, readV_some]
        clear hb8 hx8 XA KA
        have KB : Hid (Below w.heap.size w (w8.alloc (box5 xo xr xa xb xn))) := K8.out.alloc K8.out.size _
        have EB : Hid (Env (w8.alloc (box5 xo xr xa xb xn)) (w8.alloc (box5 xo xr xa xb xn)).heap.size) := (HE.out.keep KB.out).mono KB.out.size
        have HT2 : Hid (textL xo xr xa xb xn = l) := HTX.out
        clear HTX
        go_wp2_with fail
        refine (implInsText_any xo xr xa xb xn _ EB.out).mono ?_
        rintro e w9 ⟨rfl, hb9⟩
        have K9 : Hid (Below w.heap.size w w9) := KB.out.trans (hb9.mono KB.out.size)
        rw [HT2.out]
        clear hb9
        go_wp2
        go_ret
        exact ⟨rfl, K9.out⟩

/- how the bytes of a draw read -/
theorem bytes_read {H : Type} {enc : TypeId × Value → H} {w : World} {base b0 : Nat} {held : Bool} {k : Reach} {v : Value} {d : DataW H} {p : List MemPlace}
    (hv : Value.okWide Tryd.prog w k b0 22 v) (h : DataW.Trod enc Tryd.prog w base (fun _ => true) held 22 v d p) :
    ∃ (s : Option Addr) (n c : Nat), v = .slice s n c ∧ n ≤ maxLen ∧ Bytes w w.heap.size s n := by
  obtain ⟨s, len, cap, rfl⟩ := okWide_slice Tryd.underlying22 hv
  obtain ⟨fuel, hf⟩ := h
  rcases open_ints Tryd.underlying22 Tryd.underlying5 (by kernel_rfl) hf with ⟨hcs, _⟩ | ⟨a, l, c, zs, hcs, _, hl, hm, hz, _, hcell, hwz⟩
  · simp [Value.cells] at hcs
    obtain ⟨rfl, rfl, rfl⟩ := hcs
    exact ⟨none, 0, 0, rfl, Nat.zero_le _, .inl rfl⟩
  · simp [Value.cells] at hcs
    obtain ⟨rfl, rfl, rfl⟩ := hcs
    simp at hz
    refine ⟨some a, len, cap, rfl, by omega, ?_⟩
    by_cases h0 : len = 0
    · exact .inl h0
    · have c0 := hcell 0 (by omega)
      have c0' : w.cell? a = some (.int .u8 (zs.getD 0 0)) := by simpa [Addr.add] using c0
      have hs := World.cell?_spot c0'
      have hg : a.block < w.heap.size := by
        apply Classical.byContradiction
        intro hn
        have : w.heap[a.block]? = none := by simp; omega
        simp [World.cell?, this] at c0'
      obtain ⟨g, off, spot⟩ := a
      simp at hs
      subst hs
      refine .inr ⟨g, off, rfl, hg, fun i hi => ?_⟩
      have ci := hcell i (by omega)
      have e : (Addr.add ⟨g, off, none⟩ i) = ⟨g, off + i, none⟩ := by
        by_cases h : i = 0
        · subst h; rfl
        · simp [Addr.add, h]
      rw [e] at ci
      have hmem : zs.getD i 0 ∈ zs := by
        rw [List.getD_eq_getElem?_getD, List.getElem?_eq_getElem (by omega)]
        exact List.getElem_mem (by omega)
      have hw := bounds_u8 (hwz _ hmem)
      exact ⟨_, ci, by omega, by omega⟩

set_option maxRecDepth 100000 in
theorem liftedFnInsText (os : Os) (started : os.Started) (H : Type) (enc : TypeId × Value → H) :
    ReturnsInHanded {} Tryd.checked os 3 .any (fun w args => (Rows.fnInsTextSpec.pre enc Tryd.prog Tryd.f3 [] false w args ∧ laidMetH Tryd.prog Rows.fnInsTextRow.laid w) ∧ sizedMet enc Tryd.prog Tryd.f3 (OpenSpec.ofChange Rows.fnInsTextSpec) false w args)
      (Rows.fnInsTextSpec.post enc Tryd.prog Tryd.f3 false true false false) := by
  refine returnsInHanded_of_change_and (C := Tryd.checked) (X := fun w _ => laidMetH Tryd.prog Rows.fnInsTextRow.laid w) (fun _ _ _ hh h => h.of_heap hh) ownD started (by kernel_rfl) Tryd.func3
    (ChangeSpec.witness_shaped (enc := enc) (C := Tryd.checked) (os := os) (X := fun w _ => laidMetH Tryd.prog Rows.fnInsTextRow.laid w) false (World.doorLaid Tryd.prog 42 os) #[.slice none 0 0] 8 rfl (World.shaped_of_RefB (by kernel_rfl) (by kernel_rfl)) (by kernel_rfl) (by kernel_rfl) (by kernel_rfl) (door_met os _)) ?_
  intro W base args ds gs before hval0 hW _ _ hL _
  have hval : ∀ (j : Nat) t v, Tryd.f3.params[j]? = some t → args[j]? = some v → Value.okWide Tryd.prog W .any base t v := hval0
  have hW' := hW
  obtain ⟨p, q, hA0, hV, rfl, hfz, hnd⟩ := hW
  have hA : DataW.TrodAll enc Tryd.prog W 0 (fun _ => true) true Tryd.f3.params.toList args.toList ds p := hA0
  rw [Tryd.params3] at hA hval
  obtain ⟨v0, d0, hargs, rfl, h0⟩ := trodAll_one hA
  obtain rfl : args = #[v0] := by cases args; simp_all
  have hVk := hV
  obtain ⟨g9, t9, cs9, fuel9, d9, p9, rfl, -⟩ := trodVars_one hV
  have k0 := h0
  have lt0 : ∀ x ∈ p, x.block < W.heap.size := by obtain ⟨m, hm⟩ := k0; exact DataW.trod_lt m _ _ _ hm
  obtain ⟨s, n, c, rfl, hn, hB⟩ := bytes_read (hval 0 22 v0 rfl rfl) h0
  clear hA0 hval0
  refine (walkFnInsText s n c W hB hn (env_of_laid hL)).mono fun e W' ⟨he, bel⟩ => ?_
  subst he
  exact ⟨_, rfl, _, _, _, [], _, _, hW', trodAll_mk1 (shut_bool Tryd.underlying4 _), trodAll_mk1 (Below.trod laidOutD (by kernel_rfl) (of_decide_eq_true (by kernel_rfl)) k0 bel lt0), Below.trodVars laidOutD bel (by kernel_rfl) hVk, bel.frame _, fun h => by cases h⟩

theorem fnInsText_row : Rows.FnInsTextSaid :=
  OpenClaim.holds_of_wide 3 Tryd.f3 rfl rfl rfl rfl rfl rfl rfl ⟨rfl, rfl, rfl, rfl, rfl⟩ rfl rfl rfl rfl rfl (by kernel_rfl) Tryd.func3 (by kernel_rfl)
    (of_decide_eq_true (by kernel_rfl)) (by unfold Func.isWrapper; first | (rw [if_pos (by decide +kernel)]; kernel_rfl) | (rw [if_neg (by decide +kernel)]; exact ⟨rfl, rfl⟩))
    (fun os started H enc _ => liftedFnInsText os started H enc)

theorem fnInsText_card : Rows.FnInsTextCardSaid :=
  Claim7.holds_tied_plain_at .later [] [.data, .data, .data, .data] true _ _
    fnInsText_row (fun _ h => by cases h) (by kernel_rfl) (fun _ h => by cases h) fnInsText_row_tie rfl ⟨rfl, rfl⟩ (by kernel_rfl) rfl
    (fun f fn hf hfn => by
      obtain rfl : f = 3 := Option.some.inj ((show Tryd.prog.funcNamed Rows.fnInsTextRow.func = some 3 by kernel_rfl).symm.trans hf) |>.symm
      obtain rfl : fn = Tryd.f3 := (Option.some.inj (Tryd.func3.symm.trans hfn)).symm
      exact ⟨by kernel_rfl, fun j t ht => by
        rw [Tryd.params3] at ht
        have hm : t ∈ [22] := by simpa using Array.mem_of_getElem? ht
        have hall : ([22].all fun u => !Tryd.prog.wantsStandIn u) = true := by kernel_rfl
        exact (show Tryd.prog.wantsStandIn t = false by simpa using List.all_eq_true.1 hall t hm)⟩)
    (by kernel_rfl)
#print axioms fnInsText_card
end Go.Proofs.YtfhhlahfldddfafDoor
