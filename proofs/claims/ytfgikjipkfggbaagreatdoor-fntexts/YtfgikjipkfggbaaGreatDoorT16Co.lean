/- CodeText of the program and of the specification: at every row of steps, its text. Conditions: at most 1048576 steps; strconv's table as laid. -/
import Derived.Test.YtfgikjipkfggbaaGreatDoorQuietC
import Derived.Test.YtfgikjipkfggbaaGreatDoorT16W
import Derived.Test.YtfgikjipkfggbaaGreatDoorT16St
import Derived.Test.YtfgikjipkfggbaaGreatDoorT16Pure
import Derived.Test.YtfgikjipkfggbaaGreatDoorT16Env
import Derived.Test.YtfgikjipkfggbaaGreatDoorStepLists
import Derived.Test.YtfgikjipkfggbaaGreatDoorOwnT
import Derived.Test.YtfgikjipkfggbaaGreatDoorCode
import Derived.Test.YtfgikjipkfggbaaGreatDoorC7Plain
import Derived.Test.YtfgikjipkfggbaaGreatDoorT16Tx
import Derived.Test.YtfgikjipkfggbaaGreatDoorT16Sp
import Derived.Test.YtfgikjipkfggbaaGreatDoorCodeI
import Derived.Test.YtfgikjipkfggbaaGreatDoorCodeS
namespace Go.Proofs.YtfgikjipkfggbaaGreatDoor
set_option linter.unusedSimpArgs false
set_option linter.unusedVariables false
set_option maxRecDepth 100000
open Go.RowKit

set_option maxHeartbeats 2000000 in
theorem rowsX_any (n : Nat) (p0 p1 : Value) (T : Nat → List UInt8) (I : World → Prop) (B : Nat) (w : World) (hn : n ≤ 1048576) (hB : B < w.heap.size) (h0 : I w)
    (hI : ∀ X X', I X → Below w.heap.size X X' → I X')
    (hf : ∀ (k : Nat) X, k < n → w.heap.size ≤ X.heap.size → I X → Calls Tryz.prog 28 #[.int .i64 k, p0, p1] X fun e X' => e = .returned (.string ⟨(T k).toArray⟩) ∧ I X' ∧ Kb B X X') :
    Calls Tryz.prog 27 #[.int .i64 n, .func (.func 28) #[] #[p0, p1]] w fun e w' => ∃ v, e = .returned v ∧ OwnT w' w.heap.size v ((List.range n).map T) ∧ I w' ∧ Kb B w w' := by
  have HF := hidT hf
  have HI := hidT hI
  have H0 := hidT h0
  clear hf hI h0
  go_enter Tryz.func27, Tryz.ntmps27
  go_wp2_with fail
  go_loopw [5, 8] (fun v i wr => ∃ k : Nat, k ≤ n ∧ i = .int .i64 k ∧ OwnT wr w.heap.size v ((List.range k).map T) ∧ I wr ∧ Kb B w wr) (fun _ i _ => n - (intOf i).toNat)
  case atStart => exact ⟨0, Nat.zero_le _, rfl, ownT_nil _ _, H0.out, Kb.refl _ _⟩
  case round =>
    obtain ⟨k, hk, rfl, ho, hi, hb⟩ := hrel
    have hsr := hb.size
    have HO := hidT ho
    have HR := hidT hi
    have HK := hidT hb
    clear ho hi hb
    by_cases hlt : k < n
    · have i1 : (k : Int) < (n : Int) := by omega
      have HX : Hid ((List.range (k + 1)).map T = (List.range k).map T ++ [T k]) := by show _ = _; rw [List.range_succ]; simp
      have hlen : ((List.range k).map T).length ≤ 1099511627776 := by simp; omega
      generalize (List.range k).map T = tx at HO HX hlen
      go_wp2_with fail
      refine Calls.mono (HF.out k wr hlt hsr HR.out) ?_
      rintro e w4 ⟨rfl, hi4, hk4⟩
      have O4 := hidT (HO.out.kb hk4 hB)
      have K4 := hidT (HK.out.trans hk4)
      have I4 := hidT hi4
      have s4 := hk4.size
      clear hi4 hk4 HO HK HR
      go_wp2_with (at_builtin; refine app_str rfl _ _ rfl w4 (T k) w.heap.size u5 tx rfl O4.out rfl (by omega) (by omega) ?_; intro g5 cap5 w5 ho5 hb5 hs5 hg5; have O5 := hidT ho5; have B5 := hidT hb5; clear ho5 hb5)
      go_roundw
      case rel => exact ⟨k + 1, by omega, by go_num, by rw [HX.out]; exact O5.out, HI.out _ _ I4.out B5.out, K4.out.on B5.out (Nat.le_refl _)⟩
      case measure => simp [intOf]; omega
    · have i1 : ¬ (k : Int) < (n : Int) := by omega
      have : k = n := by omega
      subst this
      go_wp2
      go_ret
      exact ⟨_, rfl, HO.out, HR.out, HK.out⟩


def lnT (x : I5) : List UInt8 := stT x.o x.r x.a x.b x.n ++ [10]
def codT (l : List I5) : List UInt8 := if codeB l = true then (l.map lnT).flatten else []
theorem stT_len (o r a b n : Int) : (stT o r a b n).length ≤ 140 := by
  unfold stT
  split
  · rename_i h
    have h1 := ltsT_len (stOk_of h) (maL o.toNat)
    have h2 := maL_len o.toNat
    simp only [List.length_append]
    omega
  · simp
theorem lnT_len (x : I5) : (lnT x).length ≤ 141 := by have := stT_len x.o x.r x.a x.b x.n; simp [lnT]; omega
theorem stepB_more {o r a b n pl : Int} (h : Plain.stepB o r a b n pl = true) (hp : pl ≤ 800) : Plain.stepB o r a b n 800 = true := by
  obtain ⟨a1, a2, a3, a4, a5, a6, a7⟩ := of_decide_eq_true h
  refine decide_eq_true ⟨a1, a2, a3, a4, a5, a6, ?_⟩
  rcases a7 with h | h | h | h | h | h | h | h | h
  · exact .inl h
  · exact .inr (.inl h)
  · exact .inr (.inr (.inl h))
  · exact .inr (.inr (.inr (.inl h)))
  · exact .inr (.inr (.inr (.inr (.inl h))))
  · exact .inr (.inr (.inr (.inr (.inr (.inl h)))))
  · exact .inr (.inr (.inr (.inr (.inr (.inr (.inl ⟨h.1, h.2.1, Int.lt_of_lt_of_le h.2.2.1 hp, h.2.2.2⟩))))))
  · exact .inr (.inr (.inr (.inr (.inr (.inr (.inr (.inl ⟨h.1, h.2.1, Int.lt_of_lt_of_le h.2.2.1 hp, h.2.2.2⟩)))))))
  · exact .inr (.inr (.inr (.inr (.inr (.inr (.inr (.inr h)))))))
theorem code_each {l : List I5} (h : codeB l = true) : (1 ≤ l.length ∧ l.length ≤ 800) ∧ ∀ i, i < l.length → Plain.stepB (l.getD i z5).o (l.getD i z5).r (l.getD i z5).a (l.getD i z5).b (l.getD i z5).n 800 = true := by
  unfold codeB at h
  simp only [Bool.and_eq_true, decide_eq_true_eq] at h
  exact ⟨h.2.1, fun i hi => stepB_more (h.1 i hi) (by have := h.2.1.2; omega)⟩
theorem ins_cells5 {w : World} {B : Nat} {s : Option Addr} {l : List I5} (h : InsB w B s l) {k : Nat} (hk : k < l.length) : ∃ g off, s = some ⟨g, off, none⟩ ∧ g < B ∧ At5 w g (off + k * 5) (l.getD k z5) := by
  rcases h with h | ⟨g, off, a, b, d⟩
  · rw [h] at hk; simp at hk
  · exact ⟨g, off, a, b, d k hk⟩

/- what CodeText's closure goes by -/
structure CoI (s : Option Addr) (c hi L B : Nat) (l : List I5) (X : World) : Prop where
  bx : X.cell? ⟨L, 0, none⟩ = some (.slice s l.length c)
  st : InsB X hi s l
  ev : Env X L
  wb : WB X B 0 0 false 0 ∨ WB X B 1 0 true 8
theorem CoI.keep {s : Option Addr} {c hi L B : Nat} {l : List I5} {X Y : World} (h : CoI s c hi L B l X) (hb : Below (B + 1) X Y) (h1 : hi ≤ L) (h2 : L < B) : CoI s c hi L B l Y :=
  ⟨(hb.cell (p := ⟨L, 0, none⟩) (by show L < _; omega)).trans h.bx, h.st.keep (hb.mono (by omega)), h.ev.keep (hb.mono (by omega)), by
    rcases h.wb with h | h
    · exact .inl (h.below hb (Nat.lt_succ_self _))
    · exact .inr (h.below hb (Nat.lt_succ_self _))⟩

set_option maxHeartbeats 2000000 in
theorem code1_any (s : Option Addr) (c hi L B : Nat) (l : List I5) (k : Nat) (w : World) (h : CoI s c hi L B l w) (h1 : hi ≤ L) (h2 : L < B) (hc : codeB l = true) (hk : k < l.length) :
    Calls Tryz.prog 28 #[.int .i64 k, .pointer (some ⟨B, 0, none⟩), .pointer (some ⟨L, 0, none⟩)] w fun e w' => e = .returned (.string ⟨(lnT (l.getD k z5)).toArray⟩) ∧ CoI s c hi L B l w' ∧ Kb B w w' := by
  obtain ⟨⟨hl1, hl2⟩, he⟩ := code_each hc
  have hs := he k hk
  have zB : B < w.heap.size := by rcases h.wb with h | h <;> exact h.lt
  obtain ⟨g, off, hs', hg, c0, c1, c2, c3, c4⟩ := ins_cells5 h.st hk
  subst hs'
  have i0 : (0 : Int) ≤ (k : Int) := by omega
  have i1 : (k : Int) < (l.length : Int) := by omega
  have bx := h.bx
  have HI := hidT h
  have EV := hidT (h.ev.mono (Nat.le_of_lt h2))
  generalize l.getD k z5 = x at c0 c1 c2 c3 c4 hs
  obtain ⟨xo, xr, xa, xb, xn⟩ := x
  simp only at c0 c1 c2 c3 c4 hs
  have HT : Hid (lnT ⟨xo, xr, xa, xb, xn⟩ = (maW xo.toNat ++ ltsT xo xr xa xb xn (maL xo.toNat)) ++ [10]) := by show stT xo xr xa xb xn ++ [10] = _; unfold stT; rw [if_pos hs]
  have ht : (maW xo.toNat ++ ltsT xo xr xa xb xn (maL xo.toNat)).length ≤ 140 := by
    have := stT_len xo xr xa xb xn
    unfold stT at this
    rwa [if_pos hs] at this
  have TX : Hid (Calls Tryz.prog 26 #[.pointer (some ⟨B, 0, none⟩), .agg #[.int .i64 xo, .int .i64 xr, .int .i64 xa, .int .i64 xb, .int .i64 xn]] w fun e w' => e = .returned (.string ⟨(maW xo.toNat ++ ltsT xo xr xa xb xn (maL xo.toNat)).toArray⟩) ∧ WB w' B 1 0 true 8 ∧ Kb B w w') := text_any B xo xr xa xb xn w h.wb EV.out (stOk_of hs)
  clear h he hc hs
  generalize maW xo.toNat ++ ltsT xo xr xa xb xn (maL xo.toNat) = tx at HT ht TX
  have a0 := addS tx [10] (by simp; omega)
  go_enter Tryz.func28, Tryz.ntmps28
  go_wp2_with fail
  refine Calls.mono TX.out ?_
  rintro e w1 ⟨rfl, hw1, hk1⟩
  have I1 : Hid (CoI (some ⟨g, off, none⟩) c hi L B l w1) := by
    have hb := hk1.below (Nat.le_refl B) (Nat.le_of_lt zB)
    exact ⟨(hb.cell (p := ⟨L, 0, none⟩) h2).trans HI.out.bx, HI.out.st.keep (hb.mono (by omega)), HI.out.ev.keep (hb.mono (by omega)), .inr hw1⟩
  have K1 := hidT hk1
  clear hw1 hk1
  go_wp2
  go_ret
  exact ⟨by rw [HT.out]; rfl, I1.out, K1.out⟩

set_option maxHeartbeats 4000000 in
theorem implCodT_any (s : Option Addr) (c hi : Nat) (l : List I5) (w : World) (h : InsB w hi s l) (hB : hi ≤ w.heap.size) (hl : l.length ≤ 1048576) (hE : Env w w.heap.size) :
    Calls Tryz.prog 10 #[.slice s l.length c] w fun e w' => e = .returned (.string ⟨(codT l).toArray⟩) ∧ Below w.heap.size w w' := by
  obtain ⟨W, hW⟩ : ∃ W, w.alloc (.cells #[.slice s l.length c] 27) = W := ⟨_, rfl⟩
  have kW : Below w.heap.size w W := by subst hW; exact (Below.refl _ _).alloc (Nat.le_refl _) _
  have sW : w.heap.size < W.heap.size := by subst hW; simp
  have x0 : W.cell? ⟨w.heap.size, 0, none⟩ = some (.slice s l.length c) := by subst hW; simp [go_sem]
  have HP := hidT (h.keep (w' := W) (kW.mono hB))
  have KW := hidT kW
  have EW := hidT (hE.keep kW)
  clear h hE kW
  cases hv : codeB l
  · have HT : Hid (codT l = []) := by show _ = _; unfold codT; rw [hv]; rfl
    have V := hidT hv
    clear hv
    go_enter Tryz.func10, Tryz.ntmps10
    go_wp2_with fail
    try rw [hW]
    refine (implCode_any s c hi l W HP.out (by omega) hl).mono ?_
    rintro e w1 ⟨rfl, hb1⟩
    rw [V.out]
    have K1 := hidT (KW.out.trans (hb1.mono (Nat.le_of_lt sW)))
    clear hb1
    go_wp2
    go_ret
    exact ⟨by rw [HT.out]; rfl, K1.out⟩
  · have HT : Hid (codT l = Lib.join (l.map lnT) []) := by show _ = _; unfold codT; rw [if_pos hv, join_empty]
    have V := hidT hv
    have hce := (code_each hv).1
    clear hv
    have hj : (Lib.join (l.map lnT) []).length ≤ 142 * l.length := by
      have := join_le 141 (l.map lnT) [] (fun x hx => by obtain ⟨y, -, rfl⟩ := List.mem_map.1 hx; exact lnT_len y) (by simp)
      simpa using this
    have HX : Hid (((List.range l.length).map fun k => lnT (l.getD k z5)) = l.map lnT) := by
      show _ = _
      apply List.ext_getElem?
      intro i
      rw [List.getElem?_map, List.getElem?_map]
      by_cases hi : i < l.length
      · rw [List.getElem?_range hi]; simp [List.getElem?_eq_getElem hi]
      · rw [List.getElem?_eq_none (by simp; omega), List.getElem?_eq_none (by omega)]; rfl
    go_enter Tryz.func10, Tryz.ntmps10
    go_wp2_with fail
    try rw [hW]
    clear hW
    refine (implCode_any s c hi l W HP.out (by omega) hl).mono ?_
    rintro e w1 ⟨rfl, hb1⟩
    rw [V.out]
    have K1 := hidT (KW.out.trans (hb1.mono (Nat.le_of_lt sW)))
    have s1 : w.heap.size < w1.heap.size := by have := hb1.size; omega
    have z0 := (hb1.cell (p := ⟨w.heap.size, 0, none⟩) sW).trans x0
    have P1 := hidT (HP.out.keep (hb1.mono (by omega)))
    have E1 := hidT (EW.out.keep (hb1.mono (Nat.le_of_lt sW)))
    clear hb1 x0 HP EW KW
    obtain ⟨U, hU, ub, uk, us⟩ := wb_new w1
    have y0 := (uk.cell (p := ⟨w.heap.size, 0, none⟩) s1).trans z0
    have IU : CoI s c hi w.heap.size w1.heap.size l U := ⟨y0, P1.out.keep (uk.mono (by omega)), E1.out.keep (uk.mono (Nat.le_of_lt s1)), .inl ub⟩
    have HI := hidT IU
    have KU := hidT (K1.out.trans (uk.mono (Nat.le_of_lt s1)))
    clear IU ub uk P1 E1 K1
    go_wp2_with fail
    try rw [hU]
    clear hU
    refine Calls.mono (rowsX_any l.length (.pointer (some ⟨w1.heap.size, 0, none⟩)) (.pointer (some ⟨w.heap.size, 0, none⟩)) (fun k => lnT (l.getD k z5)) (CoI s c hi w.heap.size w1.heap.size l) w1.heap.size U hl us HI.out (fun X X' hX hb => hX.keep (hb.mono us) hB s1) (fun k X hk hX hi => ?_)) ?_
    · exact code1_any s c _ w.heap.size w1.heap.size l k X hi hB s1 V.out hk
    · rintro e w2 ⟨v, rfl, ho, hi2, hk2⟩
      rw [HX.out] at ho
      have s2 := hk2.size
      have K2 := hidT (KU.out.trans ((hk2.below (Nat.le_refl _) (Nat.le_of_lt us)).mono (Nat.le_of_lt s1)))
      have HO := hidT ho
      clear ho hi2 hk2 HI KU HX
      go_wp2_with fail
      refine (joinO v (l.map lnT) [] _ w2 HO.out (by simp; omega) (by omega)).mono ?_
      rintro e w3 ⟨rfl, hb3⟩
      have K3 := hidT (K2.out.trans (hb3.mono (by omega)))
      clear hb3
      go_wp2
      go_ret
      exact ⟨by rw [HT.out]; rfl, K3.out⟩

theorem flat_take {l : List I5} {k : Nat} (h : k < l.length) : ((l.take (k + 1)).map lnT).flatten = ((l.take k).map lnT).flatten ++ stT (l.getD k z5).o (l.getD k z5).r (l.getD k z5).a (l.getD k z5).b (l.getD k z5).n ++ [10] := by
  have e : l.take (k + 1) = l.take k ++ [l.getD k z5] := by
    rw [List.take_add_one, List.getD_eq_getElem?_getD, List.getElem?_eq_getElem h]
    rfl
  rw [e]
  simp only [List.map_append, List.flatten_append, List.map_cons, List.map_nil, List.flatten_cons, List.flatten_nil, List.append_nil, List.append_assoc]
  rfl
theorem flat_len (l : List I5) : (l.map lnT).flatten.length ≤ 142 * l.length := by
  rw [← join_empty]
  have := join_le 141 (l.map lnT) [] (fun x hx => by obtain ⟨y, -, rfl⟩ := List.mem_map.1 hx; exact lnT_len y) (by simp)
  simpa using this

set_option maxHeartbeats 4000000 in
theorem specCodT_any (s : Option Addr) (c hi : Nat) (l : List I5) (w : World) (h : InsB w hi s l) (hB : hi ≤ w.heap.size) (hl : l.length ≤ 1048576) :
    Calls Tryz.prog 14 #[.slice s l.length c] w fun e w' => e = .returned (.string ⟨(codT l).toArray⟩) ∧ Below w.heap.size w w' := by
  have HP := hidT h
  clear h
  cases hv : codeB l
  · have HT : Hid (codT l = []) := by show _ = _; unfold codT; rw [hv]; rfl
    have V := hidT hv
    clear hv
    go_enter Tryz.func14, Tryz.ntmps14
    go_wp2_with fail
    go_loopw [3, 4] (fun t i wr => i = .int .i64 0 ∧ t = .string ⟨#[]⟩ ∧ wr = w) (fun _ i _ => 1)
    case atStart => exact ⟨rfl, rfl, rfl⟩
    case round =>
      obtain ⟨rfl, rfl, hw⟩ := hrel
      have hw' := hw.symm
      clear hw
      subst hw'
      by_cases h0 : (0 : Int) < (l.length : Int)
      · go_wp2_with (go_at_call 38; refine (specCode_any s c hi l w HP.out hB hl).mono ?_; rintro e w1 ⟨rfl, hb1⟩; rw [V.out]; have K1 := hidT hb1; clear hb1)
        go_ret
        exact ⟨by rw [HT.out]; rfl, K1.out⟩
      · go_wp2
        go_ret
        exact ⟨by rw [HT.out]; rfl, Below.refl _ _⟩
  · have HT : Hid (codT l = (l.map lnT).flatten) := by show _ = _; unfold codT; rw [if_pos hv]
    have V := hidT hv
    clear hv
    go_enter Tryz.func14, Tryz.ntmps14
    go_wp2_with fail
    go_loopw [3, 4] (fun t i wr => ∃ k : Nat, k ≤ l.length ∧ i = .int .i64 k ∧ t = .string ⟨((l.take k).map lnT).flatten.toArray⟩ ∧ Below w.heap.size w wr) (fun _ i _ => l.length - (intOf i).toNat)
    case atStart => exact ⟨0, Nat.zero_le _, rfl, by simp, Below.refl _ _⟩
    case round =>
      obtain ⟨k, hk, rfl, rfl, hbr⟩ := hrel
      have KR := hidT hbr
      have hsr := hbr.size
      clear hbr
      have hfl : ((l.take k).map lnT).flatten.length ≤ 200000000 := by
        have h1 := flat_len (l.take k)
        have h2 : (l.take k).length ≤ l.length := by rw [List.length_take]; omega
        omega
      by_cases hlt : k < l.length
      · have i0 : (0 : Int) ≤ (k : Int) := by omega
        have i1 : (k : Int) < (l.length : Int) := by omega
        have HX : Hid (((l.take (k + 1)).map lnT).flatten = ((l.take k).map lnT).flatten ++ stT (l.getD k z5).o (l.getD k z5).r (l.getD k z5).a (l.getD k z5).b (l.getD k z5).n ++ [10]) := flat_take hlt
        generalize ((l.take k).map lnT).flatten = tx at hfl HX
        have PR := hidT (HP.out.keep (w' := wr) (KR.out.mono hB))
        obtain ⟨g, off, hs', hg, c0, c1, c2, c3, c4⟩ := ins_cells5 PR.out hlt
        subst hs'
        generalize l.getD k z5 = x at c0 c1 c2 c3 c4 HX
        obtain ⟨xo, xr, xa, xb, xn⟩ := x
        simp only at c0 c1 c2 c3 c4 HX
        have hst := stT_len xo xr xa xb xn
        have SP : Hid (∀ X : World, Calls Tryz.prog 13 #[.agg #[.int .i64 xo, .int .i64 xr, .int .i64 xa, .int .i64 xb, .int .i64 xn]] X fun e w' => e = .returned (.string ⟨(stT xo xr xa xb xn).toArray⟩) ∧ Below X.heap.size X w') := fun X => specStepText_any xo xr xa xb xn X
        generalize stT xo xr xa xb xn = ty at hst SP HX
        have a0 := addS tx ty (by omega)
        have a1 := addS (tx ++ ty) [10] (by simp; omega)
        obtain ⟨t1, h1⟩ : ∃ t1, tx ++ ty = t1 := ⟨_, rfl⟩
        rw [h1] at a0 a1 HX
        obtain ⟨t2, h2⟩ : ∃ t2, t1 ++ [10] = t2 := ⟨_, rfl⟩
        rw [h2] at a1 HX
        clear h1 h2
        go_wp2_with (go_at_call 38; refine (specCode_any _ c hi l wr PR.out (by omega) hl).mono ?_; rintro e w1 ⟨rfl, hb1⟩; rw [V.out]; have d0 := (hb1.cell (p := ⟨g, off + k * 5, none⟩) (by show g < _; omega)).trans c0; have d1 := (hb1.cell (p := ⟨g, off + k * 5 + 1, none⟩) (by show g < _; omega)).trans c1; have d2 := (hb1.cell (p := ⟨g, off + k * 5 + 2, none⟩) (by show g < _; omega)).trans c2; have d3 := (hb1.cell (p := ⟨g, off + k * 5 + 3, none⟩) (by show g < _; omega)).trans c3; have d4 := (hb1.cell (p := ⟨g, off + k * 5 + 4, none⟩) (by show g < _; omega)).trans c4; have s1 := hb1.size; have K1 := hidT (KR.out.trans (hb1.mono hsr)); clear hb1 c0 c1 c2 c3 c4)
        refine Calls.mono (SP.out w1) ?_
        rintro e w2 ⟨rfl, hb2⟩
        have K2 := hidT (K1.out.trans (hb2.mono (by omega)))
        clear hb2 d0 d1 d2 d3 d4
        go_wp2
        go_roundw
        case rel => exact ⟨k + 1, by omega, by go_num, by rw [HX.out], K2.out⟩
        case measure => simp [intOf]; omega
      · have i1 : ¬ (k : Int) < (l.length : Int) := by omega
        have e : l.take k = l := List.take_of_length_le (by omega)
        rw [e]
        clear e
        go_wp2
        go_ret
        exact ⟨by rw [HT.out]; rfl, KR.out⟩

end Go.Proofs.YtfgikjipkfggbaaGreatDoor
