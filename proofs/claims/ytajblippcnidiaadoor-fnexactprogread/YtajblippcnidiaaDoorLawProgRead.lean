/- The law FnExactProgRead of the given statements: at every text ProgRead of the program answers as the specification's, and its answer owns its memory. Condition: the card's own (the listed tables hold what the program's text lays). -/
import Derived.Test.YtajblippcnidiaaDoorFrameE
import Derived.Test.YtajblippcnidiaaDoorMarkAll
import Derived.Test.YtajblippcnidiaaDoorSPRead4
import Derived.Test.YtajblippcnidiaaDoorPRead6
import Derived.Test.YtajblippcnidiaaDoorCards
import Derived.Test.YtajblippcnidiaaDoorTie
import Derived.SevenTiedAt
import Derived.OpenVars
import Derived.ChangeMaps5
namespace Go.Proofs.YtajblippcnidiaaDoor
set_option linter.unusedSimpArgs false
set_option linter.unusedVariables false
set_option maxRecDepth 100000
open Go.ChangeShapes Go.WideShapes Go.ChangeAt Go.RowKit Go.ChangeMaps

def readU (base : Nat) (p : PD) (b : Bool) (e : Ending) (w' : World) : Prop := ∃ v v', e = .returned (.tuple #[.agg #[v, v'], .bool b]) ∧ OwnN w' base v p.caps ∧ OwnB w' base v' p.bods
theorem bothRead (l : List UInt8) (hl : l.length ≤ 1048576) : ∃ p b, (Fits p ∨ ∀ base e w', ¬ readPost base (readP l) e w') ∧ ∀ base e w', readPost base (readP l) e w' → readU base p b e w' := by
  cases hr : readP l with
  | none => exact ⟨⟨[], []⟩, false, .inl ⟨by simp, by simp, fun i hi => absurd hi (Nat.not_lt_zero _)⟩, fun base e w' h => ⟨_, _, h, World.ownsRow_nil _ _ _ _, OwnB.nil _ _⟩⟩
  | some p =>
    by_cases hf : Fits p
    · exact ⟨p, true, .inl hf, fun base e w' h => by obtain ⟨v, v', h1, h2, h3, -⟩ := h; exact ⟨v, v', h1, h2, h3⟩⟩
    · exact ⟨p, true, .inr (fun base e w' h => by obtain ⟨v, v', h1, h2, h3, h4⟩ := h; exact hf h4), fun base e w' h => by obtain ⟨v, v', h1, h2, h3, -⟩ := h; exact ⟨v, v', h1, h2, h3⟩⟩

structure Bx2 (G : Nat) (W : World) (a b : Value) : Prop where
  c0 : W.cell? ⟨G, 0, none⟩ = some a
  c1 : W.cell? ⟨G, 1, none⟩ = some b
  z : G < W.heap.size
theorem bx2 (w : World) (a b : Value) (T : TypeId) : ∃ W, w.alloc (.cells #[a, b] T) = W ∧ Bx2 w.heap.size W a b ∧ Below w.heap.size w W ∧ w.heap.size < W.heap.size :=
  ⟨_, rfl, ⟨by simp [go_sem], by simp [go_sem], by simp⟩, (Below.refl _ _).alloc (Nat.le_refl _) _, by simp⟩
theorem Bx2.keep {G : Nat} {W W' : World} {a b : Value} (h : Bx2 G W a b) (hb : W'.heap[G]? = W.heap[G]?) (hz : W.heap.size ≤ W'.heap.size) : Bx2 G W' a b :=
  ⟨(World.cell?_of_block (w := W) (a := ⟨G, 0, none⟩) hb).trans h.c0, (World.cell?_of_block (w := W) (a := ⟨G, 1, none⟩) hb).trans h.c1, by have := h.z; omega⟩

theorem ProgR.keepP {w w' : World} {lo hi : Nat} {s s' : Option Addr} {p : PD} (h : ProgR w lo hi s s' p) (hb : Keep lo hi w w') : ProgR w' lo hi s s' p := ⟨h.1.keep hb, h.2.keep hb⟩
theorem OwnK.keepK {w w' : World} {base n : Nat} {v : Value} {xs : List Value} {f : Nat → List I5} (h : OwnK w base v xs n f) (hb : ∀ k, k < w.heap.size → w'.heap[k]? = w.heap[k]?) : OwnK w' base v xs n f :=
  ⟨ownKeep h.1 (fun k hk => hb k (World.ownsRow.lt h.1 _ hk).2), fun i hi => ownKeep (h.2 i hi) (fun k hk => hb k (World.ownsRow.lt (h.2 i hi) _ hk).2)⟩
theorem progOf {w : World} {base : Nat} {s s' : Option Addr} {n n' c c' : Nat} {xs : List Value} {p : PD} (h : OwnN w base (.slice s n c) p.caps) (hb : OwnK w base (.slice s' n' c') xs p.bods.length (p.bods.getD · []))
    (h3 : ∀ i j k, i < p.bods.length → j < p.bods.length → i ≠ j → (xs.getD i undef).ownBlock = some k → (xs.getD j undef).ownBlock ≠ some k) : ProgR w base w.heap.size s s' p := by
  obtain ⟨t, d, t', d', e, e', hp⟩ := OwnB.prog h ⟨xs, hb.1, hb.2, h3⟩
  injection e with e1
  injection e' with e1'
  subst e1 e1'
  exact hp

set_option maxHeartbeats 8000000 in
theorem walkProgRead (l : List UInt8) (w : World) (hE : Env w w.heap.size) (hn : l.length ≤ maxLen) : Calls Tryd.prog 3 #[.string ⟨l.toArray⟩] w fun e w' => e = .returned (.bool true) ∧ Below w.heap.size w w' := by
  have HE : Hid (Env w w.heap.size) := hE
  clear hE
  by_cases hbig : 1048576 < l.length
  · have hb : (1048576 : Int) < (l.length : Int) := by omega
    go_enter Tryd.func3, Tryd.ntmps3
    go_wp2
    go_ret
    exact ⟨rfl, Below.refl _ _⟩
  · have hb : ¬ (1048576 : Int) < (l.length : Int) := by omega
    obtain ⟨p, b, hF, hU⟩ := bothRead l (by omega)
    have HU : Hid (∀ base e w', readPost base (readP l) e w' → readU base p b e w') := hU
    have HF : Hid (Fits p ∨ ∀ base e w', ¬ readPost base (readP l) e w') := hF
    have hbb : (b != b) = false := by simp
    clear hF hU
    go_enter Tryd.func3, Tryd.ntmps3
    go_wp2_with fail
    refine (specProgRead_any l (by omega) _).mono ?_
    rintro e w1 ⟨hp1, hb1⟩
    have hFit : Fits p := by rcases HF.out with h | h; exact h; exact absurd hp1 (h _ _ _)
    obtain ⟨v1, v1', rfl, o1, o1'⟩ := HU.out _ _ _ hp1
    obtain ⟨s1, c1, s1', c1', rfl, rfl, P1⟩ := OwnB.prog o1 o1'
    have FT : Hid (Fits p) := hFit
    have K1 : Hid (Below w.heap.size w w1) := hb1
    have HP : Hid (ProgR w1 w.heap.size w1.heap.size s1 s1' p) := P1
    have z1 := hb1.size
    clear hb1 hp1 hFit o1 o1' P1 HF
    go_wp2_with fail
    obtain ⟨W1, hW1, bx1, kb1, zz1⟩ := bx2 w1 (.slice s1 p.caps.length c1) (.slice s1' p.bods.length c1') 25
    rw [hW1]
    clear hW1
    have KW1 : Hid (Below w.heap.size w W1) := K1.out.trans (kb1.mono (by omega))
    have FW : Hid (Bx2 w1.heap.size W1 (.slice s1 p.caps.length c1) (.slice s1' p.bods.length c1')) := bx1
    have PW : Hid (ProgR W1 w.heap.size w1.heap.size s1 s1' p) := HP.out.keepP (Keep.of_below kb1 (Nat.le_refl _))
    have EW : Hid (Env W1 W1.heap.size) := (HE.out.keep KW1.out).mono (by omega)
    clear bx1 kb1 HP K1
    refine (implProgRead_any l (by omega) W1 EW.out).mono ?_
    rintro e w2 ⟨hp2, hb2⟩
    obtain ⟨v2, v2', rfl, o2, xs, ob1, ob2, ob3⟩ := HU.out _ _ _ hp2
    obtain ⟨s2, c2, s2', c2', rfl, rfl, -⟩ := OwnB.prog o2 ⟨xs, ob1, ob2, ob3⟩
    have z2 := hb2.size
    have K2 : Hid (Below w.heap.size w w2) := KW1.out.trans (hb2.mono (by omega))
    have F2 : Hid (Bx2 w1.heap.size w2 (.slice s1 p.caps.length c1) (.slice s1' p.bods.length c1')) := FW.out.keep (hb2.block _ FW.out.z) hb2.size
    have P2 : Hid (ProgR w2 w.heap.size w1.heap.size s1 s1' p) := PW.out.keepP (Keep.of_below hb2 (by omega))
    have O2 : Hid (OwnN w2 W1.heap.size (.slice s2 p.caps.length c2) p.caps) := o2
    have B2 : Hid (OwnK w2 W1.heap.size (.slice s2' p.bods.length c2') xs p.bods.length (p.bods.getD · [])) := ⟨ob1, ob2⟩
    have SP : Hid (∀ i j k, i < p.bods.length → j < p.bods.length → i ≠ j → (xs.getD i undef).ownBlock = some k → (xs.getD j undef).ownBlock ≠ some k) := ob3
    have LT : Hid ((∀ k, (Value.slice s2 p.caps.length c2).ownBlock = some k → W1.heap.size ≤ k ∧ k < w2.heap.size) ∧ ∀ i, i < p.bods.length → ∀ k, (xs.getD i undef).ownBlock = some k → W1.heap.size ≤ k ∧ k < w2.heap.size) := ⟨fun k hk => World.ownsRow.lt o2 _ hk, fun i hi k hk => World.ownsRow.lt (ob2 i hi) _ hk⟩
    clear hp2 hb2 o2 ob1 ob2 ob3 KW1 FW PW EW
    obtain ⟨f0, f1, fz⟩ := F2.out
    go_wp2_with fail
    clear f0 f1 fz
    obtain ⟨W2, hW2, bx2', kb2, zz2⟩ := bx2 w2 (.slice s2 p.caps.length c2) (.slice s2' p.bods.length c2') 25
    rw [hW2]
    clear hW2
    have K3 : Hid (Below w.heap.size w W2) := K2.out.trans (kb2.mono (by omega))
    have F3 : Hid (Bx2 w1.heap.size W2 (.slice s1 p.caps.length c1) (.slice s1' p.bods.length c1')) := F2.out.keep (kb2.block _ F2.out.z) kb2.size
    have P3 : Hid (ProgR W2 w.heap.size w1.heap.size s1 s1' p) := P2.out.keepP (Keep.of_below kb2 (by omega))
    have O3 : Hid (OwnN W2 W1.heap.size (.slice s2 p.caps.length c2) p.caps) := ownKeep O2.out (fun k hk => kb2.block k (LT.out.1 k hk).2)
    have B3 : Hid (OwnK W2 W1.heap.size (.slice s2' p.bods.length c2') xs p.bods.length (p.bods.getD · [])) := B2.out.keepK (fun k hk => kb2.block k hk)
    have G3 : Hid (Bx2 w2.heap.size W2 (.slice s2 p.caps.length c2) (.slice s2' p.bods.length c2')) := bx2'
    have Q3 : Hid (ProgR W2 W1.heap.size W2.heap.size s2 s2' p) := progOf O3.out B3.out SP.out
    clear kb2 bx2' K2 F2 P2 O2 B2
    obtain ⟨f0, f1, fz⟩ := F3.out
    obtain ⟨g0, g1, gz⟩ := G3.out
    refine (eqProg_same s2 s2' s1 s1' c2 c2' c1 c1' W1.heap.size W2.heap.size w.heap.size w1.heap.size p W2 Q3.out P3.out (Nat.le_refl _) (by omega) FT.out).mono ?_
    rintro e w3 ⟨rfl, hb3⟩
    have z3 := hb3.size
    have K4 : Hid (Below w.heap.size w w3) := K3.out.trans (hb3.mono (by omega))
    have F4 : Hid (Bx2 w1.heap.size w3 (.slice s1 p.caps.length c1) (.slice s1' p.bods.length c1')) := F3.out.keep (hb3.block _ F3.out.z) hb3.size
    have P4 : Hid (ProgR w3 w.heap.size w1.heap.size s1 s1' p) := P3.out.keepP (Keep.of_below hb3 (by omega))
    have O4 : Hid (OwnN w3 W1.heap.size (.slice s2 p.caps.length c2) p.caps) := ownKeep O3.out (fun k hk => hb3.block k (by have := (LT.out.1 k hk).2; omega))
    have B4 : Hid (OwnK w3 W1.heap.size (.slice s2' p.bods.length c2') xs p.bods.length (p.bods.getD · [])) := B3.out.keepK (fun k hk => hb3.block k hk)
    have G4 : Hid (Bx2 w2.heap.size w3 (.slice s2 p.caps.length c2) (.slice s2' p.bods.length c2')) := G3.out.keep (hb3.block _ G3.out.z) hb3.size
    clear f0 f1 fz g0 g1 gz hb3 K3 F3 P3 O3 B3 G3 Q3
    obtain ⟨f0, f1, fz⟩ := F4.out
    obtain ⟨g0, g1, gz⟩ := G4.out
    obtain ⟨M, hM⟩ : ∃ M, M = (1 : Int) + p.caps.length + 5 * (tot p.bods p.bods.length : Int) := ⟨_, rfl⟩
    have hM0 : ¬ M < 0 := by omega
    have hMM : (M != M) = false := by simp
    have HM : Hid (M = (1 : Int) + p.caps.length + 5 * (tot p.bods p.bods.length : Int)) := hM
    have RM : Hid ((1 : Int) + p.caps.length + 5 * (tot p.bods p.bods.length : Int) ≤ 1000000000000000) := FT.out.room (by omega)
    clear hM
    go_wp2_with fail
    refine (markProg_any W1.heap.size (.slice s2 p.caps.length c2) (.slice s2' p.bods.length c2') xs p 1 w3 O4.out B4.out SP.out FT.out (by omega) RM.out).mono ?_
    rintro e w4 ⟨rfl, hO, hK, hz4, h41, h42, h43, hf4⟩
    rw [← HM.out]
    have hb4 : Below W1.heap.size w3 w4 := ⟨h41, h42, h43, hz4, fun k hk => hf4 k (by omega) (fun e => by have := (LT.out.1 k e).1; omega) (fun i hi e => by have := (LT.out.2 i hi k e).1; omega)⟩
    have K5 : Hid (Below w.heap.size w w4) := K4.out.trans (hb4.mono (by omega))
    have F5 : Hid (Bx2 w1.heap.size w4 (.slice s1 p.caps.length c1) (.slice s1' p.bods.length c1')) := F4.out.keep (hb4.block _ (by omega)) hb4.size
    have P5 : Hid (ProgR w4 w.heap.size w1.heap.size s1 s1' p) := P4.out.keepP (Keep.of_below hb4 (by omega))
    have G5 : Hid (Bx2 w2.heap.size w4 (.slice s2 p.caps.length c2) (.slice s2' p.bods.length c2')) := G4.out.keep (hf4 _ G4.out.z (fun e => by have := (LT.out.1 _ e).2; omega) (fun i hi e => by have := (LT.out.2 i hi _ e).2; omega)) hz4
    have O5 : Hid (OwnN w4 W1.heap.size (.slice s2 p.caps.length c2) (relN 1 p.caps.length)) := hO
    have B5 : Hid (OwnK w4 W1.heap.size (.slice s2' p.bods.length c2') xs p.bods.length (relAt (1 + p.caps.length) p.bods p.bods.length)) := hK
    clear f0 f1 fz g0 g1 gz hb4 hO hK h41 h42 h43 hf4 K4 F4 P4 O4 B4 G4
    obtain ⟨f0, f1, fz⟩ := F5.out
    obtain ⟨g0, g1, gz⟩ := G5.out
    go_wp2_with fail
    refine (heldProg_any W1.heap.size (.slice s2 p.caps.length c2) (.slice s2' p.bods.length c2') xs p 1 w4 O5.out B5.out FT.out (by omega) RM.out).mono ?_
    rintro e w5 ⟨rfl, hb5⟩
    rw [← HM.out]
    have z5 := hb5.size
    have K6 : Hid (Below w.heap.size w w5) := K5.out.trans (hb5.mono (by omega))
    have F6 : Hid (Bx2 w1.heap.size w5 (.slice s1 p.caps.length c1) (.slice s1' p.bods.length c1')) := F5.out.keep (hb5.block _ F5.out.z) hb5.size
    have P6 : Hid (ProgR w5 w.heap.size w1.heap.size s1 s1' p) := P5.out.keepP (Keep.of_below hb5 (by omega))
    have G6 : Hid (Bx2 w2.heap.size w5 (.slice s2 p.caps.length c2) (.slice s2' p.bods.length c2')) := G5.out.keep (hb5.block _ G5.out.z) hb5.size
    have O6 : Hid (OwnN w5 W1.heap.size (.slice s2 p.caps.length c2) (relN 1 p.caps.length)) := ownKeep O5.out (fun k hk => hb5.block k (World.ownsRow.lt O5.out _ hk).2)
    have B6 : Hid (OwnK w5 W1.heap.size (.slice s2' p.bods.length c2') xs p.bods.length (relAt (1 + p.caps.length) p.bods p.bods.length)) := B5.out.keepK (fun k hk => hb5.block k hk)
    have E6 : Hid (Env w5 w5.heap.size) := (HE.out.keep K6.out).mono (by have := K6.out.size; omega)
    clear f0 f1 fz g0 g1 gz hb5 K5 F5 P5 O5 B5 G5
    obtain ⟨f0, f1, fz⟩ := F6.out
    obtain ⟨g0, g1, gz⟩ := G6.out
    go_wp2_with fail
    refine (implProgRead_any l (by omega) w5 E6.out).mono ?_
    rintro e w6 ⟨hp6, hb6⟩
    obtain ⟨v6, v6', rfl, o6, o6'⟩ := HU.out _ _ _ hp6
    obtain ⟨s6, c6, s6', c6', rfl, rfl, P⟩ := OwnB.prog o6 o6'
    have z6 := hb6.size
    have K7 : Hid (Below w.heap.size w w6) := K6.out.trans (hb6.mono (by omega))
    have F7 : Hid (Bx2 w1.heap.size w6 (.slice s1 p.caps.length c1) (.slice s1' p.bods.length c1')) := F6.out.keep (hb6.block _ F6.out.z) hb6.size
    have P7 : Hid (ProgR w6 w.heap.size w1.heap.size s1 s1' p) := P6.out.keepP (Keep.of_below hb6 (by omega))
    have G7 : Hid (Bx2 w2.heap.size w6 (.slice s2 p.caps.length c2) (.slice s2' p.bods.length c2')) := G6.out.keep (hb6.block _ G6.out.z) hb6.size
    have O7 : Hid (OwnN w6 W1.heap.size (.slice s2 p.caps.length c2) (relN 1 p.caps.length)) := ownKeep O6.out (fun k hk => hb6.block k (World.ownsRow.lt O6.out _ hk).2)
    have B7 : Hid (OwnK w6 W1.heap.size (.slice s2' p.bods.length c2') xs p.bods.length (relAt (1 + p.caps.length) p.bods p.bods.length)) := B6.out.keepK (fun k hk => hb6.block k hk)
    have H7 : Hid (ProgR w6 w5.heap.size w6.heap.size s6 s6' p) := P
    clear f0 f1 fz g0 g1 gz hb6 hp6 o6 o6' P K6 F6 P6 O6 B6 G6 E6
    obtain ⟨f0, f1, fz⟩ := F7.out
    obtain ⟨g0, g1, gz⟩ := G7.out
    go_wp2_with fail
    clear f0 f1 fz g0 g1 gz
    obtain ⟨W6, hW6, bx6, kb6, zz6⟩ := bx2 w6 (.slice s6 p.caps.length c6) (.slice s6' p.bods.length c6') 25
    rw [hW6]
    clear hW6
    have K8 : Hid (Below w.heap.size w W6) := K7.out.trans (kb6.mono (by omega))
    have F8 : Hid (Bx2 w1.heap.size W6 (.slice s1 p.caps.length c1) (.slice s1' p.bods.length c1')) := F7.out.keep (kb6.block _ F7.out.z) kb6.size
    have P8 : Hid (ProgR W6 w.heap.size w1.heap.size s1 s1' p) := P7.out.keepP (Keep.of_below kb6 (by omega))
    have G8 : Hid (Bx2 w2.heap.size W6 (.slice s2 p.caps.length c2) (.slice s2' p.bods.length c2')) := G7.out.keep (kb6.block _ G7.out.z) kb6.size
    have O8 : Hid (OwnN W6 W1.heap.size (.slice s2 p.caps.length c2) (relN 1 p.caps.length)) := ownKeep O7.out (fun k hk => kb6.block k (World.ownsRow.lt O7.out _ hk).2)
    have B8 : Hid (OwnK W6 W1.heap.size (.slice s2' p.bods.length c2') xs p.bods.length (relAt (1 + p.caps.length) p.bods p.bods.length)) := B7.out.keepK (fun k hk => kb6.block k hk)
    have H8 : Hid (ProgR W6 w5.heap.size w6.heap.size s6 s6' p) := H7.out.keepP (Keep.of_below kb6 (by omega))
    have I8 : Hid (Bx2 w6.heap.size W6 (.slice s6 p.caps.length c6) (.slice s6' p.bods.length c6')) := bx6
    clear kb6 bx6 K7 F7 P7 O7 B7 G7 H7
    obtain ⟨f0, f1, fz⟩ := F8.out
    obtain ⟨g0, g1, gz⟩ := G8.out
    obtain ⟨i0, i1, iz⟩ := I8.out
    refine (eqProg_same s6 s6' s1 s1' c6 c6' c1 c1' w5.heap.size w6.heap.size w.heap.size w1.heap.size p W6 H8.out P8.out (by omega) (by omega) FT.out).mono ?_
    rintro e w7 ⟨rfl, hb7⟩
    have z7 := hb7.size
    have K9 : Hid (Below w.heap.size w w7) := K8.out.trans (hb7.mono (by omega))
    have G9 : Hid (Bx2 w2.heap.size w7 (.slice s2 p.caps.length c2) (.slice s2' p.bods.length c2')) := G8.out.keep (hb7.block _ G8.out.z) hb7.size
    have O9 : Hid (OwnN w7 W1.heap.size (.slice s2 p.caps.length c2) (relN 1 p.caps.length)) := ownKeep O8.out (fun k hk => hb7.block k (World.ownsRow.lt O8.out _ hk).2)
    have B9 : Hid (OwnK w7 W1.heap.size (.slice s2' p.bods.length c2') xs p.bods.length (relAt (1 + p.caps.length) p.bods p.bods.length)) := B8.out.keepK (fun k hk => hb7.block k hk)
    clear f0 f1 fz g0 g1 gz i0 i1 iz hb7 K8 F8 P8 O8 B8 G8 H8 I8
    obtain ⟨g0, g1, gz⟩ := G9.out
    go_wp2_with fail
    refine (heldProg_any W1.heap.size (.slice s2 p.caps.length c2) (.slice s2' p.bods.length c2') xs p 1 w7 O9.out B9.out FT.out (by omega) RM.out).mono ?_
    rintro e w8 ⟨rfl, hb8⟩
    rw [← HM.out]
    have K10 : Hid (Below w.heap.size w w8) := K9.out.trans (hb8.mono (by have := K9.out.size; omega))
    clear g0 g1 gz hb8
    go_wp2
    go_ret
    exact ⟨rfl, K10.out⟩

set_option maxRecDepth 100000 in
theorem liftedProgRead (os : Os) (started : os.Started) (H : Type) (enc : TypeId × Value → H) :
    ReturnsInHanded {} Tryd.checked os 3 .any (fun w args => (Rows.fnExactProgReadSpec.pre enc Tryd.prog Tryd.f3 [] false w args ∧ laidMetH Tryd.prog Rows.fnExactProgReadRow.laid w) ∧ sizedMet enc Tryd.prog Tryd.f3 (OpenSpec.ofChange Rows.fnExactProgReadSpec) false w args)
      (Rows.fnExactProgReadSpec.post enc Tryd.prog Tryd.f3 false true false false) := by
  refine returnsInHanded_of_change_and (C := Tryd.checked) (X := fun w _ => laidMetH Tryd.prog Rows.fnExactProgReadRow.laid w) (fun _ _ _ hh h => h.of_heap hh) ownD started (by kernel_rfl) Tryd.func3
    (ChangeSpec.witness_shaped (enc := enc) (C := Tryd.checked) (os := os) (X := fun w _ => laidMetH Tryd.prog Rows.fnExactProgReadRow.laid w) false (World.doorLaid Tryd.prog 42 os) #[.string ⟨#[]⟩] 8 rfl (World.shaped_of_RefB (by kernel_rfl) (by kernel_rfl)) (by kernel_rfl) (by kernel_rfl) (by kernel_rfl) (door_met os _)) ?_
  intro W base args ds gs before hval0 hW _ _ hL _
  have hval : ∀ (j : Nat) t v, Tryd.f3.params[j]? = some t → args[j]? = some v → Value.okWide Tryd.prog W .any base t v := hval0
  have hW' := hW
  obtain ⟨p, q, hA0, hV, rfl, hfz, hnd⟩ := hW
  have hA : DataW.TrodAll enc Tryd.prog W 0 (fun _ => true) true Tryd.f3.params.toList args.toList ds p := hA0
  rw [Tryd.params3] at hA hval
  obtain ⟨v0, d0, hargs, rfl, h0⟩ := trodAll_one hA
  obtain rfl : args = #[v0] := by cases args; simp_all
  have hVk := hV
  obtain ⟨g9, t9, cs9, fuel9, d9, p9, rfl, -⟩ := trodVars_one hV
  have k0 := h0
  have lt0 : ∀ x ∈ p, x.block < W.heap.size := by obtain ⟨m, hm⟩ := k0; exact DataW.trod_lt m _ _ _ hm
  obtain ⟨s, rfl, rfl, rfl, ws⟩ := open_string Tryd.underlying9 (hval 0 9 v0 rfl rfl) h0
  clear hA0 hval0
  refine (walkProgRead s.data.toList W (env_of_laid hL) ws).mono fun e W' ⟨he, bel⟩ => ?_
  subst he
  exact ⟨_, rfl, _, _, _, [], _, _, hW', trodAll_mk1 (shut_bool Tryd.underlying4 _), trodAll_mk1 (Below.trod laidOutD (by kernel_rfl) (of_decide_eq_true (by kernel_rfl)) k0 bel lt0), Below.trodVars laidOutD bel (by kernel_rfl) hVk, bel.frame _, fun h => by cases h⟩

theorem fnExactProgRead_row : Rows.FnExactProgReadSaid :=
  OpenClaim.holds_of_wide 3 Tryd.f3 rfl rfl rfl rfl rfl rfl rfl ⟨rfl, rfl, rfl, rfl, rfl⟩ rfl rfl rfl rfl rfl (by kernel_rfl) Tryd.func3 (by kernel_rfl)
    (of_decide_eq_true (by kernel_rfl)) (by unfold Func.isWrapper; first | (rw [if_pos (by decide +kernel)]; kernel_rfl) | (rw [if_neg (by decide +kernel)]; exact ⟨rfl, rfl⟩))
    (fun os started H enc _ => liftedProgRead os started H enc)

theorem fnExactProgRead_card : Rows.FnExactProgReadCardSaid :=
  Claim7.holds_tied_plain_at .later [] [.data, .data, .data, .data] true _ _
    fnExactProgRead_row (fun _ h => by cases h) (by kernel_rfl) (fun _ h => by cases h) fnExactProgRead_row_tie rfl ⟨rfl, rfl⟩ (by kernel_rfl) rfl
    (fun f fn hf hfn => by
      obtain rfl : f = 3 := Option.some.inj ((show Tryd.prog.funcNamed Rows.fnExactProgReadRow.func = some 3 by kernel_rfl).symm.trans hf) |>.symm
      obtain rfl : fn = Tryd.f3 := (Option.some.inj (Tryd.func3.symm.trans hfn)).symm
      exact ⟨by kernel_rfl, fun j t ht => by
        rw [Tryd.params3] at ht
        have hm : t ∈ [9] := by simpa using Array.mem_of_getElem? ht
        have hall : ([9].all fun u => !Tryd.prog.wantsStandIn u) = true := by kernel_rfl
        exact (show Tryd.prog.wantsStandIn t = false by simpa using List.all_eq_true.1 hall t hm)⟩)
    (by kernel_rfl)
#print axioms fnExactProgRead_card

end Go.Proofs.YtajblippcnidiaaDoor
