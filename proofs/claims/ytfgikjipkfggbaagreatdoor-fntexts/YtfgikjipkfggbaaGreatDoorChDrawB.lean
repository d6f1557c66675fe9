/- The draws of chapter 3: a channel of at most eight numbers in new memory; the cursor's own block alone is turned. Conditions: the cursor and its bytes lie in memory as the reading says. -/
import Derived.Test.YtfgikjipkfggbaaGreatDoorQuietC
import Derived.Test.YtfgikjipkfggbaaGreatDoorT16Tr
import Derived.Test.YtfgikjipkfggbaaGreatDoorOwnN
import Derived.Test.YtfgikjipkfggbaaGreatDoorCursor
import Derived.Test.YtfgikjipkfggbaaGreatDoorChDefs
import Derived.Test.YtfgikjipkfggbaaGreatDoorChSend
import Derived.Test.YtfgikjipkfggbaaGreatDoorDraw1c
import Derived.Test.YtfgikjipkfggbaaGreatDoorT16Ch
namespace Go.Proofs.YtfgikjipkfggbaaGreatDoor
set_option linter.unusedSimpArgs false
set_option linter.unusedVariables false
set_option maxRecDepth 100000
open Go.RowKit

structure Dc (w0 w : World) (p : Nat) (s : Option Addr) (n c R G : Nat) (cap : Int) (u : Value) (b : Bool) (l : List Int) : Prop where
  cb : CB w p s n c
  but : But p w0 w
  rb : Box1 R w (.int .i64 0) (.slice none 0 0) (.bool false)
  xb : Box1 G w (.int .i64 cap) u (.bool b)
  own : OwnN w (G + 1) u l
  pR : p < R
  RG : R < G
  old : w0.heap.size ≤ R
theorem Dc.step {w0 w w' : World} {p n c R G : Nat} {s : Option Addr} {cap : Int} {u : Value} {b : Bool} {l : List Int} (h : Dc w0 w p s n c R G cap u b l) (hc : CB w' p s n c) (hb : But p w w') : Dc w0 w' p s n c R G cap u b l := by
  have h1 := h.pR
  have h2 := h.RG
  exact ⟨hc, h.but.trans hb, h.rb.keep (hb.block _ h.rb.z (by omega)) hb.size, h.xb.keep (hb.block _ h.xb.z (by omega)) hb.size, h.own.keep (fun k h3 h4 => hb.block k h4 (by omega)), h.pR, h.RG, h.old⟩
theorem Dc.drew {w0 w : World} {p n c R G : Nat} {s : Option Addr} {cap : Int} {u : Value} {b : Bool} {l : List Int} (h : Dc w0 w p s n c R G cap u b l) : Dc w0 w.drew p s n c R G cap u b l := h.step (h.cb.keep (Below.drew (Below.refl _ _))) (But.of_below (Below.drew (Below.refl _ _)))
/- what grows from the row on leaves the rest -/
theorem Dc.grow {w0 w w' : World} {p n c R G : Nat} {s : Option Addr} {cap : Int} {u u' : Value} {b : Bool} {l l' : List Int} (h : Dc w0 w p s n c R G cap u b l) (hb : Below (G + 1) w w') (ho : OwnN w' (G + 1) u' l') :
    Dc w0 (w'.setCell ⟨G, 1, none⟩ u') p s n c R G cap u' b l' := by
  have h1 := h.pR
  have h2 := h.RG
  have h3 := h.old
  have hz := h.xb.z
  have x' := h.xb.keep (hb.block G (by omega)) hb.size
  have r' := h.rb.keep (hb.block R (by omega)) hb.size
  have c' : CB w' p s n c := by
    obtain ⟨⟨i, hh, c0, c1, c2, hf, hi, hi', hp⟩, hby, hn⟩ := h.cb
    refine ⟨⟨i, hh, (hb.cell (p := ⟨p, 0, none⟩) (by simp; omega)).trans c0, (hb.cell (p := ⟨p, 1, none⟩) (by simp; omega)).trans c1, (hb.cell (p := ⟨p, 2, none⟩) (by simp; omega)).trans c2, fun j => (hb.frozen (p := ⟨p, j, none⟩) (by simp; omega)).trans (hf j), hi, hi', by have := hb.size; omega⟩, hby.below (hb.mono (B' := G) (by omega)) (by omega), hn⟩
  have b' : But p w0 w' := ⟨hb.os.trans h.but.os, hb.tape.trans h.but.tape, hb.output.trans h.but.output, Nat.le_trans h.but.size hb.size, fun k hk hne => (hb.block k (by omega)).trans (h.but.block k hk hne)⟩
  refine ⟨c'.set (by simp; omega), ?_, ?_, ?_, ho.set (by simp) _, h1, h2, h3⟩
  · exact ⟨b'.os, b'.tape, b'.output, by simpa using b'.size, fun k hk hne => (Below.heap_setCell w' ⟨G, 1, none⟩ u' k (by simp; omega)).trans (b'.block k hk hne)⟩
  · exact r'.keep (Below.heap_setCell w' ⟨G, 1, none⟩ u' R (by simp; omega)) (by simp)
  · exact ⟨(cellOff (by omega)).trans x'.c0, cellAt x'.c1, (cellOff (by omega)).trans x'.c2, fun j => by rw [World.frozen?_setCell]; exact x'.f j, by simpa using x'.z⟩
theorem Dc.cap {w0 w : World} {p n c R G : Nat} {s : Option Addr} {cap : Int} {u : Value} {b : Bool} {l : List Int} (h : Dc w0 w p s n c R G cap u b l) (z : Int) : Dc w0 (w.setCell ⟨G, 0, none⟩ (.int .i64 z)) p s n c R G z u b l := by
  have h1 := h.pR
  have h2 := h.RG
  have h3 := h.old
  have b' := h.but
  refine ⟨h.cb.set (by simp; omega), ?_, ?_, ?_, h.own.set (by simp) _, h1, h2, h3⟩
  · exact ⟨b'.os, b'.tape, b'.output, by simpa using b'.size, fun k hk hne => (Below.heap_setCell w ⟨G, 0, none⟩ _ k (by simp; omega)).trans (b'.block k hk hne)⟩
  · exact h.rb.keep (Below.heap_setCell w ⟨G, 0, none⟩ _ R (by simp; omega)) (by simp)
  · exact ⟨cellAt h.xb.c0, (cellOff (by omega)).trans h.xb.c1, (cellOff (by omega)).trans h.xb.c2, fun j => by rw [World.frozen?_setCell]; exact h.xb.f j, by simpa using h.xb.z⟩

/- a call of a Go function, as a step of a region that draws its order -/
theorem stepCall {ops : Array Oper} {o : Oper} {a : Act} {w : World} {K : Act → World → Prop} {Q : Exit → Act → World → Prop} {F : Prop} (f : FuncId) (args : Array Value) (hgd : o.guard = none) (xs : Array Operand) (ats : Array TypeId) (ho : o.op = .call { callee := .value (.func f), args := xs, argTypes := ats }) (hx : xs.map a.eval = args)
    (hent : ∀ (args : Array Value) (w : World), (callFunc f args).run Tryz.prog w = .ok (.enter f args) w) (h : Calls Tryz.prog f args w fun e w' => ∃ v, e = .returned v ∧ K (a.put o.dst v) w') :
    if Region.wanted o (yielded ops a.tmps) = true then Oper.wp Tryz.prog o a w K Q else F := by
  have hw : Region.wanted o (yielded ops a.tmps) = true := by simp [Region.wanted, hgd]
  rw [if_pos hw]
  obtain ⟨dst, op, ty, pos, after, guard⟩ := o
  simp only at ho
  subst ho
  unfold Oper.wp
  rw [execOp_call_go]
  have e : (#[] ++ xs.map a.eval ++ #[]) = args := by rw [hx]; simp
  rw [e, hent, Oper.upon_enter]
  refine h.mono ?_
  rintro e w' ⟨v, rfl, hk⟩
  exact hk
theorem entBelow (args : Array Value) (w : World) : (callFunc 23 args).run Tryz.prog w = .ok (.enter 23 args) w := by kernel_rfl

def AB (l : List Int) : Prop := ∀ z ∈ l, I64 z
theorem ab_nil : AB [] := fun z h => by cases h
theorem ab_snoc {l : List Int} (h : AB l) (z : Int) : AB (l ++ [IntKind.i64.wrap z]) := by
  intro y hy
  rcases List.mem_append.1 hy with hy | hy
  · exact h y hy
  · simp at hy
    subst hy
    rw [IntKind.wrap_i64]
    unfold I64
    constructor <;> omega
theorem ab_four {l : List Int} (h : AB l) : AB (l ++ [1, 2, 3, 4]) := by
  intro y hy
  rcases List.mem_append.1 hy with hy | hy
  · exact h y hy
  · simp at hy
    unfold I64
    omega
theorem AB.ib {l : List Int} (h : AB l) : IB l := fun i x hx => h x (List.mem_of_getElem? hx)

set_option maxHeartbeats 4000000 in
theorem draw3_ab (p : Nat) (s : Option Addr) (n c : Nat) (w : World) (h : CB w p s n c) :
    Calls Tryz.prog 25 #[.pointer (some ⟨p, 0, none⟩)] w fun e w' => ∃ (cap : Int) (u : Value) (l : List Int) (b : Bool), e = .returned (.agg #[.int .i64 cap, u, .bool b]) ∧ OwnN w' w.heap.size u l ∧ l.length ≤ 8 ∧ AB l ∧ CB w' p s n c ∧ But p w w' := by
  have hp := h.lt
  have HC : Hid (CB w p s n c) := h
  clear h
  go_enter Tryz.func25, Tryz.ntmps25
  go_wp2_with fail
  obtain ⟨A, hA, rA, kA, sA⟩ := box1 w (.int .i64 0) (.slice none 0 0) (.bool false) 33
  rw [hA]
  clear hA
  refine (below_cb p s n c 4 A (HC.out.keep kA) (by omega) (by omega)).mono ?_
  rintro e w1 ⟨x, rfl, x0, x1, hc1, hb1⟩
  go_wp2_with fail
  refine (once_cb p s n c 4 w1 hc1 (by omega) (by omega)).mono ?_
  rintro e w2 ⟨b, rfl, hc2, hb2⟩
  have r2 := (rA.keep (hb1.block _ rA.z (by omega)) hb1.size)
  have r2 := (r2.keep (hb2.block _ r2.z (by omega)) hb2.size)
  have B2 : But p w w2 := (But.of_below kA).trans (hb1.trans hb2)
  clear rA hb1 hb2 kA hc1 HC
  have HR2 : Hid (Box1 w.heap.size w2 (.int .i64 0) (.slice none 0 0) (.bool false)) := r2
  have HC2 : Hid (CB w2 p s n c) := hc2
  have HB2 : Hid (But p w w2) := B2
  clear r2 hc2 B2
  go_wp2
  obtain ⟨X, hX, xX, kX, sX⟩ := box1 w2 (.int .i64 (1 + x)) (.slice none 0 0) (.bool b) 33
  rw [hX]
  have D0 : Dc w X p s n c w.heap.size w2.heap.size (1 + x) (.slice none 0 0) b [] := ⟨HC2.out.keep kX, HB2.out.trans (But.of_below kX), HR2.out.keep (kX.block _ HR2.out.z) kX.size, xX, ownN_nil _ _, hp, by have := HR2.out.z; omega, Nat.le_refl _⟩
  have HD0 := (show Hid _ from D0)
  clear hX xX kX sX D0 HR2 HC2 HB2
  go_loopw [4] (fun i wr => ∃ (k : Nat) (u : Value) (l : List Int), k ≤ 4 ∧ i = .int .i64 k ∧ l.length = k ∧ AB l ∧ Dc w wr p s n c w.heap.size w2.heap.size (1 + x) u b l) (fun i _ => 5 - (intOf i).toNat)
  case atStart => exact ⟨0, _, [], by omega, rfl, rfl, ab_nil, HD0.out⟩
  case round =>
    obtain ⟨k, u, l, hk, rfl, hl, hab, hd⟩ := hrel
    obtain ⟨su, cu, rfl⟩ := hd.own.sl
    have HD : Hid (Dc w wr p s n c w.heap.size w2.heap.size (1 + x) (.slice su l.length cu) b l) := hd
    have HL : Hid (l.length = k) := hl
    have HAB : Hid (AB l) := hab
    clear hd HD0 hl hab
    have xc0 := HD.out.xb.c0
    go_wp2_with fail
    refine (below_cb p s n c (1 + x + 1) wr HD.out.cb (by omega) (by omega)).mono ?_
    rintro e w3 ⟨y, rfl, y0, y1, hc3, hb3⟩
    have HD3 : Hid (Dc w w3 p s n c w.heap.size w2.heap.size (1 + x) (.slice su l.length cu) b l) := HD.out.step hc3 hb3
    clear hc3 hb3 HD xc0
    by_cases hlt : (k : Int) < y
    · have xc1 := HD3.out.xb.c1
      have xz := HD3.out.xb.z
      have xf := HD3.out.xb.f
      go_wp2_with fail
      go_region_law (first | (refine step_row (by rfl) _ _ (by rfl) _ (w2.heap.size + 1) (.slice su l.length cu) l (by rfl) (P5.own.alloc (.cells #[.int .i64 (IntKind.i64.wrap (y5 - 3))] 3)) w5.heap.size 0 1 [IntKind.i64.wrap (y5 - 3)] (by rfl) (fun i hi => by simp at hi; subst hi; simp [go_sem]) (by simp) (by have := HL.out; simp; omega) (by simp; omega) ?_; intro g6 cap6 w6 ho6 hb6 hg6 hg6'; have hb7 : Below (w2.heap.size + 1) w5 w6 := ((Below.refl _ _).alloc (by omega) _).trans hb6; have e1 := (P5.xb.keep (hb7.block _ (by omega)) hb7.size).c1; have e2 := (P5.xb.keep (hb7.block _ (by omega)) hb7.size).f) | (refine stepCall 23 #[.pointer (some ⟨p, 0, none⟩), .int .i64 20] (by rfl) _ _ (by rfl) (by simp [go_sem]) entBelow ?_; refine (below_cb p s n c 20 w3.drew HD3.out.drew.cb (by omega) (by omega)).mono ?_; rintro e w5 ⟨y5, rfl, y50, y51, hc5, hb5⟩; have P5 := HD3.out.drew.step hc5 hb5; have d0 := P5.xb.c1; have l5 := P5.xb.z; refine ⟨_, rfl, ?_⟩))
      all_goals
        have D6 : Dc w (w6.setCell ⟨w2.heap.size, 1, none⟩ (.slice (some ⟨g6, 0, none⟩) (l.length + 1) cap6)) p s n c w.heap.size w2.heap.size (1 + x) (.slice (some ⟨g6, 0, none⟩) (l.length + 1) cap6) b (l ++ [IntKind.i64.wrap (y5 - 3)]) := P5.grow hb7 (by simpa using ho6)
        have HD6 := (show Hid _ from D6)
        clear D6 P5 hb7 ho6 hb6 e1 e2 hc5 hb5 d0
        go_wp2
        go_roundw
        case rel => exact ⟨k + 1, _, _, by omega, by go_num, by have := HL.out; simp; omega, ab_snoc HAB.out _, HD6.out⟩
        case measure => simp [intOf]; omega
    · go_wp2_with fail
      refine (below_cb p s n c 12 w3 HD3.out.cb (by omega) (by omega)).mono ?_
      rintro e w4 ⟨q, rfl, q0, q1, hc4, hb4⟩
      have HD4 : Hid (Dc w w4 p s n c w.heap.size w2.heap.size (1 + x) (.slice su l.length cu) b l) := HD3.out.step hc4 hb4
      clear hc4 hb4 HD3
      have HLL : Hid (l.length ≤ 4) := by have := HL.out; show _ ≤ _; omega
      have HRZ : Hid (w.heap.size < w2.heap.size) := HD4.out.RG
      by_cases e0 : q = 0
      · subst e0
        have z4 := HD4.out.xb.z
        have AL : Below w4.heap.size w4 (w4.alloc (.cells #[.int .i64 0, .int .i64 5, .int .i64 (-1)] 3)) := (Below.refl _ _).alloc (Nat.le_refl _) _
        have DA : Dc w (w4.alloc (.cells #[.int .i64 0, .int .i64 5, .int .i64 (-1)] 3)) p s n c w.heap.size w2.heap.size (1 + x) (.slice su l.length cu) b l := HD4.out.step (HD4.out.cb.keep AL) (But.of_below AL)
        have HDA := (show Hid _ from DA)
        clear DA AL
        have hp4 : w4.heap.size ≠ p := by have := HRZ.out; omega
        go_wp2_with fail
        refine (pick_cb p s n c w4.heap.size 3 [0, 5, -1] _ HDA.out.cb rfl (by simp) (by simp) (by simp) hp4 (fun i hi => by match i, hi with | 0, _ => simp [go_sem] | 1, _ => simp [go_sem] | 2, _ => simp [go_sem] | i + 3, hi => simp at hi; omega)).mono ?_
        rintro e w5 ⟨z, rfl, -, hc5, hb5⟩
        have HD5 : Hid (Dc w w5 p s n c w.heap.size w2.heap.size (1 + x) (.slice su l.length cu) b l) := HDA.out.step hc5 hb5
        clear hc5 hb5 HDA HD4
        have HD6 : Hid (Dc w (w5.setCell ⟨w2.heap.size, 0, none⟩ (.int .i64 z)) p s n c w.heap.size w2.heap.size z (.slice su l.length cu) b l) := HD5.out.cap z
        obtain ⟨a0, a1, a2, af, az⟩ := HD5.out.xb
        obtain ⟨r0, r1, r2, rf, rz⟩ := HD5.out.rb
        have nRG : ¬ w2.heap.size = w.heap.size := by have := HRZ.out; omega
        have nGR : ¬ w.heap.size = w2.heap.size := by have := HRZ.out; omega
        go_wp2
        refine bodyPost_ret (v := .agg #[.int .i64 z, .slice su l.length cu, .bool b]) (by simp [results, Tryz.results25, go_sem, r0, r1, r2, nRG, nGR]) rfl ⟨_, _, l, b, rfl, ?_, by have := HLL.out; omega, HAB.out, ?_, ?_⟩
        · exact OwnN.low ((((HD6.out.own).set (a := ⟨w.heap.size, 0, none⟩) (by have := HRZ.out; simp; omega) _).set (a := ⟨w.heap.size, 1, none⟩) (by have := HRZ.out; simp; omega) _).set (a := ⟨w.heap.size, 2, none⟩) (by have := HRZ.out; simp; omega) _) (by have := HRZ.out; omega)
        · exact ((HD6.out.cb.set (by simpa using hp)).set (by simpa using hp)).set (by simpa using hp)
        · have b' := HD6.out.but
          exact ⟨b'.os, b'.tape, b'.output, by simpa using b'.size, fun k hk hne => (Below.heap_setCell _ ⟨w.heap.size, 2, none⟩ _ k (by simp; omega)).trans ((Below.heap_setCell _ ⟨w.heap.size, 1, none⟩ _ k (by simp; omega)).trans ((Below.heap_setCell _ ⟨w.heap.size, 0, none⟩ _ k (by simp; omega)).trans (b'.block k hk hne)))⟩
      · by_cases e1 : q = 1
        · subst e1
          have HD5 := HD4
          clear HD4
          have z4 := HD5.out.xb.z
          obtain ⟨a0, a1, a2, af, az⟩ := HD5.out.xb
          obtain ⟨r0, r1, r2, rf, rz⟩ := HD5.out.rb
          have nRG : ¬ w2.heap.size = w.heap.size := by have := HRZ.out; omega
          have nGR : ¬ w.heap.size = w2.heap.size := by have := HRZ.out; omega
          have HC4 : Hid (∀ i, i < [1, 2, 3, (4 : Int)].length → (w4.alloc (.cells #[.int .i64 1, .int .i64 2, .int .i64 3, .int .i64 4] 3)).cell? ⟨w4.heap.size, 0 + i, none⟩ = some (.int .i64 ([1, 2, 3, (4 : Int)].getD i 0))) := fun i hi => by match i, hi with | 0, _ => simp [go_sem] | 1, _ => simp [go_sem] | 2, _ => simp [go_sem] | 3, _ => simp [go_sem] | i + 4, hi => simp at hi; omega
          go_wp2_with (at_builtin; refine app_row rfl _ _ rfl _ (w2.heap.size + 1) (.slice su l.length cu) l rfl (HD5.out.own.alloc _) w4.heap.size 0 4 [1, 2, 3, 4] rfl HC4.out (by simp) (by have := HLL.out; simp; omega) (by simp; omega) ?_; intro g6 cap6 w6 ho6 hb6 hg6 hg6'; have HB6 : Hid (Below (w2.heap.size + 1) w4 w6) := ((Below.refl _ _).alloc (by omega) _).trans hb6; have XB := HD5.out.xb.keep (HB6.out.block _ (by omega)) HB6.out.size; have RB := HD5.out.rb.keep (HB6.out.block _ (by have := HRZ.out; omega)) HB6.out.size; obtain ⟨c0, c1, c2, cf, cz⟩ := XB; obtain ⟨s0, s1, s2, sf, sz⟩ := RB; have HO6 : Hid (OwnN w6 (w2.heap.size + 1) (.slice (some ⟨g6, 0, none⟩) (l.length + 4) cap6) (l ++ [1, 2, 3, 4])) := ho6; clear ho6 hb6)
          have HD7 : Hid (Dc w (w6.setCell ⟨w2.heap.size, 1, none⟩ (.slice (some ⟨g6, 0, none⟩) (l.length + 4) cap6)) p s n c w.heap.size w2.heap.size (1 + x) (.slice (some ⟨g6, 0, none⟩) (l.length + 4) cap6) b (l ++ [1, 2, 3, 4])) := HD5.out.grow HB6.out HO6.out
          refine bodyPost_ret (v := .agg #[.int .i64 (1 + x), .slice (some ⟨g6, 0, none⟩) (l.length + 4) cap6, .bool b]) (by simp [results, Tryz.results25, go_sem, s0, s1, s2, nRG, nGR]) rfl ⟨_, _, (l ++ [1, 2, 3, 4]), b, rfl, ?_, by have := HLL.out; simp; omega, ab_four HAB.out, ?_, ?_⟩
          · exact OwnN.low ((((HD7.out.own).set (a := ⟨w.heap.size, 0, none⟩) (by have := HRZ.out; simp; omega) _).set (a := ⟨w.heap.size, 1, none⟩) (by have := HRZ.out; simp; omega) _).set (a := ⟨w.heap.size, 2, none⟩) (by have := HRZ.out; simp; omega) _) (by have := HRZ.out; omega)
          · exact ((HD7.out.cb.set (by simpa using hp)).set (by simpa using hp)).set (by simpa using hp)
          · have b' := HD7.out.but
            exact ⟨b'.os, b'.tape, b'.output, by simpa using b'.size, fun k hk hne => (Below.heap_setCell _ ⟨w.heap.size, 2, none⟩ _ k (by simp; omega)).trans ((Below.heap_setCell _ ⟨w.heap.size, 1, none⟩ _ k (by simp; omega)).trans ((Below.heap_setCell _ ⟨w.heap.size, 0, none⟩ _ k (by simp; omega)).trans (b'.block k hk hne)))⟩
        · have b0 : (q == 0) = false := by simp; omega
          have b1 : (q == 1) = false := by simp; omega
          have HD5 := HD4
          clear HD4
          obtain ⟨a0, a1, a2, af, az⟩ := HD5.out.xb
          obtain ⟨r0, r1, r2, rf, rz⟩ := HD5.out.rb
          have nRG : ¬ w2.heap.size = w.heap.size := by have := HRZ.out; omega
          have nGR : ¬ w.heap.size = w2.heap.size := by have := HRZ.out; omega
          go_wp2
          refine bodyPost_ret (v := .agg #[.int .i64 (1 + x), .slice su l.length cu, .bool b]) (by simp [results, Tryz.results25, go_sem, r0, r1, r2, nRG, nGR]) rfl ⟨_, _, l, b, rfl, ?_, by have := HLL.out; omega, HAB.out, ?_, ?_⟩
          · exact OwnN.low ((((HD5.out.own).set (a := ⟨w.heap.size, 0, none⟩) (by have := HRZ.out; simp; omega) _).set (a := ⟨w.heap.size, 1, none⟩) (by have := HRZ.out; simp; omega) _).set (a := ⟨w.heap.size, 2, none⟩) (by have := HRZ.out; simp; omega) _) (by have := HRZ.out; omega)
          · exact ((HD5.out.cb.set (by simpa using hp)).set (by simpa using hp)).set (by simpa using hp)
          · have b' := HD5.out.but
            exact ⟨b'.os, b'.tape, b'.output, by simpa using b'.size, fun k hk hne => (Below.heap_setCell _ ⟨w.heap.size, 2, none⟩ _ k (by simp; omega)).trans ((Below.heap_setCell _ ⟨w.heap.size, 1, none⟩ _ k (by simp; omega)).trans ((Below.heap_setCell _ ⟨w.heap.size, 0, none⟩ _ k (by simp; omega)).trans (b'.block k hk hne)))⟩


end Go.Proofs.YtfgikjipkfggbaaGreatDoor
