/- The law FnTexts of the given statements: drawn steps, code, traces and channels are shown as the specification shows them, what is none is not shown. Condition: the card's own (the listed tables hold what the program's text lays). -/
import Derived.Test.YtfgikjipkfggbaaGreatDoorTxDraw
import Derived.Test.YtfgikjipkfggbaaGreatDoorT16P2
import Derived.Test.YtfgikjipkfggbaaGreatDoorFnBytes
import Derived.Test.YtfgikjipkfggbaaGreatDoorRows
import Derived.Test.YtfgikjipkfggbaaGreatDoorCards
import Derived.Test.YtfgikjipkfggbaaGreatDoorTie
import Derived.SevenTiedAt
import Derived.OpenVars
import Derived.WalkKit
import Derived.ProofKit
import Derived.OpenShut
import Derived.ShutString
import Derived.ChangeOld
import Derived.ChangeVars
import Derived.LaidMore
import Derived.MakeChecks
import Derived.Lib.LaidTab
import Derived.Stop.Joined
import Derived.Stop.LaidErr
namespace Go.Proofs.YtfgikjipkfggbaaGreatDoor
set_option linter.unusedSimpArgs false
set_option linter.unusedVariables false
set_option maxRecDepth 100000
open Go.ChangeShapes Go.WideShapes Go.ChangeAt Go.RowKit Go.Deep

theorem tPow : (Tryz.prog.globals[1]?).map (·.type) = some 121 := by kernel_rfl
theorem cellsU64 : Tryz.prog.cellsOf 111 = 1 := by kernel_rfl
theorem cellsPow : Tryz.prog.cellsOf 121 = 20 := by kernel_rfl
theorem lt_of_cell {w : World} {g o : Nat} {v : Value} (h : w.cell? ⟨g, o, none⟩ = some v) : g < w.heap.size := by
  apply Classical.byContradiction
  intro hn
  have : w.heap[g]? = none := by simp; omega
  simp [World.cell?, this] at h
theorem env_of_laid {W : World} (h0 : laidMetH Tryz.prog Rows.fnTextsRow.laid W) : Env W W.heap.size := by
  have h : laidMet Tryz.prog Rows.fnTextsRow.laid W := by
    rw [MakeChecks.laidMetH_plain _ _ _ (by kernel_rfl)] at h0
    exact h0
  have hp := laidMet.tail (laidMet.tail h)
  have htab := Lib.tabIs_of_head (k := .u64) (zs := Lib.pow10Tab) pow_at tPow Tryz.underlying121 Tryz.underlying111 cellsU64 cellsPow hp
  have ht := htab.cell pow_at 0 (by decide)
  exact ⟨htab, lt_of_cell ht⟩
theorem door_met (os : Os) (args : Array Value) : laidMetH Tryz.prog Rows.fnTextsRow.laid ((World.doorLaid Tryz.prog 42 os).forCall (fun _ _ => 0) ⟨#[], args, []⟩).memory :=
  laidMetH_of_parts3 (fuel := 8) (laidMet_of_run' 8 (by kernel_rfl) (by kernel_rfl)) (by kernel_rfl) (by kernel_rfl)


structure Tx (B1 B4 : Nat) (o r a b m cap : Int) (s2 s3 s4 : Option Addr) (c4 : Nat) (l : List I5) (nl : List ND) (cl : List Int) (cb : Bool) (X : World) : Prop where
  y0 : X.cell? ⟨B1, 0, none⟩ = some (.int .i64 o)
  y1 : X.cell? ⟨B1, 1, none⟩ = some (.int .i64 r)
  y2 : X.cell? ⟨B1, 2, none⟩ = some (.int .i64 a)
  y3 : X.cell? ⟨B1, 3, none⟩ = some (.int .i64 b)
  y4 : X.cell? ⟨B1, 4, none⟩ = some (.int .i64 m)
  x0 : X.cell? ⟨B4, 0, none⟩ = some (.int .i64 cap)
  x1 : X.cell? ⟨B4, 1, none⟩ = some (.slice s4 cl.length c4)
  x2 : X.cell? ⟨B4, 2, none⟩ = some (.bool cb)
  code : InsB X X.heap.size s2 l
  nts : NtsR X 0 X.heap.size s3 nl
  row : RowI X X.heap.size s4 cl
  ev : Env X X.heap.size
  z1 : B1 < X.heap.size
  z4 : B4 < X.heap.size
theorem Tx.keep {B1 B4 : Nat} {o r a b m cap : Int} {s2 s3 s4 : Option Addr} {c4 : Nat} {l : List I5} {nl : List ND} {cl : List Int} {cb : Bool} {X Y : World} (h : Tx B1 B4 o r a b m cap s2 s3 s4 c4 l nl cl cb X) (k : Below X.heap.size X Y) : Tx B1 B4 o r a b m cap s2 s3 s4 c4 l nl cl cb Y :=
  ⟨(k.cell (p := ⟨B1, 0, none⟩) h.z1).trans h.y0, (k.cell (p := ⟨B1, 1, none⟩) h.z1).trans h.y1, (k.cell (p := ⟨B1, 2, none⟩) h.z1).trans h.y2, (k.cell (p := ⟨B1, 3, none⟩) h.z1).trans h.y3, (k.cell (p := ⟨B1, 4, none⟩) h.z1).trans h.y4,
   (k.cell (p := ⟨B4, 0, none⟩) h.z4).trans h.x0, (k.cell (p := ⟨B4, 1, none⟩) h.z4).trans h.x1, (k.cell (p := ⟨B4, 2, none⟩) h.z4).trans h.x2,
   (h.code.keep k).mono k.size, (h.nts.keep (Keep.of_below k (Nat.le_refl _))).mono (Nat.le_refl _) k.size, (h.row.below k).mono k.size, (h.ev.keep k).mono k.size, Nat.lt_of_lt_of_le h.z1 k.size, Nat.lt_of_lt_of_le h.z4 k.size⟩

set_option maxRecDepth 100000 in
set_option maxHeartbeats 8000000 in
theorem walkFnTexts (s : Option Addr) (n c : Nat) (w : World) (hb : Bytes w w.heap.size s n) (hn : n ≤ maxLen) (hE : Env w w.heap.size) :
    Calls Tryz.prog 3 #[.slice s n c] w fun e w' => e = .returned (.bool true) ∧ Below w.heap.size w w' := by
  by_cases hbig : 1048576 < n
  · clear hb hE
    go_enter Tryz.func3, Tryz.ntmps3
    go_wp2_with fail
    refine (big_any s n c w).mono ?_
    rintro e w1 ⟨rfl, hw⟩
    have hw' := hw.symm
    clear hw
    subst hw'
    rw [decide_eq_true hbig]
    go_wp2
    go_ret
    exact ⟨rfl, Below.refl _ _⟩
  have HB := hidT hb
  have HN := hidT hn
  have HE := hidT hE
  have BG := hidT hbig
  clear hb hE hn hbig
  go_enter Tryz.func3, Tryz.ntmps3
  go_wp2_with fail
  refine (big_any s n c w).mono ?_
  rintro e w1 ⟨rfl, hw⟩
  have hw' := hw.symm
  clear hw
  subst hw'
  rw [decide_eq_false BG.out]
  go_wp2_with fail
  refine (drawStepText_any s n c w HB.out HN.out).mono ?_
  rintro e w1 ⟨o, r, a, b, m, rfl, hb1⟩
  obtain ⟨W1, hW1⟩ : ∃ W, w1.alloc (.cells #[.int .i64 o, .int .i64 r, .int .i64 a, .int .i64 b, .int .i64 m] 25) = W := ⟨_, rfl⟩
  have kW1 : Below w1.heap.size w1 W1 := by subst hW1; exact (Below.refl _ _).alloc (Nat.le_refl _) _
  have q0 : W1.cell? ⟨w1.heap.size, 0, none⟩ = some (.int .i64 o) := by subst hW1; simp [go_sem]
  have q1 : W1.cell? ⟨w1.heap.size, 1, none⟩ = some (.int .i64 r) := by subst hW1; simp [go_sem]
  have q2 : W1.cell? ⟨w1.heap.size, 2, none⟩ = some (.int .i64 a) := by subst hW1; simp [go_sem]
  have q3 : W1.cell? ⟨w1.heap.size, 3, none⟩ = some (.int .i64 b) := by subst hW1; simp [go_sem]
  have q4 : W1.cell? ⟨w1.heap.size, 4, none⟩ = some (.int .i64 m) := by subst hW1; simp [go_sem]
  have zW1 : w1.heap.size < W1.heap.size := by subst hW1; simp
  have Q : Hid (W1.cell? ⟨w1.heap.size, 0, none⟩ = some (.int .i64 o) ∧ W1.cell? ⟨w1.heap.size, 1, none⟩ = some (.int .i64 r) ∧ W1.cell? ⟨w1.heap.size, 2, none⟩ = some (.int .i64 a) ∧ W1.cell? ⟨w1.heap.size, 3, none⟩ = some (.int .i64 b) ∧ W1.cell? ⟨w1.heap.size, 4, none⟩ = some (.int .i64 m)) := ⟨q0, q1, q2, q3, q4⟩
  have s1 := hb1.size
  have K1 := hidT (hb1.trans (kW1.mono s1))
  have SW := hidT hW1
  clear hb1 kW1 q0 q1 q2 q3 q4 hW1
  go_wp2_with fail
  rw [SW.out]
  clear SW
  refine (drawCodeText_any s n c W1 (HB.out.up K1.out) HN.out).mono ?_
  rintro e w2 ⟨s2, c2, l, rfl, hi2, hl2, hb2⟩
  have K2 := hidT (K1.out.trans (hb2.mono (by omega)))
  have L2 := hidT hb2
  have I2 := hidT hi2
  have z2 := hb2.size
  clear hb2 hi2
  go_wp2_with fail
  refine (drawTraceText_any s n c w2 (HB.out.up K2.out) HN.out).mono ?_
  rintro e w3 ⟨s3, c3, nl, rfl, hn3, hl3, hnb, hb3⟩
  have K3 := hidT (K2.out.trans (hb3.mono (by omega)))
  have L3 := hidT (L2.out.trans (hb3.mono z2))
  have I3 := hidT ((I2.out.keep hb3).mono hb3.size)
  have N3 := hidT hn3
  have NB := hidT hnb
  have z3 := hb3.size
  clear hb3 hn3 hnb L2 I2
  go_wp2_with fail
  refine (drawChanText_any s n c w3 (HB.out.up K3.out) HN.out).mono ?_
  rintro e w4 ⟨cap, s4, c4, cl, cb, rfl, hr4, hl4, hib, hb4⟩
  have K4 := hidT (K3.out.trans (hb4.mono (by omega)))
  have L4 := hidT (L3.out.trans (hb4.mono (by omega)))
  have z4 := hb4.size
  obtain ⟨V, hV⟩ : ∃ W, w4.alloc (.cells #[.int .i64 cap, .slice s4 cl.length c4, .bool cb] 33) = W := ⟨_, rfl⟩
  have kV : Below w4.heap.size w4 V := by subst hV; exact (Below.refl _ _).alloc (Nat.le_refl _) _
  have zV : w4.heap.size < V.heap.size := by subst hV; simp
  have T : Hid (Tx w1.heap.size w4.heap.size o r a b m cap s2 s3 s4 c4 l nl cl cb V) := by
    have kL := L4.out.trans (kV.mono (by omega))
    obtain ⟨q0, q1, q2, q3, q4⟩ := Q.out
    exact ⟨(kL.cell (p := ⟨w1.heap.size, 0, none⟩) zW1).trans q0, (kL.cell (p := ⟨w1.heap.size, 1, none⟩) zW1).trans q1, (kL.cell (p := ⟨w1.heap.size, 2, none⟩) zW1).trans q2, (kL.cell (p := ⟨w1.heap.size, 3, none⟩) zW1).trans q3, (kL.cell (p := ⟨w1.heap.size, 4, none⟩) zW1).trans q4,
      by subst hV; simp [go_sem], by subst hV; simp [go_sem], by subst hV; simp [go_sem],
      ((I3.out.keep (hb4.trans (kV.mono z4))).mono (by omega)), (N3.out.keep (Keep.of_below (hb4.trans (kV.mono z4)) (Nat.le_refl _))).mono (Nat.le_refl _) (by omega),
      (hr4.below kV).mono (by omega), (HE.out.keep (K4.out.trans (kV.mono (by omega)))).mono (by omega), by omega, zV⟩
  have KV := hidT (K4.out.trans (kV.mono (by omega)))
  have SV := hidT hV
  have HIB := hidT hib
  have Z0 : Hid (w.heap.size ≤ V.heap.size) := by show _ ≤ _; omega
  clear hb4 hr4 hib kV hV K1 K2 K3 K4 L3 L4 I3 N3 Q HB HN BG HE s1 z2 z3 z4 zV zW1
  go_wp2_with fail
  rw [SV.out]
  clear SV
  generalize w1.heap.size = B1 at T ⊢
  generalize w4.heap.size = B4 at T ⊢
  obtain ⟨y0, y1, y2, y3, y4, x0, x1, x2, -, -, -, -, zz1, zz4⟩ := T.out
  have hne := ext_ne V
  have u0 := Ext.fit y0 zz1
  have u1 := Ext.fit y1 zz1
  have u2 := Ext.fit y2 zz1
  have u3 := Ext.fit y3 zz1
  have u4 := Ext.fit y4 zz1
  have v0 := Ext.fit x0 zz4
  have v1 := Ext.fit x1 zz4
  have v2 := Ext.fit x2 zz4
  have CI1 : Hid (∀ X : Ext V, Calls Tryz.prog 9 #[.agg #[.int .i64 o, .int .i64 r, .int .i64 a, .int .i64 b, .int .i64 m]] X.w fun e w' => e = .returned (.string ⟨(stT o r a b m).toArray⟩) ∧ Below X.w.heap.size X.w w') := fun X => implStepText_any o r a b m X.w (T.out.keep X.b).ev
  have CI2 : Hid (∀ X : Ext V, Calls Tryz.prog 10 #[.slice s2 l.length c2] X.w fun e w' => e = .returned (.string ⟨(codT l).toArray⟩) ∧ Below X.w.heap.size X.w w') := fun X => implCodT_any s2 c2 _ l X.w (T.out.keep X.b).code (Nat.le_refl _) (by omega) (T.out.keep X.b).ev
  have CI3 : Hid (∀ X : Ext V, Calls Tryz.prog 11 #[.slice s3 nl.length c3] X.w fun e w' => e = .returned (.string ⟨(trT nl).toArray⟩) ∧ Below X.w.heap.size X.w w') := fun X => implTrace_any s3 c3 0 _ nl X.w (T.out.keep X.b).nts (Nat.le_refl _) (by omega) NB.out (T.out.keep X.b).ev
  have CI4 : Hid (∀ X : Ext V, Calls Tryz.prog 12 #[.agg #[.int .i64 cap, .slice s4 cl.length c4, .bool cb]] X.w fun e w' => e = .returned (.string ⟨(chT cap cl cb).toArray⟩) ∧ Below X.w.heap.size X.w w') := fun X => implChT_any cap s4 c4 _ cl cb X.w (T.out.keep X.b).row (Nat.le_refl _) (by omega) HIB.out (T.out.keep X.b).ev
  have CS1 : Hid (∀ X : World, Calls Tryz.prog 13 #[.agg #[.int .i64 o, .int .i64 r, .int .i64 a, .int .i64 b, .int .i64 m]] X fun e w' => e = .returned (.string ⟨(stT o r a b m).toArray⟩) ∧ Below X.heap.size X w') := fun X => specStepText_any o r a b m X
  have CS2 : Hid (∀ X : World, InsB X X.heap.size s2 l → Calls Tryz.prog 14 #[.slice s2 l.length c2] X fun e w' => e = .returned (.string ⟨(codT l).toArray⟩) ∧ Below X.heap.size X w') := fun X h => specCodT_any s2 c2 _ l X h (Nat.le_refl _) (by omega)
  have CS3 : Hid (∀ X : World, NtsR X 0 X.heap.size s3 nl → Calls Tryz.prog 15 #[.slice s3 nl.length c3] X fun e w' => e = .returned (.string ⟨(trT nl).toArray⟩) ∧ Below X.heap.size X w') := fun X h => specTrace_any s3 c3 0 _ nl X h (Nat.le_refl _) (by omega) NB.out
  have CS4 : Hid (∀ X : World, RowI X X.heap.size s4 cl → Calls Tryz.prog 16 #[.agg #[.int .i64 cap, .slice s4 cl.length c4, .bool cb]] X fun e w' => e = .returned (.string ⟨(chT cap cl cb).toArray⟩) ∧ Below X.heap.size X w') := fun X h => specChT_any cap s4 c4 _ cl cb X h (Nat.le_refl _) (by omega) HIB.out
  have OK1 : Hid (∀ X : World, Calls Tryz.prog 17 #[.agg #[.int .i64 o, .int .i64 r, .int .i64 a, .int .i64 b, .int .i64 m], .int .i64 800] X fun e w' => e = .returned (.bool (Plain.stepB o r a b m 800)) ∧ Below X.heap.size X w') := fun X => stepOk_any o r a b m 800 X
  have OK4 : Hid (∀ X : World, Calls Tryz.prog 18 #[.agg #[.int .i64 cap, .slice s4 cl.length c4, .bool cb]] X fun e w' => e = .returned (.bool (okC cap cl.length)) ∧ Below X.heap.size X w') := fun X => implOk_any cap s4 cl.length c4 cb X (by omega)
  have OK2 : Hid (∀ X : World, InsB X X.heap.size s2 l → Calls Tryz.prog 19 #[.slice s2 l.length c2] X fun e w' => e = .returned (.bool (codeB l)) ∧ Below X.heap.size X w') := fun X h => implCode_any s2 c2 _ l X h (Nat.le_refl _) (by omega)
  have F1 := hidT (stT_ne o r a b m)
  have F4 := hidT (chT_ne cap cl cb)
  have F3 := hidT (trT_ne nl)
  have F2 : Hid ((codeB l = true → (codT l).count 10 = l.length ∧ 1 ≤ l.length) ∧ (codeB l = false → codT l = [])) := by
    refine ⟨fun h => ?_, fun h => ?_⟩
    · unfold codT
      rw [if_pos h]
      exact ⟨count_code l, (code_each h).1.1⟩
    · unfold codT
      rw [h]
      rfl
  have LN : Hid ((codT l).length ≤ 200000000) := by
    show _ ≤ _
    unfold codT
    split
    · have := flat_len l; omega
    · simp
  generalize Plain.stepB o r a b m 800 = sv at F1 OK1
  generalize okC cap cl.length = kv at F4 OK4
  generalize codeB l = cv at F2 OK2
  generalize stT o r a b m = ts at F1 CI1 CS1
  generalize codT l = tc at F2 CI2 CS2 LN
  generalize trT nl = tt at F3 CI3 CS3
  generalize chT cap cl cb = th at F4 CI4 CS4
  refine regionExt V (by kernel_rfl) (by kernel_rfl) ?_
  repeat (go_big_quiet_step (first | (rename_i X; go_at_call 9; refine Calls.mono (CI1.out X) ?_; rintro e w3 ⟨rfl, hb3⟩; exact ⟨rfl, X.on hb3⟩) | (rename_i X; go_at_call 10; refine Calls.mono (CI2.out X) ?_; rintro e w3 ⟨rfl, hb3⟩; exact ⟨rfl, X.on hb3⟩) | (rename_i X; go_at_call 11; refine Calls.mono (CI3.out X) ?_; rintro e w3 ⟨rfl, hb3⟩; exact ⟨rfl, X.on hb3⟩) | (rename_i X; go_at_call 12; refine Calls.mono (CI4.out X) ?_; rintro e w3 ⟨rfl, hb3⟩; exact ⟨rfl, X.on hb3⟩) | fail))
  refine wpQuiet_nil ?_
  rintro w5 ⟨X5, rfl⟩
  obtain ⟨U, hU⟩ : ∃ U, X5.w = U := ⟨_, rfl⟩
  have hb5 := X5.b
  rw [hU] at hb5 ⊢
  have T5 := hidT (T.out.keep hb5)
  have K5 := hidT (KV.out.trans (hb5.mono Z0.out))
  have Z5 : Hid (w.heap.size ≤ U.heap.size) := Nat.le_trans Z0.out hb5.size
  clear hU X5 hb5 T KV Z0 hne u0 u1 u2 u3 u4 v0 v1 v2 y0 y1 y2 y3 y4 x0 x1 x2 zz1 zz4 CI1 CI2 CI3 CI4
  obtain ⟨y0, y1, y2, y3, y4, -, -, -, -, -, -, -, -, -⟩ := T5.out
  go_wp2_with fail
  refine Calls.mono (CS1.out U) ?_
  rintro e w6 ⟨rfl, hb6⟩
  have T6 := hidT (T5.out.keep hb6)
  have K6 := hidT (K5.out.trans (hb6.mono Z5.out))
  have Z6 : Hid (w.heap.size ≤ w6.heap.size) := Nat.le_trans Z5.out hb6.size
  clear hb6 T5 K5 Z5 y0 y1 y2 y3 y4
  go_wp2_with fail
  refine Calls.mono (CS2.out w6 T6.out.code) ?_
  rintro e w7 ⟨rfl, hb7⟩
  have T7 := hidT (T6.out.keep hb7)
  have K7 := hidT (K6.out.trans (hb7.mono Z6.out))
  have Z7 : Hid (w.heap.size ≤ w7.heap.size) := Nat.le_trans Z6.out hb7.size
  clear hb7 T6 K6 Z6
  go_wp2_with fail
  refine Calls.mono (CS3.out w7 T7.out.nts) ?_
  rintro e w8 ⟨rfl, hb8⟩
  have T8 := hidT (T7.out.keep hb8)
  have K8 := hidT (K7.out.trans (hb8.mono Z7.out))
  have Z8 : Hid (w.heap.size ≤ w8.heap.size) := Nat.le_trans Z7.out hb8.size
  clear hb8 T7 K7 Z7
  obtain ⟨-, -, -, -, -, x0, x1, x2, -, -, -, -, -, -⟩ := T8.out
  go_wp2_with fail
  refine Calls.mono (CS4.out w8 T8.out.row) ?_
  rintro e w9 ⟨rfl, hb9⟩
  have T9 := hidT (T8.out.keep hb9)
  have K9 := hidT (K8.out.trans (hb9.mono Z8.out))
  have Z9 : Hid (w.heap.size ≤ w9.heap.size) := Nat.le_trans Z8.out hb9.size
  clear hb9 T8 K8 Z8 x0 x1 x2
  go_wp2_with fail
  go_loopw [11, 12] (fun t i wr => ∃ k : Nat, k ≤ tc.length ∧ i = .int .i64 k ∧ t = .int .i64 ((tc.take k).count 10 : Nat) ∧ wr = w9) (fun _ i _ => tc.length - (intOf i).toNat)
  case atStart => exact ⟨0, Nat.zero_le _, rfl, by simp, rfl⟩
  case round =>
    obtain ⟨k, hk, rfl, rfl, hw⟩ := hrel
    have hw' := hw.symm
    clear hw
    subst hw'
    have hcn : (tc.take k).count 10 ≤ tc.length := Nat.le_trans List.count_le_length (by rw [List.length_take]; omega)
    by_cases hlt : k < tc.length
    · obtain ⟨ch, hch⟩ : ∃ ch, tc[k] = ch := ⟨_, rfl⟩
      have HX : Hid ((tc.take (k + 1)).count 10 = (tc.take k).count 10 + if ch = 10 then 1 else 0) := by
        show _ = _
        rw [List.take_add_one, List.getElem?_eq_getElem hlt, hch, List.count_append]
        congr 1
        by_cases h10 : ch = 10
        · subst h10; rfl
        · rw [if_neg h10]
          simp [List.count_cons, h10]
      have hp : k < (⟨tc.toArray⟩ : ByteArray).size := by simpa [ByteArray.size] using hlt
      have hgk : (⟨tc.toArray⟩ : ByteArray)[k]'hp = ch := hch
      have i0 : (0 : Int) ≤ (k : Int) := by omega
      have i1 : (k : Int) < (tc.length : Int) := by omega
      have ln := LN.out
      generalize (tc.take k).count 10 = cn at HX hcn
      by_cases h10 : ch = 10
      · rw [if_pos h10] at HX
        have e10 : (ch.toNat : Int) = 10 := by rw [h10]; rfl
        clear hch
        go_wp2
        go_roundw
        case rel => exact ⟨k + 1, by omega, by go_num, by rw [HX.out]; go_num, by trivial⟩
        case measure => simp [intOf]; omega
      · rw [if_neg h10] at HX
        have e10 : ¬ (ch.toNat : Int) = 10 := by
          intro e
          apply h10
          apply UInt8.toNat_inj.1
          simp
          omega
        clear hch h10
        go_wp2
        go_roundw
        case rel => exact ⟨k + 1, by omega, by go_num, by rw [HX.out]; rfl, by trivial⟩
        case measure => simp [intOf]; omega
    · have i1 : ¬ (k : Int) < (tc.length : Int) := by omega
      have e : tc.take k = tc := List.take_of_length_le (by omega)
      rw [e]
      clear e
      obtain ⟨y0, y1, y2, y3, y4, -, -, -, -, -, -, -, -, -⟩ := T9.out
      have h1 : (ts == []) = !sv := by
        cases sv
        · simp [F1.out.2 rfl]
        · have : ts ≠ [] := fun e => by have := F1.out.1 e; simp at this
          simpa using this
      have h4 : (th == []) = !kv := by
        cases kv
        · simp [F4.out.2 rfl]
        · have : th ≠ [] := fun e => by have := F4.out.1 e; simp at this
          simpa using this
      have h3 : (tt == []) = false := by simpa using F3.out
      have fin : Hid ((cv = true ∧ tc.count 10 = l.length) ∨ (cv = false ∧ tc = [])) := by
        show _ ∨ _
        cases hcv : cv
        · exact .inr ⟨rfl, F2.out.2 hcv⟩
        · exact .inl ⟨rfl, (F2.out.1 hcv).1⟩
      clear F1 F2 F3 F4 LN hcn
      generalize hcc : tc.count 10 = cn at fin
      have HCC := hidT hcc
      clear hcc
      rcases fin.out with ⟨rfl, hc⟩ | ⟨rfl, hc⟩
      · subst hc
        clear fin HCC
        have e0 : ((l.length : Int) == (l.length : Int)) = true := by simp
        cases sv
        all_goals
          go_wp2_with fail
          refine Calls.mono (OK1.out w9) ?_
          rintro e w10 ⟨rfl, hb9⟩
          have T10 := hidT (T9.out.keep hb9)
          have K10 := hidT (K9.out.trans (hb9.mono Z9.out))
          have Z10 : Hid (w.heap.size ≤ w10.heap.size) := Nat.le_trans Z9.out hb9.size
          clear hb9
          obtain ⟨-, -, -, -, -, x0, x1, x2, -, -, -, -, -, -⟩ := T10.out
          cases kv
          all_goals
            go_wp2_with fail
            refine Calls.mono (OK4.out w10) ?_
            rintro e w11 ⟨rfl, hb9⟩
            have T11 := hidT (T10.out.keep hb9)
            have K11 := hidT (K10.out.trans (hb9.mono Z10.out))
            have Z11 : Hid (w.heap.size ≤ w11.heap.size) := Nat.le_trans Z10.out hb9.size
            clear hb9
            go_wp2_with fail
            refine Calls.mono (OK2.out w11 T11.out.code) ?_
            rintro e w12 ⟨rfl, hb9⟩
            have T12 := hidT (T11.out.keep hb9)
            have K12 := hidT (K11.out.trans (hb9.mono Z11.out))
            have Z12 : Hid (w.heap.size ≤ w12.heap.size) := Nat.le_trans Z11.out hb9.size
            clear hb9
            go_wp2
            go_ret
            exact ⟨rfl, K12.out⟩
      · subst hc
        have hcn0 : cn = 0 := by rw [← HCC.out]; rfl
        subst hcn0
        clear fin HCC
        by_cases hl0 : l.length = 0
        · have e0 : ((0 : Int) == (l.length : Int)) = true := by rw [hl0]; rfl
          have E0 := hidT e0
          clear hl0 e0
          cases sv
          all_goals
            go_wp2_with fail
            refine Calls.mono (OK1.out w9) ?_
            rintro e w10 ⟨rfl, hb9⟩
            have T10 := hidT (T9.out.keep hb9)
            have K10 := hidT (K9.out.trans (hb9.mono Z9.out))
            have Z10 : Hid (w.heap.size ≤ w10.heap.size) := Nat.le_trans Z9.out hb9.size
            clear hb9
            obtain ⟨-, -, -, -, -, x0, x1, x2, -, -, -, -, -, -⟩ := T10.out
            cases kv
            all_goals
              have e0 := E0.out
              go_wp2_with fail
              refine Calls.mono (OK4.out w10) ?_
              rintro e w11 ⟨rfl, hb9⟩
              have T11 := hidT (T10.out.keep hb9)
              have K11 := hidT (K10.out.trans (hb9.mono Z10.out))
              have Z11 : Hid (w.heap.size ≤ w11.heap.size) := Nat.le_trans Z10.out hb9.size
              clear hb9
              go_wp2_with fail
              refine Calls.mono (OK2.out w11 T11.out.code) ?_
              rintro e w12 ⟨rfl, hb9⟩
              have T12 := hidT (T11.out.keep hb9)
              have K12 := hidT (K11.out.trans (hb9.mono Z11.out))
              have Z12 : Hid (w.heap.size ≤ w12.heap.size) := Nat.le_trans Z11.out hb9.size
              clear hb9
              go_wp2_with fail
              refine Calls.mono (OK2.out w12 T12.out.code) ?_
              rintro e w13 ⟨rfl, hb9⟩
              have T13 := hidT (T12.out.keep hb9)
              have K13 := hidT (K12.out.trans (hb9.mono Z12.out))
              have Z13 : Hid (w.heap.size ≤ w13.heap.size) := Nat.le_trans Z12.out hb9.size
              clear hb9
              go_wp2
              go_ret
              exact ⟨rfl, K13.out⟩
        · have e0 : ((0 : Int) == (l.length : Int)) = false := by
            have : ¬ (0 : Int) = (l.length : Int) := by omega
            simpa using this
          clear hl0
          cases sv
          all_goals
            go_wp2_with fail
            refine Calls.mono (OK1.out w9) ?_
            rintro e w10 ⟨rfl, hb9⟩
            have T10 := hidT (T9.out.keep hb9)
            have K10 := hidT (K9.out.trans (hb9.mono Z9.out))
            have Z10 : Hid (w.heap.size ≤ w10.heap.size) := Nat.le_trans Z9.out hb9.size
            clear hb9
            obtain ⟨-, -, -, -, -, x0, x1, x2, -, -, -, -, -, -⟩ := T10.out
            cases kv
            all_goals
              go_wp2_with fail
              refine Calls.mono (OK4.out w10) ?_
              rintro e w11 ⟨rfl, hb9⟩
              have T11 := hidT (T10.out.keep hb9)
              have K11 := hidT (K10.out.trans (hb9.mono Z10.out))
              have Z11 : Hid (w.heap.size ≤ w11.heap.size) := Nat.le_trans Z10.out hb9.size
              clear hb9
              go_wp2_with fail
              refine Calls.mono (OK2.out w11 T11.out.code) ?_
              rintro e w12 ⟨rfl, hb9⟩
              have T12 := hidT (T11.out.keep hb9)
              have K12 := hidT (K11.out.trans (hb9.mono Z11.out))
              have Z12 : Hid (w.heap.size ≤ w12.heap.size) := Nat.le_trans Z11.out hb9.size
              clear hb9
              go_wp2
              go_ret
              exact ⟨rfl, K12.out⟩

set_option maxRecDepth 100000 in
theorem liftedTexts (os : Os) (started : os.Started) (H : Type) (enc : TypeId × Value → H) :
    ReturnsInHanded {} Tryz.checked os 3 .any (fun w args => (Rows.fnTextsSpec.pre enc Tryz.prog Tryz.f3 [] false w args ∧ laidMetH Tryz.prog Rows.fnTextsRow.laid w) ∧ sizedMet enc Tryz.prog Tryz.f3 (OpenSpec.ofChange Rows.fnTextsSpec) false w args)
      (Rows.fnTextsSpec.post enc Tryz.prog Tryz.f3 false true false false) := by
  refine returnsInHanded_of_change_and (C := Tryz.checked) (X := fun w _ => laidMetH Tryz.prog Rows.fnTextsRow.laid w) (fun _ _ _ hh h => h.of_heap hh) ownS started (by kernel_rfl) Tryz.func3
    (ChangeSpec.witness_shaped (enc := enc) (C := Tryz.checked) (os := os) (X := fun w _ => laidMetH Tryz.prog Rows.fnTextsRow.laid w) false (World.doorLaid Tryz.prog 42 os) #[.slice none 0 0] 8 rfl (World.shaped_of_RefB (by kernel_rfl) (by kernel_rfl)) (by kernel_rfl) (by kernel_rfl) (by kernel_rfl) (door_met os _)) ?_
  intro W base args ds gs before hval0 hW _ _ hL _
  have hval : ∀ (j : Nat) t v, Tryz.f3.params[j]? = some t → args[j]? = some v → Value.okWide Tryz.prog W .any base t v := hval0
  have hW' := hW
  obtain ⟨p, q, hA0, hV, rfl, hfz, hnd⟩ := hW
  have hA : DataW.TrodAll enc Tryz.prog W 0 (fun _ => true) true Tryz.f3.params.toList args.toList ds p := hA0
  rw [Tryz.params3] at hA hval
  obtain ⟨v0, d0, hargs, rfl, h0⟩ := trodAll_one hA
  obtain rfl : args = #[v0] := by cases args; simp_all
  obtain ⟨rfl, rfl⟩ := trodVars_none hV
  have k0 := h0
  have lt0 : ∀ x ∈ p, x.block < W.heap.size := by obtain ⟨m, hm⟩ := k0; exact DataW.trod_lt m _ _ _ hm
  obtain ⟨s, n, c, rfl, hn, hB⟩ := bytes_read (hval 0 22 v0 rfl rfl) h0
  clear hA0 hval0
  refine (walkFnTexts s n c W hB hn (env_of_laid hL)).mono fun e W' ⟨he, bel⟩ => ?_
  subst he
  exact ⟨_, rfl, _, _, _, [], _, [], hW', trodAll_mk1 (shut_bool Tryz.underlying4 _), trodAll_mk1 (Below.trod laidOutS (by kernel_rfl) (of_decide_eq_true (by kernel_rfl)) k0 bel lt0), rfl, bel.frame _, fun h => by cases h⟩

theorem fnTexts_row : Rows.FnTextsSaid :=
  OpenClaim.holds_of_wide 3 Tryz.f3 rfl rfl rfl rfl rfl rfl rfl ⟨rfl, rfl, rfl, rfl, rfl⟩ rfl rfl rfl rfl rfl (by kernel_rfl) Tryz.func3 (by kernel_rfl)
    (of_decide_eq_true (by kernel_rfl)) (by unfold Func.isWrapper; first | (rw [if_pos (by decide +kernel)]; kernel_rfl) | (rw [if_neg (by decide +kernel)]; exact ⟨rfl, rfl⟩))
    (fun os started H enc _ => liftedTexts os started H enc)

theorem fnTexts_card : Rows.FnTextsCardSaid :=
  Claim7.holds_tied_plain_at .later [] [.data, .data, .data] true _ _
    fnTexts_row (fun _ h => by cases h) (by kernel_rfl) (fun _ h => by cases h) fnTexts_row_tie rfl ⟨rfl, rfl⟩ (by kernel_rfl) rfl
    (fun f fn hf hfn => by
      obtain rfl : f = 3 := Option.some.inj ((show Tryz.prog.funcNamed Rows.fnTextsRow.func = some 3 by kernel_rfl).symm.trans hf) |>.symm
      obtain rfl : fn = Tryz.f3 := (Option.some.inj (Tryz.func3.symm.trans hfn)).symm
      exact ⟨by kernel_rfl, fun j t ht => by
        rw [Tryz.params3] at ht
        have hm : t ∈ [22] := by simpa using Array.mem_of_getElem? ht
        have hall : ([22].all fun u => !Tryz.prog.wantsStandIn u) = true := by kernel_rfl
        exact (show Tryz.prog.wantsStandIn t = false by simpa using List.all_eq_true.1 hall t hm)⟩)
    (by kernel_rfl)
#print axioms fnTexts_card
end Go.Proofs.YtfgikjipkfggbaaGreatDoor
