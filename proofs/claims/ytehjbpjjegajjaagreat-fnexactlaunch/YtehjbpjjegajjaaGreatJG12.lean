/- Emit of the program at every argument. Conditions: rows of at most two million numbers. Rows of steps that are written over with running numbers and looked at again; how long the code of a place is. Conditions: at most a thousand steps. -/
import Derived.Test.YtehjbpjjegajjaaGreatJG00
import Derived.Test.YtehjbpjjegajjaaGreatJG04
import Derived.Test.YtehjbpjjegajjaaGreatJG01
import Derived.Test.YtehjbpjjegajjaaGreatJG11
import Derived.Test.YtehjbpjjegajjaaGreatJG09
import Derived.Test.YtehjbpjjegajjaaGreatJE10Take
import Derived.Test.YtehjbpjjegajjaaGreatJE10Site
import Derived.Test.YtehjbpjjegajjaaGreatJG07
import Derived.Test.YtehjbpjjegajjaaGreatJE10Put
import Derived.Test.YtehjbpjjegajjaaGreatJE10Pl
import Derived.Test.YtehjbpjjegajjaaGreatJE10Ops
import Derived.Test.YtehjbpjjegajjaaGreatJE10Of
import Derived.Test.YtehjbpjjegajjaaGreatJG08
import Derived.Test.YtehjbpjjegajjaaGreatJE10Emit
import Derived.Test.YtehjbpjjegajjaaGreatJG02
namespace Go.Proofs.YtehjbpjjegajjaaGreat
section
set_option linter.unusedSimpArgs false
set_option linter.unusedVariables false
set_option maxRecDepth 100000
open Go.RowKit
def chanM (o r a x rm b fr : Int) : List I5 :=
 if o = 5 then togL fr [lockR b, askR b 3, faultR b, openR b rm, roundR, putR b a ++ (letR b ++ [⟨10, 0, 0, 0, -1⟩]), letR b ++ [⟨10, 0, 0, 0, 0⟩]] [lockR b, askR b 3, faultR b, openR b rm, roundR, putR b a ++ (letR b ++ [⟨10, 0, 0, 0, -1⟩]), letR b ++ [⟨10, 0, 0, 0, 0⟩]]
 else if o = 6 then togL fr [lockR b, takenR b r rm, roundT, keepT b x, noneT b r x 0, [⟨10, 0, 0, 0, 0⟩]] [lockR b, takenR b r rm, roundT, keepT b x, noneT b r x 0, [⟨10, 0, 0, 0, 0⟩]]
 else if o = 7 then togL fr [lockR b, askR b 3, faultR b, openR b rm, roundR, putR b a ++ (letR b ++ triedR r 1), letR b ++ triedR r 0] [lockR b, askR b 3, faultR b, openR b rm, roundR, putR b a ++ (letR b ++ triedR r 1), letR b ++ triedR r 0]
 else if o = 8 then togL fr [lockR b, takenR b r rm, roundT, keepT b x, noneT b r x 2, cameR r x 0 0] [lockR b, takenR b r rm, roundT, keepT b x, noneT b r x 2, cameR r x 0 0]
 else togL fr [lockR b, askR b 3, faultR b, [⟨1, 7, 0, 0, 1⟩, ⟨6, 0, -1, 7, b + 3⟩] ++ letR b] [lockR b, askR b 3, faultR b, [⟨1, 7, 0, 0, 1⟩, ⟨6, 0, -1, 7, b + 3⟩] ++ letR b]
def emitM (caps starts : List Int) (o r a x n fr : Int) : List I5 :=
 if Plain.insB o r a x n starts.length caps.length = true then
  if o = 1 then [⟨1, r, 0, 0, n⟩] else if o = 2 then [⟨2, r, a, x, 0⟩] else if o = 3 then [⟨3, r, a, x, 0⟩] else if o = 4 then [⟨4, r, a, x, 0⟩]
  else if o = 10 then [⟨9, 0, a, 0, 0⟩] else if o = 11 then [⟨10, 0, 0, 0, starts.getD n.toNat 0⟩] else if o = 12 then [⟨11, 0, a, 0, starts.getD n.toNat 0⟩] else if o = 13 then [⟨12, 0, 0, 0, 0⟩]
  else if baseV caps n = -1 then [] else chanM o r a x (caps.getD n.toNat 0) (baseV caps n) fr
 else []
theorem baseV_up {caps : List Int} {n : Int} (h : baseV caps n ≠ -1) : 0 ≤ baseV caps n ∧ baseV caps n ≤ 20 ∧ 0 ≤ n ∧ n < caps.length := by
 unfold baseV at h ⊢
 by_cases hc : capsR caps = true ∧ sumC caps ≤ 24 ∧ 0 ≤ n ∧ n < caps.length
 ·rw [if_pos hc]
  obtain ⟨h1, h2, h3, h4⟩ := hc
  have q := sumC_next h1 (k := n.toNat) (by omega)
  have q2 := capsR_at h1 (k := n.toNat) (by omega)
  have q3 := sumC_len _ (capsR_take n.toNat h1)
  refine ⟨by omega, by omega, h3, h4⟩
 ·rw [if_neg hc] at h
  exact absurd rfl h
set_option maxHeartbeats 8000000 in
theorem emitNone (o r a x n fr : Int) (ss sk : Option Addr) (sl sc kl kc : Nat) (lo hi : Nat) (caps : List Int) (k : Nat) (sz : Int) (w : World) (hE : emVal o = #[.int .i64 sz, .bool true, .func (.func k) #[] #[]]) (hF : ∀ (args : Array Value) (w : World), (callFunc k args).run Tryz.prog w = .ok (.enter k args) w) (hok : Plain.insB o r a x n sl kl = true) (hkl : caps.length = kl) (hcp : IntsR w lo hi sk caps) (hhi : hi ≤ w.heap.size) (hcl : caps.length ≤ 2000000) (hbs : baseV caps n = -1) (hC : True) :
  Calls Tryz.prog 86 #[.slice sk kl kc, .agg #[.int .i64 o, .int .i64 r, .int .i64 a, .int .i64 x, .int .i64 n], .int .i64 fr, .slice ss sl sc] w fun e w' => e = .returned (.slice none 0 0) ∧ Below w.heap.size w w' := by
 have HOK := hid_of hok
 have HEM := hid_of hE
 have HCC := hid_of hC
 clear hok hE hC
 have HCP := hid_of hcp
 clear hcp
 obtain ⟨W, hW, hx, hb, hz⟩ := XB.new w o r a x n 73
 have HX := hid_of hx
 have HW : Hid (Below w.heap.size w W) := hb
 have HK : Hid (Below W.heap.size W W) := Below.refl _ _
 clear hx hb
 obtain ⟨q0, q1, q2, q3, q4, tl⟩ := HX.out
 go_enter Tryz.func86, Tryz.ntmps86
 go_upto_region 3 with (go_at_call 104; refine (insOk_any _ _ _ _ _ _ _ _).mono ?_; rintro e w1 ⟨rfl, hb1⟩; rw [HOK.out]; have JK : Hid (Below W.heap.size W w1) := (by first | exact HK.out.trans (hb1.mono HK.out.size) | exact HK.out.drew.trans (hb1.mono HK.out.drew.size)); clear HK; have HK := JK; clear JK; obtain ⟨q0, q1, q2, q3, q4, tl⟩ := HX.out.keep HK.out; clear hb1)
 have n1 : ¬ w.heap.size = w1.heap.size := Nat.ne_of_lt tl
 have n1' : ¬ w1.heap.size = w.heap.size := Nat.ne_of_gt tl
 have n1b : ¬ w.heap.size = w1.heap.size + 1 := by omega
 have n1c : ¬ w1.heap.size + 1 = w.heap.size := by omega
 go_cut [9, 10] (fun s9 s10 wx => ∃ p q, s9 = .pointer (some ⟨p, 0, none⟩) ∧ s10 = .pointer (some ⟨q, 0, none⟩) ∧ CutE w1 (.int .i64 o) (.int .i64 r) (.int .i64 a) (.int .i64 x) (.int .i64 n) (.int .i64 fr) (.slice ss sl sc) sz true (.func (.func k) #[] #[]) p q wx)
 case first =>
  go_region_held3 (fun w' => w'.cell? ⟨w.heap.size, 0, none⟩ = some (.int .i64 o) ∧ w'.cell? ⟨w.heap.size, 1, none⟩ = some (.int .i64 r) ∧ w'.cell? ⟨w.heap.size, 2, none⟩ = some (.int .i64 a) ∧ w'.cell? ⟨w.heap.size, 3, none⟩ = some (.int .i64 x) ∧ w'.cell? ⟨w.heap.size, 4, none⟩ = some (.int .i64 n)) (go_keep) (first | (go_at_call 109; refine (emitterOf_any _ _).mono ?_; rintro e w2 ⟨rfl, hb2⟩; rw [HEM.out]; have JK := hid_of (Below.via (B := W.heap.size) (w := W) hb2 (Nat.le_refl _) (by repeat (first | with_reducible exact HK.out | with_reducible refine Below.drew ?_ | with_reducible refine Below.alloc ?_ (by have := HK.out.size; first | omega | (simp; omega)) _))); have KB := hid_of (Below.via (B := w1.heap.size) (w := w1) hb2 (Nat.le_refl _) (by repeat (first | with_reducible exact Below.refl _ _ | with_reducible refine Below.drew ?_ | with_reducible refine Below.alloc ?_ (by first | omega | (simp; omega) | simp) _))); obtain ⟨q0, q1, q2, q3, q4, tl⟩ := HX.out.keep JK.out; (first | (obtain ⟨bc1, bc2⟩ := bcell (Below.undrew hb2)) | (obtain ⟨bc1, bc2⟩ := bcell hb2)); obtain ⟨ap1, ap2, ap3⟩ := apart (Below.undrew hb2); have n2 : ¬ w.heap.size = w2.heap.size := Nat.ne_of_lt tl; have n2' : ¬ w2.heap.size = w.heap.size := Nat.ne_of_gt tl; try simp only [World.size_alloc] at bc1 bc2 ap1 ap2 ap3; clear hb2))
  all_goals
   go_wp2_with fail
   go_meet
   have zk := KB.out.size
   refine ⟨_, _, rfl, rfl, ⟨⟨?_, ?_, ?_, ?_, ?_, ?_, ?_, ?_, ?_, ?_⟩, fun j => ?_, ⟨?_, ?_, ?_⟩, ?_, ?_, ?_, ?_, ?_⟩⟩
   all_goals first | (simp [go_sem, bc1, bc2, ap1, ap2, ap3]; done) | (simp (config := { maxDischargeDepth := 6 }) [go_sem, bc1, bc2, ap1, ap2, ap3, setC_at]; done) | omega | (simp; omega) | (have := ap1 w1.heap.size (by omega); simp; omega) | (have := ap1 (w1.heap.size + 1) (by omega); simp; omega) | (repeat (first | with_reducible exact KB.out | with_reducible refine Below.alloc ?_ (by first | omega | (simp; omega)) _ | with_reducible refine Below.setCell ?_ (by first | omega | exact Nat.le_refl _ | exact Nat.le_succ _ | (simp; done)) _))
 case rest =>
  obtain ⟨p, q, rfl, rfl, hx, hf, hk, hne, hp, hq, hql, hbx⟩ := hcut
  have z1 := HK.out.size
  have HBw : Hid (Below W.heap.size W wc) := HK.out.trans (hbx.mono z1)
  have HB9 : Hid (Below w.heap.size w wc) := HW.out.trans (HBw.out.mono (by omega))
  have z9 := HB9.out.size
  clear hf hbx
  clear q0 q1 q2 q3 q4 tl
  obtain ⟨q0, q1, q2, q3, q4, tl⟩ := HX.out.keep HBw.out
  have k1 := hk.c1
  clear hx hk
  have BC := implBase_any sk kc lo hi caps n wc (HCP.out.keep (Keep.of_below HB9.out hhi)) (by omega) hcl
  rw [hbs, hkl] at BC
  go_wp2_with (go_at_call 84; refine BC.mono ?_; rintro e wd ⟨rfl, hbd⟩; have HBD := hid_of hbd; clear hbd)
  go_ret
  exact ⟨rfl, HB9.out.trans (HBD.out.mono z9)⟩
theorem ent_set (args : Array Value) (w : World) : (callFunc 140 args).run Tryz.prog w = .ok (.enter 140 args) w := by kernel_rfl
theorem ent_add (args : Array Value) (w : World) : (callFunc 141 args).run Tryz.prog w = .ok (.enter 141 args) w := by kernel_rfl
theorem ent_sub (args : Array Value) (w : World) : (callFunc 142 args).run Tryz.prog w = .ok (.enter 142 args) w := by kernel_rfl
theorem ent_less (args : Array Value) (w : World) : (callFunc 143 args).run Tryz.prog w = .ok (.enter 143 args) w := by kernel_rfl
theorem ent_print (args : Array Value) (w : World) : (callFunc 149 args).run Tryz.prog w = .ok (.enter 149 args) w := by kernel_rfl
theorem ent_end (args : Array Value) (w : World) : (callFunc 152 args).run Tryz.prog w = .ok (.enter 152 args) w := by kernel_rfl
theorem ent_jump (args : Array Value) (w : World) : (callFunc 150 args).run Tryz.prog w = .ok (.enter 150 args) w := by kernel_rfl
theorem ent_zero (args : Array Value) (w : World) : (callFunc 151 args).run Tryz.prog w = .ok (.enter 151 args) w := by kernel_rfl
theorem ent_send (args : Array Value) (w : World) : (callFunc 144 args).run Tryz.prog w = .ok (.enter 144 args) w := by kernel_rfl
theorem ent_take (args : Array Value) (w : World) : (callFunc 145 args).run Tryz.prog w = .ok (.enter 145 args) w := by kernel_rfl
theorem ent_trySend (args : Array Value) (w : World) : (callFunc 146 args).run Tryz.prog w = .ok (.enter 146 args) w := by kernel_rfl
theorem ent_tryTake (args : Array Value) (w : World) : (callFunc 147 args).run Tryz.prog w = .ok (.enter 147 args) w := by kernel_rfl
theorem ent_shut (args : Array Value) (w : World) : (callFunc 148 args).run Tryz.prog w = .ok (.enter 148 args) w := by kernel_rfl
theorem insB_ops {o r a x n pl ch : Int} (h : Plain.insB o r a x n pl ch = true) : o = 1 ∨ o = 2 ∨ o = 3 ∨ o = 4 ∨ o = 5 ∨ o = 6 ∨ o = 7 ∨ o = 8 ∨ o = 9 ∨ o = 10 ∨ o = 11 ∨ o = 12 ∨ o = 13 := by
 unfold Plain.insB at h
 have := of_decide_eq_true h
 omega
theorem insB_jump {o r a x n pl ch : Int} (h : Plain.insB o r a x n pl ch = true) (ho : o = 11 ∨ o = 12) : 0 ≤ n ∧ n < pl := by
 unfold Plain.insB at h
 have := of_decide_eq_true h
 omega
set_option maxHeartbeats 1000000 in
theorem emitNo (o r a x n fr : Int) (ss sk : Option Addr) (sl sc kl kc : Nat) (w : World) (hok : Plain.insB o r a x n sl kl = false) : Calls Tryz.prog 86 #[.slice sk kl kc, .agg #[.int .i64 o, .int .i64 r, .int .i64 a, .int .i64 x, .int .i64 n], .int .i64 fr, .slice ss sl sc] w fun e w' => e = .returned (.slice none 0 0) ∧ Below w.heap.size w w' := by
 have HOK := hid_of hok
 clear hok
 obtain ⟨W, hW, hx, hb, hz⟩ := XB.new w o r a x n 73
 have HX := hid_of hx
 have HW : Hid (Below w.heap.size w W) := hb
 have HK : Hid (Below W.heap.size W W) := Below.refl _ _
 clear hx hb
 obtain ⟨q0, q1, q2, q3, q4, tl⟩ := HX.out
 go_enter Tryz.func86, Tryz.ntmps86
 go_wp2_with (go_at_call 104; refine (insOk_any _ _ _ _ _ _ _ _).mono ?_; rintro e w1 ⟨rfl, hb1⟩; rw [HOK.out]; have JK : Hid (Below W.heap.size W w1) := (by first | exact HK.out.trans (hb1.mono HK.out.size) | exact HK.out.drew.trans (hb1.mono HK.out.drew.size)); clear HK; have HK := JK; clear JK; obtain ⟨q0, q1, q2, q3, q4, tl⟩ := HX.out.keep HK.out; clear hb1)
 go_ret
 exact ⟨rfl, HW.out.trans (HK.out.mono HW.out.size)⟩
theorem implEmit_any (o r a x n fr : Int) (ss sk : Option Addr) (sc kc lo hi lo' hi' : Nat) (caps starts : List Int) (w : World) (hcp : IntsR w lo hi sk caps) (hhi : hi ≤ w.heap.size) (hcl : caps.length ≤ 2000000) (hst : IntsR w lo' hi' ss starts) (hhi' : hi' ≤ w.heap.size) :
  Calls Tryz.prog 86 #[.slice sk caps.length kc, .agg #[.int .i64 o, .int .i64 r, .int .i64 a, .int .i64 x, .int .i64 n], .int .i64 fr, .slice ss starts.length sc] w fun e w' => ∃ v, e = .returned v ∧ OwnT5 w' w.heap.size v (emitM caps starts o r a x n fr) ∧ Below w.heap.size w w' := by
 have up : ∀ {n : Nat} {L : List I5} {C : Ending → World → Prop}, (∀ e w', C e w' → ∃ g c, e = .returned (.slice (some ⟨g, 0, none⟩) n c) ∧ OwnT5 w' w.heap.size (.slice (some ⟨g, 0, none⟩) n c) L ∧ Below w.heap.size w w') → ∀ e w', C e w' → ∃ v, e = .returned v ∧ OwnT5 w' w.heap.size v L ∧ Below w.heap.size w w' := fun h e w' hc => by
  obtain ⟨g, c, h1, h2, h3⟩ := h e w' hc
  exact ⟨_, h1, h2, h3⟩
 by_cases hok : Plain.insB o r a x n starts.length caps.length = true
 ·unfold emitM
  rw [if_pos hok]
  have hjr : (o = 11 ∨ o = 12) → ∃ gi oi, ss = some ⟨gi, oi, none⟩ ∧ gi < w.heap.size ∧ w.cell? ⟨gi, oi + n.toNat, none⟩ = some (.int .i64 (starts.getD n.toNat 0)) := fun ho => by
   obtain ⟨h0, h1⟩ := insB_jump hok ho
   obtain ⟨gi, oi, e, q1, q2, q3⟩ := hst.pos (by omega)
   exact ⟨gi, oi, e, by omega, q3 n.toNat (by omega)⟩
  have keepr : ∀ {W : World} {y : Int}, Below w.heap.size w W → (∃ gi oi, ss = some ⟨gi, oi, none⟩ ∧ gi < w.heap.size ∧ w.cell? ⟨gi, oi + n.toNat, none⟩ = some (.int .i64 y)) → ∃ gi oi, ss = some ⟨gi, oi, none⟩ ∧ gi < W.heap.size ∧ W.cell? ⟨gi, oi + n.toNat, none⟩ = some (.int .i64 y) := fun hb ⟨gi, oi, e, h1, h2⟩ => ⟨gi, oi, e, by have := hb.size; omega, (hb.cell (p := ⟨gi, oi + n.toNat, none⟩) h1).trans h2⟩
  rcases insB_ops hok with rfl | rfl | rfl | rfl | rfl | rfl | rfl | rfl | rfl | rfl | rfl | rfl | rfl
  ·exact (emitPlain 1 r a x n fr ss sk starts.length sc caps.length kc 140 1 _ w rfl ent_set hok (fun W hb => iPSet 1 r a x n fr ss starts.length sc W)).mono (up (fun e w' h => h))
  ·exact (emitPlain 2 r a x n fr ss sk starts.length sc caps.length kc 141 1 _ w rfl ent_add hok (fun W hb => iPAdd 2 r a x n fr ss starts.length sc W)).mono (up (fun e w' h => h))
  ·exact (emitPlain 3 r a x n fr ss sk starts.length sc caps.length kc 142 1 _ w rfl ent_sub hok (fun W hb => iPSub 3 r a x n fr ss starts.length sc W)).mono (up (fun e w' h => h))
  ·exact (emitPlain 4 r a x n fr ss sk starts.length sc caps.length kc 143 1 _ w rfl ent_less hok (fun W hb => iPLess 4 r a x n fr ss starts.length sc W)).mono (up (fun e w' h => h))
  ·by_cases hb : baseV caps n = -1
   ·refine (emitNone 5 r a x n fr ss sk starts.length sc caps.length kc lo hi caps 144 29 w rfl ent_send hok rfl hcp hhi hcl hb trivial).mono ?_
    rintro e w' ⟨rfl, h2⟩
    refine ⟨_, rfl, ?_, h2⟩
    have e2 : (if baseV caps n = -1 then [] else chanM 5 r a x (caps.getD n.toNat 0) (baseV caps n) fr) = [] := if_pos hb
    show OwnT5 w' _ _ (if baseV caps n = -1 then [] else chanM 5 r a x (caps.getD n.toNat 0) (baseV caps n) fr)
    rw [e2]
    exact World.ownsRow_nil _ _ _ _
   ·obtain ⟨u0, u1, u2, u3⟩ := baseV_up hb
    have e2 : (if baseV caps n = -1 then [] else chanM 5 r a x (caps.getD n.toNat 0) (baseV caps n) fr) = chanM 5 r a x (caps.getD n.toNat 0) (baseV caps n) fr := if_neg hb
    refine (emitChan 5 r a x n fr ss sk starts.length sc caps.length kc 29 lo hi caps (baseV caps n) (caps.getD n.toNat 0) 144 29 _ w rfl ent_send hok rfl hcp hhi hcl rfl u0 u1 u2 u3 rfl (fun W pb hb hc => iSend 5 r a x n fr ss starts.length sc pb (caps.getD n.toNat 0) (baseV caps n) W hc)).mono ?_
    rintro e w' ⟨g, c, h1, h2, h3⟩
    refine ⟨_, h1, ?_, h3⟩
    show OwnT5 w' _ _ (if baseV caps n = -1 then [] else chanM 5 r a x (caps.getD n.toNat 0) (baseV caps n) fr)
    rw [e2]
    exact h2
  ·by_cases hb : baseV caps n = -1
   ·refine (emitNone 6 r a x n fr ss sk starts.length sc caps.length kc lo hi caps 145 30 w rfl ent_take hok rfl hcp hhi hcl hb trivial).mono ?_
    rintro e w' ⟨rfl, h2⟩
    refine ⟨_, rfl, ?_, h2⟩
    have e2 : (if baseV caps n = -1 then [] else chanM 6 r a x (caps.getD n.toNat 0) (baseV caps n) fr) = [] := if_pos hb
    show OwnT5 w' _ _ (if baseV caps n = -1 then [] else chanM 6 r a x (caps.getD n.toNat 0) (baseV caps n) fr)
    rw [e2]
    exact World.ownsRow_nil _ _ _ _
   ·obtain ⟨u0, u1, u2, u3⟩ := baseV_up hb
    have e2 : (if baseV caps n = -1 then [] else chanM 6 r a x (caps.getD n.toNat 0) (baseV caps n) fr) = chanM 6 r a x (caps.getD n.toNat 0) (baseV caps n) fr := if_neg hb
    refine (emitChan 6 r a x n fr ss sk starts.length sc caps.length kc 30 lo hi caps (baseV caps n) (caps.getD n.toNat 0) 145 30 _ w rfl ent_take hok rfl hcp hhi hcl rfl u0 u1 u2 u3 rfl (fun W pb hb hc => iTake 6 r a x n fr ss starts.length sc pb (caps.getD n.toNat 0) (baseV caps n) W hc)).mono ?_
    rintro e w' ⟨g, c, h1, h2, h3⟩
    refine ⟨_, h1, ?_, h3⟩
    show OwnT5 w' _ _ (if baseV caps n = -1 then [] else chanM 6 r a x (caps.getD n.toNat 0) (baseV caps n) fr)
    rw [e2]
    exact h2
  ·by_cases hb : baseV caps n = -1
   ·refine (emitNone 7 r a x n fr ss sk starts.length sc caps.length kc lo hi caps 146 31 w rfl ent_trySend hok rfl hcp hhi hcl hb trivial).mono ?_
    rintro e w' ⟨rfl, h2⟩
    refine ⟨_, rfl, ?_, h2⟩
    have e2 : (if baseV caps n = -1 then [] else chanM 7 r a x (caps.getD n.toNat 0) (baseV caps n) fr) = [] := if_pos hb
    show OwnT5 w' _ _ (if baseV caps n = -1 then [] else chanM 7 r a x (caps.getD n.toNat 0) (baseV caps n) fr)
    rw [e2]
    exact World.ownsRow_nil _ _ _ _
   ·obtain ⟨u0, u1, u2, u3⟩ := baseV_up hb
    have e2 : (if baseV caps n = -1 then [] else chanM 7 r a x (caps.getD n.toNat 0) (baseV caps n) fr) = chanM 7 r a x (caps.getD n.toNat 0) (baseV caps n) fr := if_neg hb
    refine (emitChan 7 r a x n fr ss sk starts.length sc caps.length kc 31 lo hi caps (baseV caps n) (caps.getD n.toNat 0) 146 31 _ w rfl ent_trySend hok rfl hcp hhi hcl rfl u0 u1 u2 u3 rfl (fun W pb hb hc => iTrySend 7 r a x n fr ss starts.length sc pb (caps.getD n.toNat 0) (baseV caps n) W hc)).mono ?_
    rintro e w' ⟨g, c, h1, h2, h3⟩
    refine ⟨_, h1, ?_, h3⟩
    show OwnT5 w' _ _ (if baseV caps n = -1 then [] else chanM 7 r a x (caps.getD n.toNat 0) (baseV caps n) fr)
    rw [e2]
    exact h2
  ·by_cases hb : baseV caps n = -1
   ·refine (emitNone 8 r a x n fr ss sk starts.length sc caps.length kc lo hi caps 147 32 w rfl ent_tryTake hok rfl hcp hhi hcl hb trivial).mono ?_
    rintro e w' ⟨rfl, h2⟩
    refine ⟨_, rfl, ?_, h2⟩
    have e2 : (if baseV caps n = -1 then [] else chanM 8 r a x (caps.getD n.toNat 0) (baseV caps n) fr) = [] := if_pos hb
    show OwnT5 w' _ _ (if baseV caps n = -1 then [] else chanM 8 r a x (caps.getD n.toNat 0) (baseV caps n) fr)
    rw [e2]
    exact World.ownsRow_nil _ _ _ _
   ·obtain ⟨u0, u1, u2, u3⟩ := baseV_up hb
    have e2 : (if baseV caps n = -1 then [] else chanM 8 r a x (caps.getD n.toNat 0) (baseV caps n) fr) = chanM 8 r a x (caps.getD n.toNat 0) (baseV caps n) fr := if_neg hb
    refine (emitChan 8 r a x n fr ss sk starts.length sc caps.length kc 32 lo hi caps (baseV caps n) (caps.getD n.toNat 0) 147 32 _ w rfl ent_tryTake hok rfl hcp hhi hcl rfl u0 u1 u2 u3 rfl (fun W pb hb hc => iTryTake 8 r a x n fr ss starts.length sc pb (caps.getD n.toNat 0) (baseV caps n) W hc)).mono ?_
    rintro e w' ⟨g, c, h1, h2, h3⟩
    refine ⟨_, h1, ?_, h3⟩
    show OwnT5 w' _ _ (if baseV caps n = -1 then [] else chanM 8 r a x (caps.getD n.toNat 0) (baseV caps n) fr)
    rw [e2]
    exact h2
  ·by_cases hb : baseV caps n = -1
   ·refine (emitNone 9 r a x n fr ss sk starts.length sc caps.length kc lo hi caps 148 13 w rfl ent_shut hok rfl hcp hhi hcl hb trivial).mono ?_
    rintro e w' ⟨rfl, h2⟩
    refine ⟨_, rfl, ?_, h2⟩
    have e2 : (if baseV caps n = -1 then [] else chanM 9 r a x (caps.getD n.toNat 0) (baseV caps n) fr) = [] := if_pos hb
    show OwnT5 w' _ _ (if baseV caps n = -1 then [] else chanM 9 r a x (caps.getD n.toNat 0) (baseV caps n) fr)
    rw [e2]
    exact World.ownsRow_nil _ _ _ _
   ·obtain ⟨u0, u1, u2, u3⟩ := baseV_up hb
    have e2 : (if baseV caps n = -1 then [] else chanM 9 r a x (caps.getD n.toNat 0) (baseV caps n) fr) = chanM 9 r a x (caps.getD n.toNat 0) (baseV caps n) fr := if_neg hb
    refine (emitChan 9 r a x n fr ss sk starts.length sc caps.length kc 13 lo hi caps (baseV caps n) (caps.getD n.toNat 0) 148 13 _ w rfl ent_shut hok rfl hcp hhi hcl rfl u0 u1 u2 u3 rfl (fun W pb hb hc => iShut 9 r a x n fr ss starts.length sc pb (caps.getD n.toNat 0) (baseV caps n) W hc)).mono ?_
    rintro e w' ⟨g, c, h1, h2, h3⟩
    refine ⟨_, h1, ?_, h3⟩
    show OwnT5 w' _ _ (if baseV caps n = -1 then [] else chanM 9 r a x (caps.getD n.toNat 0) (baseV caps n) fr)
    rw [e2]
    exact h2
  ·exact (emitPlain 10 r a x n fr ss sk starts.length sc caps.length kc 149 1 _ w rfl ent_print hok (fun W hb => iPPrint 10 r a x n fr ss starts.length sc W)).mono (up (fun e w' h => h))
  ·obtain ⟨j0, j1⟩ := insB_jump hok (by omega)
   have hj := hjr (by omega)
   exact (emitPlain 11 r a x n fr ss sk starts.length sc caps.length kc 150 1 _ w rfl ent_jump hok (fun W hb => iPJump 11 r a x n fr ss starts.length sc (starts.getD n.toNat 0) W (keepr hb hj) j0 j1)).mono (up (fun e w' h => h))
  ·obtain ⟨j0, j1⟩ := insB_jump hok (by omega)
   have hj := hjr (by omega)
   exact (emitPlain 12 r a x n fr ss sk starts.length sc caps.length kc 151 1 _ w rfl ent_zero hok (fun W hb => iPZero 12 r a x n fr ss starts.length sc (starts.getD n.toNat 0) W (keepr hb hj) j0 j1)).mono (up (fun e w' h => h))
  ·exact (emitPlain 13 r a x n fr ss sk starts.length sc caps.length kc 152 1 _ w rfl ent_end hok (fun W hb => iPEnd 13 r a x n fr ss starts.length sc W)).mono (up (fun e w' h => h))
 ·have e : emitM caps starts o r a x n fr = [] := by unfold emitM; rw [if_neg hok]
  rw [e]
  refine (emitNo o r a x n fr ss sk starts.length sc caps.length kc w (by simpa using hok)).mono ?_
  rintro e w' ⟨rfl, h2⟩
  exact ⟨_, rfl, World.ownsRow_nil _ _ _ _, h2⟩
end
section
set_option linter.unusedSimpArgs false
set_option linter.unusedVariables false
set_option maxRecDepth 100000
open Go.RowKit
/- the places of a memory's integers, in the order in which they are written over -/
structure VS where
 s : Option Addr
 n : Nat
 c : Nat
def adr : Option Addr → Nat → Addr
 | some a, i => ⟨a.block, a.off + i, none⟩
 | none, _ => ⟨0, 0, none⟩
def vAs (x : VS) : List Addr := (List.range x.n).map (adr x.s)
theorem mem_vAs {x : VS} {a : Addr} : a ∈ vAs x ↔ ∃ i, i < x.n ∧ a = adr x.s i := by
 simp [vAs]
 constructor
 ·rintro ⟨i, h, rfl⟩; exact ⟨i, h, rfl⟩
 ·rintro ⟨i, h, rfl⟩; exact ⟨i, h, rfl⟩
theorem vAs_len (x : VS) : (vAs x).length = x.n := by simp [vAs]
theorem vAs_at {x : VS} {i : Nat} (h : i < x.n) : (vAs x)[i]? = some (adr x.s i) := by simp [vAs, h]
theorem Keep.frozen {lo hi : Nat} {w w' : World} (h : Keep lo hi w w') {p : Addr} (h1 : lo ≤ p.block) (h2 : p.block < hi) : w'.frozen? p = w.frozen? p := World.frozen?_of_block (w := w) (h p.block h1 h2)
theorem getElem?_push {α : Type} {l : List α} {y x : α} {i : Nat} (h : (l ++ [y])[i]? = some x) : l[i]? = some x ∨ (i = l.length ∧ x = y) := by
 by_cases hi : i < l.length
 ·rw [List.getElem?_append_left hi] at h; exact .inl h
 ·have := (List.getElem?_eq_some_iff.1 h).1
  simp at this
  have e : i = l.length := by omega
  subst e
  simp at h
  exact .inr ⟨rfl, h.symm⟩
structure Wrote (A : List Addr) (q : Int) (w w' : World) : Prop where
 os : w'.os = w.os
 tape : w'.tape = w.tape
 out : w'.output = w.output
 size : w'.heap.size = w.heap.size
 far : ∀ a, a ∉ A → w'.cell? a = w.cell? a
 fz : ∀ a, w'.frozen? a = w.frozen? a
 at' : ∀ (p : Nat) (a : Addr), A[p]? = some a → w'.cell? a = some (.int .i64 (q + p))
 blk : ∀ k, (∀ a ∈ A, a.block ≠ k) → w'.heap[k]? = w.heap[k]?
theorem Wrote.refl (q : Int) (w : World) : Wrote [] q w w := ⟨rfl, rfl, rfl, rfl, fun _ _ => rfl, fun _ => rfl, fun p a h => by simp at h, fun _ _ => rfl⟩
theorem Wrote.push {A : List Addr} {q z : Int} {w w1 : World} {a : Addr} (h : Wrote A q w w1) (ha : a ∉ A) (hc : (w1.cell? a).isSome = true) (hz : z = q + A.length) : Wrote (A ++ [a]) q w (w1.setCell a (.int .i64 z)) := by
 subst hz
 refine ⟨h.os, h.tape, h.out, by simpa using h.size, fun b hb => ?_, fun b => by rw [World.frozen?_setCell]; exact h.fz b, fun p b hb => ?_, fun k hk => ?_⟩
 ·simp at hb
  rw [World.cell?_setCell_other _ _ _ _ (fun e => hb.2 e.symm)]
  exact h.far b hb.1
 ·rcases getElem?_push hb with hb | ⟨rfl, rfl⟩
  ·rw [World.cell?_setCell_other _ _ _ _ (fun e => ha (by rw [e]; exact List.mem_of_getElem? hb))]
   exact h.at' p b hb
  ·exact World.cell?_setCell_same' _ _ _ hc
 ·rw [Below.heap_setCell _ _ _ k (fun e => hk a (by simp) e.symm)]
  exact h.blk k (fun b hb => hk b (by simp [hb]))
def IntC (w : World) (lo hi : Nat) (a : Addr) : Prop := (∃ z, w.cell? a = some (.int .i64 z)) ∧ w.frozen? a = false ∧ lo ≤ a.block ∧ a.block < hi
def Somewhere (s : Option Addr) : Prop := ∃ g o, s = some ⟨g, o, none⟩
/- a call that writes integers over integers leaves every shape -/
theorem Wrote.intc {A : List Addr} {q : Int} {w w' : World} (h : Wrote A q w w') {lo hi : Nat} {a : Addr} (ha : IntC w lo hi a) : IntC w' lo hi a := by
 obtain ⟨⟨z, h1⟩, h2, h3, h4⟩ := ha
 refine ⟨?_, (h.fz a).trans h2, h3, h4⟩
 by_cases hm : a ∈ A
 ·obtain ⟨p, hp, e⟩ := List.getElem_of_mem hm
  exact ⟨_, h.at' p a (by rw [List.getElem?_eq_getElem hp, e])⟩
 ·exact ⟨z, (h.far a hm).trans h1⟩
def MarkedA (w : World) (A : List Addr) (q : Int) : Prop := ∀ (p : Nat) (a : Addr), A[p]? = some a → w.cell? a = some (.int .i64 (q + p))
def VS.wide (x : VS) (e : Nat) : VS := ⟨x.s, x.n * e, x.c⟩
set_option maxHeartbeats 1000000 in
theorem markSt_any (x : VS) (lo hi : Nat) (q : Int) (w : World) (hok : x.n * 5 = 0 ∨ Somewhere x.s) (hint : ∀ a ∈ vAs (x.wide 5), IntC w lo hi a) (hn : x.n * 5 ≤ 10000000) (hq : 0 ≤ q) (hq' : q ≤ 1000000000000000) :
  Calls Tryz.prog 60 #[.slice x.s x.n x.c, .int .i64 q] w fun e w' => e = .returned (.int .i64 (q + (x.n * 5 : Nat))) ∧ Wrote (vAs (x.wide 5)) q w w' := by
 obtain ⟨s, n, c⟩ := x
 have HI : Hid (∀ a ∈ vAs ⟨s, n * 5, c⟩, IntC w lo hi a) := hint
 clear hint
 simp only at hok hn
 show Calls _ _ _ _ fun e w' => e = .returned (.int .i64 (q + (n * 5 : Nat))) ∧ Wrote (vAs ⟨s, n * 5, c⟩) q w w'
 go_enter Tryz.func60, Tryz.ntmps60
 go_wp2
 go_loopw [1, 5] (fun a i wr => ∃ (k : Nat) (z : Int), k ≤ n ∧ i = .int .i64 k ∧ a = .int .i64 z ∧ 0 ≤ z ∧ z ≤ 2000000000000000 ∧ Hid (z = q + (k * 5 : Nat)) ∧ Wrote (vAs ⟨s, k * 5, c⟩) q w wr) (fun _ i _ => n - (intOf i).toNat)
 case atStart => exact ⟨0, q, Nat.zero_le _, rfl, rfl, hq, by omega, show _ = _ by simp, by simpa [vAs] using Wrote.refl q w⟩
 case round =>
  obtain ⟨k, z, hk, rfl, rfl, hz0, hz1, HZ, hw⟩ := hrel
  have HW : Hid (Wrote (vAs ⟨s, k * 5, c⟩) q w wr) := hw
  clear hw
  by_cases hlt : k < n
  ·obtain ⟨g, o, rfl⟩ : Somewhere s := by rcases hok with h | h <;> first | omega | exact h
   have hm : ∀ j, j < 5 → ∃ z, wr.cell? ⟨g, o + k * 5 + j, none⟩ = some (.int .i64 z) ∧ wr.frozen? ⟨g, o + k * 5 + j, none⟩ = false := fun j hj => by
    obtain ⟨⟨z, hz⟩, hf, -, -⟩ := HW.out.intc (HI.out ⟨g, o + k * 5 + j, none⟩ (mem_vAs.2 ⟨k * 5 + j, by show _ < n * 5; omega, by simp [adr] <;> omega⟩))
    exact ⟨z, hz, hf⟩
   obtain ⟨y0, c0, f0⟩ := hm 0 (by omega)
   obtain ⟨y1, c1, f1⟩ := hm 1 (by omega)
   obtain ⟨y2, c2, f2⟩ := hm 2 (by omega)
   obtain ⟨y3, c3, f3⟩ := hm 3 (by omega)
   obtain ⟨y4, c4, f4⟩ := hm 4 (by omega)
   rw [Nat.add_zero] at c0 f0
   have b0 : (0 : Int) ≤ (k : Int) := by omega
   have b1 : (k : Int) < (n : Int) := by omega
   clear hm
   go_wp2
   go_roundw
   case rel =>
    refine ⟨k + 1, _, by omega, by go_num, rfl, by omega, by have := HZ.out; omega, by show _ = _; have := HZ.out; push_cast; omega, ?_⟩
    have e : vAs ⟨some ⟨g, o, none⟩, (k + 1) * 5, c⟩ = ((((vAs ⟨some ⟨g, o, none⟩, k * 5, c⟩ ++ [⟨g, o + k * 5, none⟩]) ++ [⟨g, o + k * 5 + 1, none⟩]) ++ [⟨g, o + k * 5 + 2, none⟩]) ++ [⟨g, o + k * 5 + 3, none⟩]) ++ [⟨g, o + k * 5 + 4, none⟩] := by
     have e1 : (k + 1) * 5 = k * 5 + 5 := by omega
     rw [e1]
     simp [vAs, List.range_add, List.range_succ, adr, Nat.add_assoc]
    rw [e]
    have nm : ∀ j, (⟨g, o + k * 5 + j, none⟩ : Addr) ∉ vAs ⟨some ⟨g, o, none⟩, k * 5, c⟩ := fun j hm => by
     obtain ⟨i, hi', ei⟩ := mem_vAs.1 hm
     simp [adr] at ei
     simp at hi'
     omega
    have hz := HZ.out
    have W0 := HW.out.push (a := ⟨g, o + k * 5, none⟩) (z := z) (fun hm => by
     have q := nm 0; first | exact q hm | (simp at hm; first | exact q hm | exact q (by simpa using hm) | omega)) (by rw [c0]; rfl) (by simp [vAs_len]; omega)
    have W1 := W0.push (a := ⟨g, o + k * 5 + 1, none⟩) (z := z + 1) (fun hm => by
     have q := nm 1; first | exact q hm | (simp at hm; first | exact q hm | exact q (by simpa using hm) | omega)) (by refine setC_some ?_; rw [c1]; rfl) (by simp [vAs_len]; omega)
    have W2 := W1.push (a := ⟨g, o + k * 5 + 2, none⟩) (z := z + 1 + 1) (fun hm => by
     have q := nm 2; first | exact q hm | (simp at hm; first | exact q hm | exact q (by simpa using hm) | omega)) (by refine setC_some ?_; refine setC_some ?_; rw [c2]; rfl) (by simp [vAs_len]; omega)
    have W3 := W2.push (a := ⟨g, o + k * 5 + 3, none⟩) (z := z + 1 + 1 + 1) (fun hm => by
     have q := nm 3; first | exact q hm | (simp at hm; first | exact q hm | exact q (by simpa using hm) | omega)) (by refine setC_some ?_; refine setC_some ?_; refine setC_some ?_; rw [c3]; rfl) (by simp [vAs_len]; omega)
    have W4 := W3.push (a := ⟨g, o + k * 5 + 4, none⟩) (z := z + 1 + 1 + 1 + 1) (fun hm => by
     have q := nm 4; first | exact q hm | (simp at hm; first | exact q hm | exact q (by simpa using hm) | omega)) (by refine setC_some ?_; refine setC_some ?_; refine setC_some ?_; refine setC_some ?_; rw [c4]; rfl) (by simp [vAs_len]; omega)
    exact W4
   case measure => simp [intOf]; omega
  ·go_wp2
   go_ret
   have e : k = n := by omega
   subst e
   exact ⟨by rw [HZ.out]; rfl, HW.out⟩
set_option maxHeartbeats 1000000 in
theorem heldSt_any (x : VS) (q : Int) (w : World) (hok : x.n * 5 = 0 ∨ Somewhere x.s) (hm : MarkedA w (vAs (x.wide 5)) q) (hn : x.n * 5 ≤ 10000000) (hq : 0 ≤ q) (hq' : q ≤ 1000000000000000) :
  Calls Tryz.prog 62 #[.slice x.s x.n x.c, .int .i64 q] w fun e w' => e = .returned (.int .i64 (q + (x.n * 5 : Nat))) ∧ w' = w := by
 obtain ⟨s, n, c⟩ := x
 have HI : Hid (MarkedA w (vAs ⟨s, n * 5, c⟩) q) := hm
 clear hm
 simp only at hok hn
 show Calls _ _ _ _ fun e w' => e = .returned (.int .i64 (q + (n * 5 : Nat))) ∧ w' = w
 go_enter Tryz.func62, Tryz.ntmps62
 go_wp2
 go_loop [1, 5] (fun a i => ∃ (k : Nat) (z : Int), k ≤ n ∧ i = .int .i64 k ∧ a = .int .i64 z ∧ 0 ≤ z ∧ z ≤ 2000000000000000 ∧ Hid (z = q + (k * 5 : Nat))) (fun _ i => n - (intOf i).toNat)
 case atStart => exact ⟨0, q, Nat.zero_le _, rfl, rfl, hq, by omega, show _ = _ by simp⟩
 case round =>
  obtain ⟨k, z, hk, rfl, rfl, hz0, hz1, HZ⟩ := hrel
  by_cases hlt : k < n
  ·obtain ⟨g, o, rfl⟩ : Somewhere s := by rcases hok with h | h <;> first | omega | exact h
   have hm : ∀ j, j < 5 → w.cell? ⟨g, o + k * 5 + j, none⟩ = some (.int .i64 (z + j)) := fun j hj => by
    have := HI.out (k * 5 + j) ⟨g, o + k * 5 + j, none⟩ (by rw [vAs_at (by show _ < n * 5; omega)]; simp [adr] <;> omega)
    rw [this, HZ.out]
    congr 2
    first | omega | (push_cast; omega)
   have c0 : w.cell? ⟨g, o + k * 5, none⟩ = some (.int .i64 z) := by have := hm 0 (by omega); simpa using this
   have c1 : w.cell? ⟨g, o + k * 5 + 1, none⟩ = some (.int .i64 (z + 1)) := by have := hm 1 (by omega); first | (rw [this]; done) | (rw [this]; congr 2 <;> omega)
   have c2 : w.cell? ⟨g, o + k * 5 + 2, none⟩ = some (.int .i64 (z + 1 + 1)) := by have := hm 2 (by omega); first | (rw [this]; done) | (rw [this]; congr 2 <;> omega)
   have c3 : w.cell? ⟨g, o + k * 5 + 3, none⟩ = some (.int .i64 (z + 1 + 1 + 1)) := by have := hm 3 (by omega); first | (rw [this]; done) | (rw [this]; congr 2 <;> omega)
   have c4 : w.cell? ⟨g, o + k * 5 + 4, none⟩ = some (.int .i64 (z + 1 + 1 + 1 + 1)) := by have := hm 4 (by omega); first | (rw [this]; done) | (rw [this]; congr 2 <;> omega)
   have n0 : ((z) != (z)) = false := by simp
   have n1 : ((z + 1) != (z + 1)) = false := by simp
   have n2 : ((z + 1 + 1) != (z + 1 + 1)) = false := by simp
   have n3 : ((z + 1 + 1 + 1) != (z + 1 + 1 + 1)) = false := by simp
   have n4 : ((z + 1 + 1 + 1 + 1) != (z + 1 + 1 + 1 + 1)) = false := by simp
   have b0 : (0 : Int) ≤ (k : Int) := by omega
   have b1 : (k : Int) < (n : Int) := by omega
   clear hm
   go_wp2
   go_round
   case rel => exact ⟨k + 1, _, by omega, by go_num, rfl, by omega, by have := HZ.out; omega, by show _ = _; have := HZ.out; push_cast; omega⟩
   case measure => simp [intOf]; omega
  ·go_wp2
   go_ret
   have e : k = n := by omega
   subst e
   exact ⟨by rw [HZ.out]; rfl, rfl⟩
/- a row of steps, its block between two -/
structure SB5 (w : World) (lo hi : Nat) (v : Value) (l : List I5) : Prop where
 o : OwnT5 w lo v l
 h : ∀ k, v.ownBlock = some k → k < hi
theorem SB5.of {w : World} {lo : Nat} {v : Value} {l : List I5} (h : OwnT5 w lo v l) : SB5 w lo w.heap.size v l := ⟨h, fun _ hk => (World.ownsRow.lt h _ hk).2⟩
theorem own5_sl {w : World} {lo : Nat} {v : Value} {l : List I5} (h : OwnT5 w lo v l) : ∃ s c, v = .slice s l.length c := by
 rcases h.2 with ⟨h1, h2⟩ | ⟨g, cap, cur, a, -⟩
 ·exact ⟨none, 0, by rw [h1, h2]⟩
 ·exact ⟨_, _, a⟩
theorem SB5.insB {w : World} {lo hi : Nat} {s : Option Addr} {c : Nat} {l : List I5} (h : SB5 w lo hi (.slice s l.length c) l) : InsB w w.heap.size s l := by
 rcases Nat.eq_zero_or_pos l.length with h0 | hp
 ·exact .inl (List.length_eq_zero_iff.1 h0)
 ·obtain ⟨g, cap, e, -, hlt⟩ := World.ownsRow.form h.o hp
  injection e with e1 e2 e3
  subst e1
  rcases h.o.insR with e | ⟨g', o', e, -, hl, hc⟩
  ·rw [e] at hp; simp at hp
  ·injection e with e
   injection e with e1 e2
   subst e1 e2
   exact .inr ⟨g, 0, rfl, hlt, hc⟩
structure Bo5 (G : Nat) (W : World) (a b c d e : Value) : Prop where
 c0 : W.cell? ⟨G, 0, none⟩ = some a
 c1 : W.cell? ⟨G, 1, none⟩ = some b
 c2 : W.cell? ⟨G, 2, none⟩ = some c
 c3 : W.cell? ⟨G, 3, none⟩ = some d
 c4 : W.cell? ⟨G, 4, none⟩ = some e
theorem Bo5.new (w : World) (a b c d e : Value) (T : TypeId) : ∃ W, w.alloc (.cells #[a, b, c, d, e] T) = W ∧ Bo5 w.heap.size W a b c d e ∧ Below w.heap.size w W ∧ W.heap.size = w.heap.size + 1 :=
 ⟨_, rfl, ⟨by simp [go_sem], by simp [go_sem], by simp [go_sem], by simp [go_sem], by simp [go_sem]⟩, (Below.refl _ _).alloc (Nat.le_refl _) _, by simp⟩
theorem Bo5.keep {G : Nat} {W W' : World} {a b c d e : Value} (h : Bo5 G W a b c d e) (hk : Keep G (G + 1) W W') : Bo5 G W' a b c d e :=
 ⟨(hk.cell (p := ⟨G, 0, none⟩) (Nat.le_refl _) (Nat.lt_succ_self _)).trans h.c0, (hk.cell (p := ⟨G, 1, none⟩) (Nat.le_refl _) (Nat.lt_succ_self _)).trans h.c1, (hk.cell (p := ⟨G, 2, none⟩) (Nat.le_refl _) (Nat.lt_succ_self _)).trans h.c2, (hk.cell (p := ⟨G, 3, none⟩) (Nat.le_refl _) (Nat.lt_succ_self _)).trans h.c3, (hk.cell (p := ⟨G, 4, none⟩) (Nat.le_refl _) (Nat.lt_succ_self _)).trans h.c4⟩
theorem chanM_len (o r a x rm b fr : Int) : (chanM o r a x rm b fr).length ≤ 40 := by
 unfold chanM
 repeat' split
 all_goals
  rw [togL_len]
  simp [lens, lockR, askR, faultR, openR, roundR, putR, letR, triedR, takenR, roundT, keepT, keepR, noneT, noneR, cameR]
theorem emitM_len (caps starts : List Int) (o r a x n fr : Int) : (emitM caps starts o r a x n fr).length ≤ 40 := by
 unfold emitM
 repeat' split
 all_goals first | (exact chanM_len _ _ _ _ _ _ _) | simp
end
end Go.Proofs.YtehjbpjjegajjaaGreat
