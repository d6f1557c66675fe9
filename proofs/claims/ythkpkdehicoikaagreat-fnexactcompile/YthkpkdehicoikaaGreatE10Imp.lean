/- Emit of the program at every argument. Conditions: rows of at most two million numbers. -/
import Derived.Test.YthkpkdehicoikaaGreatE10Emit
namespace Go.Proofs.YthkpkdehicoikaaGreat
set_option linter.unusedSimpArgs false
set_option linter.unusedVariables false
set_option maxRecDepth 100000
open Go.RowKit

def chanM (o r a x rm b fr : Int) : List I5 :=
  if o = 5 then togL fr [lockR b, askR b 3, faultR b, openR b rm, roundR, putR b a ++ (letR b ++ [⟨10, 0, 0, 0, -1⟩]), letR b ++ [⟨10, 0, 0, 0, 0⟩]] [lockR b, askR b 3, faultR b, openR b rm, roundR, putR b a ++ (letR b ++ [⟨10, 0, 0, 0, -1⟩]), letR b ++ [⟨10, 0, 0, 0, 0⟩]]
  else if o = 6 then togL fr [lockR b, takenR b r rm, roundT, keepT b x, noneT b r x 0, [⟨10, 0, 0, 0, 0⟩]] [lockR b, takenR b r rm, roundT, keepT b x, noneT b r x 0, [⟨10, 0, 0, 0, 0⟩]]
  else if o = 7 then togL fr [lockR b, askR b 3, faultR b, openR b rm, roundR, putR b a ++ (letR b ++ triedR r 1), letR b ++ triedR r 0] [lockR b, askR b 3, faultR b, openR b rm, roundR, putR b a ++ (letR b ++ triedR r 1), letR b ++ triedR r 0]
  else if o = 8 then togL fr [lockR b, takenR b r rm, roundT, keepT b x, noneT b r x 2, cameR r x 0 0] [lockR b, takenR b r rm, roundT, keepT b x, noneT b r x 2, cameR r x 0 0]
  else togL fr [lockR b, askR b 3, faultR b, [⟨1, 7, 0, 0, 1⟩, ⟨6, 0, -1, 7, b + 3⟩] ++ letR b] [lockR b, askR b 3, faultR b, [⟨1, 7, 0, 0, 1⟩, ⟨6, 0, -1, 7, b + 3⟩] ++ letR b]
def emitM (caps starts : List Int) (o r a x n fr : Int) : List I5 :=
  if Plain.insB o r a x n starts.length caps.length = true then
    if o = 1 then [⟨1, r, 0, 0, n⟩] else if o = 2 then [⟨2, r, a, x, 0⟩] else if o = 3 then [⟨3, r, a, x, 0⟩] else if o = 4 then [⟨4, r, a, x, 0⟩]
    else if o = 10 then [⟨9, 0, a, 0, 0⟩] else if o = 11 then [⟨10, 0, 0, 0, starts.getD n.toNat 0⟩] else if o = 12 then [⟨11, 0, a, 0, starts.getD n.toNat 0⟩] else if o = 13 then [⟨12, 0, 0, 0, 0⟩]
    else if baseV caps n = -1 then [] else chanM o r a x (caps.getD n.toNat 0) (baseV caps n) fr
  else []
theorem baseV_up {caps : List Int} {n : Int} (h : baseV caps n ≠ -1) : 0 ≤ baseV caps n ∧ baseV caps n ≤ 20 ∧ 0 ≤ n ∧ n < caps.length := by
  unfold baseV at h ⊢
  by_cases hc : capsR caps = true ∧ sumC caps ≤ 24 ∧ 0 ≤ n ∧ n < caps.length
  · rw [if_pos hc]
    obtain ⟨h1, h2, h3, h4⟩ := hc
    have q := sumC_next h1 (k := n.toNat) (by omega)
    have q2 := capsR_at h1 (k := n.toNat) (by omega)
    have q3 := sumC_len _ (capsR_take n.toNat h1)
    refine ⟨by omega, by omega, h3, h4⟩
  · rw [if_neg hc] at h
    exact absurd rfl h
set_option maxHeartbeats 8000000 in
theorem emitNone (o r a x n fr : Int) (ss sk : Option Addr) (sl sc kl kc : Nat) (lo hi : Nat) (caps : List Int) (k : Nat) (sz : Int) (w : World) (hE : emVal o = #[.int .i64 sz, .bool true, .func (.func k) #[] #[]]) (hF : ∀ (args : Array Value) (w : World), (callFunc k args).run Tryz.prog w = .ok (.enter k args) w) (hok : Plain.insB o r a x n sl kl = true) (hkl : caps.length = kl) (hcp : IntsR w lo hi sk caps) (hhi : hi ≤ w.heap.size) (hcl : caps.length ≤ 2000000) (hbs : baseV caps n = -1) (hC : True) :
    Calls Tryz.prog 53 #[.slice sk kl kc, .agg #[.int .i64 o, .int .i64 r, .int .i64 a, .int .i64 x, .int .i64 n], .int .i64 fr, .slice ss sl sc] w fun e w' => e = .returned (.slice none 0 0) ∧ Below w.heap.size w w' := by
  have HOK := hid_of hok
  have HEM := hid_of hE
  have HCC := hid_of hC
  clear hok hE hC
  have HCP := hid_of hcp
  clear hcp
  obtain ⟨W, hW, hx, hb, hz⟩ := XB.new w o r a x n 48
  have HX := hid_of hx
  have HW : Hid (Below w.heap.size w W) := hb
  have HK : Hid (Below W.heap.size W W) := Below.refl _ _
  clear hx hb
  obtain ⟨q0, q1, q2, q3, q4, tl⟩ := HX.out
  go_enter Tryz.func53, Tryz.ntmps53
  go_upto_region 3 with (go_at_call 70; refine (insOk_any _ _ _ _ _ _ _ _).mono ?_; rintro e w1 ⟨rfl, hb1⟩; rw [HOK.out]; have JK : Hid (Below W.heap.size W w1) := (by first | exact HK.out.trans (hb1.mono HK.out.size) | exact HK.out.drew.trans (hb1.mono HK.out.drew.size)); clear HK; have HK := JK; clear JK; obtain ⟨q0, q1, q2, q3, q4, tl⟩ := HX.out.keep HK.out; clear hb1)
  have n1 : ¬ w.heap.size = w1.heap.size := Nat.ne_of_lt tl
  have n1' : ¬ w1.heap.size = w.heap.size := Nat.ne_of_gt tl
  have n1b : ¬ w.heap.size = w1.heap.size + 1 := by omega
  have n1c : ¬ w1.heap.size + 1 = w.heap.size := by omega
  go_cut [9, 10] (fun s9 s10 wx => ∃ p q, s9 = .pointer (some ⟨p, 0, none⟩) ∧ s10 = .pointer (some ⟨q, 0, none⟩) ∧ CutE w1 (.int .i64 o) (.int .i64 r) (.int .i64 a) (.int .i64 x) (.int .i64 n) (.int .i64 fr) (.slice ss sl sc) sz true (.func (.func k) #[] #[]) p q wx)
  case first =>
    go_region_held3 (fun w' => w'.cell? ⟨w.heap.size, 0, none⟩ = some (.int .i64 o) ∧ w'.cell? ⟨w.heap.size, 1, none⟩ = some (.int .i64 r) ∧ w'.cell? ⟨w.heap.size, 2, none⟩ = some (.int .i64 a) ∧ w'.cell? ⟨w.heap.size, 3, none⟩ = some (.int .i64 x) ∧ w'.cell? ⟨w.heap.size, 4, none⟩ = some (.int .i64 n)) (go_keep) (first | (go_at_call 75; refine (emitterOf_any _ _).mono ?_; rintro e w2 ⟨rfl, hb2⟩; rw [HEM.out]; have JK := hid_of (Below.via (B := W.heap.size) (w := W) hb2 (Nat.le_refl _) (by repeat (first | with_reducible exact HK.out | with_reducible refine Below.drew ?_ | with_reducible refine Below.alloc ?_ (by have := HK.out.size; first | omega | (simp; omega)) _))); have KB := hid_of (Below.via (B := w1.heap.size) (w := w1) hb2 (Nat.le_refl _) (by repeat (first | with_reducible exact Below.refl _ _ | with_reducible refine Below.drew ?_ | with_reducible refine Below.alloc ?_ (by first | omega | (simp; omega) | simp) _))); obtain ⟨q0, q1, q2, q3, q4, tl⟩ := HX.out.keep JK.out; (first | (obtain ⟨bc1, bc2⟩ := bcell (Below.undrew hb2)) | (obtain ⟨bc1, bc2⟩ := bcell hb2)); obtain ⟨ap1, ap2, ap3⟩ := apart (Below.undrew hb2); have n2 : ¬ w.heap.size = w2.heap.size := Nat.ne_of_lt tl; have n2' : ¬ w2.heap.size = w.heap.size := Nat.ne_of_gt tl; try simp only [World.size_alloc] at bc1 bc2 ap1 ap2 ap3; clear hb2))
    all_goals
      go_wp2_with fail
      go_meet
      have zk := KB.out.size
      refine ⟨_, _, rfl, rfl, ⟨⟨?_, ?_, ?_, ?_, ?_, ?_, ?_, ?_, ?_, ?_⟩, fun j => ?_, ⟨?_, ?_, ?_⟩, ?_, ?_, ?_, ?_, ?_⟩⟩
      all_goals first | (simp [go_sem, bc1, bc2, ap1, ap2, ap3]; done) | (simp (config := { maxDischargeDepth := 6 }) [go_sem, bc1, bc2, ap1, ap2, ap3, setC_at]; done) | omega | (simp; omega) | (have := ap1 w1.heap.size (by omega); simp; omega) | (have := ap1 (w1.heap.size + 1) (by omega); simp; omega) | (repeat (first | with_reducible exact KB.out | with_reducible refine Below.alloc ?_ (by first | omega | (simp; omega)) _ | with_reducible refine Below.setCell ?_ (by first | omega | exact Nat.le_refl _ | exact Nat.le_succ _ | (simp; done)) _))
  case rest =>
    obtain ⟨p, q, rfl, rfl, hx, hf, hk, hne, hp, hq, hql, hbx⟩ := hcut
    have z1 := HK.out.size
    have HBw : Hid (Below W.heap.size W wc) := HK.out.trans (hbx.mono z1)
    have HB9 : Hid (Below w.heap.size w wc) := HW.out.trans (HBw.out.mono (by omega))
    have z9 := HB9.out.size
    clear hf hbx
    clear q0 q1 q2 q3 q4 tl
    obtain ⟨q0, q1, q2, q3, q4, tl⟩ := HX.out.keep HBw.out
    have k1 := hk.c1
    clear hx hk
    have BC := implBase_any sk kc lo hi caps n wc (HCP.out.keep (Keep.of_below HB9.out hhi)) (by omega) hcl
    rw [hbs, hkl] at BC
    go_wp2_with (go_at_call 51; refine BC.mono ?_; rintro e wd ⟨rfl, hbd⟩; have HBD := hid_of hbd; clear hbd)
    go_ret
    exact ⟨rfl, HB9.out.trans (HBD.out.mono z9)⟩
theorem ent_set (args : Array Value) (w : World) : (callFunc 106 args).run Tryz.prog w = .ok (.enter 106 args) w := by kernel_rfl
theorem ent_add (args : Array Value) (w : World) : (callFunc 107 args).run Tryz.prog w = .ok (.enter 107 args) w := by kernel_rfl
theorem ent_sub (args : Array Value) (w : World) : (callFunc 108 args).run Tryz.prog w = .ok (.enter 108 args) w := by kernel_rfl
theorem ent_less (args : Array Value) (w : World) : (callFunc 109 args).run Tryz.prog w = .ok (.enter 109 args) w := by kernel_rfl
theorem ent_print (args : Array Value) (w : World) : (callFunc 115 args).run Tryz.prog w = .ok (.enter 115 args) w := by kernel_rfl
theorem ent_end (args : Array Value) (w : World) : (callFunc 118 args).run Tryz.prog w = .ok (.enter 118 args) w := by kernel_rfl
theorem ent_jump (args : Array Value) (w : World) : (callFunc 116 args).run Tryz.prog w = .ok (.enter 116 args) w := by kernel_rfl
theorem ent_zero (args : Array Value) (w : World) : (callFunc 117 args).run Tryz.prog w = .ok (.enter 117 args) w := by kernel_rfl
theorem ent_send (args : Array Value) (w : World) : (callFunc 110 args).run Tryz.prog w = .ok (.enter 110 args) w := by kernel_rfl
theorem ent_take (args : Array Value) (w : World) : (callFunc 111 args).run Tryz.prog w = .ok (.enter 111 args) w := by kernel_rfl
theorem ent_trySend (args : Array Value) (w : World) : (callFunc 112 args).run Tryz.prog w = .ok (.enter 112 args) w := by kernel_rfl
theorem ent_tryTake (args : Array Value) (w : World) : (callFunc 113 args).run Tryz.prog w = .ok (.enter 113 args) w := by kernel_rfl
theorem ent_shut (args : Array Value) (w : World) : (callFunc 114 args).run Tryz.prog w = .ok (.enter 114 args) w := by kernel_rfl
theorem insB_ops {o r a x n pl ch : Int} (h : Plain.insB o r a x n pl ch = true) : o = 1 ∨ o = 2 ∨ o = 3 ∨ o = 4 ∨ o = 5 ∨ o = 6 ∨ o = 7 ∨ o = 8 ∨ o = 9 ∨ o = 10 ∨ o = 11 ∨ o = 12 ∨ o = 13 := by
  unfold Plain.insB at h
  have := of_decide_eq_true h
  omega
theorem insB_jump {o r a x n pl ch : Int} (h : Plain.insB o r a x n pl ch = true) (ho : o = 11 ∨ o = 12) : 0 ≤ n ∧ n < pl := by
  unfold Plain.insB at h
  have := of_decide_eq_true h
  omega
set_option maxHeartbeats 1000000 in
theorem emitNo (o r a x n fr : Int) (ss sk : Option Addr) (sl sc kl kc : Nat) (w : World) (hok : Plain.insB o r a x n sl kl = false) : Calls Tryz.prog 53 #[.slice sk kl kc, .agg #[.int .i64 o, .int .i64 r, .int .i64 a, .int .i64 x, .int .i64 n], .int .i64 fr, .slice ss sl sc] w fun e w' => e = .returned (.slice none 0 0) ∧ Below w.heap.size w w' := by
  have HOK := hid_of hok
  clear hok
  obtain ⟨W, hW, hx, hb, hz⟩ := XB.new w o r a x n 48
  have HX := hid_of hx
  have HW : Hid (Below w.heap.size w W) := hb
  have HK : Hid (Below W.heap.size W W) := Below.refl _ _
  clear hx hb
  obtain ⟨q0, q1, q2, q3, q4, tl⟩ := HX.out
  go_enter Tryz.func53, Tryz.ntmps53
  go_wp2_with (go_at_call 70; refine (insOk_any _ _ _ _ _ _ _ _).mono ?_; rintro e w1 ⟨rfl, hb1⟩; rw [HOK.out]; have JK : Hid (Below W.heap.size W w1) := (by first | exact HK.out.trans (hb1.mono HK.out.size) | exact HK.out.drew.trans (hb1.mono HK.out.drew.size)); clear HK; have HK := JK; clear JK; obtain ⟨q0, q1, q2, q3, q4, tl⟩ := HX.out.keep HK.out; clear hb1)
  go_ret
  exact ⟨rfl, HW.out.trans (HK.out.mono HW.out.size)⟩
theorem implEmit_any (o r a x n fr : Int) (ss sk : Option Addr) (sc kc lo hi lo' hi' : Nat) (caps starts : List Int) (w : World) (hcp : IntsR w lo hi sk caps) (hhi : hi ≤ w.heap.size) (hcl : caps.length ≤ 2000000) (hst : IntsR w lo' hi' ss starts) (hhi' : hi' ≤ w.heap.size) :
    Calls Tryz.prog 53 #[.slice sk caps.length kc, .agg #[.int .i64 o, .int .i64 r, .int .i64 a, .int .i64 x, .int .i64 n], .int .i64 fr, .slice ss starts.length sc] w fun e w' => ∃ v, e = .returned v ∧ OwnT5 w' w.heap.size v (emitM caps starts o r a x n fr) ∧ Below w.heap.size w w' := by
  have up : ∀ {n : Nat} {L : List I5} {C : Ending → World → Prop}, (∀ e w', C e w' → ∃ g c, e = .returned (.slice (some ⟨g, 0, none⟩) n c) ∧ OwnT5 w' w.heap.size (.slice (some ⟨g, 0, none⟩) n c) L ∧ Below w.heap.size w w') → ∀ e w', C e w' → ∃ v, e = .returned v ∧ OwnT5 w' w.heap.size v L ∧ Below w.heap.size w w' := fun h e w' hc => by
    obtain ⟨g, c, h1, h2, h3⟩ := h e w' hc
    exact ⟨_, h1, h2, h3⟩
  by_cases hok : Plain.insB o r a x n starts.length caps.length = true
  · unfold emitM
    rw [if_pos hok]
    have hjr : (o = 11 ∨ o = 12) → ∃ gi oi, ss = some ⟨gi, oi, none⟩ ∧ gi < w.heap.size ∧ w.cell? ⟨gi, oi + n.toNat, none⟩ = some (.int .i64 (starts.getD n.toNat 0)) := fun ho => by
      obtain ⟨h0, h1⟩ := insB_jump hok ho
      obtain ⟨gi, oi, e, q1, q2, q3⟩ := hst.pos (by omega)
      exact ⟨gi, oi, e, by omega, q3 n.toNat (by omega)⟩
    have keepr : ∀ {W : World} {y : Int}, Below w.heap.size w W → (∃ gi oi, ss = some ⟨gi, oi, none⟩ ∧ gi < w.heap.size ∧ w.cell? ⟨gi, oi + n.toNat, none⟩ = some (.int .i64 y)) → ∃ gi oi, ss = some ⟨gi, oi, none⟩ ∧ gi < W.heap.size ∧ W.cell? ⟨gi, oi + n.toNat, none⟩ = some (.int .i64 y) := fun hb ⟨gi, oi, e, h1, h2⟩ => ⟨gi, oi, e, by have := hb.size; omega, (hb.cell (p := ⟨gi, oi + n.toNat, none⟩) h1).trans h2⟩
    rcases insB_ops hok with rfl | rfl | rfl | rfl | rfl | rfl | rfl | rfl | rfl | rfl | rfl | rfl | rfl
    · exact (emitPlain 1 r a x n fr ss sk starts.length sc caps.length kc 106 1 _ w rfl ent_set hok (fun W hb => iPSet 1 r a x n fr ss starts.length sc W)).mono (up (fun e w' h => h))
    · exact (emitPlain 2 r a x n fr ss sk starts.length sc caps.length kc 107 1 _ w rfl ent_add hok (fun W hb => iPAdd 2 r a x n fr ss starts.length sc W)).mono (up (fun e w' h => h))
    · exact (emitPlain 3 r a x n fr ss sk starts.length sc caps.length kc 108 1 _ w rfl ent_sub hok (fun W hb => iPSub 3 r a x n fr ss starts.length sc W)).mono (up (fun e w' h => h))
    · exact (emitPlain 4 r a x n fr ss sk starts.length sc caps.length kc 109 1 _ w rfl ent_less hok (fun W hb => iPLess 4 r a x n fr ss starts.length sc W)).mono (up (fun e w' h => h))
    · by_cases hb : baseV caps n = -1
      · refine (emitNone 5 r a x n fr ss sk starts.length sc caps.length kc lo hi caps 110 29 w rfl ent_send hok rfl hcp hhi hcl hb trivial).mono ?_
        rintro e w' ⟨rfl, h2⟩
        refine ⟨_, rfl, ?_, h2⟩
        have e2 : (if baseV caps n = -1 then [] else chanM 5 r a x (caps.getD n.toNat 0) (baseV caps n) fr) = [] := if_pos hb
        show OwnT5 w' _ _ (if baseV caps n = -1 then [] else chanM 5 r a x (caps.getD n.toNat 0) (baseV caps n) fr)
        rw [e2]
        exact World.ownsRow_nil _ _ _ _
      · obtain ⟨u0, u1, u2, u3⟩ := baseV_up hb
        have e2 : (if baseV caps n = -1 then [] else chanM 5 r a x (caps.getD n.toNat 0) (baseV caps n) fr) = chanM 5 r a x (caps.getD n.toNat 0) (baseV caps n) fr := if_neg hb
        refine (emitChan 5 r a x n fr ss sk starts.length sc caps.length kc 29 lo hi caps (baseV caps n) (caps.getD n.toNat 0) 110 29 _ w rfl ent_send hok rfl hcp hhi hcl rfl u0 u1 u2 u3 rfl (fun W pb hb hc => iSend 5 r a x n fr ss starts.length sc pb (caps.getD n.toNat 0) (baseV caps n) W hc)).mono ?_
        rintro e w' ⟨g, c, h1, h2, h3⟩
        refine ⟨_, h1, ?_, h3⟩
        show OwnT5 w' _ _ (if baseV caps n = -1 then [] else chanM 5 r a x (caps.getD n.toNat 0) (baseV caps n) fr)
        rw [e2]
        exact h2
    · by_cases hb : baseV caps n = -1
      · refine (emitNone 6 r a x n fr ss sk starts.length sc caps.length kc lo hi caps 111 30 w rfl ent_take hok rfl hcp hhi hcl hb trivial).mono ?_
        rintro e w' ⟨rfl, h2⟩
        refine ⟨_, rfl, ?_, h2⟩
        have e2 : (if baseV caps n = -1 then [] else chanM 6 r a x (caps.getD n.toNat 0) (baseV caps n) fr) = [] := if_pos hb
        show OwnT5 w' _ _ (if baseV caps n = -1 then [] else chanM 6 r a x (caps.getD n.toNat 0) (baseV caps n) fr)
        rw [e2]
        exact World.ownsRow_nil _ _ _ _
      · obtain ⟨u0, u1, u2, u3⟩ := baseV_up hb
        have e2 : (if baseV caps n = -1 then [] else chanM 6 r a x (caps.getD n.toNat 0) (baseV caps n) fr) = chanM 6 r a x (caps.getD n.toNat 0) (baseV caps n) fr := if_neg hb
        refine (emitChan 6 r a x n fr ss sk starts.length sc caps.length kc 30 lo hi caps (baseV caps n) (caps.getD n.toNat 0) 111 30 _ w rfl ent_take hok rfl hcp hhi hcl rfl u0 u1 u2 u3 rfl (fun W pb hb hc => iTake 6 r a x n fr ss starts.length sc pb (caps.getD n.toNat 0) (baseV caps n) W hc)).mono ?_
        rintro e w' ⟨g, c, h1, h2, h3⟩
        refine ⟨_, h1, ?_, h3⟩
        show OwnT5 w' _ _ (if baseV caps n = -1 then [] else chanM 6 r a x (caps.getD n.toNat 0) (baseV caps n) fr)
        rw [e2]
        exact h2
    · by_cases hb : baseV caps n = -1
      · refine (emitNone 7 r a x n fr ss sk starts.length sc caps.length kc lo hi caps 112 31 w rfl ent_trySend hok rfl hcp hhi hcl hb trivial).mono ?_
        rintro e w' ⟨rfl, h2⟩
        refine ⟨_, rfl, ?_, h2⟩
        have e2 : (if baseV caps n = -1 then [] else chanM 7 r a x (caps.getD n.toNat 0) (baseV caps n) fr) = [] := if_pos hb
        show OwnT5 w' _ _ (if baseV caps n = -1 then [] else chanM 7 r a x (caps.getD n.toNat 0) (baseV caps n) fr)
        rw [e2]
        exact World.ownsRow_nil _ _ _ _
      · obtain ⟨u0, u1, u2, u3⟩ := baseV_up hb
        have e2 : (if baseV caps n = -1 then [] else chanM 7 r a x (caps.getD n.toNat 0) (baseV caps n) fr) = chanM 7 r a x (caps.getD n.toNat 0) (baseV caps n) fr := if_neg hb
        refine (emitChan 7 r a x n fr ss sk starts.length sc caps.length kc 31 lo hi caps (baseV caps n) (caps.getD n.toNat 0) 112 31 _ w rfl ent_trySend hok rfl hcp hhi hcl rfl u0 u1 u2 u3 rfl (fun W pb hb hc => iTrySend 7 r a x n fr ss starts.length sc pb (caps.getD n.toNat 0) (baseV caps n) W hc)).mono ?_
        rintro e w' ⟨g, c, h1, h2, h3⟩
        refine ⟨_, h1, ?_, h3⟩
        show OwnT5 w' _ _ (if baseV caps n = -1 then [] else chanM 7 r a x (caps.getD n.toNat 0) (baseV caps n) fr)
        rw [e2]
        exact h2
    · by_cases hb : baseV caps n = -1
      · refine (emitNone 8 r a x n fr ss sk starts.length sc caps.length kc lo hi caps 113 32 w rfl ent_tryTake hok rfl hcp hhi hcl hb trivial).mono ?_
        rintro e w' ⟨rfl, h2⟩
        refine ⟨_, rfl, ?_, h2⟩
        have e2 : (if baseV caps n = -1 then [] else chanM 8 r a x (caps.getD n.toNat 0) (baseV caps n) fr) = [] := if_pos hb
        show OwnT5 w' _ _ (if baseV caps n = -1 then [] else chanM 8 r a x (caps.getD n.toNat 0) (baseV caps n) fr)
        rw [e2]
        exact World.ownsRow_nil _ _ _ _
      · obtain ⟨u0, u1, u2, u3⟩ := baseV_up hb
        have e2 : (if baseV caps n = -1 then [] else chanM 8 r a x (caps.getD n.toNat 0) (baseV caps n) fr) = chanM 8 r a x (caps.getD n.toNat 0) (baseV caps n) fr := if_neg hb
        refine (emitChan 8 r a x n fr ss sk starts.length sc caps.length kc 32 lo hi caps (baseV caps n) (caps.getD n.toNat 0) 113 32 _ w rfl ent_tryTake hok rfl hcp hhi hcl rfl u0 u1 u2 u3 rfl (fun W pb hb hc => iTryTake 8 r a x n fr ss starts.length sc pb (caps.getD n.toNat 0) (baseV caps n) W hc)).mono ?_
        rintro e w' ⟨g, c, h1, h2, h3⟩
        refine ⟨_, h1, ?_, h3⟩
        show OwnT5 w' _ _ (if baseV caps n = -1 then [] else chanM 8 r a x (caps.getD n.toNat 0) (baseV caps n) fr)
        rw [e2]
        exact h2
    · by_cases hb : baseV caps n = -1
      · refine (emitNone 9 r a x n fr ss sk starts.length sc caps.length kc lo hi caps 114 13 w rfl ent_shut hok rfl hcp hhi hcl hb trivial).mono ?_
        rintro e w' ⟨rfl, h2⟩
        refine ⟨_, rfl, ?_, h2⟩
        have e2 : (if baseV caps n = -1 then [] else chanM 9 r a x (caps.getD n.toNat 0) (baseV caps n) fr) = [] := if_pos hb
        show OwnT5 w' _ _ (if baseV caps n = -1 then [] else chanM 9 r a x (caps.getD n.toNat 0) (baseV caps n) fr)
        rw [e2]
        exact World.ownsRow_nil _ _ _ _
      · obtain ⟨u0, u1, u2, u3⟩ := baseV_up hb
        have e2 : (if baseV caps n = -1 then [] else chanM 9 r a x (caps.getD n.toNat 0) (baseV caps n) fr) = chanM 9 r a x (caps.getD n.toNat 0) (baseV caps n) fr := if_neg hb
        refine (emitChan 9 r a x n fr ss sk starts.length sc caps.length kc 13 lo hi caps (baseV caps n) (caps.getD n.toNat 0) 114 13 _ w rfl ent_shut hok rfl hcp hhi hcl rfl u0 u1 u2 u3 rfl (fun W pb hb hc => iShut 9 r a x n fr ss starts.length sc pb (caps.getD n.toNat 0) (baseV caps n) W hc)).mono ?_
        rintro e w' ⟨g, c, h1, h2, h3⟩
        refine ⟨_, h1, ?_, h3⟩
        show OwnT5 w' _ _ (if baseV caps n = -1 then [] else chanM 9 r a x (caps.getD n.toNat 0) (baseV caps n) fr)
        rw [e2]
        exact h2
    · exact (emitPlain 10 r a x n fr ss sk starts.length sc caps.length kc 115 1 _ w rfl ent_print hok (fun W hb => iPPrint 10 r a x n fr ss starts.length sc W)).mono (up (fun e w' h => h))
    · obtain ⟨j0, j1⟩ := insB_jump hok (by omega)
      have hj := hjr (by omega)
      exact (emitPlain 11 r a x n fr ss sk starts.length sc caps.length kc 116 1 _ w rfl ent_jump hok (fun W hb => iPJump 11 r a x n fr ss starts.length sc (starts.getD n.toNat 0) W (keepr hb hj) j0 j1)).mono (up (fun e w' h => h))
    · obtain ⟨j0, j1⟩ := insB_jump hok (by omega)
      have hj := hjr (by omega)
      exact (emitPlain 12 r a x n fr ss sk starts.length sc caps.length kc 117 1 _ w rfl ent_zero hok (fun W hb => iPZero 12 r a x n fr ss starts.length sc (starts.getD n.toNat 0) W (keepr hb hj) j0 j1)).mono (up (fun e w' h => h))
    · exact (emitPlain 13 r a x n fr ss sk starts.length sc caps.length kc 118 1 _ w rfl ent_end hok (fun W hb => iPEnd 13 r a x n fr ss starts.length sc W)).mono (up (fun e w' h => h))
  · have e : emitM caps starts o r a x n fr = [] := by unfold emitM; rw [if_neg hok]
    rw [e]
    refine (emitNo o r a x n fr ss sk starts.length sc caps.length kc w (by simpa using hok)).mono ?_
    rintro e w' ⟨rfl, h2⟩
    exact ⟨_, rfl, World.ownsRow_nil _ _ _ _, h2⟩

end Go.Proofs.YthkpkdehicoikaaGreat
