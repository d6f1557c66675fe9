/- Emit of the program. Conditions: lists of at most 2^20 + 100. -/
import Derived.Test.YtehjbpjjegajjaaGreatJG00
import Derived.Test.YtehjbpjjegajjaaGreatJG01
import Derived.Test.YtehjbpjjegajjaaGreatJE10Site
import Derived.Test.YtehjbpjjegajjaaGreatJG07
import Derived.Test.YtehjbpjjegajjaaGreatJG11
import Derived.Test.YtehjbpjjegajjaaGreatJE10Ops
import Derived.Test.YtehjbpjjegajjaaGreatJE10Pl
import Derived.Test.YtehjbpjjegajjaaGreatJE10Of
import Derived.Test.YtehjbpjjegajjaaGreatJG04
import Derived.Deep.DeepCutAuto
namespace Go.Proofs.YtehjbpjjegajjaaGreat
set_option linter.unusedSimpArgs false
set_option linter.unusedVariables false
set_option maxRecDepth 100000
open Go.RowKit
/- a place in a box -/
structure XB (w : World) (G : Nat) (o r a x n : Int) : Prop where
 c0 : w.cell? ⟨G, 0, none⟩ = some (.int .i64 o)
 c1 : w.cell? ⟨G, 1, none⟩ = some (.int .i64 r)
 c2 : w.cell? ⟨G, 2, none⟩ = some (.int .i64 a)
 c3 : w.cell? ⟨G, 3, none⟩ = some (.int .i64 x)
 c4 : w.cell? ⟨G, 4, none⟩ = some (.int .i64 n)
 lt : G < w.heap.size
theorem XB.keep {w w' : World} {G : Nat} {o r a x n : Int} (h : XB w G o r a x n) (hb : Below w.heap.size w w') : XB w' G o r a x n :=
 ⟨(hb.cell (p := ⟨G, 0, none⟩) h.lt).trans h.c0, (hb.cell (p := ⟨G, 1, none⟩) h.lt).trans h.c1, (hb.cell (p := ⟨G, 2, none⟩) h.lt).trans h.c2, (hb.cell (p := ⟨G, 3, none⟩) h.lt).trans h.c3, (hb.cell (p := ⟨G, 4, none⟩) h.lt).trans h.c4, by have := hb.size; have := h.lt; omega⟩
theorem XB.new (w : World) (o r a x n : Int) (T : TypeId) : ∃ W, w.alloc (.cells #[.int .i64 o, .int .i64 r, .int .i64 a, .int .i64 x, .int .i64 n] T) = W ∧ XB W w.heap.size o r a x n ∧ Below w.heap.size w W ∧ w.heap.size < W.heap.size :=
 ⟨_, rfl, ⟨by simp [go_sem], by simp [go_sem], by simp [go_sem], by simp [go_sem], by simp [go_sem], by simp⟩, (Below.refl _ _).alloc (Nat.le_refl _) _, by simp⟩
theorem Below.via {B : Nat} {w cur w2 : World} (h2 : Below cur.heap.size cur w2) (hB : B ≤ w.heap.size) (h1 : Below B w cur) : Below B w w2 := h1.trans (h2.mono (Nat.le_trans hB h1.size))
theorem apart {W w1 : World} (hb : Below W.heap.size W w1) : (∀ b, b < W.heap.size → b < w1.heap.size) ∧ (∀ b, b < W.heap.size → ¬ b = w1.heap.size) ∧ (∀ b, b < W.heap.size → ¬ w1.heap.size = b) :=
 ⟨fun b h => by have := hb.size; omega, fun b h => by have := hb.size; omega, fun b h => by have := hb.size; omega⟩
theorem Below.undrew {X w2 : World} (h : Below X.drew.heap.size X.drew w2) : Below X.heap.size X w2 := ⟨h.os, h.tape, h.output, h.size, h.block⟩
structure K3 (w : World) (q : Nat) (sz : Int) (ch : Bool) (f : Value) : Prop where
 c0 : w.cell? ⟨q, 0, none⟩ = some (.int .i64 sz)
 c1 : w.cell? ⟨q, 1, none⟩ = some (.bool ch)
 c2 : w.cell? ⟨q, 2, none⟩ = some f
structure CutE (W1 : World) (v0 v1 v2 v3 v4 v5 v6 : Value) (sz : Int) (ch : Bool) (f : Value) (p q : Nat) (wx : World) : Prop where
 x : SX wx p v0 v1 v2 v3 v4 v5 v6 .nilFunc (.int .i64 0)
 fz : ∀ j, wx.frozen? ⟨p, j, none⟩ = false
 k : K3 wx q sz ch f
 ne : p ≠ q
 hp : W1.heap.size ≤ p
 hq : W1.heap.size ≤ q
 ql : q < wx.heap.size
 b : Below W1.heap.size W1 wx
theorem chanWorld {wd : World} {p q : Nat} {v0 v1 v2 v3 v4 v5 v6 : Value} {sz : Int} {ch : Bool} {f : Value} (hx : SX wd p v0 v1 v2 v3 v4 v5 v6 .nilFunc (.int .i64 0)) (hk : K3 wd q sz ch f) (hne : p ≠ q) (hq : q < wd.heap.size) (F R : Value) (bb : Int) (T : TypeId) :
  SX (((wd.setCell ⟨p, 7, none⟩ F).setCell ⟨p, 8, none⟩ R).alloc (.cells #[.int .i64 bb] T)).drew p v0 v1 v2 v3 v4 v5 v6 F R ∧ K3 (((wd.setCell ⟨p, 7, none⟩ F).setCell ⟨p, 8, none⟩ R).alloc (.cells #[.int .i64 bb] T)).drew q sz ch f ∧ (((wd.setCell ⟨p, 7, none⟩ F).setCell ⟨p, 8, none⟩ R).alloc (.cells #[.int .i64 bb] T)).drew.cell? ⟨wd.heap.size, 0, none⟩ = some (.int .i64 bb) ∧ wd.heap.size < (((wd.setCell ⟨p, 7, none⟩ F).setCell ⟨p, 8, none⟩ R).alloc (.cells #[.int .i64 bb] T)).drew.heap.size := by
 have A : ∀ b j, b < wd.heap.size → (((wd.setCell ⟨p, 7, none⟩ F).setCell ⟨p, 8, none⟩ R).alloc (.cells #[.int .i64 bb] T)).drew.cell? ⟨b, j, none⟩ = ((wd.setCell ⟨p, 7, none⟩ F).setCell ⟨p, 8, none⟩ R).cell? ⟨b, j, none⟩ := fun b j h => ((Below.refl _ _).alloc (Nat.le_refl _) _).cell (p := ⟨b, j, none⟩) (by simpa using h)
 have C : ∀ j, j ≠ 7 → j ≠ 8 → (((wd.setCell ⟨p, 7, none⟩ F).setCell ⟨p, 8, none⟩ R).alloc (.cells #[.int .i64 bb] T)).drew.cell? ⟨p, j, none⟩ = wd.cell? ⟨p, j, none⟩ := fun j h7 h8 => (A p j hx.lt).trans ((setC_off (fun e => h8 e.symm)).trans (setC_off (fun e => h7 e.symm)))
 have D : ∀ j, (((wd.setCell ⟨p, 7, none⟩ F).setCell ⟨p, 8, none⟩ R).alloc (.cells #[.int .i64 bb] T)).drew.cell? ⟨q, j, none⟩ = wd.cell? ⟨q, j, none⟩ := fun j => (A q j hq).trans ((setC_blk hne).trans (setC_blk hne))
 refine ⟨⟨?_, ?_, ?_, ?_, ?_, ?_, ?_, ?_, ?_, ?_⟩, ⟨?_, ?_, ?_⟩, ?_, ?_⟩
 ·rw [C 0 (by decide) (by decide)]; exact hx.c0
 ·rw [C 1 (by decide) (by decide)]; exact hx.c1
 ·rw [C 2 (by decide) (by decide)]; exact hx.c2
 ·rw [C 3 (by decide) (by decide)]; exact hx.c3
 ·rw [C 4 (by decide) (by decide)]; exact hx.c4
 ·rw [C 5 (by decide) (by decide)]; exact hx.c5
 ·rw [C 6 (by decide) (by decide)]; exact hx.c6
 ·rw [A p 7 hx.lt, setC_off (by decide), setC_at (by rw [hx.c7]; rfl)]
 ·rw [A p 8 hx.lt, setC_at (by rw [setC_off (by decide), hx.c8]; rfl)]
 ·show p < (World.alloc _ _).heap.size
  have := hx.lt
  simp
  omega
 ·rw [D 0]; exact hk.c0
 ·rw [D 1]; exact hk.c1
 ·rw [D 2]; exact hk.c2
 ·show (World.alloc ((wd.setCell ⟨p, 7, none⟩ F).setCell ⟨p, 8, none⟩ R) _).cell? ⟨wd.heap.size, 0, none⟩ = _
  have e : wd.heap.size = ((wd.setCell ⟨p, 7, none⟩ F).setCell ⟨p, 8, none⟩ R).heap.size := by simp
  rw [e]
  simp [go_sem]
 ·show wd.heap.size < (World.alloc _ _).heap.size
  simp
set_option maxHeartbeats 8000000 in
theorem emitPlain (o r a x n fr : Int) (ss sk : Option Addr) (sl sc kl kc : Nat) (k : Nat) (sz : Int) (L : List I5) (w : World) (hE : emVal o = #[.int .i64 sz, .bool false, .func (.func k) #[] #[]]) (hF : ∀ (args : Array Value) (w : World), (callFunc k args).run Tryz.prog w = .ok (.enter k args) w) (hok : Plain.insB o r a x n sl kl = true) (hC : ∀ W, Below w.heap.size w W → Calls Tryz.prog k #[.agg #[.int .i64 o, .int .i64 r, .int .i64 a, .int .i64 x, .int .i64 n, .int .i64 fr, .slice ss sl sc, .nilFunc, .int .i64 0]] W fun e w' => ∃ g c, e = .returned (.slice (some ⟨g, 0, none⟩) 1 c) ∧ OwnT5 w' W.heap.size (.slice (some ⟨g, 0, none⟩) 1 c) (L) ∧ Below W.heap.size W w') :
  Calls Tryz.prog 86 #[.slice sk kl kc, .agg #[.int .i64 o, .int .i64 r, .int .i64 a, .int .i64 x, .int .i64 n], .int .i64 fr, .slice ss sl sc] w fun e w' => ∃ g c, e = .returned (.slice (some ⟨g, 0, none⟩) 1 c) ∧ OwnT5 w' w.heap.size (.slice (some ⟨g, 0, none⟩) 1 c) (L) ∧ Below w.heap.size w w' := by
 have HOK := hid_of hok
 have HEM := hid_of hE
 have HCC := hid_of hC
 clear hok hE hC
 obtain ⟨W, hW, hx, hb, hz⟩ := XB.new w o r a x n 73
 have HX := hid_of hx
 have HW : Hid (Below w.heap.size w W) := hb
 have HK : Hid (Below W.heap.size W W) := Below.refl _ _
 clear hx hb
 obtain ⟨q0, q1, q2, q3, q4, tl⟩ := HX.out
 go_enter Tryz.func86, Tryz.ntmps86
 go_upto_region 3 with (go_at_call 104; refine (insOk_any _ _ _ _ _ _ _ _).mono ?_; rintro e w1 ⟨rfl, hb1⟩; rw [HOK.out]; have JK : Hid (Below W.heap.size W w1) := (by first | exact HK.out.trans (hb1.mono HK.out.size) | exact HK.out.drew.trans (hb1.mono HK.out.drew.size)); clear HK; have HK := JK; clear JK; obtain ⟨q0, q1, q2, q3, q4, tl⟩ := HX.out.keep HK.out; clear hb1)
 have n1 : ¬ w.heap.size = w1.heap.size := Nat.ne_of_lt tl
 have n1' : ¬ w1.heap.size = w.heap.size := Nat.ne_of_gt tl
 have n1b : ¬ w.heap.size = w1.heap.size + 1 := by omega
 have n1c : ¬ w1.heap.size + 1 = w.heap.size := by omega
 go_cut [9, 10] (fun s9 s10 wx => ∃ p q, s9 = .pointer (some ⟨p, 0, none⟩) ∧ s10 = .pointer (some ⟨q, 0, none⟩) ∧ CutE w1 (.int .i64 o) (.int .i64 r) (.int .i64 a) (.int .i64 x) (.int .i64 n) (.int .i64 fr) (.slice ss sl sc) sz false (.func (.func k) #[] #[]) p q wx)
 case first =>
  go_region_held3 (fun w' => w'.cell? ⟨w.heap.size, 0, none⟩ = some (.int .i64 o) ∧ w'.cell? ⟨w.heap.size, 1, none⟩ = some (.int .i64 r) ∧ w'.cell? ⟨w.heap.size, 2, none⟩ = some (.int .i64 a) ∧ w'.cell? ⟨w.heap.size, 3, none⟩ = some (.int .i64 x) ∧ w'.cell? ⟨w.heap.size, 4, none⟩ = some (.int .i64 n)) (go_keep) (first | (go_at_call 109; refine (emitterOf_any _ _).mono ?_; rintro e w2 ⟨rfl, hb2⟩; rw [HEM.out]; have JK := hid_of (Below.via (B := W.heap.size) (w := W) hb2 (Nat.le_refl _) (by repeat (first | with_reducible exact HK.out | with_reducible refine Below.drew ?_ | with_reducible refine Below.alloc ?_ (by have := HK.out.size; first | omega | (simp; omega)) _))); have KB := hid_of (Below.via (B := w1.heap.size) (w := w1) hb2 (Nat.le_refl _) (by repeat (first | with_reducible exact Below.refl _ _ | with_reducible refine Below.drew ?_ | with_reducible refine Below.alloc ?_ (by first | omega | (simp; omega) | simp) _))); obtain ⟨q0, q1, q2, q3, q4, tl⟩ := HX.out.keep JK.out; (first | (obtain ⟨bc1, bc2⟩ := bcell (Below.undrew hb2)) | (obtain ⟨bc1, bc2⟩ := bcell hb2)); obtain ⟨ap1, ap2, ap3⟩ := apart (Below.undrew hb2); have n2 : ¬ w.heap.size = w2.heap.size := Nat.ne_of_lt tl; have n2' : ¬ w2.heap.size = w.heap.size := Nat.ne_of_gt tl; try simp only [World.size_alloc] at bc1 bc2 ap1 ap2 ap3; clear hb2))
  all_goals
   go_wp2_with fail
   go_meet
   have zk := KB.out.size
   refine ⟨_, _, rfl, rfl, ⟨⟨?_, ?_, ?_, ?_, ?_, ?_, ?_, ?_, ?_, ?_⟩, fun j => ?_, ⟨?_, ?_, ?_⟩, ?_, ?_, ?_, ?_, ?_⟩⟩
   all_goals first | (simp [go_sem, bc1, bc2, ap1, ap2, ap3]; done) | (simp (config := { maxDischargeDepth := 6 }) [go_sem, bc1, bc2, ap1, ap2, ap3, setC_at]; done) | omega | (simp; omega) | (have := ap1 w1.heap.size (by omega); simp; omega) | (have := ap1 (w1.heap.size + 1) (by omega); simp; omega) | (repeat (first | with_reducible exact KB.out | with_reducible refine Below.alloc ?_ (by first | omega | (simp; omega)) _ | with_reducible refine Below.setCell ?_ (by first | omega | exact Nat.le_refl _ | exact Nat.le_succ _ | (simp; done)) _))
 case rest =>
  obtain ⟨p, q, rfl, rfl, hx, hf, hk, hne, hp, hq, hql, hbx⟩ := hcut
  obtain ⟨u0, u1, u2, u3, u4, u5, u6, u7, u8, ul⟩ := hx
  obtain ⟨k0, k1, k2⟩ := hk
  have z1 := HK.out.size
  have HB9 : Hid (Below w.heap.size w wc) := HW.out.trans ((HK.out.trans (hbx.mono z1)).mono (by omega))
  have z9 := HB9.out.size
  clear hf hbx
  go_wp2_with (refine (HCC.out _ HB9.out).mono ?_; rintro e w5 ⟨g5, c5, rfl, ho5, hb5⟩; have HO5 := hid_of ho5; have HB5 := hid_of hb5; clear ho5 hb5)
  go_ret
  exact ⟨_, _, rfl, HO5.out.low z9, HB9.out.trans (HB5.out.mono z9)⟩
set_option maxHeartbeats 8000000 in
theorem emitChan (o r a x n fr : Int) (ss sk : Option Addr) (sl sc kl kc : Nat) (N lo hi : Nat) (caps : List Int) (bb rm : Int) (k : Nat) (sz : Int) (L : List I5) (w : World) (hE : emVal o = #[.int .i64 sz, .bool true, .func (.func k) #[] #[]]) (hF : ∀ (args : Array Value) (w : World), (callFunc k args).run Tryz.prog w = .ok (.enter k args) w) (hok : Plain.insB o r a x n sl kl = true) (hkl : caps.length = kl) (hcp : IntsR w lo hi sk caps) (hhi : hi ≤ w.heap.size) (hcl : caps.length ≤ 2000000) (hbs : baseV caps n = bb) (hb0 : 0 ≤ bb) (hb1 : bb ≤ 20) (hn0 : 0 ≤ n) (hn1 : n < (kl : Int)) (hrm : caps.getD n.toNat 0 = rm) (hC : ∀ W pb, Below w.heap.size w W → CB W pb bb → Calls Tryz.prog k #[.agg #[.int .i64 o, .int .i64 r, .int .i64 a, .int .i64 x, .int .i64 n, .int .i64 fr, .slice ss sl sc, .func (.func 122) #[] #[.pointer (some ⟨pb, 0, none⟩)], .int .i64 rm]] W fun e w' => ∃ g c, e = .returned (.slice (some ⟨g, 0, none⟩) N c) ∧ OwnT5 w' W.heap.size (.slice (some ⟨g, 0, none⟩) N c) (L) ∧ Below W.heap.size W w') :
  Calls Tryz.prog 86 #[.slice sk kl kc, .agg #[.int .i64 o, .int .i64 r, .int .i64 a, .int .i64 x, .int .i64 n], .int .i64 fr, .slice ss sl sc] w fun e w' => ∃ g c, e = .returned (.slice (some ⟨g, 0, none⟩) N c) ∧ OwnT5 w' w.heap.size (.slice (some ⟨g, 0, none⟩) N c) (L) ∧ Below w.heap.size w w' := by
 have HOK := hid_of hok
 have HEM := hid_of hE
 have HCC := hid_of hC
 clear hok hE hC
 have HCP := hid_of hcp
 clear hcp
 obtain ⟨W, hW, hx, hb, hz⟩ := XB.new w o r a x n 73
 have HX := hid_of hx
 have HW : Hid (Below w.heap.size w W) := hb
 have HK : Hid (Below W.heap.size W W) := Below.refl _ _
 clear hx hb
 obtain ⟨q0, q1, q2, q3, q4, tl⟩ := HX.out
 go_enter Tryz.func86, Tryz.ntmps86
 go_upto_region 3 with (go_at_call 104; refine (insOk_any _ _ _ _ _ _ _ _).mono ?_; rintro e w1 ⟨rfl, hb1⟩; rw [HOK.out]; have JK : Hid (Below W.heap.size W w1) := (by first | exact HK.out.trans (hb1.mono HK.out.size) | exact HK.out.drew.trans (hb1.mono HK.out.drew.size)); clear HK; have HK := JK; clear JK; obtain ⟨q0, q1, q2, q3, q4, tl⟩ := HX.out.keep HK.out; clear hb1)
 have n1 : ¬ w.heap.size = w1.heap.size := Nat.ne_of_lt tl
 have n1' : ¬ w1.heap.size = w.heap.size := Nat.ne_of_gt tl
 have n1b : ¬ w.heap.size = w1.heap.size + 1 := by omega
 have n1c : ¬ w1.heap.size + 1 = w.heap.size := by omega
 go_cut [9, 10] (fun s9 s10 wx => ∃ p q, s9 = .pointer (some ⟨p, 0, none⟩) ∧ s10 = .pointer (some ⟨q, 0, none⟩) ∧ CutE w1 (.int .i64 o) (.int .i64 r) (.int .i64 a) (.int .i64 x) (.int .i64 n) (.int .i64 fr) (.slice ss sl sc) sz true (.func (.func k) #[] #[]) p q wx)
 case first =>
  go_region_held3 (fun w' => w'.cell? ⟨w.heap.size, 0, none⟩ = some (.int .i64 o) ∧ w'.cell? ⟨w.heap.size, 1, none⟩ = some (.int .i64 r) ∧ w'.cell? ⟨w.heap.size, 2, none⟩ = some (.int .i64 a) ∧ w'.cell? ⟨w.heap.size, 3, none⟩ = some (.int .i64 x) ∧ w'.cell? ⟨w.heap.size, 4, none⟩ = some (.int .i64 n)) (go_keep) (first | (go_at_call 109; refine (emitterOf_any _ _).mono ?_; rintro e w2 ⟨rfl, hb2⟩; rw [HEM.out]; have JK := hid_of (Below.via (B := W.heap.size) (w := W) hb2 (Nat.le_refl _) (by repeat (first | with_reducible exact HK.out | with_reducible refine Below.drew ?_ | with_reducible refine Below.alloc ?_ (by have := HK.out.size; first | omega | (simp; omega)) _))); have KB := hid_of (Below.via (B := w1.heap.size) (w := w1) hb2 (Nat.le_refl _) (by repeat (first | with_reducible exact Below.refl _ _ | with_reducible refine Below.drew ?_ | with_reducible refine Below.alloc ?_ (by first | omega | (simp; omega) | simp) _))); obtain ⟨q0, q1, q2, q3, q4, tl⟩ := HX.out.keep JK.out; (first | (obtain ⟨bc1, bc2⟩ := bcell (Below.undrew hb2)) | (obtain ⟨bc1, bc2⟩ := bcell hb2)); obtain ⟨ap1, ap2, ap3⟩ := apart (Below.undrew hb2); have n2 : ¬ w.heap.size = w2.heap.size := Nat.ne_of_lt tl; have n2' : ¬ w2.heap.size = w.heap.size := Nat.ne_of_gt tl; try simp only [World.size_alloc] at bc1 bc2 ap1 ap2 ap3; clear hb2))
  all_goals
   go_wp2_with fail
   go_meet
   have zk := KB.out.size
   refine ⟨_, _, rfl, rfl, ⟨⟨?_, ?_, ?_, ?_, ?_, ?_, ?_, ?_, ?_, ?_⟩, fun j => ?_, ⟨?_, ?_, ?_⟩, ?_, ?_, ?_, ?_, ?_⟩⟩
   all_goals first | (simp [go_sem, bc1, bc2, ap1, ap2, ap3]; done) | (simp (config := { maxDischargeDepth := 6 }) [go_sem, bc1, bc2, ap1, ap2, ap3, setC_at]; done) | omega | (simp; omega) | (have := ap1 w1.heap.size (by omega); simp; omega) | (have := ap1 (w1.heap.size + 1) (by omega); simp; omega) | (repeat (first | with_reducible exact KB.out | with_reducible refine Below.alloc ?_ (by first | omega | (simp; omega)) _ | with_reducible refine Below.setCell ?_ (by first | omega | exact Nat.le_refl _ | exact Nat.le_succ _ | (simp; done)) _))
 case rest =>
  obtain ⟨p, q, rfl, rfl, hx, hf, hk, hne, hp, hq, hql, hbx⟩ := hcut
  have HX9 := hid_of hx
  have HF9 := hid_of hf
  have HK9 := hid_of hk
  have z1 := HK.out.size
  have HBw : Hid (Below W.heap.size W wc) := HK.out.trans (hbx.mono z1)
  have HB9 : Hid (Below w.heap.size w wc) := HW.out.trans (HBw.out.mono (by omega))
  have z9 := HB9.out.size
  clear hf hbx
  clear q0 q1 q2 q3 q4 tl
  obtain ⟨q0, q1, q2, q3, q4, tl⟩ := HX.out.keep HBw.out
  have k1 := hk.c1
  clear hx hk
  have BC := implBase_any sk kc lo hi caps n wc (HCP.out.keep (Keep.of_below HB9.out hhi)) (by omega) hcl
  rw [hbs, hkl] at BC
  go_upto_region 8 with (go_at_call 84; refine BC.mono ?_; rintro e wd ⟨rfl, hbd⟩; have HBD := hid_of hbd; clear hbd)
  have zd := HBD.out.size
  obtain ⟨m, rfl⟩ : ∃ m : Nat, n = (m : Int) := ⟨n.toNat, by omega⟩
  rw [Int.toNat_natCast] at hrm
  obtain ⟨gk, ok, es, hg1, hg2, hgc⟩ := HCP.out.pos (by omega)
  subst es
  have hgd : gk < wd.heap.size := by omega
  have yc := ((HB9.out.cell (p := ⟨gk, ok + m, none⟩) (by show gk < _; omega)).trans (hgc m (by omega)))
  rw [hrm] at yc
  have yd := (HBD.out.cell (p := ⟨gk, ok + m, none⟩) (by show gk < _; omega)).trans yc
  have y4 := (HBD.out.cell (p := ⟨w.heap.size, 4, none⟩) tl).trans q4
  have u7 := (HBD.out.cell (p := ⟨p, 7, none⟩) HX9.out.lt).trans HX9.out.c7
  have u8 := (HBD.out.cell (p := ⟨p, 8, none⟩) HX9.out.lt).trans HX9.out.c8
  have f7 : ∀ j, wd.frozen? ⟨p, j, none⟩ = false := fun j => (HBD.out.frozen (p := ⟨p, j, none⟩) HX9.out.lt).trans (HF9.out j)
  have hpd : p < wd.heap.size := by have := HX9.out.lt; omega
  have m1 : ¬ p = w.heap.size := by omega
  have m2 : ¬ w.heap.size = p := by omega
  have m3 : ¬ p = gk := by omega
  have m4 : ¬ gk = p := by omega
  have m5 : ¬ p = wd.heap.size := by omega
  have m6 : ¬ wd.heap.size = p := by omega
  have m7 : ¬ gk = wd.heap.size := by omega
  have m8 : ¬ wd.heap.size = gk := by omega
  have m9 : ¬ w.heap.size = wd.heap.size := by omega
  have m10 : ¬ wd.heap.size = w.heap.size := by omega
  have hwd : w.heap.size < wd.heap.size := by omega
  have e0 : (0 : Int) ≤ (m : Int) := by omega
  clear yc hgc q0 q1 q2 q3 q4 BC
  go_region_held3 (fun w' => w'.cell? ⟨w.heap.size, 4, none⟩ = some (.int .i64 (m : Int)) ∧ w'.cell? ⟨gk, ok + m, none⟩ = some (.int .i64 rm)) (go_keep) (first | (go_at_call 110; refine (cellsFrom_is _ _).mono ?_; rintro e wf ⟨rfl, hwf⟩; subst wf))
  have hqd : q < wd.heap.size := by omega
  have hwp : w.heap.size ≤ p := by omega
  obtain ⟨cw1, cw2, cw3, cw4⟩ := chanWorld (HX9.out.keep HBD.out) (⟨(HBD.out.cell (p := ⟨q, 0, none⟩) hql).trans HK9.out.c0, (HBD.out.cell (p := ⟨q, 1, none⟩) hql).trans HK9.out.c1, (HBD.out.cell (p := ⟨q, 2, none⟩) hql).trans HK9.out.c2⟩ : K3 wd q sz true (.func (.func k) #[] #[])) hne hqd (.func (.func 122) #[] #[.pointer (some ⟨wd.heap.size, 0, none⟩)]) (.int .i64 rm) bb 3
  obtain ⟨W8, hW8, hx8, hk8, hc8, hb8, hz8⟩ : ∃ W8, (((wd.setCell ⟨p, 7, none⟩ (.func (.func 122) #[] #[.pointer (some ⟨wd.heap.size, 0, none⟩)])).setCell ⟨p, 8, none⟩ (.int .i64 rm)).alloc (.cells #[.int .i64 bb] 3)).drew = W8 ∧ SX W8 p (.int .i64 o) (.int .i64 r) (.int .i64 a) (.int .i64 x) (.int .i64 (m : Int)) (.int .i64 fr) (.slice ss sl sc) (.func (.func 122) #[] #[.pointer (some ⟨wd.heap.size, 0, none⟩)]) (.int .i64 rm) ∧ K3 W8 q sz true (.func (.func k) #[] #[]) ∧ CB W8 wd.heap.size bb ∧ Below w.heap.size w W8 ∧ w.heap.size ≤ W8.heap.size := by
   refine ⟨_, rfl, cw1, cw2, ⟨cw3, cw4, hb0, hb1⟩, Below.drew (Below.alloc (((HB9.out.trans (HBD.out.mono z9)).setCell (p := ⟨p, 7, none⟩) hwp _).setCell (p := ⟨p, 8, none⟩) hwp _) (by simp; omega) _), by omega⟩
  rw [hW8]
  have HC8 := hid_of hc8
  have HB8 := hid_of hb8
  obtain ⟨v0, v1, v2, v3, v4, v5, v6, v7, v8, vl⟩ := hx8
  obtain ⟨l0, l1, l2⟩ := hk8
  clear hW8 hc8 hb8 cw1 cw2 cw3 cw4
  go_wp2_with (refine (HCC.out _ _ HB8.out HC8.out).mono ?_; rintro e w5 ⟨g5, c5, rfl, ho5, hb5⟩; have HO5 := hid_of ho5; have HB5 := hid_of hb5; clear ho5 hb5)
  go_ret
  exact ⟨_, _, rfl, HO5.out.low hz8, HB8.out.trans (HB5.out.mono hz8)⟩
end Go.Proofs.YtehjbpjjegajjaaGreat
