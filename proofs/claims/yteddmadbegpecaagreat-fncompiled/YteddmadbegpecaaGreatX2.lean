/- What both that take are made of. Conditions: the channel lies in memory. What the emitters of channels answer. Conditions: the channel lies in memory. What the emitters of places of no channel answer. Conditions: a jump names a start. Emit of the program. Conditions: lists of at most 2^20 + 100. Emit of the program at every argument. Conditions: rows of at most two million numbers. What is known of the answers of Emit. -/
import Derived.Test.YteddmadbegpecaaGreatX1
import Derived.Test.YteddmadbegpecaaGreatE10Of
import Derived.Test.YteddmadbegpecaaGreatInsOk
import Derived.Deep.DeepCutAuto
namespace Go.Proofs.YteddmadbegpecaaGreat
section
set_option linter.unusedSimpArgs false
set_option linter.unusedVariables false
set_option maxRecDepth 100000
open Go.RowKit

def takenR (b r rm : Int) : List I5 := [⟨5, 5, -1, 0, b + 2⟩, ⟨11, 0, 5, 0, 4⟩, ⟨5, 4, -1, 0, b + 1⟩, ⟨5, r, 4, 0, b + 4⟩, ⟨1, 7, 0, 0, 1⟩, ⟨2, 4, 4, 7, 0⟩, ⟨3, 5, 5, 7, 0⟩, ⟨1, 7, 0, 0, rm⟩, ⟨4, 6, 4, 7, 0⟩, ⟨11, 0, 6, 0, 2⟩, ⟨10, 0, 0, 0, 3⟩]
def roundT : List I5 := [⟨1, 4, 0, 0, 0⟩]
def keepR (b : Int) : List I5 := [⟨6, 0, -1, 4, b + 1⟩, ⟨6, 0, -1, 5, b + 2⟩]
def keepT (b x : Int) : List I5 := keepR b ++ (letR b ++ [⟨1, x, 0, 0, 1⟩, ⟨10, 0, 0, 0, -1⟩])
def noneR (b : Int) : List I5 := [⟨5, 4, -1, 0, b + 3⟩]
def noneT (b r x o : Int) : List I5 := (noneR b ++ (letR b ++ [⟨11, 0, 4, 0, 5⟩])) ++ cameR r x 0 o
set_option maxHeartbeats 8000000 in
theorem iTake1 (o r a x n fr : Int) (ss : Option Addr) (sl sc pb : Nat) (rm b : Int) (gs cs bs : Nat) (w : World) (h : CBx w pb b) (hs : OwnT5 w bs (.slice (some ⟨gs, 0, none⟩) 1 cs) ([⟨10, 0, 0, 0, 0⟩])) : Calls Tryz.prog 115 #[.agg #[.int .i64 o, .int .i64 r, .int .i64 a, .int .i64 x, .int .i64 n, .int .i64 fr, .slice ss sl sc, .func (.func 99) #[] #[.pointer (some ⟨pb, 0, none⟩)], .int .i64 rm], .int .i64 0, .slice (some ⟨gs, 0, none⟩) 1 cs] w fun e w' => ∃ g c, e = .returned (.slice (some ⟨g, 0, none⟩) 30 c) ∧ OwnT5 w' w.heap.size (.slice (some ⟨g, 0, none⟩) 30 c) (togL fr [lockR b, takenR b r rm, roundT, keepT b x, noneT b r x 0, [⟨10, 0, 0, 0, 0⟩]] [lockR b, takenR b r rm, roundT, keepT b x, noneT b r x 0, [⟨10, 0, 0, 0, 0⟩]]) ∧ Below w.heap.size w w' := by
  have H0S := hid_of hs
  clear hs
  obtain ⟨W, hW, hx, hb, hz⟩ := SX.new w (.int .i64 o) (.int .i64 r) (.int .i64 a) (.int .i64 x) (.int .i64 n) (.int .i64 fr) (.slice ss sl sc) (.func (.func 99) #[] #[.pointer (some ⟨pb, 0, none⟩)]) (.int .i64 rm) 91
  have HC : Hid (CBx W pb b) := h.keep hb
  have HX := hid_of hx
  have HW : Hid (Below w.heap.size w W) := hb
  have HK : Hid (Below W.heap.size W W) := Below.refl _ _
  clear h hx hb
  obtain ⟨t0, t1, t2, t3, t4, t5, t6, t7, t8, tl⟩ := HX.out
  have HSS := hid_of (Row5.of (H0S.out.keep HW.out))
  clear H0S
  go_enter Tryz.func115, Tryz.ntmps115
  go_wp2
  go_region_held3 (fun w' => w'.cell? ⟨w.heap.size, 0, none⟩ = some (.int .i64 o) ∧ w'.cell? ⟨w.heap.size, 1, none⟩ = some (.int .i64 r) ∧ w'.cell? ⟨w.heap.size, 2, none⟩ = some (.int .i64 a) ∧ w'.cell? ⟨w.heap.size, 3, none⟩ = some (.int .i64 x) ∧ w'.cell? ⟨w.heap.size, 4, none⟩ = some (.int .i64 n) ∧ w'.cell? ⟨w.heap.size, 5, none⟩ = some (.int .i64 fr) ∧ w'.cell? ⟨w.heap.size, 6, none⟩ = some (.slice ss sl sc) ∧ w'.cell? ⟨w.heap.size, 7, none⟩ = some (.func (.func 99) #[] #[.pointer (some ⟨pb, 0, none⟩)]) ∧ w'.cell? ⟨w.heap.size, 8, none⟩ = some (.int .i64 rm)) (go_keep) (first | (go_at_call 111; refine (iSet _ _ _).mono ?_; rintro e w1 ⟨rfl, hb1⟩; have JK : Hid (Below W.heap.size W w1) := (by first | exact HK.out.trans (hb1.mono HK.out.size) | exact HK.out.drew.trans (hb1.mono HK.out.drew.size)); clear HK; have HK := JK; clear JK hb1; obtain ⟨t0, t1, t2, t3, t4, t5, t6, t7, t8, tl⟩ := HX.out.keep HK.out) | (go_at_call 123; refine (iZero _ _ _).mono ?_; rintro e w1 ⟨rfl, hb1⟩; have JK : Hid (Below W.heap.size W w1) := (by first | exact HK.out.trans (hb1.mono HK.out.size) | exact HK.out.drew.trans (hb1.mono HK.out.drew.size)); clear HK; have HK := JK; clear JK hb1; obtain ⟨t0, t1, t2, t3, t4, t5, t6, t7, t8, tl⟩ := HX.out.keep HK.out) | (go_at_call 114; refine (iJump _ _).mono ?_; rintro e w1 ⟨rfl, hb1⟩; have JK : Hid (Below W.heap.size W w1) := (by first | exact HK.out.trans (hb1.mono HK.out.size) | exact HK.out.drew.trans (hb1.mono HK.out.drew.size)); clear HK; have HK := JK; clear JK hb1; obtain ⟨t0, t1, t2, t3, t4, t5, t6, t7, t8, tl⟩ := HX.out.keep HK.out) | (go_at_call 136; refine (iAdd _ _ _).mono ?_; rintro e w1 ⟨rfl, hb1⟩; have JK : Hid (Below W.heap.size W w1) := (by first | exact HK.out.trans (hb1.mono HK.out.size) | exact HK.out.drew.trans (hb1.mono HK.out.drew.size)); clear HK; have HK := JK; clear JK hb1; obtain ⟨t0, t1, t2, t3, t4, t5, t6, t7, t8, tl⟩ := HX.out.keep HK.out) | (go_at_call 137; refine (iSub _ _ _).mono ?_; rintro e w1 ⟨rfl, hb1⟩; have JK : Hid (Below W.heap.size W w1) := (by first | exact HK.out.trans (hb1.mono HK.out.size) | exact HK.out.drew.trans (hb1.mono HK.out.drew.size)); clear HK; have HK := JK; clear JK hb1; obtain ⟨t0, t1, t2, t3, t4, t5, t6, t7, t8, tl⟩ := HX.out.keep HK.out) | (go_at_call 112; refine (iLess _ _ _ _).mono ?_; rintro e w1 ⟨rfl, hb1⟩; have JK : Hid (Below W.heap.size W w1) := (by first | exact HK.out.trans (hb1.mono HK.out.size) | exact HK.out.drew.trans (hb1.mono HK.out.drew.size)); clear HK; have HK := JK; clear JK hb1; obtain ⟨t0, t1, t2, t3, t4, t5, t6, t7, t8, tl⟩ := HX.out.keep HK.out) | (go_at_call 135; refine (iLoad o r a x n fr ss sl sc pb rm b _ _ (by omega) _ (by first | exact HC.out.keep HK.out | exact HC.out.keep HK.out.drew)).mono ?_; rintro e w1 ⟨rfl, hb1⟩; have JK : Hid (Below W.heap.size W w1) := (by first | exact HK.out.trans (hb1.mono HK.out.size) | exact HK.out.drew.trans (hb1.mono HK.out.drew.size)); clear HK; have HK := JK; clear JK hb1; obtain ⟨t0, t1, t2, t3, t4, t5, t6, t7, t8, tl⟩ := HX.out.keep HK.out) | (go_at_call 118; refine (iStore o r a x n fr ss sl sc pb rm b _ _ (by omega) _ (by first | exact HC.out.keep HK.out | exact HC.out.keep HK.out.drew)).mono ?_; rintro e w1 ⟨rfl, hb1⟩; have JK : Hid (Below W.heap.size W w1) := (by first | exact HK.out.trans (hb1.mono HK.out.size) | exact HK.out.drew.trans (hb1.mono HK.out.drew.size)); clear HK; have HK := JK; clear JK hb1; obtain ⟨t0, t1, t2, t3, t4, t5, t6, t7, t8, tl⟩ := HX.out.keep HK.out) | (go_at_call 140; refine (iLoadN o r a x n fr ss sl sc pb rm b _  _ (by first | exact HC.out.keep HK.out | exact HC.out.keep HK.out.drew)).mono ?_; rintro e w1 ⟨rfl, hb1⟩; have JK : Hid (Below W.heap.size W w1) := (by first | exact HK.out.trans (hb1.mono HK.out.size) | exact HK.out.drew.trans (hb1.mono HK.out.drew.size)); clear HK; have HK := JK; clear JK hb1; obtain ⟨t0, t1, t2, t3, t4, t5, t6, t7, t8, tl⟩ := HX.out.keep HK.out) | (go_at_call 138; refine (iStoreN o r a x n fr ss sl sc pb rm b _  _ (by first | exact HC.out.keep HK.out | exact HC.out.keep HK.out.drew)).mono ?_; rintro e w1 ⟨rfl, hb1⟩; have JK : Hid (Below W.heap.size W w1) := (by first | exact HK.out.trans (hb1.mono HK.out.size) | exact HK.out.drew.trans (hb1.mono HK.out.drew.size)); clear HK; have HK := JK; clear JK hb1; obtain ⟨t0, t1, t2, t3, t4, t5, t6, t7, t8, tl⟩ := HX.out.keep HK.out))
  first | refine name5 (P := Exit.then _ _ _ _) (takenR b r rm) W.heap.size 11 rfl rfl (by omega) HK.out.size ?_ | refine name5 (P := Code.wp _ _ _ _) (takenR b r rm) W.heap.size 11 rfl rfl (by omega) HK.out.size ?_
  intro W1 ho hb hz
  obtain ⟨gHOO, hg⟩ : ∃ g, w1.heap.size = g := ⟨_, rfl⟩
  rw [hg] at ho ⊢
  clear hg hz
  have hbn : Below W.heap.size W W1 := (HK.out.trans (hb.mono HK.out.size))
  have JX := hid_of (HX.out.keep hbn)
  have JC := hid_of (HC.out.keep hbn)
  have JW : Hid (Below w.heap.size w W1) := HW.out.trans (hbn.mono HW.out.size)
  have JHSS := hid_of (HSS.out.keep hbn)
  have HOO := hid_of (Row5.of ho)
  clear HX HC HW HK HSS
  clear t0 t1 t2 t3 t4 t5 t6 t7 t8
  have HX := JX
  clear JX
  have HC := JC
  clear JC
  have HW := JW
  clear JW
  have HSS := JHSS
  clear JHSS
  have HK : Hid (Below W1.heap.size W1 W1) := Below.refl _ _
  obtain ⟨t0, t1, t2, t3, t4, t5, t6, t7, t8, tl⟩ := HX.out
  clear hbn
  clear ho hb
  go_wp2_with fail
  go_wp2_with (first | (go_at_call 111; refine (iSet _ _ _).mono ?_; rintro e w1 ⟨rfl, hb1⟩; have JK : Hid (Below W1.heap.size W1 w1) := (by first | exact HK.out.trans (hb1.mono HK.out.size) | exact HK.out.drew.trans (hb1.mono HK.out.drew.size)); clear HK; have HK := JK; clear JK hb1; obtain ⟨t0, t1, t2, t3, t4, t5, t6, t7, t8, tl⟩ := HX.out.keep HK.out) | (go_at_call 123; refine (iZero _ _ _).mono ?_; rintro e w1 ⟨rfl, hb1⟩; have JK : Hid (Below W1.heap.size W1 w1) := (by first | exact HK.out.trans (hb1.mono HK.out.size) | exact HK.out.drew.trans (hb1.mono HK.out.drew.size)); clear HK; have HK := JK; clear JK hb1; obtain ⟨t0, t1, t2, t3, t4, t5, t6, t7, t8, tl⟩ := HX.out.keep HK.out) | (go_at_call 114; refine (iJump _ _).mono ?_; rintro e w1 ⟨rfl, hb1⟩; have JK : Hid (Below W1.heap.size W1 w1) := (by first | exact HK.out.trans (hb1.mono HK.out.size) | exact HK.out.drew.trans (hb1.mono HK.out.drew.size)); clear HK; have HK := JK; clear JK hb1; obtain ⟨t0, t1, t2, t3, t4, t5, t6, t7, t8, tl⟩ := HX.out.keep HK.out) | (go_at_call 136; refine (iAdd _ _ _).mono ?_; rintro e w1 ⟨rfl, hb1⟩; have JK : Hid (Below W1.heap.size W1 w1) := (by first | exact HK.out.trans (hb1.mono HK.out.size) | exact HK.out.drew.trans (hb1.mono HK.out.drew.size)); clear HK; have HK := JK; clear JK hb1; obtain ⟨t0, t1, t2, t3, t4, t5, t6, t7, t8, tl⟩ := HX.out.keep HK.out) | (go_at_call 137; refine (iSub _ _ _).mono ?_; rintro e w1 ⟨rfl, hb1⟩; have JK : Hid (Below W1.heap.size W1 w1) := (by first | exact HK.out.trans (hb1.mono HK.out.size) | exact HK.out.drew.trans (hb1.mono HK.out.drew.size)); clear HK; have HK := JK; clear JK hb1; obtain ⟨t0, t1, t2, t3, t4, t5, t6, t7, t8, tl⟩ := HX.out.keep HK.out) | (go_at_call 112; refine (iLess _ _ _ _).mono ?_; rintro e w1 ⟨rfl, hb1⟩; have JK : Hid (Below W1.heap.size W1 w1) := (by first | exact HK.out.trans (hb1.mono HK.out.size) | exact HK.out.drew.trans (hb1.mono HK.out.drew.size)); clear HK; have HK := JK; clear JK hb1; obtain ⟨t0, t1, t2, t3, t4, t5, t6, t7, t8, tl⟩ := HX.out.keep HK.out) | (go_at_call 135; refine (iLoad o r a x n fr ss sl sc pb rm b _ _ (by omega) _ (by first | exact HC.out.keep HK.out | exact HC.out.keep HK.out.drew)).mono ?_; rintro e w1 ⟨rfl, hb1⟩; have JK : Hid (Below W1.heap.size W1 w1) := (by first | exact HK.out.trans (hb1.mono HK.out.size) | exact HK.out.drew.trans (hb1.mono HK.out.drew.size)); clear HK; have HK := JK; clear JK hb1; obtain ⟨t0, t1, t2, t3, t4, t5, t6, t7, t8, tl⟩ := HX.out.keep HK.out) | (go_at_call 118; refine (iStore o r a x n fr ss sl sc pb rm b _ _ (by omega) _ (by first | exact HC.out.keep HK.out | exact HC.out.keep HK.out.drew)).mono ?_; rintro e w1 ⟨rfl, hb1⟩; have JK : Hid (Below W1.heap.size W1 w1) := (by first | exact HK.out.trans (hb1.mono HK.out.size) | exact HK.out.drew.trans (hb1.mono HK.out.drew.size)); clear HK; have HK := JK; clear JK hb1; obtain ⟨t0, t1, t2, t3, t4, t5, t6, t7, t8, tl⟩ := HX.out.keep HK.out) | (go_at_call 140; refine (iLoadN o r a x n fr ss sl sc pb rm b _  _ (by first | exact HC.out.keep HK.out | exact HC.out.keep HK.out.drew)).mono ?_; rintro e w1 ⟨rfl, hb1⟩; have JK : Hid (Below W1.heap.size W1 w1) := (by first | exact HK.out.trans (hb1.mono HK.out.size) | exact HK.out.drew.trans (hb1.mono HK.out.drew.size)); clear HK; have HK := JK; clear JK hb1; obtain ⟨t0, t1, t2, t3, t4, t5, t6, t7, t8, tl⟩ := HX.out.keep HK.out) | (go_at_call 138; refine (iStoreN o r a x n fr ss sl sc pb rm b _  _ (by first | exact HC.out.keep HK.out | exact HC.out.keep HK.out.drew)).mono ?_; rintro e w1 ⟨rfl, hb1⟩; have JK : Hid (Below W1.heap.size W1 w1) := (by first | exact HK.out.trans (hb1.mono HK.out.size) | exact HK.out.drew.trans (hb1.mono HK.out.drew.size)); clear HK; have HK := JK; clear JK hb1; obtain ⟨t0, t1, t2, t3, t4, t5, t6, t7, t8, tl⟩ := HX.out.keep HK.out))
  first | refine name5 (P := Exit.then _ _ _ _) (roundT) W1.heap.size 1 rfl rfl (by omega) HK.out.size ?_ | refine name5 (P := Code.wp _ _ _ _) (roundT) W1.heap.size 1 rfl rfl (by omega) HK.out.size ?_
  intro W2 ho hb hz
  obtain ⟨gHRR, hg⟩ : ∃ g, w1.heap.size = g := ⟨_, rfl⟩
  rw [hg] at ho ⊢
  clear hg hz
  have hbn : Below W1.heap.size W1 W2 := (HK.out.trans (hb.mono HK.out.size))
  have JX := hid_of (HX.out.keep hbn)
  have JC := hid_of (HC.out.keep hbn)
  have JW : Hid (Below w.heap.size w W2) := HW.out.trans (hbn.mono HW.out.size)
  have JHSS := hid_of (HSS.out.keep hbn)
  have JHOO := hid_of (HOO.out.keep hbn)
  have HRR := hid_of (Row5.of ho)
  clear HX HC HW HK HSS HOO
  clear t0 t1 t2 t3 t4 t5 t6 t7 t8
  have HX := JX
  clear JX
  have HC := JC
  clear JC
  have HW := JW
  clear JW
  have HSS := JHSS
  clear JHSS
  have HOO := JHOO
  clear JHOO
  have HK : Hid (Below W2.heap.size W2 W2) := Below.refl _ _
  obtain ⟨t0, t1, t2, t3, t4, t5, t6, t7, t8, tl⟩ := HX.out
  clear hbn
  clear ho hb
  go_region_held3 (fun w' => w'.cell? ⟨w.heap.size, 0, none⟩ = some (.int .i64 o) ∧ w'.cell? ⟨w.heap.size, 1, none⟩ = some (.int .i64 r) ∧ w'.cell? ⟨w.heap.size, 2, none⟩ = some (.int .i64 a) ∧ w'.cell? ⟨w.heap.size, 3, none⟩ = some (.int .i64 x) ∧ w'.cell? ⟨w.heap.size, 4, none⟩ = some (.int .i64 n) ∧ w'.cell? ⟨w.heap.size, 5, none⟩ = some (.int .i64 fr) ∧ w'.cell? ⟨w.heap.size, 6, none⟩ = some (.slice ss sl sc) ∧ w'.cell? ⟨w.heap.size, 7, none⟩ = some (.func (.func 99) #[] #[.pointer (some ⟨pb, 0, none⟩)]) ∧ w'.cell? ⟨w.heap.size, 8, none⟩ = some (.int .i64 rm)) (go_keep) (first | (go_at_call 111; refine (iSet _ _ _).mono ?_; rintro e w1 ⟨rfl, hb1⟩; have JK : Hid (Below W2.heap.size W2 w1) := (by first | exact HK.out.trans (hb1.mono HK.out.size) | exact HK.out.drew.trans (hb1.mono HK.out.drew.size)); clear HK; have HK := JK; clear JK hb1; obtain ⟨t0, t1, t2, t3, t4, t5, t6, t7, t8, tl⟩ := HX.out.keep HK.out) | (go_at_call 123; refine (iZero _ _ _).mono ?_; rintro e w1 ⟨rfl, hb1⟩; have JK : Hid (Below W2.heap.size W2 w1) := (by first | exact HK.out.trans (hb1.mono HK.out.size) | exact HK.out.drew.trans (hb1.mono HK.out.drew.size)); clear HK; have HK := JK; clear JK hb1; obtain ⟨t0, t1, t2, t3, t4, t5, t6, t7, t8, tl⟩ := HX.out.keep HK.out) | (go_at_call 114; refine (iJump _ _).mono ?_; rintro e w1 ⟨rfl, hb1⟩; have JK : Hid (Below W2.heap.size W2 w1) := (by first | exact HK.out.trans (hb1.mono HK.out.size) | exact HK.out.drew.trans (hb1.mono HK.out.drew.size)); clear HK; have HK := JK; clear JK hb1; obtain ⟨t0, t1, t2, t3, t4, t5, t6, t7, t8, tl⟩ := HX.out.keep HK.out) | (go_at_call 136; refine (iAdd _ _ _).mono ?_; rintro e w1 ⟨rfl, hb1⟩; have JK : Hid (Below W2.heap.size W2 w1) := (by first | exact HK.out.trans (hb1.mono HK.out.size) | exact HK.out.drew.trans (hb1.mono HK.out.drew.size)); clear HK; have HK := JK; clear JK hb1; obtain ⟨t0, t1, t2, t3, t4, t5, t6, t7, t8, tl⟩ := HX.out.keep HK.out) | (go_at_call 137; refine (iSub _ _ _).mono ?_; rintro e w1 ⟨rfl, hb1⟩; have JK : Hid (Below W2.heap.size W2 w1) := (by first | exact HK.out.trans (hb1.mono HK.out.size) | exact HK.out.drew.trans (hb1.mono HK.out.drew.size)); clear HK; have HK := JK; clear JK hb1; obtain ⟨t0, t1, t2, t3, t4, t5, t6, t7, t8, tl⟩ := HX.out.keep HK.out) | (go_at_call 112; refine (iLess _ _ _ _).mono ?_; rintro e w1 ⟨rfl, hb1⟩; have JK : Hid (Below W2.heap.size W2 w1) := (by first | exact HK.out.trans (hb1.mono HK.out.size) | exact HK.out.drew.trans (hb1.mono HK.out.drew.size)); clear HK; have HK := JK; clear JK hb1; obtain ⟨t0, t1, t2, t3, t4, t5, t6, t7, t8, tl⟩ := HX.out.keep HK.out) | (go_at_call 135; refine (iLoad o r a x n fr ss sl sc pb rm b _ _ (by omega) _ (by first | exact HC.out.keep HK.out | exact HC.out.keep HK.out.drew)).mono ?_; rintro e w1 ⟨rfl, hb1⟩; have JK : Hid (Below W2.heap.size W2 w1) := (by first | exact HK.out.trans (hb1.mono HK.out.size) | exact HK.out.drew.trans (hb1.mono HK.out.drew.size)); clear HK; have HK := JK; clear JK hb1; obtain ⟨t0, t1, t2, t3, t4, t5, t6, t7, t8, tl⟩ := HX.out.keep HK.out) | (go_at_call 118; refine (iStore o r a x n fr ss sl sc pb rm b _ _ (by omega) _ (by first | exact HC.out.keep HK.out | exact HC.out.keep HK.out.drew)).mono ?_; rintro e w1 ⟨rfl, hb1⟩; have JK : Hid (Below W2.heap.size W2 w1) := (by first | exact HK.out.trans (hb1.mono HK.out.size) | exact HK.out.drew.trans (hb1.mono HK.out.drew.size)); clear HK; have HK := JK; clear JK hb1; obtain ⟨t0, t1, t2, t3, t4, t5, t6, t7, t8, tl⟩ := HX.out.keep HK.out) | (go_at_call 140; refine (iLoadN o r a x n fr ss sl sc pb rm b _  _ (by first | exact HC.out.keep HK.out | exact HC.out.keep HK.out.drew)).mono ?_; rintro e w1 ⟨rfl, hb1⟩; have JK : Hid (Below W2.heap.size W2 w1) := (by first | exact HK.out.trans (hb1.mono HK.out.size) | exact HK.out.drew.trans (hb1.mono HK.out.drew.size)); clear HK; have HK := JK; clear JK hb1; obtain ⟨t0, t1, t2, t3, t4, t5, t6, t7, t8, tl⟩ := HX.out.keep HK.out) | (go_at_call 138; refine (iStoreN o r a x n fr ss sl sc pb rm b _  _ (by first | exact HC.out.keep HK.out | exact HC.out.keep HK.out.drew)).mono ?_; rintro e w1 ⟨rfl, hb1⟩; have JK : Hid (Below W2.heap.size W2 w1) := (by first | exact HK.out.trans (hb1.mono HK.out.size) | exact HK.out.drew.trans (hb1.mono HK.out.drew.size)); clear HK; have HK := JK; clear JK hb1; obtain ⟨t0, t1, t2, t3, t4, t5, t6, t7, t8, tl⟩ := HX.out.keep HK.out))
  first | refine name5 (P := Exit.then _ _ _ _) (keepR b) W2.heap.size 2 rfl rfl (by omega) HK.out.size ?_ | refine name5 (P := Code.wp _ _ _ _) (keepR b) W2.heap.size 2 rfl rfl (by omega) HK.out.size ?_
  intro W3 ho hb hz
  obtain ⟨gHPO, hg⟩ : ∃ g, w1.heap.size = g := ⟨_, rfl⟩
  rw [hg] at ho ⊢
  obtain ⟨cHPO, hc⟩ : ∃ c : Nat, c = 2 := ⟨_, rfl⟩
  clear hg hz hc
  have HPO := hid_of ho
  have JK : Hid (Below W2.heap.size W2 W3) := HK.out.trans (hb.mono HK.out.size)
  clear HK ho hb
  have HK := JK
  clear JK
  obtain ⟨t0, t1, t2, t3, t4, t5, t6, t7, t8, tl⟩ := HX.out.keep HK.out
  go_wp2_with fail
  go_region_held3 (fun w' => w'.cell? ⟨w.heap.size, 0, none⟩ = some (.int .i64 o) ∧ w'.cell? ⟨w.heap.size, 1, none⟩ = some (.int .i64 r) ∧ w'.cell? ⟨w.heap.size, 2, none⟩ = some (.int .i64 a) ∧ w'.cell? ⟨w.heap.size, 3, none⟩ = some (.int .i64 x) ∧ w'.cell? ⟨w.heap.size, 4, none⟩ = some (.int .i64 n) ∧ w'.cell? ⟨w.heap.size, 5, none⟩ = some (.int .i64 fr) ∧ w'.cell? ⟨w.heap.size, 6, none⟩ = some (.slice ss sl sc) ∧ w'.cell? ⟨w.heap.size, 7, none⟩ = some (.func (.func 99) #[] #[.pointer (some ⟨pb, 0, none⟩)]) ∧ w'.cell? ⟨w.heap.size, 8, none⟩ = some (.int .i64 rm)) (go_keep) (first | (go_at_call 111; refine (iSet _ _ _).mono ?_; rintro e w1 ⟨rfl, hb1⟩; have J0 := hid_of (HPO.out.keep (by first | exact hb1 | exact (Below.drew (Below.refl _ _)).trans hb1)); clear HPO; have HPO := J0; clear J0; have JK : Hid (Below W2.heap.size W2 w1) := (by first | exact HK.out.trans (hb1.mono HK.out.size) | exact HK.out.drew.trans (hb1.mono HK.out.drew.size)); clear HK; have HK := JK; clear JK hb1; obtain ⟨t0, t1, t2, t3, t4, t5, t6, t7, t8, tl⟩ := HX.out.keep HK.out) | (go_at_call 123; refine (iZero _ _ _).mono ?_; rintro e w1 ⟨rfl, hb1⟩; have J0 := hid_of (HPO.out.keep (by first | exact hb1 | exact (Below.drew (Below.refl _ _)).trans hb1)); clear HPO; have HPO := J0; clear J0; have JK : Hid (Below W2.heap.size W2 w1) := (by first | exact HK.out.trans (hb1.mono HK.out.size) | exact HK.out.drew.trans (hb1.mono HK.out.drew.size)); clear HK; have HK := JK; clear JK hb1; obtain ⟨t0, t1, t2, t3, t4, t5, t6, t7, t8, tl⟩ := HX.out.keep HK.out) | (go_at_call 114; refine (iJump _ _).mono ?_; rintro e w1 ⟨rfl, hb1⟩; have J0 := hid_of (HPO.out.keep (by first | exact hb1 | exact (Below.drew (Below.refl _ _)).trans hb1)); clear HPO; have HPO := J0; clear J0; have JK : Hid (Below W2.heap.size W2 w1) := (by first | exact HK.out.trans (hb1.mono HK.out.size) | exact HK.out.drew.trans (hb1.mono HK.out.drew.size)); clear HK; have HK := JK; clear JK hb1; obtain ⟨t0, t1, t2, t3, t4, t5, t6, t7, t8, tl⟩ := HX.out.keep HK.out) | (go_at_call 136; refine (iAdd _ _ _).mono ?_; rintro e w1 ⟨rfl, hb1⟩; have J0 := hid_of (HPO.out.keep (by first | exact hb1 | exact (Below.drew (Below.refl _ _)).trans hb1)); clear HPO; have HPO := J0; clear J0; have JK : Hid (Below W2.heap.size W2 w1) := (by first | exact HK.out.trans (hb1.mono HK.out.size) | exact HK.out.drew.trans (hb1.mono HK.out.drew.size)); clear HK; have HK := JK; clear JK hb1; obtain ⟨t0, t1, t2, t3, t4, t5, t6, t7, t8, tl⟩ := HX.out.keep HK.out) | (go_at_call 137; refine (iSub _ _ _).mono ?_; rintro e w1 ⟨rfl, hb1⟩; have J0 := hid_of (HPO.out.keep (by first | exact hb1 | exact (Below.drew (Below.refl _ _)).trans hb1)); clear HPO; have HPO := J0; clear J0; have JK : Hid (Below W2.heap.size W2 w1) := (by first | exact HK.out.trans (hb1.mono HK.out.size) | exact HK.out.drew.trans (hb1.mono HK.out.drew.size)); clear HK; have HK := JK; clear JK hb1; obtain ⟨t0, t1, t2, t3, t4, t5, t6, t7, t8, tl⟩ := HX.out.keep HK.out) | (go_at_call 112; refine (iLess _ _ _ _).mono ?_; rintro e w1 ⟨rfl, hb1⟩; have J0 := hid_of (HPO.out.keep (by first | exact hb1 | exact (Below.drew (Below.refl _ _)).trans hb1)); clear HPO; have HPO := J0; clear J0; have JK : Hid (Below W2.heap.size W2 w1) := (by first | exact HK.out.trans (hb1.mono HK.out.size) | exact HK.out.drew.trans (hb1.mono HK.out.drew.size)); clear HK; have HK := JK; clear JK hb1; obtain ⟨t0, t1, t2, t3, t4, t5, t6, t7, t8, tl⟩ := HX.out.keep HK.out) | (go_at_call 135; refine (iLoad o r a x n fr ss sl sc pb rm b _ _ (by omega) _ (by first | exact HC.out.keep HK.out | exact HC.out.keep HK.out.drew)).mono ?_; rintro e w1 ⟨rfl, hb1⟩; have J0 := hid_of (HPO.out.keep (by first | exact hb1 | exact (Below.drew (Below.refl _ _)).trans hb1)); clear HPO; have HPO := J0; clear J0; have JK : Hid (Below W2.heap.size W2 w1) := (by first | exact HK.out.trans (hb1.mono HK.out.size) | exact HK.out.drew.trans (hb1.mono HK.out.drew.size)); clear HK; have HK := JK; clear JK hb1; obtain ⟨t0, t1, t2, t3, t4, t5, t6, t7, t8, tl⟩ := HX.out.keep HK.out) | (go_at_call 118; refine (iStore o r a x n fr ss sl sc pb rm b _ _ (by omega) _ (by first | exact HC.out.keep HK.out | exact HC.out.keep HK.out.drew)).mono ?_; rintro e w1 ⟨rfl, hb1⟩; have J0 := hid_of (HPO.out.keep (by first | exact hb1 | exact (Below.drew (Below.refl _ _)).trans hb1)); clear HPO; have HPO := J0; clear J0; have JK : Hid (Below W2.heap.size W2 w1) := (by first | exact HK.out.trans (hb1.mono HK.out.size) | exact HK.out.drew.trans (hb1.mono HK.out.drew.size)); clear HK; have HK := JK; clear JK hb1; obtain ⟨t0, t1, t2, t3, t4, t5, t6, t7, t8, tl⟩ := HX.out.keep HK.out) | (go_at_call 140; refine (iLoadN o r a x n fr ss sl sc pb rm b _  _ (by first | exact HC.out.keep HK.out | exact HC.out.keep HK.out.drew)).mono ?_; rintro e w1 ⟨rfl, hb1⟩; have J0 := hid_of (HPO.out.keep (by first | exact hb1 | exact (Below.drew (Below.refl _ _)).trans hb1)); clear HPO; have HPO := J0; clear J0; have JK : Hid (Below W2.heap.size W2 w1) := (by first | exact HK.out.trans (hb1.mono HK.out.size) | exact HK.out.drew.trans (hb1.mono HK.out.drew.size)); clear HK; have HK := JK; clear JK hb1; obtain ⟨t0, t1, t2, t3, t4, t5, t6, t7, t8, tl⟩ := HX.out.keep HK.out) | (go_at_call 138; refine (iStoreN o r a x n fr ss sl sc pb rm b _  _ (by first | exact HC.out.keep HK.out | exact HC.out.keep HK.out.drew)).mono ?_; rintro e w1 ⟨rfl, hb1⟩; have J0 := hid_of (HPO.out.keep (by first | exact hb1 | exact (Below.drew (Below.refl _ _)).trans hb1)); clear HPO; have HPO := J0; clear J0; have JK : Hid (Below W2.heap.size W2 w1) := (by first | exact HK.out.trans (hb1.mono HK.out.size) | exact HK.out.drew.trans (hb1.mono HK.out.drew.size)); clear HK; have HK := JK; clear JK hb1; obtain ⟨t0, t1, t2, t3, t4, t5, t6, t7, t8, tl⟩ := HX.out.keep HK.out) | (go_at_call 139; refine calls_new ([⟨1, x, 0, 0, 1⟩, ⟨10, 0, 0, 0, -1⟩]) W2.heap.size 2 rfl rfl (by omega) HK.out.size ?_; intro Wn hon hbn hzn; have hbk : Below W2.heap.size W2 Wn := HK.out.trans (hbn.mono HK.out.size); refine (iLetThen o r a x n fr ss sl sc pb rm b _ 2 _ _ ([⟨1, x, 0, 0, 1⟩, ⟨10, 0, 0, 0, -1⟩]) _ (HC.out.keep hbk) hon (by omega) (by omega) 4 rfl).mono ?_; rintro e w1 ⟨g1, c1, rfl, ho1, hb1⟩; have HG := hid_of ho1; clear ho1; have J0 := hid_of ((HPO.out.keep hbn).keep hb1); clear HPO; have HPO := J0; clear J0; have JK : Hid (Below W2.heap.size W2 w1) := hbk.trans (hb1.mono hbk.size); clear HK; have HK := JK; clear JK hb1 hbk hon hbn hzn; obtain ⟨t0, t1, t2, t3, t4, t5, t6, t7, t8, tl⟩ := HX.out.keep HK.out) | (refine step5 rfl _ _ rfl w1 W2.heap.size (.slice (some ⟨gHPO, 0, none⟩) 2 2) (keepR b) rfl HPO.out _ g1 4 c1 (letR b ++ [⟨1, x, 0, 0, 1⟩, ⟨10, 0, 0, 0, -1⟩]) rfl HG.out rfl (by omega) (by first | exact Nat.le_of_ble_eq_true rfl | decide) 6 rfl HK.out.size ?_; intro gHQ cHQ WQ ho2 hb2; have JK : Hid (Below W2.heap.size W2 WQ) := HK.out.trans hb2; clear HK; have HK := JK; clear JK; have HQ := hid_of ho2; clear ho2 hb2; obtain ⟨t0, t1, t2, t3, t4, t5, t6, t7, t8, tl⟩ := HX.out.keep HK.out))
  have HQ2 := hid_of (Row5.of HQ.out)
  clear HQ
  go_wp2_with fail
  have hbn : Below W2.heap.size W2 WQ := HK.out
  have JX := hid_of (HX.out.keep hbn)
  have JC := hid_of (HC.out.keep hbn)
  have JW : Hid (Below w.heap.size w WQ) := HW.out.trans (hbn.mono HW.out.size)
  have JHSS := hid_of (HSS.out.keep hbn)
  have JHOO := hid_of (HOO.out.keep hbn)
  have JHRR := hid_of (HRR.out.keep hbn)
  clear HX HC HW HK HSS HOO HRR
  clear t0 t1 t2 t3 t4 t5 t6 t7 t8
  have HX := JX
  clear JX
  have HC := JC
  clear JC
  have HW := JW
  clear JW
  have HSS := JHSS
  clear JHSS
  have HOO := JHOO
  clear JHOO
  have HRR := JHRR
  clear JHRR
  have HK : Hid (Below WQ.heap.size WQ WQ) := Below.refl _ _
  obtain ⟨t0, t1, t2, t3, t4, t5, t6, t7, t8, tl⟩ := HX.out
  clear hbn
  go_wp2_with (first | (go_at_call 111; refine (iSet _ _ _).mono ?_; rintro e w1 ⟨rfl, hb1⟩; have JK : Hid (Below WQ.heap.size WQ w1) := (by first | exact HK.out.trans (hb1.mono HK.out.size) | exact HK.out.drew.trans (hb1.mono HK.out.drew.size)); clear HK; have HK := JK; clear JK hb1; obtain ⟨t0, t1, t2, t3, t4, t5, t6, t7, t8, tl⟩ := HX.out.keep HK.out) | (go_at_call 123; refine (iZero _ _ _).mono ?_; rintro e w1 ⟨rfl, hb1⟩; have JK : Hid (Below WQ.heap.size WQ w1) := (by first | exact HK.out.trans (hb1.mono HK.out.size) | exact HK.out.drew.trans (hb1.mono HK.out.drew.size)); clear HK; have HK := JK; clear JK hb1; obtain ⟨t0, t1, t2, t3, t4, t5, t6, t7, t8, tl⟩ := HX.out.keep HK.out) | (go_at_call 114; refine (iJump _ _).mono ?_; rintro e w1 ⟨rfl, hb1⟩; have JK : Hid (Below WQ.heap.size WQ w1) := (by first | exact HK.out.trans (hb1.mono HK.out.size) | exact HK.out.drew.trans (hb1.mono HK.out.drew.size)); clear HK; have HK := JK; clear JK hb1; obtain ⟨t0, t1, t2, t3, t4, t5, t6, t7, t8, tl⟩ := HX.out.keep HK.out) | (go_at_call 136; refine (iAdd _ _ _).mono ?_; rintro e w1 ⟨rfl, hb1⟩; have JK : Hid (Below WQ.heap.size WQ w1) := (by first | exact HK.out.trans (hb1.mono HK.out.size) | exact HK.out.drew.trans (hb1.mono HK.out.drew.size)); clear HK; have HK := JK; clear JK hb1; obtain ⟨t0, t1, t2, t3, t4, t5, t6, t7, t8, tl⟩ := HX.out.keep HK.out) | (go_at_call 137; refine (iSub _ _ _).mono ?_; rintro e w1 ⟨rfl, hb1⟩; have JK : Hid (Below WQ.heap.size WQ w1) := (by first | exact HK.out.trans (hb1.mono HK.out.size) | exact HK.out.drew.trans (hb1.mono HK.out.drew.size)); clear HK; have HK := JK; clear JK hb1; obtain ⟨t0, t1, t2, t3, t4, t5, t6, t7, t8, tl⟩ := HX.out.keep HK.out) | (go_at_call 112; refine (iLess _ _ _ _).mono ?_; rintro e w1 ⟨rfl, hb1⟩; have JK : Hid (Below WQ.heap.size WQ w1) := (by first | exact HK.out.trans (hb1.mono HK.out.size) | exact HK.out.drew.trans (hb1.mono HK.out.drew.size)); clear HK; have HK := JK; clear JK hb1; obtain ⟨t0, t1, t2, t3, t4, t5, t6, t7, t8, tl⟩ := HX.out.keep HK.out) | (go_at_call 135; refine (iLoad o r a x n fr ss sl sc pb rm b _ _ (by omega) _ (by first | exact HC.out.keep HK.out | exact HC.out.keep HK.out.drew)).mono ?_; rintro e w1 ⟨rfl, hb1⟩; have JK : Hid (Below WQ.heap.size WQ w1) := (by first | exact HK.out.trans (hb1.mono HK.out.size) | exact HK.out.drew.trans (hb1.mono HK.out.drew.size)); clear HK; have HK := JK; clear JK hb1; obtain ⟨t0, t1, t2, t3, t4, t5, t6, t7, t8, tl⟩ := HX.out.keep HK.out) | (go_at_call 118; refine (iStore o r a x n fr ss sl sc pb rm b _ _ (by omega) _ (by first | exact HC.out.keep HK.out | exact HC.out.keep HK.out.drew)).mono ?_; rintro e w1 ⟨rfl, hb1⟩; have JK : Hid (Below WQ.heap.size WQ w1) := (by first | exact HK.out.trans (hb1.mono HK.out.size) | exact HK.out.drew.trans (hb1.mono HK.out.drew.size)); clear HK; have HK := JK; clear JK hb1; obtain ⟨t0, t1, t2, t3, t4, t5, t6, t7, t8, tl⟩ := HX.out.keep HK.out) | (go_at_call 140; refine (iLoadN o r a x n fr ss sl sc pb rm b _  _ (by first | exact HC.out.keep HK.out | exact HC.out.keep HK.out.drew)).mono ?_; rintro e w1 ⟨rfl, hb1⟩; have JK : Hid (Below WQ.heap.size WQ w1) := (by first | exact HK.out.trans (hb1.mono HK.out.size) | exact HK.out.drew.trans (hb1.mono HK.out.drew.size)); clear HK; have HK := JK; clear JK hb1; obtain ⟨t0, t1, t2, t3, t4, t5, t6, t7, t8, tl⟩ := HX.out.keep HK.out) | (go_at_call 138; refine (iStoreN o r a x n fr ss sl sc pb rm b _  _ (by first | exact HC.out.keep HK.out | exact HC.out.keep HK.out.drew)).mono ?_; rintro e w1 ⟨rfl, hb1⟩; have JK : Hid (Below WQ.heap.size WQ w1) := (by first | exact HK.out.trans (hb1.mono HK.out.size) | exact HK.out.drew.trans (hb1.mono HK.out.drew.size)); clear HK; have HK := JK; clear JK hb1; obtain ⟨t0, t1, t2, t3, t4, t5, t6, t7, t8, tl⟩ := HX.out.keep HK.out))
  first | refine name5 (P := Exit.then _ _ _ _) (noneR b) WQ.heap.size 1 rfl rfl (by omega) HK.out.size ?_ | refine name5 (P := Code.wp _ _ _ _) (noneR b) WQ.heap.size 1 rfl rfl (by omega) HK.out.size ?_
  intro W4 ho hb hz
  obtain ⟨gHNO, hg⟩ : ∃ g, w1.heap.size = g := ⟨_, rfl⟩
  rw [hg] at ho ⊢
  obtain ⟨cHNO, hc⟩ : ∃ c : Nat, c = 1 := ⟨_, rfl⟩
  clear hg hz hc
  have HNO := hid_of ho
  have JK : Hid (Below WQ.heap.size WQ W4) := HK.out.trans (hb.mono HK.out.size)
  clear HK ho hb
  have HK := JK
  clear JK
  obtain ⟨t0, t1, t2, t3, t4, t5, t6, t7, t8, tl⟩ := HX.out.keep HK.out
  go_region_held3 (fun w' => w'.cell? ⟨w.heap.size, 0, none⟩ = some (.int .i64 o) ∧ w'.cell? ⟨w.heap.size, 1, none⟩ = some (.int .i64 r) ∧ w'.cell? ⟨w.heap.size, 2, none⟩ = some (.int .i64 a) ∧ w'.cell? ⟨w.heap.size, 3, none⟩ = some (.int .i64 x) ∧ w'.cell? ⟨w.heap.size, 4, none⟩ = some (.int .i64 n) ∧ w'.cell? ⟨w.heap.size, 5, none⟩ = some (.int .i64 fr) ∧ w'.cell? ⟨w.heap.size, 6, none⟩ = some (.slice ss sl sc) ∧ w'.cell? ⟨w.heap.size, 7, none⟩ = some (.func (.func 99) #[] #[.pointer (some ⟨pb, 0, none⟩)]) ∧ w'.cell? ⟨w.heap.size, 8, none⟩ = some (.int .i64 rm)) (go_keep) (first | (go_at_call 111; refine (iSet _ _ _).mono ?_; rintro e w1 ⟨rfl, hb1⟩; have J0 := hid_of (HNO.out.keep (by first | exact hb1 | exact (Below.drew (Below.refl _ _)).trans hb1)); clear HNO; have HNO := J0; clear J0; have JK : Hid (Below WQ.heap.size WQ w1) := (by first | exact HK.out.trans (hb1.mono HK.out.size) | exact HK.out.drew.trans (hb1.mono HK.out.drew.size)); clear HK; have HK := JK; clear JK hb1; obtain ⟨t0, t1, t2, t3, t4, t5, t6, t7, t8, tl⟩ := HX.out.keep HK.out) | (go_at_call 123; refine (iZero _ _ _).mono ?_; rintro e w1 ⟨rfl, hb1⟩; have J0 := hid_of (HNO.out.keep (by first | exact hb1 | exact (Below.drew (Below.refl _ _)).trans hb1)); clear HNO; have HNO := J0; clear J0; have JK : Hid (Below WQ.heap.size WQ w1) := (by first | exact HK.out.trans (hb1.mono HK.out.size) | exact HK.out.drew.trans (hb1.mono HK.out.drew.size)); clear HK; have HK := JK; clear JK hb1; obtain ⟨t0, t1, t2, t3, t4, t5, t6, t7, t8, tl⟩ := HX.out.keep HK.out) | (go_at_call 114; refine (iJump _ _).mono ?_; rintro e w1 ⟨rfl, hb1⟩; have J0 := hid_of (HNO.out.keep (by first | exact hb1 | exact (Below.drew (Below.refl _ _)).trans hb1)); clear HNO; have HNO := J0; clear J0; have JK : Hid (Below WQ.heap.size WQ w1) := (by first | exact HK.out.trans (hb1.mono HK.out.size) | exact HK.out.drew.trans (hb1.mono HK.out.drew.size)); clear HK; have HK := JK; clear JK hb1; obtain ⟨t0, t1, t2, t3, t4, t5, t6, t7, t8, tl⟩ := HX.out.keep HK.out) | (go_at_call 136; refine (iAdd _ _ _).mono ?_; rintro e w1 ⟨rfl, hb1⟩; have J0 := hid_of (HNO.out.keep (by first | exact hb1 | exact (Below.drew (Below.refl _ _)).trans hb1)); clear HNO; have HNO := J0; clear J0; have JK : Hid (Below WQ.heap.size WQ w1) := (by first | exact HK.out.trans (hb1.mono HK.out.size) | exact HK.out.drew.trans (hb1.mono HK.out.drew.size)); clear HK; have HK := JK; clear JK hb1; obtain ⟨t0, t1, t2, t3, t4, t5, t6, t7, t8, tl⟩ := HX.out.keep HK.out) | (go_at_call 137; refine (iSub _ _ _).mono ?_; rintro e w1 ⟨rfl, hb1⟩; have J0 := hid_of (HNO.out.keep (by first | exact hb1 | exact (Below.drew (Below.refl _ _)).trans hb1)); clear HNO; have HNO := J0; clear J0; have JK : Hid (Below WQ.heap.size WQ w1) := (by first | exact HK.out.trans (hb1.mono HK.out.size) | exact HK.out.drew.trans (hb1.mono HK.out.drew.size)); clear HK; have HK := JK; clear JK hb1; obtain ⟨t0, t1, t2, t3, t4, t5, t6, t7, t8, tl⟩ := HX.out.keep HK.out) | (go_at_call 112; refine (iLess _ _ _ _).mono ?_; rintro e w1 ⟨rfl, hb1⟩; have J0 := hid_of (HNO.out.keep (by first | exact hb1 | exact (Below.drew (Below.refl _ _)).trans hb1)); clear HNO; have HNO := J0; clear J0; have JK : Hid (Below WQ.heap.size WQ w1) := (by first | exact HK.out.trans (hb1.mono HK.out.size) | exact HK.out.drew.trans (hb1.mono HK.out.drew.size)); clear HK; have HK := JK; clear JK hb1; obtain ⟨t0, t1, t2, t3, t4, t5, t6, t7, t8, tl⟩ := HX.out.keep HK.out) | (go_at_call 135; refine (iLoad o r a x n fr ss sl sc pb rm b _ _ (by omega) _ (by first | exact HC.out.keep HK.out | exact HC.out.keep HK.out.drew)).mono ?_; rintro e w1 ⟨rfl, hb1⟩; have J0 := hid_of (HNO.out.keep (by first | exact hb1 | exact (Below.drew (Below.refl _ _)).trans hb1)); clear HNO; have HNO := J0; clear J0; have JK : Hid (Below WQ.heap.size WQ w1) := (by first | exact HK.out.trans (hb1.mono HK.out.size) | exact HK.out.drew.trans (hb1.mono HK.out.drew.size)); clear HK; have HK := JK; clear JK hb1; obtain ⟨t0, t1, t2, t3, t4, t5, t6, t7, t8, tl⟩ := HX.out.keep HK.out) | (go_at_call 118; refine (iStore o r a x n fr ss sl sc pb rm b _ _ (by omega) _ (by first | exact HC.out.keep HK.out | exact HC.out.keep HK.out.drew)).mono ?_; rintro e w1 ⟨rfl, hb1⟩; have J0 := hid_of (HNO.out.keep (by first | exact hb1 | exact (Below.drew (Below.refl _ _)).trans hb1)); clear HNO; have HNO := J0; clear J0; have JK : Hid (Below WQ.heap.size WQ w1) := (by first | exact HK.out.trans (hb1.mono HK.out.size) | exact HK.out.drew.trans (hb1.mono HK.out.drew.size)); clear HK; have HK := JK; clear JK hb1; obtain ⟨t0, t1, t2, t3, t4, t5, t6, t7, t8, tl⟩ := HX.out.keep HK.out) | (go_at_call 140; refine (iLoadN o r a x n fr ss sl sc pb rm b _  _ (by first | exact HC.out.keep HK.out | exact HC.out.keep HK.out.drew)).mono ?_; rintro e w1 ⟨rfl, hb1⟩; have J0 := hid_of (HNO.out.keep (by first | exact hb1 | exact (Below.drew (Below.refl _ _)).trans hb1)); clear HNO; have HNO := J0; clear J0; have JK : Hid (Below WQ.heap.size WQ w1) := (by first | exact HK.out.trans (hb1.mono HK.out.size) | exact HK.out.drew.trans (hb1.mono HK.out.drew.size)); clear HK; have HK := JK; clear JK hb1; obtain ⟨t0, t1, t2, t3, t4, t5, t6, t7, t8, tl⟩ := HX.out.keep HK.out) | (go_at_call 138; refine (iStoreN o r a x n fr ss sl sc pb rm b _  _ (by first | exact HC.out.keep HK.out | exact HC.out.keep HK.out.drew)).mono ?_; rintro e w1 ⟨rfl, hb1⟩; have J0 := hid_of (HNO.out.keep (by first | exact hb1 | exact (Below.drew (Below.refl _ _)).trans hb1)); clear HNO; have HNO := J0; clear J0; have JK : Hid (Below WQ.heap.size WQ w1) := (by first | exact HK.out.trans (hb1.mono HK.out.size) | exact HK.out.drew.trans (hb1.mono HK.out.drew.size)); clear HK; have HK := JK; clear JK hb1; obtain ⟨t0, t1, t2, t3, t4, t5, t6, t7, t8, tl⟩ := HX.out.keep HK.out) | (go_at_call 139; refine calls_new ([⟨11, 0, 4, 0, 5⟩]) WQ.heap.size 1 rfl rfl (by omega) HK.out.size ?_; intro Wn hon hbn hzn; have hbk : Below WQ.heap.size WQ Wn := HK.out.trans (hbn.mono HK.out.size); refine (iLetThen o r a x n fr ss sl sc pb rm b _ 1 _ _ ([⟨11, 0, 4, 0, 5⟩]) _ (HC.out.keep hbk) hon (by omega) (by omega) 3 rfl).mono ?_; rintro e w1 ⟨g1, c1, rfl, ho1, hb1⟩; have HG := hid_of ho1; clear ho1; have J0 := hid_of ((HNO.out.keep hbn).keep hb1); clear HNO; have HNO := J0; clear J0; have JK : Hid (Below WQ.heap.size WQ w1) := hbk.trans (hb1.mono hbk.size); clear HK; have HK := JK; clear JK hb1 hbk hon hbn hzn; obtain ⟨t0, t1, t2, t3, t4, t5, t6, t7, t8, tl⟩ := HX.out.keep HK.out) | (refine step5 rfl _ _ rfl w1 WQ.heap.size (.slice (some ⟨gHNO, 0, none⟩) 1 1) (noneR b) rfl HNO.out _ g1 3 c1 (letR b ++ [⟨11, 0, 4, 0, 5⟩]) rfl HG.out rfl (by omega) (by first | exact Nat.le_of_ble_eq_true rfl | decide) 4 rfl HK.out.size ?_; intro gHM cHM WM ho2 hb2; have JK : Hid (Below WQ.heap.size WQ WM) := HK.out.trans hb2; clear HK; have HK := JK; clear JK; have HM := hid_of ho2; clear ho2 hb2; obtain ⟨t0, t1, t2, t3, t4, t5, t6, t7, t8, tl⟩ := HX.out.keep HK.out))
  go_wp2_with (first | (go_at_call 117; refine (iCame o r a x n fr ss sl sc pb rm b 0 0 _ (by first | exact HC.out.keep HK.out | exact HC.out.keep HK.out.drew)).mono ?_; rintro e w1 ⟨g1, c1, rfl, ho1, hb1⟩; have HG := hid_of ho1; clear ho1; have J0 := hid_of (HM.out.keep hb1); clear HM; have HM := J0; clear J0; have JK : Hid (Below WQ.heap.size WQ w1) := (by first | exact HK.out.trans (hb1.mono HK.out.size) | exact HK.out.drew.trans (hb1.mono HK.out.drew.size)); clear HK; have HK := JK; clear JK hb1; obtain ⟨t0, t1, t2, t3, t4, t5, t6, t7, t8, tl⟩ := HX.out.keep HK.out) | (at_builtin; refine app5 rfl _ _ rfl w1 WQ.heap.size (.slice (some ⟨gHM, 0, none⟩) 4 cHM) (noneR b ++ (letR b ++ [⟨11, 0, 4, 0, 5⟩])) rfl HM.out _ g1 3 c1 (cameR r x 0 0) rfl HG.out rfl (by omega) (by first | exact Nat.le_of_ble_eq_true rfl | decide) 7 rfl HK.out.size ?_; intro gN cN WN ho2 hb2; have JK : Hid (Below WQ.heap.size WQ WN) := HK.out.trans hb2; clear HK; have HK := JK; clear JK; have HN := hid_of (Row5.of ho2); clear ho2 hb2; obtain ⟨t0, t1, t2, t3, t4, t5, t6, t7, t8, tl⟩ := HX.out.keep HK.out) | (go_at_call 119; refine (iUnder o r a x n fr ss sl sc pb rm b WN.heap.size 5 [⟨gHOO, 11, takenR b r rm⟩, ⟨gHRR, 1, roundT⟩, ⟨gHQ, cHQ, keepT b x⟩, ⟨gN, cN, noneT b r x 0⟩, ⟨gs, cs, [⟨10, 0, 0, 0, 0⟩]⟩] _ ((HC.out.keep HK.out).keep ((Below.refl _ _).alloc (Nat.le_refl _) _)) (parts_new WN _ _ rfl (fun y hy => by simp only [List.mem_cons, List.not_mem_nil, or_false] at hy; rcases hy with rfl | rfl | rfl | rfl | rfl; (exact (HOO.out.keep HK.out)); (exact (HRR.out.keep HK.out)); (exact (HQ2.out.keep HK.out)); (exact HN.out); (exact (HSS.out.keep HK.out)))) (by first | exact Nat.le_of_ble_eq_true rfl | decide) (by first | exact Nat.le_of_ble_eq_true rfl | decide) (by first | exact Nat.le_of_ble_eq_true rfl | decide) (jOk_of (fun y hy => by simp only [List.mem_cons, List.not_mem_nil, or_false] at hy; rcases hy with rfl | rfl | rfl | rfl | rfl <;> simp [jOk, isJ, letR, takenR, roundT, keepT, keepR, noneT, noneR, cameR])) 30 rfl).mono ?_; rintro e w5 ⟨g5, c5, rfl, ho5, hb5⟩; have hb6 : Below WN.heap.size WN w5 := ((Below.refl _ _).alloc (Nat.le_refl _) _).trans (hb5.mono (by simp)); have HO5 := hid_of ho5; have JK : Hid (Below WQ.heap.size WQ w5) := HK.out.trans (hb6.mono HK.out.size); clear ho5 hb5 hb6))
  go_ret
  have hz1 := HW.out.size
  have hz2 := HK.out.size
  exact ⟨_, _, rfl, HO5.out.low (by simp; omega), HW.out.trans (JK.out.mono hz1)⟩
set_option maxHeartbeats 8000000 in
theorem iTake2 (o r a x n fr : Int) (ss : Option Addr) (sl sc pb : Nat) (rm b : Int) (gs cs bs : Nat) (w : World) (h : CBx w pb b) (hs : OwnT5 w bs (.slice (some ⟨gs, 0, none⟩) 3 cs) (cameR r x 0 0)) : Calls Tryz.prog 115 #[.agg #[.int .i64 o, .int .i64 r, .int .i64 a, .int .i64 x, .int .i64 n, .int .i64 fr, .slice ss sl sc, .func (.func 99) #[] #[.pointer (some ⟨pb, 0, none⟩)], .int .i64 rm], .int .i64 2, .slice (some ⟨gs, 0, none⟩) 3 cs] w fun e w' => ∃ g c, e = .returned (.slice (some ⟨g, 0, none⟩) 32 c) ∧ OwnT5 w' w.heap.size (.slice (some ⟨g, 0, none⟩) 32 c) (togL fr [lockR b, takenR b r rm, roundT, keepT b x, noneT b r x 2, cameR r x 0 0] [lockR b, takenR b r rm, roundT, keepT b x, noneT b r x 2, cameR r x 0 0]) ∧ Below w.heap.size w w' := by
  have H0S := hid_of hs
  clear hs
  obtain ⟨W, hW, hx, hb, hz⟩ := SX.new w (.int .i64 o) (.int .i64 r) (.int .i64 a) (.int .i64 x) (.int .i64 n) (.int .i64 fr) (.slice ss sl sc) (.func (.func 99) #[] #[.pointer (some ⟨pb, 0, none⟩)]) (.int .i64 rm) 91
  have HC : Hid (CBx W pb b) := h.keep hb
  have HX := hid_of hx
  have HW : Hid (Below w.heap.size w W) := hb
  have HK : Hid (Below W.heap.size W W) := Below.refl _ _
  clear h hx hb
  obtain ⟨t0, t1, t2, t3, t4, t5, t6, t7, t8, tl⟩ := HX.out
  have HSS := hid_of (Row5.of (H0S.out.keep HW.out))
  clear H0S
  go_enter Tryz.func115, Tryz.ntmps115
  go_wp2
  go_region_held3 (fun w' => w'.cell? ⟨w.heap.size, 0, none⟩ = some (.int .i64 o) ∧ w'.cell? ⟨w.heap.size, 1, none⟩ = some (.int .i64 r) ∧ w'.cell? ⟨w.heap.size, 2, none⟩ = some (.int .i64 a) ∧ w'.cell? ⟨w.heap.size, 3, none⟩ = some (.int .i64 x) ∧ w'.cell? ⟨w.heap.size, 4, none⟩ = some (.int .i64 n) ∧ w'.cell? ⟨w.heap.size, 5, none⟩ = some (.int .i64 fr) ∧ w'.cell? ⟨w.heap.size, 6, none⟩ = some (.slice ss sl sc) ∧ w'.cell? ⟨w.heap.size, 7, none⟩ = some (.func (.func 99) #[] #[.pointer (some ⟨pb, 0, none⟩)]) ∧ w'.cell? ⟨w.heap.size, 8, none⟩ = some (.int .i64 rm)) (go_keep) (first | (go_at_call 111; refine (iSet _ _ _).mono ?_; rintro e w1 ⟨rfl, hb1⟩; have JK : Hid (Below W.heap.size W w1) := (by first | exact HK.out.trans (hb1.mono HK.out.size) | exact HK.out.drew.trans (hb1.mono HK.out.drew.size)); clear HK; have HK := JK; clear JK hb1; obtain ⟨t0, t1, t2, t3, t4, t5, t6, t7, t8, tl⟩ := HX.out.keep HK.out) | (go_at_call 123; refine (iZero _ _ _).mono ?_; rintro e w1 ⟨rfl, hb1⟩; have JK : Hid (Below W.heap.size W w1) := (by first | exact HK.out.trans (hb1.mono HK.out.size) | exact HK.out.drew.trans (hb1.mono HK.out.drew.size)); clear HK; have HK := JK; clear JK hb1; obtain ⟨t0, t1, t2, t3, t4, t5, t6, t7, t8, tl⟩ := HX.out.keep HK.out) | (go_at_call 114; refine (iJump _ _).mono ?_; rintro e w1 ⟨rfl, hb1⟩; have JK : Hid (Below W.heap.size W w1) := (by first | exact HK.out.trans (hb1.mono HK.out.size) | exact HK.out.drew.trans (hb1.mono HK.out.drew.size)); clear HK; have HK := JK; clear JK hb1; obtain ⟨t0, t1, t2, t3, t4, t5, t6, t7, t8, tl⟩ := HX.out.keep HK.out) | (go_at_call 136; refine (iAdd _ _ _).mono ?_; rintro e w1 ⟨rfl, hb1⟩; have JK : Hid (Below W.heap.size W w1) := (by first | exact HK.out.trans (hb1.mono HK.out.size) | exact HK.out.drew.trans (hb1.mono HK.out.drew.size)); clear HK; have HK := JK; clear JK hb1; obtain ⟨t0, t1, t2, t3, t4, t5, t6, t7, t8, tl⟩ := HX.out.keep HK.out) | (go_at_call 137; refine (iSub _ _ _).mono ?_; rintro e w1 ⟨rfl, hb1⟩; have JK : Hid (Below W.heap.size W w1) := (by first | exact HK.out.trans (hb1.mono HK.out.size) | exact HK.out.drew.trans (hb1.mono HK.out.drew.size)); clear HK; have HK := JK; clear JK hb1; obtain ⟨t0, t1, t2, t3, t4, t5, t6, t7, t8, tl⟩ := HX.out.keep HK.out) | (go_at_call 112; refine (iLess _ _ _ _).mono ?_; rintro e w1 ⟨rfl, hb1⟩; have JK : Hid (Below W.heap.size W w1) := (by first | exact HK.out.trans (hb1.mono HK.out.size) | exact HK.out.drew.trans (hb1.mono HK.out.drew.size)); clear HK; have HK := JK; clear JK hb1; obtain ⟨t0, t1, t2, t3, t4, t5, t6, t7, t8, tl⟩ := HX.out.keep HK.out) | (go_at_call 135; refine (iLoad o r a x n fr ss sl sc pb rm b _ _ (by omega) _ (by first | exact HC.out.keep HK.out | exact HC.out.keep HK.out.drew)).mono ?_; rintro e w1 ⟨rfl, hb1⟩; have JK : Hid (Below W.heap.size W w1) := (by first | exact HK.out.trans (hb1.mono HK.out.size) | exact HK.out.drew.trans (hb1.mono HK.out.drew.size)); clear HK; have HK := JK; clear JK hb1; obtain ⟨t0, t1, t2, t3, t4, t5, t6, t7, t8, tl⟩ := HX.out.keep HK.out) | (go_at_call 118; refine (iStore o r a x n fr ss sl sc pb rm b _ _ (by omega) _ (by first | exact HC.out.keep HK.out | exact HC.out.keep HK.out.drew)).mono ?_; rintro e w1 ⟨rfl, hb1⟩; have JK : Hid (Below W.heap.size W w1) := (by first | exact HK.out.trans (hb1.mono HK.out.size) | exact HK.out.drew.trans (hb1.mono HK.out.drew.size)); clear HK; have HK := JK; clear JK hb1; obtain ⟨t0, t1, t2, t3, t4, t5, t6, t7, t8, tl⟩ := HX.out.keep HK.out) | (go_at_call 140; refine (iLoadN o r a x n fr ss sl sc pb rm b _  _ (by first | exact HC.out.keep HK.out | exact HC.out.keep HK.out.drew)).mono ?_; rintro e w1 ⟨rfl, hb1⟩; have JK : Hid (Below W.heap.size W w1) := (by first | exact HK.out.trans (hb1.mono HK.out.size) | exact HK.out.drew.trans (hb1.mono HK.out.drew.size)); clear HK; have HK := JK; clear JK hb1; obtain ⟨t0, t1, t2, t3, t4, t5, t6, t7, t8, tl⟩ := HX.out.keep HK.out) | (go_at_call 138; refine (iStoreN o r a x n fr ss sl sc pb rm b _  _ (by first | exact HC.out.keep HK.out | exact HC.out.keep HK.out.drew)).mono ?_; rintro e w1 ⟨rfl, hb1⟩; have JK : Hid (Below W.heap.size W w1) := (by first | exact HK.out.trans (hb1.mono HK.out.size) | exact HK.out.drew.trans (hb1.mono HK.out.drew.size)); clear HK; have HK := JK; clear JK hb1; obtain ⟨t0, t1, t2, t3, t4, t5, t6, t7, t8, tl⟩ := HX.out.keep HK.out))
  first | refine name5 (P := Exit.then _ _ _ _) (takenR b r rm) W.heap.size 11 rfl rfl (by omega) HK.out.size ?_ | refine name5 (P := Code.wp _ _ _ _) (takenR b r rm) W.heap.size 11 rfl rfl (by omega) HK.out.size ?_
  intro W1 ho hb hz
  obtain ⟨gHOO, hg⟩ : ∃ g, w1.heap.size = g := ⟨_, rfl⟩
  rw [hg] at ho ⊢
  clear hg hz
  have hbn : Below W.heap.size W W1 := (HK.out.trans (hb.mono HK.out.size))
  have JX := hid_of (HX.out.keep hbn)
  have JC := hid_of (HC.out.keep hbn)
  have JW : Hid (Below w.heap.size w W1) := HW.out.trans (hbn.mono HW.out.size)
  have JHSS := hid_of (HSS.out.keep hbn)
  have HOO := hid_of (Row5.of ho)
  clear HX HC HW HK HSS
  clear t0 t1 t2 t3 t4 t5 t6 t7 t8
  have HX := JX
  clear JX
  have HC := JC
  clear JC
  have HW := JW
  clear JW
  have HSS := JHSS
  clear JHSS
  have HK : Hid (Below W1.heap.size W1 W1) := Below.refl _ _
  obtain ⟨t0, t1, t2, t3, t4, t5, t6, t7, t8, tl⟩ := HX.out
  clear hbn
  clear ho hb
  go_wp2_with fail
  go_wp2_with (first | (go_at_call 111; refine (iSet _ _ _).mono ?_; rintro e w1 ⟨rfl, hb1⟩; have JK : Hid (Below W1.heap.size W1 w1) := (by first | exact HK.out.trans (hb1.mono HK.out.size) | exact HK.out.drew.trans (hb1.mono HK.out.drew.size)); clear HK; have HK := JK; clear JK hb1; obtain ⟨t0, t1, t2, t3, t4, t5, t6, t7, t8, tl⟩ := HX.out.keep HK.out) | (go_at_call 123; refine (iZero _ _ _).mono ?_; rintro e w1 ⟨rfl, hb1⟩; have JK : Hid (Below W1.heap.size W1 w1) := (by first | exact HK.out.trans (hb1.mono HK.out.size) | exact HK.out.drew.trans (hb1.mono HK.out.drew.size)); clear HK; have HK := JK; clear JK hb1; obtain ⟨t0, t1, t2, t3, t4, t5, t6, t7, t8, tl⟩ := HX.out.keep HK.out) | (go_at_call 114; refine (iJump _ _).mono ?_; rintro e w1 ⟨rfl, hb1⟩; have JK : Hid (Below W1.heap.size W1 w1) := (by first | exact HK.out.trans (hb1.mono HK.out.size) | exact HK.out.drew.trans (hb1.mono HK.out.drew.size)); clear HK; have HK := JK; clear JK hb1; obtain ⟨t0, t1, t2, t3, t4, t5, t6, t7, t8, tl⟩ := HX.out.keep HK.out) | (go_at_call 136; refine (iAdd _ _ _).mono ?_; rintro e w1 ⟨rfl, hb1⟩; have JK : Hid (Below W1.heap.size W1 w1) := (by first | exact HK.out.trans (hb1.mono HK.out.size) | exact HK.out.drew.trans (hb1.mono HK.out.drew.size)); clear HK; have HK := JK; clear JK hb1; obtain ⟨t0, t1, t2, t3, t4, t5, t6, t7, t8, tl⟩ := HX.out.keep HK.out) | (go_at_call 137; refine (iSub _ _ _).mono ?_; rintro e w1 ⟨rfl, hb1⟩; have JK : Hid (Below W1.heap.size W1 w1) := (by first | exact HK.out.trans (hb1.mono HK.out.size) | exact HK.out.drew.trans (hb1.mono HK.out.drew.size)); clear HK; have HK := JK; clear JK hb1; obtain ⟨t0, t1, t2, t3, t4, t5, t6, t7, t8, tl⟩ := HX.out.keep HK.out) | (go_at_call 112; refine (iLess _ _ _ _).mono ?_; rintro e w1 ⟨rfl, hb1⟩; have JK : Hid (Below W1.heap.size W1 w1) := (by first | exact HK.out.trans (hb1.mono HK.out.size) | exact HK.out.drew.trans (hb1.mono HK.out.drew.size)); clear HK; have HK := JK; clear JK hb1; obtain ⟨t0, t1, t2, t3, t4, t5, t6, t7, t8, tl⟩ := HX.out.keep HK.out) | (go_at_call 135; refine (iLoad o r a x n fr ss sl sc pb rm b _ _ (by omega) _ (by first | exact HC.out.keep HK.out | exact HC.out.keep HK.out.drew)).mono ?_; rintro e w1 ⟨rfl, hb1⟩; have JK : Hid (Below W1.heap.size W1 w1) := (by first | exact HK.out.trans (hb1.mono HK.out.size) | exact HK.out.drew.trans (hb1.mono HK.out.drew.size)); clear HK; have HK := JK; clear JK hb1; obtain ⟨t0, t1, t2, t3, t4, t5, t6, t7, t8, tl⟩ := HX.out.keep HK.out) | (go_at_call 118; refine (iStore o r a x n fr ss sl sc pb rm b _ _ (by omega) _ (by first | exact HC.out.keep HK.out | exact HC.out.keep HK.out.drew)).mono ?_; rintro e w1 ⟨rfl, hb1⟩; have JK : Hid (Below W1.heap.size W1 w1) := (by first | exact HK.out.trans (hb1.mono HK.out.size) | exact HK.out.drew.trans (hb1.mono HK.out.drew.size)); clear HK; have HK := JK; clear JK hb1; obtain ⟨t0, t1, t2, t3, t4, t5, t6, t7, t8, tl⟩ := HX.out.keep HK.out) | (go_at_call 140; refine (iLoadN o r a x n fr ss sl sc pb rm b _  _ (by first | exact HC.out.keep HK.out | exact HC.out.keep HK.out.drew)).mono ?_; rintro e w1 ⟨rfl, hb1⟩; have JK : Hid (Below W1.heap.size W1 w1) := (by first | exact HK.out.trans (hb1.mono HK.out.size) | exact HK.out.drew.trans (hb1.mono HK.out.drew.size)); clear HK; have HK := JK; clear JK hb1; obtain ⟨t0, t1, t2, t3, t4, t5, t6, t7, t8, tl⟩ := HX.out.keep HK.out) | (go_at_call 138; refine (iStoreN o r a x n fr ss sl sc pb rm b _  _ (by first | exact HC.out.keep HK.out | exact HC.out.keep HK.out.drew)).mono ?_; rintro e w1 ⟨rfl, hb1⟩; have JK : Hid (Below W1.heap.size W1 w1) := (by first | exact HK.out.trans (hb1.mono HK.out.size) | exact HK.out.drew.trans (hb1.mono HK.out.drew.size)); clear HK; have HK := JK; clear JK hb1; obtain ⟨t0, t1, t2, t3, t4, t5, t6, t7, t8, tl⟩ := HX.out.keep HK.out))
  first | refine name5 (P := Exit.then _ _ _ _) (roundT) W1.heap.size 1 rfl rfl (by omega) HK.out.size ?_ | refine name5 (P := Code.wp _ _ _ _) (roundT) W1.heap.size 1 rfl rfl (by omega) HK.out.size ?_
  intro W2 ho hb hz
  obtain ⟨gHRR, hg⟩ : ∃ g, w1.heap.size = g := ⟨_, rfl⟩
  rw [hg] at ho ⊢
  clear hg hz
  have hbn : Below W1.heap.size W1 W2 := (HK.out.trans (hb.mono HK.out.size))
  have JX := hid_of (HX.out.keep hbn)
  have JC := hid_of (HC.out.keep hbn)
  have JW : Hid (Below w.heap.size w W2) := HW.out.trans (hbn.mono HW.out.size)
  have JHSS := hid_of (HSS.out.keep hbn)
  have JHOO := hid_of (HOO.out.keep hbn)
  have HRR := hid_of (Row5.of ho)
  clear HX HC HW HK HSS HOO
  clear t0 t1 t2 t3 t4 t5 t6 t7 t8
  have HX := JX
  clear JX
  have HC := JC
  clear JC
  have HW := JW
  clear JW
  have HSS := JHSS
  clear JHSS
  have HOO := JHOO
  clear JHOO
  have HK : Hid (Below W2.heap.size W2 W2) := Below.refl _ _
  obtain ⟨t0, t1, t2, t3, t4, t5, t6, t7, t8, tl⟩ := HX.out
  clear hbn
  clear ho hb
  go_region_held3 (fun w' => w'.cell? ⟨w.heap.size, 0, none⟩ = some (.int .i64 o) ∧ w'.cell? ⟨w.heap.size, 1, none⟩ = some (.int .i64 r) ∧ w'.cell? ⟨w.heap.size, 2, none⟩ = some (.int .i64 a) ∧ w'.cell? ⟨w.heap.size, 3, none⟩ = some (.int .i64 x) ∧ w'.cell? ⟨w.heap.size, 4, none⟩ = some (.int .i64 n) ∧ w'.cell? ⟨w.heap.size, 5, none⟩ = some (.int .i64 fr) ∧ w'.cell? ⟨w.heap.size, 6, none⟩ = some (.slice ss sl sc) ∧ w'.cell? ⟨w.heap.size, 7, none⟩ = some (.func (.func 99) #[] #[.pointer (some ⟨pb, 0, none⟩)]) ∧ w'.cell? ⟨w.heap.size, 8, none⟩ = some (.int .i64 rm)) (go_keep) (first | (go_at_call 111; refine (iSet _ _ _).mono ?_; rintro e w1 ⟨rfl, hb1⟩; have JK : Hid (Below W2.heap.size W2 w1) := (by first | exact HK.out.trans (hb1.mono HK.out.size) | exact HK.out.drew.trans (hb1.mono HK.out.drew.size)); clear HK; have HK := JK; clear JK hb1; obtain ⟨t0, t1, t2, t3, t4, t5, t6, t7, t8, tl⟩ := HX.out.keep HK.out) | (go_at_call 123; refine (iZero _ _ _).mono ?_; rintro e w1 ⟨rfl, hb1⟩; have JK : Hid (Below W2.heap.size W2 w1) := (by first | exact HK.out.trans (hb1.mono HK.out.size) | exact HK.out.drew.trans (hb1.mono HK.out.drew.size)); clear HK; have HK := JK; clear JK hb1; obtain ⟨t0, t1, t2, t3, t4, t5, t6, t7, t8, tl⟩ := HX.out.keep HK.out) | (go_at_call 114; refine (iJump _ _).mono ?_; rintro e w1 ⟨rfl, hb1⟩; have JK : Hid (Below W2.heap.size W2 w1) := (by first | exact HK.out.trans (hb1.mono HK.out.size) | exact HK.out.drew.trans (hb1.mono HK.out.drew.size)); clear HK; have HK := JK; clear JK hb1; obtain ⟨t0, t1, t2, t3, t4, t5, t6, t7, t8, tl⟩ := HX.out.keep HK.out) | (go_at_call 136; refine (iAdd _ _ _).mono ?_; rintro e w1 ⟨rfl, hb1⟩; have JK : Hid (Below W2.heap.size W2 w1) := (by first | exact HK.out.trans (hb1.mono HK.out.size) | exact HK.out.drew.trans (hb1.mono HK.out.drew.size)); clear HK; have HK := JK; clear JK hb1; obtain ⟨t0, t1, t2, t3, t4, t5, t6, t7, t8, tl⟩ := HX.out.keep HK.out) | (go_at_call 137; refine (iSub _ _ _).mono ?_; rintro e w1 ⟨rfl, hb1⟩; have JK : Hid (Below W2.heap.size W2 w1) := (by first | exact HK.out.trans (hb1.mono HK.out.size) | exact HK.out.drew.trans (hb1.mono HK.out.drew.size)); clear HK; have HK := JK; clear JK hb1; obtain ⟨t0, t1, t2, t3, t4, t5, t6, t7, t8, tl⟩ := HX.out.keep HK.out) | (go_at_call 112; refine (iLess _ _ _ _).mono ?_; rintro e w1 ⟨rfl, hb1⟩; have JK : Hid (Below W2.heap.size W2 w1) := (by first | exact HK.out.trans (hb1.mono HK.out.size) | exact HK.out.drew.trans (hb1.mono HK.out.drew.size)); clear HK; have HK := JK; clear JK hb1; obtain ⟨t0, t1, t2, t3, t4, t5, t6, t7, t8, tl⟩ := HX.out.keep HK.out) | (go_at_call 135; refine (iLoad o r a x n fr ss sl sc pb rm b _ _ (by omega) _ (by first | exact HC.out.keep HK.out | exact HC.out.keep HK.out.drew)).mono ?_; rintro e w1 ⟨rfl, hb1⟩; have JK : Hid (Below W2.heap.size W2 w1) := (by first | exact HK.out.trans (hb1.mono HK.out.size) | exact HK.out.drew.trans (hb1.mono HK.out.drew.size)); clear HK; have HK := JK; clear JK hb1; obtain ⟨t0, t1, t2, t3, t4, t5, t6, t7, t8, tl⟩ := HX.out.keep HK.out) | (go_at_call 118; refine (iStore o r a x n fr ss sl sc pb rm b _ _ (by omega) _ (by first | exact HC.out.keep HK.out | exact HC.out.keep HK.out.drew)).mono ?_; rintro e w1 ⟨rfl, hb1⟩; have JK : Hid (Below W2.heap.size W2 w1) := (by first | exact HK.out.trans (hb1.mono HK.out.size) | exact HK.out.drew.trans (hb1.mono HK.out.drew.size)); clear HK; have HK := JK; clear JK hb1; obtain ⟨t0, t1, t2, t3, t4, t5, t6, t7, t8, tl⟩ := HX.out.keep HK.out) | (go_at_call 140; refine (iLoadN o r a x n fr ss sl sc pb rm b _  _ (by first | exact HC.out.keep HK.out | exact HC.out.keep HK.out.drew)).mono ?_; rintro e w1 ⟨rfl, hb1⟩; have JK : Hid (Below W2.heap.size W2 w1) := (by first | exact HK.out.trans (hb1.mono HK.out.size) | exact HK.out.drew.trans (hb1.mono HK.out.drew.size)); clear HK; have HK := JK; clear JK hb1; obtain ⟨t0, t1, t2, t3, t4, t5, t6, t7, t8, tl⟩ := HX.out.keep HK.out) | (go_at_call 138; refine (iStoreN o r a x n fr ss sl sc pb rm b _  _ (by first | exact HC.out.keep HK.out | exact HC.out.keep HK.out.drew)).mono ?_; rintro e w1 ⟨rfl, hb1⟩; have JK : Hid (Below W2.heap.size W2 w1) := (by first | exact HK.out.trans (hb1.mono HK.out.size) | exact HK.out.drew.trans (hb1.mono HK.out.drew.size)); clear HK; have HK := JK; clear JK hb1; obtain ⟨t0, t1, t2, t3, t4, t5, t6, t7, t8, tl⟩ := HX.out.keep HK.out))
  first | refine name5 (P := Exit.then _ _ _ _) (keepR b) W2.heap.size 2 rfl rfl (by omega) HK.out.size ?_ | refine name5 (P := Code.wp _ _ _ _) (keepR b) W2.heap.size 2 rfl rfl (by omega) HK.out.size ?_
  intro W3 ho hb hz
  obtain ⟨gHPO, hg⟩ : ∃ g, w1.heap.size = g := ⟨_, rfl⟩
  rw [hg] at ho ⊢
  obtain ⟨cHPO, hc⟩ : ∃ c : Nat, c = 2 := ⟨_, rfl⟩
  clear hg hz hc
  have HPO := hid_of ho
  have JK : Hid (Below W2.heap.size W2 W3) := HK.out.trans (hb.mono HK.out.size)
  clear HK ho hb
  have HK := JK
  clear JK
  obtain ⟨t0, t1, t2, t3, t4, t5, t6, t7, t8, tl⟩ := HX.out.keep HK.out
  go_wp2_with fail
  go_region_held3 (fun w' => w'.cell? ⟨w.heap.size, 0, none⟩ = some (.int .i64 o) ∧ w'.cell? ⟨w.heap.size, 1, none⟩ = some (.int .i64 r) ∧ w'.cell? ⟨w.heap.size, 2, none⟩ = some (.int .i64 a) ∧ w'.cell? ⟨w.heap.size, 3, none⟩ = some (.int .i64 x) ∧ w'.cell? ⟨w.heap.size, 4, none⟩ = some (.int .i64 n) ∧ w'.cell? ⟨w.heap.size, 5, none⟩ = some (.int .i64 fr) ∧ w'.cell? ⟨w.heap.size, 6, none⟩ = some (.slice ss sl sc) ∧ w'.cell? ⟨w.heap.size, 7, none⟩ = some (.func (.func 99) #[] #[.pointer (some ⟨pb, 0, none⟩)]) ∧ w'.cell? ⟨w.heap.size, 8, none⟩ = some (.int .i64 rm)) (go_keep) (first | (go_at_call 111; refine (iSet _ _ _).mono ?_; rintro e w1 ⟨rfl, hb1⟩; have J0 := hid_of (HPO.out.keep (by first | exact hb1 | exact (Below.drew (Below.refl _ _)).trans hb1)); clear HPO; have HPO := J0; clear J0; have JK : Hid (Below W2.heap.size W2 w1) := (by first | exact HK.out.trans (hb1.mono HK.out.size) | exact HK.out.drew.trans (hb1.mono HK.out.drew.size)); clear HK; have HK := JK; clear JK hb1; obtain ⟨t0, t1, t2, t3, t4, t5, t6, t7, t8, tl⟩ := HX.out.keep HK.out) | (go_at_call 123; refine (iZero _ _ _).mono ?_; rintro e w1 ⟨rfl, hb1⟩; have J0 := hid_of (HPO.out.keep (by first | exact hb1 | exact (Below.drew (Below.refl _ _)).trans hb1)); clear HPO; have HPO := J0; clear J0; have JK : Hid (Below W2.heap.size W2 w1) := (by first | exact HK.out.trans (hb1.mono HK.out.size) | exact HK.out.drew.trans (hb1.mono HK.out.drew.size)); clear HK; have HK := JK; clear JK hb1; obtain ⟨t0, t1, t2, t3, t4, t5, t6, t7, t8, tl⟩ := HX.out.keep HK.out) | (go_at_call 114; refine (iJump _ _).mono ?_; rintro e w1 ⟨rfl, hb1⟩; have J0 := hid_of (HPO.out.keep (by first | exact hb1 | exact (Below.drew (Below.refl _ _)).trans hb1)); clear HPO; have HPO := J0; clear J0; have JK : Hid (Below W2.heap.size W2 w1) := (by first | exact HK.out.trans (hb1.mono HK.out.size) | exact HK.out.drew.trans (hb1.mono HK.out.drew.size)); clear HK; have HK := JK; clear JK hb1; obtain ⟨t0, t1, t2, t3, t4, t5, t6, t7, t8, tl⟩ := HX.out.keep HK.out) | (go_at_call 136; refine (iAdd _ _ _).mono ?_; rintro e w1 ⟨rfl, hb1⟩; have J0 := hid_of (HPO.out.keep (by first | exact hb1 | exact (Below.drew (Below.refl _ _)).trans hb1)); clear HPO; have HPO := J0; clear J0; have JK : Hid (Below W2.heap.size W2 w1) := (by first | exact HK.out.trans (hb1.mono HK.out.size) | exact HK.out.drew.trans (hb1.mono HK.out.drew.size)); clear HK; have HK := JK; clear JK hb1; obtain ⟨t0, t1, t2, t3, t4, t5, t6, t7, t8, tl⟩ := HX.out.keep HK.out) | (go_at_call 137; refine (iSub _ _ _).mono ?_; rintro e w1 ⟨rfl, hb1⟩; have J0 := hid_of (HPO.out.keep (by first | exact hb1 | exact (Below.drew (Below.refl _ _)).trans hb1)); clear HPO; have HPO := J0; clear J0; have JK : Hid (Below W2.heap.size W2 w1) := (by first | exact HK.out.trans (hb1.mono HK.out.size) | exact HK.out.drew.trans (hb1.mono HK.out.drew.size)); clear HK; have HK := JK; clear JK hb1; obtain ⟨t0, t1, t2, t3, t4, t5, t6, t7, t8, tl⟩ := HX.out.keep HK.out) | (go_at_call 112; refine (iLess _ _ _ _).mono ?_; rintro e w1 ⟨rfl, hb1⟩; have J0 := hid_of (HPO.out.keep (by first | exact hb1 | exact (Below.drew (Below.refl _ _)).trans hb1)); clear HPO; have HPO := J0; clear J0; have JK : Hid (Below W2.heap.size W2 w1) := (by first | exact HK.out.trans (hb1.mono HK.out.size) | exact HK.out.drew.trans (hb1.mono HK.out.drew.size)); clear HK; have HK := JK; clear JK hb1; obtain ⟨t0, t1, t2, t3, t4, t5, t6, t7, t8, tl⟩ := HX.out.keep HK.out) | (go_at_call 135; refine (iLoad o r a x n fr ss sl sc pb rm b _ _ (by omega) _ (by first | exact HC.out.keep HK.out | exact HC.out.keep HK.out.drew)).mono ?_; rintro e w1 ⟨rfl, hb1⟩; have J0 := hid_of (HPO.out.keep (by first | exact hb1 | exact (Below.drew (Below.refl _ _)).trans hb1)); clear HPO; have HPO := J0; clear J0; have JK : Hid (Below W2.heap.size W2 w1) := (by first | exact HK.out.trans (hb1.mono HK.out.size) | exact HK.out.drew.trans (hb1.mono HK.out.drew.size)); clear HK; have HK := JK; clear JK hb1; obtain ⟨t0, t1, t2, t3, t4, t5, t6, t7, t8, tl⟩ := HX.out.keep HK.out) | (go_at_call 118; refine (iStore o r a x n fr ss sl sc pb rm b _ _ (by omega) _ (by first | exact HC.out.keep HK.out | exact HC.out.keep HK.out.drew)).mono ?_; rintro e w1 ⟨rfl, hb1⟩; have J0 := hid_of (HPO.out.keep (by first | exact hb1 | exact (Below.drew (Below.refl _ _)).trans hb1)); clear HPO; have HPO := J0; clear J0; have JK : Hid (Below W2.heap.size W2 w1) := (by first | exact HK.out.trans (hb1.mono HK.out.size) | exact HK.out.drew.trans (hb1.mono HK.out.drew.size)); clear HK; have HK := JK; clear JK hb1; obtain ⟨t0, t1, t2, t3, t4, t5, t6, t7, t8, tl⟩ := HX.out.keep HK.out) | (go_at_call 140; refine (iLoadN o r a x n fr ss sl sc pb rm b _  _ (by first | exact HC.out.keep HK.out | exact HC.out.keep HK.out.drew)).mono ?_; rintro e w1 ⟨rfl, hb1⟩; have J0 := hid_of (HPO.out.keep (by first | exact hb1 | exact (Below.drew (Below.refl _ _)).trans hb1)); clear HPO; have HPO := J0; clear J0; have JK : Hid (Below W2.heap.size W2 w1) := (by first | exact HK.out.trans (hb1.mono HK.out.size) | exact HK.out.drew.trans (hb1.mono HK.out.drew.size)); clear HK; have HK := JK; clear JK hb1; obtain ⟨t0, t1, t2, t3, t4, t5, t6, t7, t8, tl⟩ := HX.out.keep HK.out) | (go_at_call 138; refine (iStoreN o r a x n fr ss sl sc pb rm b _  _ (by first | exact HC.out.keep HK.out | exact HC.out.keep HK.out.drew)).mono ?_; rintro e w1 ⟨rfl, hb1⟩; have J0 := hid_of (HPO.out.keep (by first | exact hb1 | exact (Below.drew (Below.refl _ _)).trans hb1)); clear HPO; have HPO := J0; clear J0; have JK : Hid (Below W2.heap.size W2 w1) := (by first | exact HK.out.trans (hb1.mono HK.out.size) | exact HK.out.drew.trans (hb1.mono HK.out.drew.size)); clear HK; have HK := JK; clear JK hb1; obtain ⟨t0, t1, t2, t3, t4, t5, t6, t7, t8, tl⟩ := HX.out.keep HK.out) | (go_at_call 139; refine calls_new ([⟨1, x, 0, 0, 1⟩, ⟨10, 0, 0, 0, -1⟩]) W2.heap.size 2 rfl rfl (by omega) HK.out.size ?_; intro Wn hon hbn hzn; have hbk : Below W2.heap.size W2 Wn := HK.out.trans (hbn.mono HK.out.size); refine (iLetThen o r a x n fr ss sl sc pb rm b _ 2 _ _ ([⟨1, x, 0, 0, 1⟩, ⟨10, 0, 0, 0, -1⟩]) _ (HC.out.keep hbk) hon (by omega) (by omega) 4 rfl).mono ?_; rintro e w1 ⟨g1, c1, rfl, ho1, hb1⟩; have HG := hid_of ho1; clear ho1; have J0 := hid_of ((HPO.out.keep hbn).keep hb1); clear HPO; have HPO := J0; clear J0; have JK : Hid (Below W2.heap.size W2 w1) := hbk.trans (hb1.mono hbk.size); clear HK; have HK := JK; clear JK hb1 hbk hon hbn hzn; obtain ⟨t0, t1, t2, t3, t4, t5, t6, t7, t8, tl⟩ := HX.out.keep HK.out) | (refine step5 rfl _ _ rfl w1 W2.heap.size (.slice (some ⟨gHPO, 0, none⟩) 2 2) (keepR b) rfl HPO.out _ g1 4 c1 (letR b ++ [⟨1, x, 0, 0, 1⟩, ⟨10, 0, 0, 0, -1⟩]) rfl HG.out rfl (by omega) (by first | exact Nat.le_of_ble_eq_true rfl | decide) 6 rfl HK.out.size ?_; intro gHQ cHQ WQ ho2 hb2; have JK : Hid (Below W2.heap.size W2 WQ) := HK.out.trans hb2; clear HK; have HK := JK; clear JK; have HQ := hid_of ho2; clear ho2 hb2; obtain ⟨t0, t1, t2, t3, t4, t5, t6, t7, t8, tl⟩ := HX.out.keep HK.out))
  have HQ2 := hid_of (Row5.of HQ.out)
  clear HQ
  go_wp2_with fail
  have hbn : Below W2.heap.size W2 WQ := HK.out
  have JX := hid_of (HX.out.keep hbn)
  have JC := hid_of (HC.out.keep hbn)
  have JW : Hid (Below w.heap.size w WQ) := HW.out.trans (hbn.mono HW.out.size)
  have JHSS := hid_of (HSS.out.keep hbn)
  have JHOO := hid_of (HOO.out.keep hbn)
  have JHRR := hid_of (HRR.out.keep hbn)
  clear HX HC HW HK HSS HOO HRR
  clear t0 t1 t2 t3 t4 t5 t6 t7 t8
  have HX := JX
  clear JX
  have HC := JC
  clear JC
  have HW := JW
  clear JW
  have HSS := JHSS
  clear JHSS
  have HOO := JHOO
  clear JHOO
  have HRR := JHRR
  clear JHRR
  have HK : Hid (Below WQ.heap.size WQ WQ) := Below.refl _ _
  obtain ⟨t0, t1, t2, t3, t4, t5, t6, t7, t8, tl⟩ := HX.out
  clear hbn
  go_wp2_with (first | (go_at_call 111; refine (iSet _ _ _).mono ?_; rintro e w1 ⟨rfl, hb1⟩; have JK : Hid (Below WQ.heap.size WQ w1) := (by first | exact HK.out.trans (hb1.mono HK.out.size) | exact HK.out.drew.trans (hb1.mono HK.out.drew.size)); clear HK; have HK := JK; clear JK hb1; obtain ⟨t0, t1, t2, t3, t4, t5, t6, t7, t8, tl⟩ := HX.out.keep HK.out) | (go_at_call 123; refine (iZero _ _ _).mono ?_; rintro e w1 ⟨rfl, hb1⟩; have JK : Hid (Below WQ.heap.size WQ w1) := (by first | exact HK.out.trans (hb1.mono HK.out.size) | exact HK.out.drew.trans (hb1.mono HK.out.drew.size)); clear HK; have HK := JK; clear JK hb1; obtain ⟨t0, t1, t2, t3, t4, t5, t6, t7, t8, tl⟩ := HX.out.keep HK.out) | (go_at_call 114; refine (iJump _ _).mono ?_; rintro e w1 ⟨rfl, hb1⟩; have JK : Hid (Below WQ.heap.size WQ w1) := (by first | exact HK.out.trans (hb1.mono HK.out.size) | exact HK.out.drew.trans (hb1.mono HK.out.drew.size)); clear HK; have HK := JK; clear JK hb1; obtain ⟨t0, t1, t2, t3, t4, t5, t6, t7, t8, tl⟩ := HX.out.keep HK.out) | (go_at_call 136; refine (iAdd _ _ _).mono ?_; rintro e w1 ⟨rfl, hb1⟩; have JK : Hid (Below WQ.heap.size WQ w1) := (by first | exact HK.out.trans (hb1.mono HK.out.size) | exact HK.out.drew.trans (hb1.mono HK.out.drew.size)); clear HK; have HK := JK; clear JK hb1; obtain ⟨t0, t1, t2, t3, t4, t5, t6, t7, t8, tl⟩ := HX.out.keep HK.out) | (go_at_call 137; refine (iSub _ _ _).mono ?_; rintro e w1 ⟨rfl, hb1⟩; have JK : Hid (Below WQ.heap.size WQ w1) := (by first | exact HK.out.trans (hb1.mono HK.out.size) | exact HK.out.drew.trans (hb1.mono HK.out.drew.size)); clear HK; have HK := JK; clear JK hb1; obtain ⟨t0, t1, t2, t3, t4, t5, t6, t7, t8, tl⟩ := HX.out.keep HK.out) | (go_at_call 112; refine (iLess _ _ _ _).mono ?_; rintro e w1 ⟨rfl, hb1⟩; have JK : Hid (Below WQ.heap.size WQ w1) := (by first | exact HK.out.trans (hb1.mono HK.out.size) | exact HK.out.drew.trans (hb1.mono HK.out.drew.size)); clear HK; have HK := JK; clear JK hb1; obtain ⟨t0, t1, t2, t3, t4, t5, t6, t7, t8, tl⟩ := HX.out.keep HK.out) | (go_at_call 135; refine (iLoad o r a x n fr ss sl sc pb rm b _ _ (by omega) _ (by first | exact HC.out.keep HK.out | exact HC.out.keep HK.out.drew)).mono ?_; rintro e w1 ⟨rfl, hb1⟩; have JK : Hid (Below WQ.heap.size WQ w1) := (by first | exact HK.out.trans (hb1.mono HK.out.size) | exact HK.out.drew.trans (hb1.mono HK.out.drew.size)); clear HK; have HK := JK; clear JK hb1; obtain ⟨t0, t1, t2, t3, t4, t5, t6, t7, t8, tl⟩ := HX.out.keep HK.out) | (go_at_call 118; refine (iStore o r a x n fr ss sl sc pb rm b _ _ (by omega) _ (by first | exact HC.out.keep HK.out | exact HC.out.keep HK.out.drew)).mono ?_; rintro e w1 ⟨rfl, hb1⟩; have JK : Hid (Below WQ.heap.size WQ w1) := (by first | exact HK.out.trans (hb1.mono HK.out.size) | exact HK.out.drew.trans (hb1.mono HK.out.drew.size)); clear HK; have HK := JK; clear JK hb1; obtain ⟨t0, t1, t2, t3, t4, t5, t6, t7, t8, tl⟩ := HX.out.keep HK.out) | (go_at_call 140; refine (iLoadN o r a x n fr ss sl sc pb rm b _  _ (by first | exact HC.out.keep HK.out | exact HC.out.keep HK.out.drew)).mono ?_; rintro e w1 ⟨rfl, hb1⟩; have JK : Hid (Below WQ.heap.size WQ w1) := (by first | exact HK.out.trans (hb1.mono HK.out.size) | exact HK.out.drew.trans (hb1.mono HK.out.drew.size)); clear HK; have HK := JK; clear JK hb1; obtain ⟨t0, t1, t2, t3, t4, t5, t6, t7, t8, tl⟩ := HX.out.keep HK.out) | (go_at_call 138; refine (iStoreN o r a x n fr ss sl sc pb rm b _  _ (by first | exact HC.out.keep HK.out | exact HC.out.keep HK.out.drew)).mono ?_; rintro e w1 ⟨rfl, hb1⟩; have JK : Hid (Below WQ.heap.size WQ w1) := (by first | exact HK.out.trans (hb1.mono HK.out.size) | exact HK.out.drew.trans (hb1.mono HK.out.drew.size)); clear HK; have HK := JK; clear JK hb1; obtain ⟨t0, t1, t2, t3, t4, t5, t6, t7, t8, tl⟩ := HX.out.keep HK.out))
  first | refine name5 (P := Exit.then _ _ _ _) (noneR b) WQ.heap.size 1 rfl rfl (by omega) HK.out.size ?_ | refine name5 (P := Code.wp _ _ _ _) (noneR b) WQ.heap.size 1 rfl rfl (by omega) HK.out.size ?_
  intro W4 ho hb hz
  obtain ⟨gHNO, hg⟩ : ∃ g, w1.heap.size = g := ⟨_, rfl⟩
  rw [hg] at ho ⊢
  obtain ⟨cHNO, hc⟩ : ∃ c : Nat, c = 1 := ⟨_, rfl⟩
  clear hg hz hc
  have HNO := hid_of ho
  have JK : Hid (Below WQ.heap.size WQ W4) := HK.out.trans (hb.mono HK.out.size)
  clear HK ho hb
  have HK := JK
  clear JK
  obtain ⟨t0, t1, t2, t3, t4, t5, t6, t7, t8, tl⟩ := HX.out.keep HK.out
  go_region_held3 (fun w' => w'.cell? ⟨w.heap.size, 0, none⟩ = some (.int .i64 o) ∧ w'.cell? ⟨w.heap.size, 1, none⟩ = some (.int .i64 r) ∧ w'.cell? ⟨w.heap.size, 2, none⟩ = some (.int .i64 a) ∧ w'.cell? ⟨w.heap.size, 3, none⟩ = some (.int .i64 x) ∧ w'.cell? ⟨w.heap.size, 4, none⟩ = some (.int .i64 n) ∧ w'.cell? ⟨w.heap.size, 5, none⟩ = some (.int .i64 fr) ∧ w'.cell? ⟨w.heap.size, 6, none⟩ = some (.slice ss sl sc) ∧ w'.cell? ⟨w.heap.size, 7, none⟩ = some (.func (.func 99) #[] #[.pointer (some ⟨pb, 0, none⟩)]) ∧ w'.cell? ⟨w.heap.size, 8, none⟩ = some (.int .i64 rm)) (go_keep) (first | (go_at_call 111; refine (iSet _ _ _).mono ?_; rintro e w1 ⟨rfl, hb1⟩; have J0 := hid_of (HNO.out.keep (by first | exact hb1 | exact (Below.drew (Below.refl _ _)).trans hb1)); clear HNO; have HNO := J0; clear J0; have JK : Hid (Below WQ.heap.size WQ w1) := (by first | exact HK.out.trans (hb1.mono HK.out.size) | exact HK.out.drew.trans (hb1.mono HK.out.drew.size)); clear HK; have HK := JK; clear JK hb1; obtain ⟨t0, t1, t2, t3, t4, t5, t6, t7, t8, tl⟩ := HX.out.keep HK.out) | (go_at_call 123; refine (iZero _ _ _).mono ?_; rintro e w1 ⟨rfl, hb1⟩; have J0 := hid_of (HNO.out.keep (by first | exact hb1 | exact (Below.drew (Below.refl _ _)).trans hb1)); clear HNO; have HNO := J0; clear J0; have JK : Hid (Below WQ.heap.size WQ w1) := (by first | exact HK.out.trans (hb1.mono HK.out.size) | exact HK.out.drew.trans (hb1.mono HK.out.drew.size)); clear HK; have HK := JK; clear JK hb1; obtain ⟨t0, t1, t2, t3, t4, t5, t6, t7, t8, tl⟩ := HX.out.keep HK.out) | (go_at_call 114; refine (iJump _ _).mono ?_; rintro e w1 ⟨rfl, hb1⟩; have J0 := hid_of (HNO.out.keep (by first | exact hb1 | exact (Below.drew (Below.refl _ _)).trans hb1)); clear HNO; have HNO := J0; clear J0; have JK : Hid (Below WQ.heap.size WQ w1) := (by first | exact HK.out.trans (hb1.mono HK.out.size) | exact HK.out.drew.trans (hb1.mono HK.out.drew.size)); clear HK; have HK := JK; clear JK hb1; obtain ⟨t0, t1, t2, t3, t4, t5, t6, t7, t8, tl⟩ := HX.out.keep HK.out) | (go_at_call 136; refine (iAdd _ _ _).mono ?_; rintro e w1 ⟨rfl, hb1⟩; have J0 := hid_of (HNO.out.keep (by first | exact hb1 | exact (Below.drew (Below.refl _ _)).trans hb1)); clear HNO; have HNO := J0; clear J0; have JK : Hid (Below WQ.heap.size WQ w1) := (by first | exact HK.out.trans (hb1.mono HK.out.size) | exact HK.out.drew.trans (hb1.mono HK.out.drew.size)); clear HK; have HK := JK; clear JK hb1; obtain ⟨t0, t1, t2, t3, t4, t5, t6, t7, t8, tl⟩ := HX.out.keep HK.out) | (go_at_call 137; refine (iSub _ _ _).mono ?_; rintro e w1 ⟨rfl, hb1⟩; have J0 := hid_of (HNO.out.keep (by first | exact hb1 | exact (Below.drew (Below.refl _ _)).trans hb1)); clear HNO; have HNO := J0; clear J0; have JK : Hid (Below WQ.heap.size WQ w1) := (by first | exact HK.out.trans (hb1.mono HK.out.size) | exact HK.out.drew.trans (hb1.mono HK.out.drew.size)); clear HK; have HK := JK; clear JK hb1; obtain ⟨t0, t1, t2, t3, t4, t5, t6, t7, t8, tl⟩ := HX.out.keep HK.out) | (go_at_call 112; refine (iLess _ _ _ _).mono ?_; rintro e w1 ⟨rfl, hb1⟩; have J0 := hid_of (HNO.out.keep (by first | exact hb1 | exact (Below.drew (Below.refl _ _)).trans hb1)); clear HNO; have HNO := J0; clear J0; have JK : Hid (Below WQ.heap.size WQ w1) := (by first | exact HK.out.trans (hb1.mono HK.out.size) | exact HK.out.drew.trans (hb1.mono HK.out.drew.size)); clear HK; have HK := JK; clear JK hb1; obtain ⟨t0, t1, t2, t3, t4, t5, t6, t7, t8, tl⟩ := HX.out.keep HK.out) | (go_at_call 135; refine (iLoad o r a x n fr ss sl sc pb rm b _ _ (by omega) _ (by first | exact HC.out.keep HK.out | exact HC.out.keep HK.out.drew)).mono ?_; rintro e w1 ⟨rfl, hb1⟩; have J0 := hid_of (HNO.out.keep (by first | exact hb1 | exact (Below.drew (Below.refl _ _)).trans hb1)); clear HNO; have HNO := J0; clear J0; have JK : Hid (Below WQ.heap.size WQ w1) := (by first | exact HK.out.trans (hb1.mono HK.out.size) | exact HK.out.drew.trans (hb1.mono HK.out.drew.size)); clear HK; have HK := JK; clear JK hb1; obtain ⟨t0, t1, t2, t3, t4, t5, t6, t7, t8, tl⟩ := HX.out.keep HK.out) | (go_at_call 118; refine (iStore o r a x n fr ss sl sc pb rm b _ _ (by omega) _ (by first | exact HC.out.keep HK.out | exact HC.out.keep HK.out.drew)).mono ?_; rintro e w1 ⟨rfl, hb1⟩; have J0 := hid_of (HNO.out.keep (by first | exact hb1 | exact (Below.drew (Below.refl _ _)).trans hb1)); clear HNO; have HNO := J0; clear J0; have JK : Hid (Below WQ.heap.size WQ w1) := (by first | exact HK.out.trans (hb1.mono HK.out.size) | exact HK.out.drew.trans (hb1.mono HK.out.drew.size)); clear HK; have HK := JK; clear JK hb1; obtain ⟨t0, t1, t2, t3, t4, t5, t6, t7, t8, tl⟩ := HX.out.keep HK.out) | (go_at_call 140; refine (iLoadN o r a x n fr ss sl sc pb rm b _  _ (by first | exact HC.out.keep HK.out | exact HC.out.keep HK.out.drew)).mono ?_; rintro e w1 ⟨rfl, hb1⟩; have J0 := hid_of (HNO.out.keep (by first | exact hb1 | exact (Below.drew (Below.refl _ _)).trans hb1)); clear HNO; have HNO := J0; clear J0; have JK : Hid (Below WQ.heap.size WQ w1) := (by first | exact HK.out.trans (hb1.mono HK.out.size) | exact HK.out.drew.trans (hb1.mono HK.out.drew.size)); clear HK; have HK := JK; clear JK hb1; obtain ⟨t0, t1, t2, t3, t4, t5, t6, t7, t8, tl⟩ := HX.out.keep HK.out) | (go_at_call 138; refine (iStoreN o r a x n fr ss sl sc pb rm b _  _ (by first | exact HC.out.keep HK.out | exact HC.out.keep HK.out.drew)).mono ?_; rintro e w1 ⟨rfl, hb1⟩; have J0 := hid_of (HNO.out.keep (by first | exact hb1 | exact (Below.drew (Below.refl _ _)).trans hb1)); clear HNO; have HNO := J0; clear J0; have JK : Hid (Below WQ.heap.size WQ w1) := (by first | exact HK.out.trans (hb1.mono HK.out.size) | exact HK.out.drew.trans (hb1.mono HK.out.drew.size)); clear HK; have HK := JK; clear JK hb1; obtain ⟨t0, t1, t2, t3, t4, t5, t6, t7, t8, tl⟩ := HX.out.keep HK.out) | (go_at_call 139; refine calls_new ([⟨11, 0, 4, 0, 5⟩]) WQ.heap.size 1 rfl rfl (by omega) HK.out.size ?_; intro Wn hon hbn hzn; have hbk : Below WQ.heap.size WQ Wn := HK.out.trans (hbn.mono HK.out.size); refine (iLetThen o r a x n fr ss sl sc pb rm b _ 1 _ _ ([⟨11, 0, 4, 0, 5⟩]) _ (HC.out.keep hbk) hon (by omega) (by omega) 3 rfl).mono ?_; rintro e w1 ⟨g1, c1, rfl, ho1, hb1⟩; have HG := hid_of ho1; clear ho1; have J0 := hid_of ((HNO.out.keep hbn).keep hb1); clear HNO; have HNO := J0; clear J0; have JK : Hid (Below WQ.heap.size WQ w1) := hbk.trans (hb1.mono hbk.size); clear HK; have HK := JK; clear JK hb1 hbk hon hbn hzn; obtain ⟨t0, t1, t2, t3, t4, t5, t6, t7, t8, tl⟩ := HX.out.keep HK.out) | (refine step5 rfl _ _ rfl w1 WQ.heap.size (.slice (some ⟨gHNO, 0, none⟩) 1 1) (noneR b) rfl HNO.out _ g1 3 c1 (letR b ++ [⟨11, 0, 4, 0, 5⟩]) rfl HG.out rfl (by omega) (by first | exact Nat.le_of_ble_eq_true rfl | decide) 4 rfl HK.out.size ?_; intro gHM cHM WM ho2 hb2; have JK : Hid (Below WQ.heap.size WQ WM) := HK.out.trans hb2; clear HK; have HK := JK; clear JK; have HM := hid_of ho2; clear ho2 hb2; obtain ⟨t0, t1, t2, t3, t4, t5, t6, t7, t8, tl⟩ := HX.out.keep HK.out))
  go_wp2_with (first | (go_at_call 117; refine (iCame o r a x n fr ss sl sc pb rm b 0 2 _ (by first | exact HC.out.keep HK.out | exact HC.out.keep HK.out.drew)).mono ?_; rintro e w1 ⟨g1, c1, rfl, ho1, hb1⟩; have HG := hid_of ho1; clear ho1; have J0 := hid_of (HM.out.keep hb1); clear HM; have HM := J0; clear J0; have JK : Hid (Below WQ.heap.size WQ w1) := (by first | exact HK.out.trans (hb1.mono HK.out.size) | exact HK.out.drew.trans (hb1.mono HK.out.drew.size)); clear HK; have HK := JK; clear JK hb1; obtain ⟨t0, t1, t2, t3, t4, t5, t6, t7, t8, tl⟩ := HX.out.keep HK.out) | (at_builtin; refine app5 rfl _ _ rfl w1 WQ.heap.size (.slice (some ⟨gHM, 0, none⟩) 4 cHM) (noneR b ++ (letR b ++ [⟨11, 0, 4, 0, 5⟩])) rfl HM.out _ g1 3 c1 (cameR r x 0 2) rfl HG.out rfl (by omega) (by first | exact Nat.le_of_ble_eq_true rfl | decide) 7 rfl HK.out.size ?_; intro gN cN WN ho2 hb2; have JK : Hid (Below WQ.heap.size WQ WN) := HK.out.trans hb2; clear HK; have HK := JK; clear JK; have HN := hid_of (Row5.of ho2); clear ho2 hb2; obtain ⟨t0, t1, t2, t3, t4, t5, t6, t7, t8, tl⟩ := HX.out.keep HK.out) | (go_at_call 119; refine (iUnder o r a x n fr ss sl sc pb rm b WN.heap.size 5 [⟨gHOO, 11, takenR b r rm⟩, ⟨gHRR, 1, roundT⟩, ⟨gHQ, cHQ, keepT b x⟩, ⟨gN, cN, noneT b r x 2⟩, ⟨gs, cs, cameR r x 0 0⟩] _ ((HC.out.keep HK.out).keep ((Below.refl _ _).alloc (Nat.le_refl _) _)) (parts_new WN _ _ rfl (fun y hy => by simp only [List.mem_cons, List.not_mem_nil, or_false] at hy; rcases hy with rfl | rfl | rfl | rfl | rfl; (exact (HOO.out.keep HK.out)); (exact (HRR.out.keep HK.out)); (exact (HQ2.out.keep HK.out)); (exact HN.out); (exact (HSS.out.keep HK.out)))) (by first | exact Nat.le_of_ble_eq_true rfl | decide) (by first | exact Nat.le_of_ble_eq_true rfl | decide) (by first | exact Nat.le_of_ble_eq_true rfl | decide) (jOk_of (fun y hy => by simp only [List.mem_cons, List.not_mem_nil, or_false] at hy; rcases hy with rfl | rfl | rfl | rfl | rfl <;> simp [jOk, isJ, letR, takenR, roundT, keepT, keepR, noneT, noneR, cameR])) 32 rfl).mono ?_; rintro e w5 ⟨g5, c5, rfl, ho5, hb5⟩; have hb6 : Below WN.heap.size WN w5 := ((Below.refl _ _).alloc (Nat.le_refl _) _).trans (hb5.mono (by simp)); have HO5 := hid_of ho5; have JK : Hid (Below WQ.heap.size WQ w5) := HK.out.trans (hb6.mono HK.out.size); clear ho5 hb5 hb6))
  go_ret
  have hz1 := HW.out.size
  have hz2 := HK.out.size
  exact ⟨_, _, rfl, HO5.out.low (by simp; omega), HW.out.trans (JK.out.mono hz1)⟩
end

section
set_option linter.unusedSimpArgs false
set_option linter.unusedVariables false
set_option maxRecDepth 100000
open Go.RowKit

theorem wp5f {o : Oper} {a : Act} {K : Act → World → Prop} {Q : Exit → Act → World → Prop} (s x : Operand) (ho : o.op = .call { callee := .builtin .append, args := #[s, x], argTypes := #[34, 34] })
    (w : World) (base : Nat) (v : Value) (L1 : List I5) (hs : a.eval s = v) (hown : OwnT5 w base v L1) (base2 g2 n2 c2 : Nat) (L2 : List I5) (hx : a.eval x = .slice (some ⟨g2, 0, none⟩) n2 c2) (h2 : OwnT5 w base2 (.slice (some ⟨g2, 0, none⟩) n2 c2) L2) (hl2 : L2.length = n2)
    (hl : 0 < n2) (hn : L1.length + n2 ≤ 1000) (N : Nat) (hN : L1.length + n2 = N) (hbase : base ≤ w.heap.size)
    (h : ∀ g c w', OwnT5 w' base (.slice (some ⟨g, 0, none⟩) N c) (L1 ++ L2) → Below base w w' → (∀ k, k < w.heap.size → v.ownBlock ≠ some k → w'.heap[k]? = w.heap[k]?) → K (a.put o.dst (.slice (some ⟨g, 0, none⟩) N c)) w') : Oper.wp Tryz.prog o a w K Q := by
  obtain ⟨i0, hi0, hz0, hz1, hz2⟩ := infoSt
  subst hN hl2
  refine wp_append_lies w s x 34 ho base 56 i0 _ 5 40 Tryz.underlying34 hi0 hz0 hz1 hz2 rfl (by decide) v L1.length _ hs hown ⟨g2, 0, none⟩ L2.length c2 ((fl5 L2).map (Value.int .i64)) hx (by rw [List.length_map, fl5_len]) (fun j u hj => ?_) (fun u hu => by obtain ⟨z, -, rfl⟩ := List.mem_map.1 hu; rfl) hl (by unfold maxLen; omega) (by omega) hbase _ rfl ?_
  · rw [List.getElem?_map] at hj
    obtain ⟨z, hz, rfl⟩ := Option.map_eq_some_iff.1 hj
    have ea : Addr.add ⟨g2, 0, none⟩ j = ⟨g2, j, none⟩ := by
      by_cases h : j = 0
      · subst h; rfl
      · simp [Addr.add, h]
    rw [ea]
    exact h2.cellAt hz
  intro g cap w' q1 q2 q3 q4
  refine h g cap w' ?_ (Below.grown (Below.refl _ _) q2 hbase (fun j hj => (World.ownsRow.lt hown _ hj).1)) (fun k hk hne => q2.block k hk (fun e => hne e.symm))
  show w'.ownsRow base 56 5 _ (L1 ++ L2).length ((fl5 (L1 ++ L2)).map (Value.int .i64))
  rw [fl5_app, List.map_append, List.length_append]
  exact q1
theorem step5f {ops : Array Oper} {o : Oper} {a : Act} {K : Act → World → Prop} {Q : Exit → Act → World → Prop} {E : Prop} (hgd : o.guard = none) (s x : Operand) (ho : o.op = .call { callee := .builtin .append, args := #[s, x], argTypes := #[34, 34] })
    (w : World) (base : Nat) (v : Value) (L1 : List I5) (hs : a.eval s = v) (hown : OwnT5 w base v L1) (base2 g2 n2 c2 : Nat) (L2 : List I5) (hx : a.eval x = .slice (some ⟨g2, 0, none⟩) n2 c2) (h2 : OwnT5 w base2 (.slice (some ⟨g2, 0, none⟩) n2 c2) L2) (hl2 : L2.length = n2)
    (hl : 0 < n2) (hn : L1.length + n2 ≤ 1000) (N : Nat) (hN : L1.length + n2 = N) (hbase : base ≤ w.heap.size)
    (h : ∀ g c w', OwnT5 w' base (.slice (some ⟨g, 0, none⟩) N c) (L1 ++ L2) → Below base w w' → (∀ k, k < w.heap.size → v.ownBlock ≠ some k → w'.heap[k]? = w.heap[k]?) → K (a.put o.dst (.slice (some ⟨g, 0, none⟩) N c)) w') : if Region.wanted o (yielded ops a.tmps) = true then Oper.wp Tryz.prog o a w K Q else E := by
  have hw : Region.wanted o (yielded ops a.tmps) = true := by simp [Region.wanted, hgd]
  rw [if_pos hw]
  exact wp5f s x ho w base v L1 hs hown base2 g2 n2 c2 L2 hx h2 hl2 hl hn N hN hbase h
theorem is_alloc {f : Nat} {args : Array Value} {w : World} {o : Obj} {post : Ending → World → Prop} (h : Calls Tryz.prog f args (w.alloc o) post) : Calls Tryz.prog f args (w.alloc o) post := h
theorem is_alloc2 {f : Nat} {args : Array Value} {w : World} {o o' : Obj} {post : Ending → World → Prop} (h : Calls Tryz.prog f args ((w.alloc o).alloc o') post) : Calls Tryz.prog f args ((w.alloc o).alloc o') post := h
theorem Row5.far {w w' : World} {x : RD} {g n c : Nat} (h : Row5 w x) (hg : x.g ≠ g) (hf : ∀ k, k < w.heap.size → (Value.slice (some ⟨g, 0, none⟩) n c).ownBlock ≠ some k → w'.heap[k]? = w.heap[k]?) : Row5 w' x := by
  obtain ⟨base, h⟩ := h.o
  exact ⟨base, ownKeep' h (fun k hk => hf k (World.ownsRow.lt h _ hk).2 (fun e => by
    injection hk with hk
    injection e with e
    have h1 : x.g = k := hk
    have h2 : g = k := e
    omega))⟩
set_option maxHeartbeats 8000000 in
theorem iTrySend (o r a x n fr : Int) (ss : Option Addr) (sl sc pb : Nat) (rm b : Int) (w : World) (h : CBx w pb b) : Calls Tryz.prog 89 #[.agg #[.int .i64 o, .int .i64 r, .int .i64 a, .int .i64 x, .int .i64 n, .int .i64 fr, .slice ss sl sc, .func (.func 99) #[] #[.pointer (some ⟨pb, 0, none⟩)], .int .i64 rm]] w fun e w' => ∃ g c, e = .returned (.slice (some ⟨g, 0, none⟩) 31 c) ∧ OwnT5 w' w.heap.size (.slice (some ⟨g, 0, none⟩) 31 c) (togL fr [lockR b, askR b 3, faultR b, openR b rm, roundR, putR b a ++ (letR b ++ triedR r 1), letR b ++ triedR r 0] [lockR b, askR b 3, faultR b, openR b rm, roundR, putR b a ++ (letR b ++ triedR r 1), letR b ++ triedR r 0]) ∧ Below w.heap.size w w' := by
  obtain ⟨W, hW, hx, hb, hz⟩ := SX.new w (.int .i64 o) (.int .i64 r) (.int .i64 a) (.int .i64 x) (.int .i64 n) (.int .i64 fr) (.slice ss sl sc) (.func (.func 99) #[] #[.pointer (some ⟨pb, 0, none⟩)]) (.int .i64 rm) 91
  have HC : Hid (CBx W pb b) := h.keep hb
  have HX := hid_of hx
  have HW : Hid (Below w.heap.size w W) := hb
  have HK : Hid (Below W.heap.size W W) := Below.refl _ _
  clear h hx hb
  obtain ⟨t0, t1, t2, t3, t4, t5, t6, t7, t8, tl⟩ := HX.out
  go_enter Tryz.func89, Tryz.ntmps89
  go_wp2_with fail
  go_region_held3 (fun w' => w'.cell? ⟨w.heap.size, 0, none⟩ = some (.int .i64 o) ∧ w'.cell? ⟨w.heap.size, 1, none⟩ = some (.int .i64 r) ∧ w'.cell? ⟨w.heap.size, 2, none⟩ = some (.int .i64 a) ∧ w'.cell? ⟨w.heap.size, 3, none⟩ = some (.int .i64 x) ∧ w'.cell? ⟨w.heap.size, 4, none⟩ = some (.int .i64 n) ∧ w'.cell? ⟨w.heap.size, 5, none⟩ = some (.int .i64 fr) ∧ w'.cell? ⟨w.heap.size, 6, none⟩ = some (.slice ss sl sc) ∧ w'.cell? ⟨w.heap.size, 7, none⟩ = some (.func (.func 99) #[] #[.pointer (some ⟨pb, 0, none⟩)]) ∧ w'.cell? ⟨w.heap.size, 8, none⟩ = some (.int .i64 rm)) (go_keep) (first | (go_at_call 116; refine (iTried o r a x n fr ss sl sc pb rm b _ _ (by first | exact HC.out.keep HK.out | exact HC.out.keep HK.out.drew)).mono ?_; rintro e w1 ⟨gB, cB, rfl, hoB, hb1⟩; (first | (have J0 := hid_of (HA.out.keep hb1); clear HA; have HA := J0; clear J0; have HBB := hid_of hoB) | have HA := hid_of hoB); clear hoB; have JK : Hid (Below W.heap.size W w1) := (by first | exact HK.out.trans (hb1.mono HK.out.size) | exact HK.out.drew.trans (hb1.mono HK.out.drew.size)); clear HK; have HK := JK; clear JK hb1; obtain ⟨t0, t1, t2, t3, t4, t5, t6, t7, t8, tl⟩ := HX.out.keep HK.out) | (go_at_call 113; refine (iPut2 o r a x n fr ss sl sc pb rm b _ _ _ _ _ _ w1 (HC.out.keep HK.out) HA.out HBB.out).mono ?_; rintro e w5 ⟨g5, c5, rfl, ho5, hb5⟩; have HO5 := hid_of ho5; have HB5 := hid_of (HK.out.trans (hb5.mono HK.out.size)); have hz5 := HK.out.size; obtain ⟨t0, t1, t2, t3, t4, t5, t6, t7, t8, tl⟩ := HX.out.keep HB5.out; clear ho5 hb5))
  all_goals
    go_wp2
    go_ret
    have hz1 := HW.out.size
    exact ⟨_, _, rfl, HO5.out.low (by omega), HW.out.trans (HB5.out.mono hz1)⟩
set_option maxHeartbeats 8000000 in
theorem iTryTake (o r a x n fr : Int) (ss : Option Addr) (sl sc pb : Nat) (rm b : Int) (w : World) (h : CBx w pb b) : Calls Tryz.prog 90 #[.agg #[.int .i64 o, .int .i64 r, .int .i64 a, .int .i64 x, .int .i64 n, .int .i64 fr, .slice ss sl sc, .func (.func 99) #[] #[.pointer (some ⟨pb, 0, none⟩)], .int .i64 rm]] w fun e w' => ∃ g c, e = .returned (.slice (some ⟨g, 0, none⟩) 32 c) ∧ OwnT5 w' w.heap.size (.slice (some ⟨g, 0, none⟩) 32 c) (togL fr [lockR b, takenR b r rm, roundT, keepT b x, noneT b r x 2, cameR r x 0 0] [lockR b, takenR b r rm, roundT, keepT b x, noneT b r x 2, cameR r x 0 0]) ∧ Below w.heap.size w w' := by
  obtain ⟨W, hW, hx, hb, hz⟩ := SX.new w (.int .i64 o) (.int .i64 r) (.int .i64 a) (.int .i64 x) (.int .i64 n) (.int .i64 fr) (.slice ss sl sc) (.func (.func 99) #[] #[.pointer (some ⟨pb, 0, none⟩)]) (.int .i64 rm) 91
  have HC : Hid (CBx W pb b) := h.keep hb
  have HX := hid_of hx
  have HW : Hid (Below w.heap.size w W) := hb
  have HK : Hid (Below W.heap.size W W) := Below.refl _ _
  clear h hx hb
  obtain ⟨t0, t1, t2, t3, t4, t5, t6, t7, t8, tl⟩ := HX.out
  go_enter Tryz.func90, Tryz.ntmps90
  go_wp2_with fail
  go_region_held3 (fun w' => w'.cell? ⟨w.heap.size, 0, none⟩ = some (.int .i64 o) ∧ w'.cell? ⟨w.heap.size, 1, none⟩ = some (.int .i64 r) ∧ w'.cell? ⟨w.heap.size, 2, none⟩ = some (.int .i64 a) ∧ w'.cell? ⟨w.heap.size, 3, none⟩ = some (.int .i64 x) ∧ w'.cell? ⟨w.heap.size, 4, none⟩ = some (.int .i64 n) ∧ w'.cell? ⟨w.heap.size, 5, none⟩ = some (.int .i64 fr) ∧ w'.cell? ⟨w.heap.size, 6, none⟩ = some (.slice ss sl sc) ∧ w'.cell? ⟨w.heap.size, 7, none⟩ = some (.func (.func 99) #[] #[.pointer (some ⟨pb, 0, none⟩)]) ∧ w'.cell? ⟨w.heap.size, 8, none⟩ = some (.int .i64 rm)) (go_keep) (first | (go_at_call 117; refine (iCame o r a x n fr ss sl sc pb rm b 0 0 _ (by first | exact HC.out.keep HK.out | exact HC.out.keep HK.out.drew)).mono ?_; rintro e w1 ⟨gA, cA, rfl, hoA, hb1⟩; have HA := hid_of hoA; clear hoA; have JK : Hid (Below W.heap.size W w1) := (by first | exact HK.out.trans (hb1.mono HK.out.size) | exact HK.out.drew.trans (hb1.mono HK.out.drew.size)); clear HK; have HK := JK; clear JK hb1; obtain ⟨t0, t1, t2, t3, t4, t5, t6, t7, t8, tl⟩ := HX.out.keep HK.out) | (go_at_call 115; refine (iTake2 o r a x n fr ss sl sc pb rm b gA cA _ w1 (HC.out.keep HK.out) HA.out).mono ?_; rintro e w5 ⟨g5, c5, rfl, ho5, hb5⟩; have HO5 := hid_of ho5; have HB5 := hid_of (HK.out.trans (hb5.mono HK.out.size)); have hz5 := HK.out.size; obtain ⟨t0, t1, t2, t3, t4, t5, t6, t7, t8, tl⟩ := HX.out.keep HB5.out; clear ho5 hb5))
  all_goals
    go_wp2
    go_ret
    have hz1 := HW.out.size
    exact ⟨_, _, rfl, HO5.out.low (by omega), HW.out.trans (HB5.out.mono hz1)⟩
set_option maxHeartbeats 8000000 in
theorem iTake (o r a x n fr : Int) (ss : Option Addr) (sl sc pb : Nat) (rm b : Int) (w : World) (h : CBx w pb b) : Calls Tryz.prog 88 #[.agg #[.int .i64 o, .int .i64 r, .int .i64 a, .int .i64 x, .int .i64 n, .int .i64 fr, .slice ss sl sc, .func (.func 99) #[] #[.pointer (some ⟨pb, 0, none⟩)], .int .i64 rm]] w fun e w' => ∃ g c, e = .returned (.slice (some ⟨g, 0, none⟩) 30 c) ∧ OwnT5 w' w.heap.size (.slice (some ⟨g, 0, none⟩) 30 c) (togL fr [lockR b, takenR b r rm, roundT, keepT b x, noneT b r x 0, [⟨10, 0, 0, 0, 0⟩]] [lockR b, takenR b r rm, roundT, keepT b x, noneT b r x 0, [⟨10, 0, 0, 0, 0⟩]]) ∧ Below w.heap.size w w' := by
  obtain ⟨W, hW, hx, hb, hz⟩ := SX.new w (.int .i64 o) (.int .i64 r) (.int .i64 a) (.int .i64 x) (.int .i64 n) (.int .i64 fr) (.slice ss sl sc) (.func (.func 99) #[] #[.pointer (some ⟨pb, 0, none⟩)]) (.int .i64 rm) 91
  have HC : Hid (CBx W pb b) := h.keep hb
  have HX := hid_of hx
  have HW : Hid (Below w.heap.size w W) := hb
  have HK : Hid (Below W.heap.size W W) := Below.refl _ _
  clear h hx hb
  obtain ⟨t0, t1, t2, t3, t4, t5, t6, t7, t8, tl⟩ := HX.out
  go_enter Tryz.func88, Tryz.ntmps88
  go_wp2_with fail
  go_region_held3 (fun w' => w'.cell? ⟨w.heap.size, 0, none⟩ = some (.int .i64 o) ∧ w'.cell? ⟨w.heap.size, 1, none⟩ = some (.int .i64 r) ∧ w'.cell? ⟨w.heap.size, 2, none⟩ = some (.int .i64 a) ∧ w'.cell? ⟨w.heap.size, 3, none⟩ = some (.int .i64 x) ∧ w'.cell? ⟨w.heap.size, 4, none⟩ = some (.int .i64 n) ∧ w'.cell? ⟨w.heap.size, 5, none⟩ = some (.int .i64 fr) ∧ w'.cell? ⟨w.heap.size, 6, none⟩ = some (.slice ss sl sc) ∧ w'.cell? ⟨w.heap.size, 7, none⟩ = some (.func (.func 99) #[] #[.pointer (some ⟨pb, 0, none⟩)]) ∧ w'.cell? ⟨w.heap.size, 8, none⟩ = some (.int .i64 rm)) (go_keep) (first | (go_at_call 114; refine (iJump _ _).mono ?_; rintro e w1 ⟨rfl, hb1⟩; have JK : Hid (Below W.heap.size W w1) := (by first | exact HK.out.trans (hb1.mono HK.out.size) | exact HK.out.drew.trans (hb1.mono HK.out.drew.size)); clear HK; have HK := JK; clear JK hb1; obtain ⟨t0, t1, t2, t3, t4, t5, t6, t7, t8, tl⟩ := HX.out.keep HK.out) | (go_at_call 115; refine calls_new [⟨10, 0, 0, 0, 0⟩] W.heap.size 1 rfl rfl (by omega) HK.out.size ?_; intro Wn hon hbn hzn; have JK : Hid (Below W.heap.size W Wn) := HK.out.trans (hbn.mono HK.out.size); clear HK; have HK := JK; clear JK; refine (iTake1 o r a x n fr ss sl sc pb rm b _ _ _ Wn (HC.out.keep HK.out) hon).mono ?_; clear hon hbn hzn; rintro e w5 ⟨g5, c5, rfl, ho5, hb5⟩; have HO5 := hid_of ho5; have HB5 := hid_of (HK.out.trans (hb5.mono HK.out.size)); have hz5 := HK.out.size; obtain ⟨t0, t1, t2, t3, t4, t5, t6, t7, t8, tl⟩ := HX.out.keep HB5.out; clear ho5 hb5))
  all_goals
    go_wp2
    go_ret
    have hz1 := HW.out.size
    exact ⟨_, _, rfl, HO5.out.low (by omega), HW.out.trans (HB5.out.mono hz1)⟩
set_option maxHeartbeats 8000000 in
theorem iSend (o r a x n fr : Int) (ss : Option Addr) (sl sc pb : Nat) (rm b : Int) (w : World) (h : CBx w pb b) : Calls Tryz.prog 87 #[.agg #[.int .i64 o, .int .i64 r, .int .i64 a, .int .i64 x, .int .i64 n, .int .i64 fr, .slice ss sl sc, .func (.func 99) #[] #[.pointer (some ⟨pb, 0, none⟩)], .int .i64 rm]] w fun e w' => ∃ g c, e = .returned (.slice (some ⟨g, 0, none⟩) 29 c) ∧ OwnT5 w' w.heap.size (.slice (some ⟨g, 0, none⟩) 29 c) (togL fr [lockR b, askR b 3, faultR b, openR b rm, roundR, putR b a ++ (letR b ++ [⟨10, 0, 0, 0, -1⟩]), letR b ++ [⟨10, 0, 0, 0, 0⟩]] [lockR b, askR b 3, faultR b, openR b rm, roundR, putR b a ++ (letR b ++ [⟨10, 0, 0, 0, -1⟩]), letR b ++ [⟨10, 0, 0, 0, 0⟩]]) ∧ Below w.heap.size w w' := by
  obtain ⟨W, hW, hx, hb, hz⟩ := SX.new w (.int .i64 o) (.int .i64 r) (.int .i64 a) (.int .i64 x) (.int .i64 n) (.int .i64 fr) (.slice ss sl sc) (.func (.func 99) #[] #[.pointer (some ⟨pb, 0, none⟩)]) (.int .i64 rm) 91
  have HC : Hid (CBx W pb b) := h.keep hb
  have HX := hid_of hx
  have HW : Hid (Below w.heap.size w W) := hb
  have HK : Hid (Below W.heap.size W W) := Below.refl _ _
  clear h hx hb
  obtain ⟨t0, t1, t2, t3, t4, t5, t6, t7, t8, tl⟩ := HX.out
  go_enter Tryz.func87, Tryz.ntmps87
  go_wp2_with fail
  go_region_held3 (fun w' => w'.cell? ⟨w.heap.size, 0, none⟩ = some (.int .i64 o) ∧ w'.cell? ⟨w.heap.size, 1, none⟩ = some (.int .i64 r) ∧ w'.cell? ⟨w.heap.size, 2, none⟩ = some (.int .i64 a) ∧ w'.cell? ⟨w.heap.size, 3, none⟩ = some (.int .i64 x) ∧ w'.cell? ⟨w.heap.size, 4, none⟩ = some (.int .i64 n) ∧ w'.cell? ⟨w.heap.size, 5, none⟩ = some (.int .i64 fr) ∧ w'.cell? ⟨w.heap.size, 6, none⟩ = some (.slice ss sl sc) ∧ w'.cell? ⟨w.heap.size, 7, none⟩ = some (.func (.func 99) #[] #[.pointer (some ⟨pb, 0, none⟩)]) ∧ w'.cell? ⟨w.heap.size, 8, none⟩ = some (.int .i64 rm)) (go_keep) (first | (go_at_call 114; (with_reducible refine is_alloc ?_); refine calls_new ([⟨10, 0, 0, 0, -1⟩]) W.heap.size 1 rfl rfl (by omega) HK.out.size ?_; intro Wn hon hbn hzn; have JK := hid_of (HK.out.trans (hbn.mono HK.out.size)); clear HK; have HK := JK; clear JK; have HA := hid_of hon; clear hon hbn hzn; refine (iJump _ _).mono ?_; rintro e w1 ⟨rfl, hb1⟩; have J0 := hid_of (HA.out.keep hb1); clear HA; have HA := J0; clear J0; have JK : Hid (Below W.heap.size W w1) := (by first | exact HK.out.trans (hb1.mono HK.out.size) | exact HK.out.drew.trans (hb1.mono HK.out.drew.size)); clear HK; have HK := JK; clear JK hb1; obtain ⟨t0, t1, t2, t3, t4, t5, t6, t7, t8, tl⟩ := HX.out.keep HK.out) | (go_at_call 114; refine (iJump _ _).mono ?_; rintro e w1 ⟨rfl, hb1⟩; have JK : Hid (Below W.heap.size W w1) := (by first | exact HK.out.trans (hb1.mono HK.out.size) | exact HK.out.drew.trans (hb1.mono HK.out.drew.size)); clear HK; have HK := JK; clear JK hb1; obtain ⟨t0, t1, t2, t3, t4, t5, t6, t7, t8, tl⟩ := HX.out.keep HK.out) | (go_at_call 113; (first | ((with_reducible refine is_alloc2 ?_); refine calls_new [⟨10, 0, 0, 0, 0⟩] W.heap.size 1 rfl rfl (by omega) (by have := HK.out.size; simp; omega) ?_; intro Wn hon hbn hzn; simp only [World.size_alloc] at hon; have ha0 := own5_new (w := w1) (base := W.heap.size) [⟨10, 0, 0, 0, -1⟩] #[.int .i64 10, .int .i64 0, .int .i64 0, .int .i64 0, .int .i64 (-1)] rfl HK.out.size (Nat.le_of_ble_eq_true rfl); have HA := hid_of (ha0.keep hbn); have HZ := hid_of hon; have JK := hid_of ((HK.out.alloc HK.out.size _).trans (hbn.mono (by have := HK.out.size; simp; omega))); clear HK ha0; have HK := JK; clear JK) | ((with_reducible refine is_alloc2 ?_); refine calls_new [⟨10, 0, 0, 0, -1⟩] W.heap.size 1 rfl rfl (by omega) (by have := HK.out.size; simp; omega) ?_; intro Wn hon hbn hzn; simp only [World.size_alloc] at hon; have ha0 := own5_new (w := w1) (base := W.heap.size) [⟨10, 0, 0, 0, 0⟩] #[.int .i64 10, .int .i64 0, .int .i64 0, .int .i64 0, .int .i64 0] rfl HK.out.size (Nat.le_of_ble_eq_true rfl); have HZ := hid_of (ha0.keep hbn); have HA := hid_of hon; have JK := hid_of ((HK.out.alloc HK.out.size _).trans (hbn.mono (by have := HK.out.size; simp; omega))); clear HK ha0; have HK := JK; clear JK) | ((with_reducible refine is_alloc ?_); refine calls_new ([⟨10, 0, 0, 0, 0⟩]) W.heap.size 1 rfl rfl (by omega) HK.out.size ?_; intro Wn hon hbn hzn; have JK := hid_of (HK.out.trans (hbn.mono HK.out.size)); clear HK; have HK := JK; clear JK; have J0 := hid_of (HA.out.keep hbn); clear HA; have HA := J0; clear J0; have HZ := hid_of hon)); refine (iPut1 o r a x n fr ss sl sc pb rm b _ _ _ _ _ _ Wn (HC.out.keep HK.out) HA.out HZ.out).mono ?_; clear hon hbn hzn; rintro e w5 ⟨g5, c5, rfl, ho5, hb5⟩; have HO5 := hid_of ho5; have HB5 := hid_of (HK.out.trans (hb5.mono HK.out.size)); have hz5 := HK.out.size; obtain ⟨t0, t1, t2, t3, t4, t5, t6, t7, t8, tl⟩ := HX.out.keep HB5.out; clear ho5 hb5))
  all_goals
    go_wp2
    go_ret
    have hz1 := HW.out.size
    exact ⟨_, _, rfl, HO5.out.low (by omega), HW.out.trans (HB5.out.mono hz1)⟩
set_option maxHeartbeats 8000000 in
theorem iShut (o r a x n fr : Int) (ss : Option Addr) (sl sc pb : Nat) (rm b : Int) (w : World) (h : CBx w pb b) : Calls Tryz.prog 91 #[.agg #[.int .i64 o, .int .i64 r, .int .i64 a, .int .i64 x, .int .i64 n, .int .i64 fr, .slice ss sl sc, .func (.func 99) #[] #[.pointer (some ⟨pb, 0, none⟩)], .int .i64 rm]] w fun e w' => ∃ g c, e = .returned (.slice (some ⟨g, 0, none⟩) 13 c) ∧ OwnT5 w' w.heap.size (.slice (some ⟨g, 0, none⟩) 13 c) (togL fr [lockR b, askR b 3, faultR b, [⟨1, 7, 0, 0, 1⟩, ⟨6, 0, -1, 7, b + 3⟩] ++ letR b] [lockR b, askR b 3, faultR b, [⟨1, 7, 0, 0, 1⟩, ⟨6, 0, -1, 7, b + 3⟩] ++ letR b]) ∧ Below w.heap.size w w' := by
  obtain ⟨W, hW, hx, hb, hz⟩ := SX.new w (.int .i64 o) (.int .i64 r) (.int .i64 a) (.int .i64 x) (.int .i64 n) (.int .i64 fr) (.slice ss sl sc) (.func (.func 99) #[] #[.pointer (some ⟨pb, 0, none⟩)]) (.int .i64 rm) 91
  have HC : Hid (CBx W pb b) := h.keep hb
  have HX := hid_of hx
  have HW : Hid (Below w.heap.size w W) := hb
  have HK : Hid (Below W.heap.size W W) := Below.refl _ _
  clear h hx hb
  obtain ⟨t0, t1, t2, t3, t4, t5, t6, t7, t8, tl⟩ := HX.out
  go_enter Tryz.func91, Tryz.ntmps91
  go_wp2_with fail
  go_region_held3 (fun w' => w'.cell? ⟨w.heap.size, 0, none⟩ = some (.int .i64 o) ∧ w'.cell? ⟨w.heap.size, 1, none⟩ = some (.int .i64 r) ∧ w'.cell? ⟨w.heap.size, 2, none⟩ = some (.int .i64 a) ∧ w'.cell? ⟨w.heap.size, 3, none⟩ = some (.int .i64 x) ∧ w'.cell? ⟨w.heap.size, 4, none⟩ = some (.int .i64 n) ∧ w'.cell? ⟨w.heap.size, 5, none⟩ = some (.int .i64 fr) ∧ w'.cell? ⟨w.heap.size, 6, none⟩ = some (.slice ss sl sc) ∧ w'.cell? ⟨w.heap.size, 7, none⟩ = some (.func (.func 99) #[] #[.pointer (some ⟨pb, 0, none⟩)]) ∧ w'.cell? ⟨w.heap.size, 8, none⟩ = some (.int .i64 rm)) (go_keep) (first | (go_at_call 111; refine (iSet _ _ _).mono ?_; rintro e w1 ⟨rfl, hb1⟩; have JK : Hid (Below W.heap.size W w1) := (by first | exact HK.out.trans (hb1.mono HK.out.size) | exact HK.out.drew.trans (hb1.mono HK.out.drew.size)); clear HK; have HK := JK; clear JK hb1; obtain ⟨t0, t1, t2, t3, t4, t5, t6, t7, t8, tl⟩ := HX.out.keep HK.out) | (go_at_call 123; refine (iZero _ _ _).mono ?_; rintro e w1 ⟨rfl, hb1⟩; have JK : Hid (Below W.heap.size W w1) := (by first | exact HK.out.trans (hb1.mono HK.out.size) | exact HK.out.drew.trans (hb1.mono HK.out.drew.size)); clear HK; have HK := JK; clear JK hb1; obtain ⟨t0, t1, t2, t3, t4, t5, t6, t7, t8, tl⟩ := HX.out.keep HK.out) | (go_at_call 114; refine (iJump _ _).mono ?_; rintro e w1 ⟨rfl, hb1⟩; have JK : Hid (Below W.heap.size W w1) := (by first | exact HK.out.trans (hb1.mono HK.out.size) | exact HK.out.drew.trans (hb1.mono HK.out.drew.size)); clear HK; have HK := JK; clear JK hb1; obtain ⟨t0, t1, t2, t3, t4, t5, t6, t7, t8, tl⟩ := HX.out.keep HK.out) | (go_at_call 136; refine (iAdd _ _ _).mono ?_; rintro e w1 ⟨rfl, hb1⟩; have JK : Hid (Below W.heap.size W w1) := (by first | exact HK.out.trans (hb1.mono HK.out.size) | exact HK.out.drew.trans (hb1.mono HK.out.drew.size)); clear HK; have HK := JK; clear JK hb1; obtain ⟨t0, t1, t2, t3, t4, t5, t6, t7, t8, tl⟩ := HX.out.keep HK.out) | (go_at_call 137; refine (iSub _ _ _).mono ?_; rintro e w1 ⟨rfl, hb1⟩; have JK : Hid (Below W.heap.size W w1) := (by first | exact HK.out.trans (hb1.mono HK.out.size) | exact HK.out.drew.trans (hb1.mono HK.out.drew.size)); clear HK; have HK := JK; clear JK hb1; obtain ⟨t0, t1, t2, t3, t4, t5, t6, t7, t8, tl⟩ := HX.out.keep HK.out) | (go_at_call 112; refine (iLess _ _ _ _).mono ?_; rintro e w1 ⟨rfl, hb1⟩; have JK : Hid (Below W.heap.size W w1) := (by first | exact HK.out.trans (hb1.mono HK.out.size) | exact HK.out.drew.trans (hb1.mono HK.out.drew.size)); clear HK; have HK := JK; clear JK hb1; obtain ⟨t0, t1, t2, t3, t4, t5, t6, t7, t8, tl⟩ := HX.out.keep HK.out) | (go_at_call 135; refine (iLoad o r a x n fr ss sl sc pb rm b _ _ (by omega) _ (by first | exact HC.out.keep HK.out | exact HC.out.keep HK.out.drew)).mono ?_; rintro e w1 ⟨rfl, hb1⟩; have JK : Hid (Below W.heap.size W w1) := (by first | exact HK.out.trans (hb1.mono HK.out.size) | exact HK.out.drew.trans (hb1.mono HK.out.drew.size)); clear HK; have HK := JK; clear JK hb1; obtain ⟨t0, t1, t2, t3, t4, t5, t6, t7, t8, tl⟩ := HX.out.keep HK.out) | (go_at_call 118; refine (iStore o r a x n fr ss sl sc pb rm b _ _ (by omega) _ (by first | exact HC.out.keep HK.out | exact HC.out.keep HK.out.drew)).mono ?_; rintro e w1 ⟨rfl, hb1⟩; have JK : Hid (Below W.heap.size W w1) := (by first | exact HK.out.trans (hb1.mono HK.out.size) | exact HK.out.drew.trans (hb1.mono HK.out.drew.size)); clear HK; have HK := JK; clear JK hb1; obtain ⟨t0, t1, t2, t3, t4, t5, t6, t7, t8, tl⟩ := HX.out.keep HK.out) | (go_at_call 140; refine (iLoadN o r a x n fr ss sl sc pb rm b _  _ (by first | exact HC.out.keep HK.out | exact HC.out.keep HK.out.drew)).mono ?_; rintro e w1 ⟨rfl, hb1⟩; have JK : Hid (Below W.heap.size W w1) := (by first | exact HK.out.trans (hb1.mono HK.out.size) | exact HK.out.drew.trans (hb1.mono HK.out.drew.size)); clear HK; have HK := JK; clear JK hb1; obtain ⟨t0, t1, t2, t3, t4, t5, t6, t7, t8, tl⟩ := HX.out.keep HK.out) | (go_at_call 138; refine (iStoreN o r a x n fr ss sl sc pb rm b _  _ (by first | exact HC.out.keep HK.out | exact HC.out.keep HK.out.drew)).mono ?_; rintro e w1 ⟨rfl, hb1⟩; have JK : Hid (Below W.heap.size W w1) := (by first | exact HK.out.trans (hb1.mono HK.out.size) | exact HK.out.drew.trans (hb1.mono HK.out.drew.size)); clear HK; have HK := JK; clear JK hb1; obtain ⟨t0, t1, t2, t3, t4, t5, t6, t7, t8, tl⟩ := HX.out.keep HK.out))
  first | refine name5 (P := Exit.then _ _ _ _) ([⟨1, 7, 0, 0, 1⟩, ⟨6, 0, -1, 7, b + 3⟩]) W.heap.size 2 rfl rfl (by omega) HK.out.size ?_ | refine name5 (P := Code.wp _ _ _ _) ([⟨1, 7, 0, 0, 1⟩, ⟨6, 0, -1, 7, b + 3⟩]) W.heap.size 2 rfl rfl (by omega) HK.out.size ?_
  intro W1 ho hb hz
  obtain ⟨gHPO, hg⟩ : ∃ g, w1.heap.size = g := ⟨_, rfl⟩
  rw [hg] at ho ⊢
  obtain ⟨cHPO, hc⟩ : ∃ c : Nat, c = 2 := ⟨_, rfl⟩
  clear hg hz hc
  have HPO := hid_of ho
  have JK : Hid (Below W.heap.size W W1) := HK.out.trans (hb.mono HK.out.size)
  clear HK ho hb
  have HK := JK
  clear JK
  obtain ⟨t0, t1, t2, t3, t4, t5, t6, t7, t8, tl⟩ := HX.out.keep HK.out
  go_wp2_with fail
  have hgo := HPO.out.lt.2
  go_region_held3 (fun w' => w'.cell? ⟨w.heap.size, 0, none⟩ = some (.int .i64 o) ∧ w'.cell? ⟨w.heap.size, 1, none⟩ = some (.int .i64 r) ∧ w'.cell? ⟨w.heap.size, 2, none⟩ = some (.int .i64 a) ∧ w'.cell? ⟨w.heap.size, 3, none⟩ = some (.int .i64 x) ∧ w'.cell? ⟨w.heap.size, 4, none⟩ = some (.int .i64 n) ∧ w'.cell? ⟨w.heap.size, 5, none⟩ = some (.int .i64 fr) ∧ w'.cell? ⟨w.heap.size, 6, none⟩ = some (.slice ss sl sc) ∧ w'.cell? ⟨w.heap.size, 7, none⟩ = some (.func (.func 99) #[] #[.pointer (some ⟨pb, 0, none⟩)]) ∧ w'.cell? ⟨w.heap.size, 8, none⟩ = some (.int .i64 rm)) (go_keep) (first | (go_at_call 120; refine (iAsk o r a x n fr ss sl sc pb rm b 3 _ (by first | exact HC.out.keep HK.out | exact HC.out.keep HK.out.drew)).mono ?_; rintro e w1 ⟨gA, cA, rfl, hoA, hb1⟩; have hA : gHPO < gA := Nat.lt_of_lt_of_le hgo hoA.lt.1; have HA := hid_of (Row5.of hoA); clear hoA; have J0 := hid_of (HPO.out.keep (by first | exact hb1 | exact (Below.drew (Below.refl _ _)).trans hb1)); clear HPO; have HPO := J0; clear J0; have hgo := HPO.out.lt.2; have JK : Hid (Below W.heap.size W w1) := (by first | exact HK.out.trans (hb1.mono HK.out.size) | exact HK.out.drew.trans (hb1.mono HK.out.drew.size)); clear HK; have HK := JK; clear JK hb1; obtain ⟨t0, t1, t2, t3, t4, t5, t6, t7, t8, tl⟩ := HX.out.keep HK.out) | (go_at_call 121; refine (iFault o r a x n fr ss sl sc pb rm b _ (by first | exact HC.out.keep HK.out | exact HC.out.keep HK.out.drew)).mono ?_; rintro e w1 ⟨gE, cE, rfl, hoE, hb1⟩; have hE : gHPO < gE := Nat.lt_of_lt_of_le hgo hoE.lt.1; have HE := hid_of (Row5.of hoE); clear hoE; have J0 := hid_of (HPO.out.keep (by first | exact hb1 | exact (Below.drew (Below.refl _ _)).trans hb1)); clear HPO; have HPO := J0; clear J0; have J0 := hid_of (HA.out.keep (by first | exact hb1 | exact (Below.drew (Below.refl _ _)).trans hb1)); clear HA; have HA := J0; clear J0; have hgo := HPO.out.lt.2; have JK : Hid (Below W.heap.size W w1) := (by first | exact HK.out.trans (hb1.mono HK.out.size) | exact HK.out.drew.trans (hb1.mono HK.out.drew.size)); clear HK; have HK := JK; clear JK hb1; obtain ⟨t0, t1, t2, t3, t4, t5, t6, t7, t8, tl⟩ := HX.out.keep HK.out) | (go_at_call 122; refine (iLetGo o r a x n fr ss sl sc pb rm b _ (by first | exact HC.out.keep HK.out | exact HC.out.keep HK.out.drew)).mono ?_; rintro e w1 ⟨g1, c1, rfl, ho1, hb1⟩; have HG := hid_of ho1; clear ho1; have J0 := hid_of (HPO.out.keep (by first | exact hb1 | exact (Below.drew (Below.refl _ _)).trans hb1)); clear HPO; have HPO := J0; clear J0; have J0 := hid_of (HA.out.keep (by first | exact hb1 | exact (Below.drew (Below.refl _ _)).trans hb1)); clear HA; have HA := J0; clear J0; have J0 := hid_of (HE.out.keep (by first | exact hb1 | exact (Below.drew (Below.refl _ _)).trans hb1)); clear HE; have HE := J0; clear J0; have JK : Hid (Below W.heap.size W w1) := (by first | exact HK.out.trans (hb1.mono HK.out.size) | exact HK.out.drew.trans (hb1.mono HK.out.drew.size)); clear HK; have HK := JK; clear JK hb1; obtain ⟨t0, t1, t2, t3, t4, t5, t6, t7, t8, tl⟩ := HX.out.keep HK.out) | (refine step5f rfl _ _ rfl w1 W.heap.size (.slice (some ⟨gHPO, 0, none⟩) 2 2) [⟨1, 7, 0, 0, 1⟩, ⟨6, 0, -1, 7, b + 3⟩] rfl HPO.out _ g1 2 c1 (letR b) rfl HG.out rfl (by omega) (by first | exact Nat.le_of_ble_eq_true rfl | decide) 4 rfl HK.out.size ?_; intro gQ cQ w2 ho2 hb2 hf2; have JK : Hid (Below W.heap.size W w2) := HK.out.trans hb2; clear HK; have HK := JK; clear JK; have HQ := hid_of (Row5.of ho2); have J0 := hid_of (HA.out.far (show gA ≠ gHPO by omega) hf2); clear HA; have HA := J0; clear J0; have J0 := hid_of (HE.out.far (show gE ≠ gHPO by omega) hf2); clear HE; have HE := J0; clear J0 ho2 hb2 hf2; obtain ⟨t0, t1, t2, t3, t4, t5, t6, t7, t8, tl⟩ := HX.out.keep HK.out) | (go_at_call 119; refine (iUnder o r a x n fr ss sl sc pb rm b w2.heap.size 3 [⟨gA, cA, askR b 3⟩, ⟨gE, cE, faultR b⟩, ⟨gQ, cQ, [⟨1, 7, 0, 0, 1⟩, ⟨6, 0, -1, 7, b + 3⟩] ++ letR b⟩] _ ((HC.out.keep HK.out).keep ((Below.refl _ _).alloc (Nat.le_refl _) _)) (parts_new w2 _ _ rfl (fun y hy => by simp only [List.mem_cons, List.not_mem_nil, or_false] at hy; rcases hy with rfl | rfl | rfl; (exact HA.out); (exact HE.out); (exact HQ.out))) (by first | exact Nat.le_of_ble_eq_true rfl | decide) (by first | exact Nat.le_of_ble_eq_true rfl | decide) (by first | exact Nat.le_of_ble_eq_true rfl | decide) (jOk_of (fun y hy => by simp only [List.mem_cons, List.not_mem_nil, or_false] at hy; rcases hy with rfl | rfl | rfl <;> simp [jOk, isJ, askR, faultR, letR])) 13 rfl).mono ?_; rintro e w5 ⟨g5, c5, rfl, ho5, hb5⟩; have hb6 : Below w2.heap.size w2 w5 := ((Below.refl _ _).alloc (Nat.le_refl _) _).trans (hb5.mono (by simp)); have HO5 := hid_of ho5; have HB5 : Hid (Below W.heap.size W w5) := HK.out.trans (hb6.mono HK.out.size); have hz5 := HK.out.size; obtain ⟨t0, t1, t2, t3, t4, t5, t6, t7, t8, tl⟩ := HX.out.keep HB5.out; clear ho5 hb5 hb6))
  go_wp2
  go_ret
  have hz1 := HW.out.size
  exact ⟨_, _, rfl, HO5.out.low (by simp; omega), HW.out.trans (HB5.out.mono hz1)⟩
end

section
set_option linter.unusedSimpArgs false
set_option linter.unusedVariables false
set_option maxRecDepth 100000
open Go.RowKit

set_option maxHeartbeats 2000000 in
theorem iPSet (o r a x n fr : Int) (ss : Option Addr) (sl sc : Nat) (w : World) : Calls Tryz.prog 83 #[.agg #[.int .i64 o, .int .i64 r, .int .i64 a, .int .i64 x, .int .i64 n, .int .i64 fr, .slice ss sl sc, .nilFunc, .int .i64 0]] w fun e w' => ∃ g c, e = .returned (.slice (some ⟨g, 0, none⟩) 1 c) ∧ OwnT5 w' w.heap.size (.slice (some ⟨g, 0, none⟩) 1 c) ([⟨1, r, 0, 0, n⟩]) ∧ Below w.heap.size w w' := by
  obtain ⟨W, hW, hx, hb, hz⟩ := SX.new w (.int .i64 o) (.int .i64 r) (.int .i64 a) (.int .i64 x) (.int .i64 n) (.int .i64 fr) (.slice ss sl sc) (.nilFunc) (.int .i64 0) 91
  have HX := hid_of hx
  have HW : Hid (Below w.heap.size w W) := hb
  have HK : Hid (Below W.heap.size W W) := Below.refl _ _
  clear hx hb
  obtain ⟨t0, t1, t2, t3, t4, t5, t6, t7, t8, tl⟩ := HX.out
  go_enter Tryz.func83, Tryz.ntmps83
  go_wp2_with (first | (go_at_call 111; refine (iSet _ _ _).mono ?_; rintro e w1 ⟨rfl, hb1⟩; have JK : Hid (Below W.heap.size W w1) := (by first | exact HK.out.trans (hb1.mono HK.out.size) | exact HK.out.drew.trans (hb1.mono HK.out.drew.size)); clear HK; have HK := JK; clear JK hb1; obtain ⟨t0, t1, t2, t3, t4, t5, t6, t7, t8, tl⟩ := HX.out.keep HK.out) | (go_at_call 123; refine (iZero _ _ _).mono ?_; rintro e w1 ⟨rfl, hb1⟩; have JK : Hid (Below W.heap.size W w1) := (by first | exact HK.out.trans (hb1.mono HK.out.size) | exact HK.out.drew.trans (hb1.mono HK.out.drew.size)); clear HK; have HK := JK; clear JK hb1; obtain ⟨t0, t1, t2, t3, t4, t5, t6, t7, t8, tl⟩ := HX.out.keep HK.out) | (go_at_call 114; refine (iJump _ _).mono ?_; rintro e w1 ⟨rfl, hb1⟩; have JK : Hid (Below W.heap.size W w1) := (by first | exact HK.out.trans (hb1.mono HK.out.size) | exact HK.out.drew.trans (hb1.mono HK.out.drew.size)); clear HK; have HK := JK; clear JK hb1; obtain ⟨t0, t1, t2, t3, t4, t5, t6, t7, t8, tl⟩ := HX.out.keep HK.out) | (go_at_call 112; refine (iLess _ _ _ _).mono ?_; rintro e w1 ⟨rfl, hb1⟩; have JK : Hid (Below W.heap.size W w1) := (by first | exact HK.out.trans (hb1.mono HK.out.size) | exact HK.out.drew.trans (hb1.mono HK.out.drew.size)); clear HK; have HK := JK; clear JK hb1; obtain ⟨t0, t1, t2, t3, t4, t5, t6, t7, t8, tl⟩ := HX.out.keep HK.out))
  have hwz := HW.out.size
  have hkz := HK.out.size
  go_ret
  exact ⟨_, _, rfl, own5_new ([⟨1, r, 0, 0, n⟩]) _ rfl (by omega) (Nat.le_of_ble_eq_true rfl), (HW.out.trans (HK.out.mono (by omega))).alloc (by omega) _⟩
set_option maxHeartbeats 2000000 in
theorem iPAdd (o r a x n fr : Int) (ss : Option Addr) (sl sc : Nat) (w : World) : Calls Tryz.prog 84 #[.agg #[.int .i64 o, .int .i64 r, .int .i64 a, .int .i64 x, .int .i64 n, .int .i64 fr, .slice ss sl sc, .nilFunc, .int .i64 0]] w fun e w' => ∃ g c, e = .returned (.slice (some ⟨g, 0, none⟩) 1 c) ∧ OwnT5 w' w.heap.size (.slice (some ⟨g, 0, none⟩) 1 c) ([⟨2, r, a, x, 0⟩]) ∧ Below w.heap.size w w' := by
  obtain ⟨W, hW, hx, hb, hz⟩ := SX.new w (.int .i64 o) (.int .i64 r) (.int .i64 a) (.int .i64 x) (.int .i64 n) (.int .i64 fr) (.slice ss sl sc) (.nilFunc) (.int .i64 0) 91
  have HX := hid_of hx
  have HW : Hid (Below w.heap.size w W) := hb
  have HK : Hid (Below W.heap.size W W) := Below.refl _ _
  clear hx hb
  obtain ⟨t0, t1, t2, t3, t4, t5, t6, t7, t8, tl⟩ := HX.out
  go_enter Tryz.func84, Tryz.ntmps84
  go_wp2_with (first | (go_at_call 111; refine (iSet _ _ _).mono ?_; rintro e w1 ⟨rfl, hb1⟩; have JK : Hid (Below W.heap.size W w1) := (by first | exact HK.out.trans (hb1.mono HK.out.size) | exact HK.out.drew.trans (hb1.mono HK.out.drew.size)); clear HK; have HK := JK; clear JK hb1; obtain ⟨t0, t1, t2, t3, t4, t5, t6, t7, t8, tl⟩ := HX.out.keep HK.out) | (go_at_call 123; refine (iZero _ _ _).mono ?_; rintro e w1 ⟨rfl, hb1⟩; have JK : Hid (Below W.heap.size W w1) := (by first | exact HK.out.trans (hb1.mono HK.out.size) | exact HK.out.drew.trans (hb1.mono HK.out.drew.size)); clear HK; have HK := JK; clear JK hb1; obtain ⟨t0, t1, t2, t3, t4, t5, t6, t7, t8, tl⟩ := HX.out.keep HK.out) | (go_at_call 114; refine (iJump _ _).mono ?_; rintro e w1 ⟨rfl, hb1⟩; have JK : Hid (Below W.heap.size W w1) := (by first | exact HK.out.trans (hb1.mono HK.out.size) | exact HK.out.drew.trans (hb1.mono HK.out.drew.size)); clear HK; have HK := JK; clear JK hb1; obtain ⟨t0, t1, t2, t3, t4, t5, t6, t7, t8, tl⟩ := HX.out.keep HK.out) | (go_at_call 112; refine (iLess _ _ _ _).mono ?_; rintro e w1 ⟨rfl, hb1⟩; have JK : Hid (Below W.heap.size W w1) := (by first | exact HK.out.trans (hb1.mono HK.out.size) | exact HK.out.drew.trans (hb1.mono HK.out.drew.size)); clear HK; have HK := JK; clear JK hb1; obtain ⟨t0, t1, t2, t3, t4, t5, t6, t7, t8, tl⟩ := HX.out.keep HK.out))
  have hwz := HW.out.size
  have hkz := HK.out.size
  go_ret
  exact ⟨_, _, rfl, own5_new ([⟨2, r, a, x, 0⟩]) _ rfl (by omega) (Nat.le_of_ble_eq_true rfl), (HW.out.trans (HK.out.mono (by omega))).alloc (by omega) _⟩
set_option maxHeartbeats 2000000 in
theorem iPSub (o r a x n fr : Int) (ss : Option Addr) (sl sc : Nat) (w : World) : Calls Tryz.prog 85 #[.agg #[.int .i64 o, .int .i64 r, .int .i64 a, .int .i64 x, .int .i64 n, .int .i64 fr, .slice ss sl sc, .nilFunc, .int .i64 0]] w fun e w' => ∃ g c, e = .returned (.slice (some ⟨g, 0, none⟩) 1 c) ∧ OwnT5 w' w.heap.size (.slice (some ⟨g, 0, none⟩) 1 c) ([⟨3, r, a, x, 0⟩]) ∧ Below w.heap.size w w' := by
  obtain ⟨W, hW, hx, hb, hz⟩ := SX.new w (.int .i64 o) (.int .i64 r) (.int .i64 a) (.int .i64 x) (.int .i64 n) (.int .i64 fr) (.slice ss sl sc) (.nilFunc) (.int .i64 0) 91
  have HX := hid_of hx
  have HW : Hid (Below w.heap.size w W) := hb
  have HK : Hid (Below W.heap.size W W) := Below.refl _ _
  clear hx hb
  obtain ⟨t0, t1, t2, t3, t4, t5, t6, t7, t8, tl⟩ := HX.out
  go_enter Tryz.func85, Tryz.ntmps85
  go_wp2_with (first | (go_at_call 111; refine (iSet _ _ _).mono ?_; rintro e w1 ⟨rfl, hb1⟩; have JK : Hid (Below W.heap.size W w1) := (by first | exact HK.out.trans (hb1.mono HK.out.size) | exact HK.out.drew.trans (hb1.mono HK.out.drew.size)); clear HK; have HK := JK; clear JK hb1; obtain ⟨t0, t1, t2, t3, t4, t5, t6, t7, t8, tl⟩ := HX.out.keep HK.out) | (go_at_call 123; refine (iZero _ _ _).mono ?_; rintro e w1 ⟨rfl, hb1⟩; have JK : Hid (Below W.heap.size W w1) := (by first | exact HK.out.trans (hb1.mono HK.out.size) | exact HK.out.drew.trans (hb1.mono HK.out.drew.size)); clear HK; have HK := JK; clear JK hb1; obtain ⟨t0, t1, t2, t3, t4, t5, t6, t7, t8, tl⟩ := HX.out.keep HK.out) | (go_at_call 114; refine (iJump _ _).mono ?_; rintro e w1 ⟨rfl, hb1⟩; have JK : Hid (Below W.heap.size W w1) := (by first | exact HK.out.trans (hb1.mono HK.out.size) | exact HK.out.drew.trans (hb1.mono HK.out.drew.size)); clear HK; have HK := JK; clear JK hb1; obtain ⟨t0, t1, t2, t3, t4, t5, t6, t7, t8, tl⟩ := HX.out.keep HK.out) | (go_at_call 112; refine (iLess _ _ _ _).mono ?_; rintro e w1 ⟨rfl, hb1⟩; have JK : Hid (Below W.heap.size W w1) := (by first | exact HK.out.trans (hb1.mono HK.out.size) | exact HK.out.drew.trans (hb1.mono HK.out.drew.size)); clear HK; have HK := JK; clear JK hb1; obtain ⟨t0, t1, t2, t3, t4, t5, t6, t7, t8, tl⟩ := HX.out.keep HK.out))
  have hwz := HW.out.size
  have hkz := HK.out.size
  go_ret
  exact ⟨_, _, rfl, own5_new ([⟨3, r, a, x, 0⟩]) _ rfl (by omega) (Nat.le_of_ble_eq_true rfl), (HW.out.trans (HK.out.mono (by omega))).alloc (by omega) _⟩
set_option maxHeartbeats 2000000 in
theorem iPLess (o r a x n fr : Int) (ss : Option Addr) (sl sc : Nat) (w : World) : Calls Tryz.prog 86 #[.agg #[.int .i64 o, .int .i64 r, .int .i64 a, .int .i64 x, .int .i64 n, .int .i64 fr, .slice ss sl sc, .nilFunc, .int .i64 0]] w fun e w' => ∃ g c, e = .returned (.slice (some ⟨g, 0, none⟩) 1 c) ∧ OwnT5 w' w.heap.size (.slice (some ⟨g, 0, none⟩) 1 c) ([⟨4, r, a, x, 0⟩]) ∧ Below w.heap.size w w' := by
  obtain ⟨W, hW, hx, hb, hz⟩ := SX.new w (.int .i64 o) (.int .i64 r) (.int .i64 a) (.int .i64 x) (.int .i64 n) (.int .i64 fr) (.slice ss sl sc) (.nilFunc) (.int .i64 0) 91
  have HX := hid_of hx
  have HW : Hid (Below w.heap.size w W) := hb
  have HK : Hid (Below W.heap.size W W) := Below.refl _ _
  clear hx hb
  obtain ⟨t0, t1, t2, t3, t4, t5, t6, t7, t8, tl⟩ := HX.out
  go_enter Tryz.func86, Tryz.ntmps86
  go_wp2_with (first | (go_at_call 111; refine (iSet _ _ _).mono ?_; rintro e w1 ⟨rfl, hb1⟩; have JK : Hid (Below W.heap.size W w1) := (by first | exact HK.out.trans (hb1.mono HK.out.size) | exact HK.out.drew.trans (hb1.mono HK.out.drew.size)); clear HK; have HK := JK; clear JK hb1; obtain ⟨t0, t1, t2, t3, t4, t5, t6, t7, t8, tl⟩ := HX.out.keep HK.out) | (go_at_call 123; refine (iZero _ _ _).mono ?_; rintro e w1 ⟨rfl, hb1⟩; have JK : Hid (Below W.heap.size W w1) := (by first | exact HK.out.trans (hb1.mono HK.out.size) | exact HK.out.drew.trans (hb1.mono HK.out.drew.size)); clear HK; have HK := JK; clear JK hb1; obtain ⟨t0, t1, t2, t3, t4, t5, t6, t7, t8, tl⟩ := HX.out.keep HK.out) | (go_at_call 114; refine (iJump _ _).mono ?_; rintro e w1 ⟨rfl, hb1⟩; have JK : Hid (Below W.heap.size W w1) := (by first | exact HK.out.trans (hb1.mono HK.out.size) | exact HK.out.drew.trans (hb1.mono HK.out.drew.size)); clear HK; have HK := JK; clear JK hb1; obtain ⟨t0, t1, t2, t3, t4, t5, t6, t7, t8, tl⟩ := HX.out.keep HK.out) | (go_at_call 112; refine (iLess _ _ _ _).mono ?_; rintro e w1 ⟨rfl, hb1⟩; have JK : Hid (Below W.heap.size W w1) := (by first | exact HK.out.trans (hb1.mono HK.out.size) | exact HK.out.drew.trans (hb1.mono HK.out.drew.size)); clear HK; have HK := JK; clear JK hb1; obtain ⟨t0, t1, t2, t3, t4, t5, t6, t7, t8, tl⟩ := HX.out.keep HK.out))
  have hwz := HW.out.size
  have hkz := HK.out.size
  go_ret
  exact ⟨_, _, rfl, own5_new ([⟨4, r, a, x, 0⟩]) _ rfl (by omega) (Nat.le_of_ble_eq_true rfl), (HW.out.trans (HK.out.mono (by omega))).alloc (by omega) _⟩
set_option maxHeartbeats 2000000 in
theorem iPPrint (o r a x n fr : Int) (ss : Option Addr) (sl sc : Nat) (w : World) : Calls Tryz.prog 92 #[.agg #[.int .i64 o, .int .i64 r, .int .i64 a, .int .i64 x, .int .i64 n, .int .i64 fr, .slice ss sl sc, .nilFunc, .int .i64 0]] w fun e w' => ∃ g c, e = .returned (.slice (some ⟨g, 0, none⟩) 1 c) ∧ OwnT5 w' w.heap.size (.slice (some ⟨g, 0, none⟩) 1 c) ([⟨9, 0, a, 0, 0⟩]) ∧ Below w.heap.size w w' := by
  obtain ⟨W, hW, hx, hb, hz⟩ := SX.new w (.int .i64 o) (.int .i64 r) (.int .i64 a) (.int .i64 x) (.int .i64 n) (.int .i64 fr) (.slice ss sl sc) (.nilFunc) (.int .i64 0) 91
  have HX := hid_of hx
  have HW : Hid (Below w.heap.size w W) := hb
  have HK : Hid (Below W.heap.size W W) := Below.refl _ _
  clear hx hb
  obtain ⟨t0, t1, t2, t3, t4, t5, t6, t7, t8, tl⟩ := HX.out
  go_enter Tryz.func92, Tryz.ntmps92
  go_wp2_with (first | (go_at_call 111; refine (iSet _ _ _).mono ?_; rintro e w1 ⟨rfl, hb1⟩; have JK : Hid (Below W.heap.size W w1) := (by first | exact HK.out.trans (hb1.mono HK.out.size) | exact HK.out.drew.trans (hb1.mono HK.out.drew.size)); clear HK; have HK := JK; clear JK hb1; obtain ⟨t0, t1, t2, t3, t4, t5, t6, t7, t8, tl⟩ := HX.out.keep HK.out) | (go_at_call 123; refine (iZero _ _ _).mono ?_; rintro e w1 ⟨rfl, hb1⟩; have JK : Hid (Below W.heap.size W w1) := (by first | exact HK.out.trans (hb1.mono HK.out.size) | exact HK.out.drew.trans (hb1.mono HK.out.drew.size)); clear HK; have HK := JK; clear JK hb1; obtain ⟨t0, t1, t2, t3, t4, t5, t6, t7, t8, tl⟩ := HX.out.keep HK.out) | (go_at_call 114; refine (iJump _ _).mono ?_; rintro e w1 ⟨rfl, hb1⟩; have JK : Hid (Below W.heap.size W w1) := (by first | exact HK.out.trans (hb1.mono HK.out.size) | exact HK.out.drew.trans (hb1.mono HK.out.drew.size)); clear HK; have HK := JK; clear JK hb1; obtain ⟨t0, t1, t2, t3, t4, t5, t6, t7, t8, tl⟩ := HX.out.keep HK.out) | (go_at_call 112; refine (iLess _ _ _ _).mono ?_; rintro e w1 ⟨rfl, hb1⟩; have JK : Hid (Below W.heap.size W w1) := (by first | exact HK.out.trans (hb1.mono HK.out.size) | exact HK.out.drew.trans (hb1.mono HK.out.drew.size)); clear HK; have HK := JK; clear JK hb1; obtain ⟨t0, t1, t2, t3, t4, t5, t6, t7, t8, tl⟩ := HX.out.keep HK.out))
  have hwz := HW.out.size
  have hkz := HK.out.size
  go_ret
  exact ⟨_, _, rfl, own5_new ([⟨9, 0, a, 0, 0⟩]) _ rfl (by omega) (Nat.le_of_ble_eq_true rfl), (HW.out.trans (HK.out.mono (by omega))).alloc (by omega) _⟩
set_option maxHeartbeats 2000000 in
theorem iPEnd (o r a x n fr : Int) (ss : Option Addr) (sl sc : Nat) (w : World) : Calls Tryz.prog 95 #[.agg #[.int .i64 o, .int .i64 r, .int .i64 a, .int .i64 x, .int .i64 n, .int .i64 fr, .slice ss sl sc, .nilFunc, .int .i64 0]] w fun e w' => ∃ g c, e = .returned (.slice (some ⟨g, 0, none⟩) 1 c) ∧ OwnT5 w' w.heap.size (.slice (some ⟨g, 0, none⟩) 1 c) ([⟨12, 0, 0, 0, 0⟩]) ∧ Below w.heap.size w w' := by
  obtain ⟨W, hW, hx, hb, hz⟩ := SX.new w (.int .i64 o) (.int .i64 r) (.int .i64 a) (.int .i64 x) (.int .i64 n) (.int .i64 fr) (.slice ss sl sc) (.nilFunc) (.int .i64 0) 91
  have HX := hid_of hx
  have HW : Hid (Below w.heap.size w W) := hb
  have HK : Hid (Below W.heap.size W W) := Below.refl _ _
  clear hx hb
  obtain ⟨t0, t1, t2, t3, t4, t5, t6, t7, t8, tl⟩ := HX.out
  go_enter Tryz.func95, Tryz.ntmps95
  go_wp2_with (first | (go_at_call 111; refine (iSet _ _ _).mono ?_; rintro e w1 ⟨rfl, hb1⟩; have JK : Hid (Below W.heap.size W w1) := (by first | exact HK.out.trans (hb1.mono HK.out.size) | exact HK.out.drew.trans (hb1.mono HK.out.drew.size)); clear HK; have HK := JK; clear JK hb1; obtain ⟨t0, t1, t2, t3, t4, t5, t6, t7, t8, tl⟩ := HX.out.keep HK.out) | (go_at_call 123; refine (iZero _ _ _).mono ?_; rintro e w1 ⟨rfl, hb1⟩; have JK : Hid (Below W.heap.size W w1) := (by first | exact HK.out.trans (hb1.mono HK.out.size) | exact HK.out.drew.trans (hb1.mono HK.out.drew.size)); clear HK; have HK := JK; clear JK hb1; obtain ⟨t0, t1, t2, t3, t4, t5, t6, t7, t8, tl⟩ := HX.out.keep HK.out) | (go_at_call 114; refine (iJump _ _).mono ?_; rintro e w1 ⟨rfl, hb1⟩; have JK : Hid (Below W.heap.size W w1) := (by first | exact HK.out.trans (hb1.mono HK.out.size) | exact HK.out.drew.trans (hb1.mono HK.out.drew.size)); clear HK; have HK := JK; clear JK hb1; obtain ⟨t0, t1, t2, t3, t4, t5, t6, t7, t8, tl⟩ := HX.out.keep HK.out) | (go_at_call 112; refine (iLess _ _ _ _).mono ?_; rintro e w1 ⟨rfl, hb1⟩; have JK : Hid (Below W.heap.size W w1) := (by first | exact HK.out.trans (hb1.mono HK.out.size) | exact HK.out.drew.trans (hb1.mono HK.out.drew.size)); clear HK; have HK := JK; clear JK hb1; obtain ⟨t0, t1, t2, t3, t4, t5, t6, t7, t8, tl⟩ := HX.out.keep HK.out))
  have hwz := HW.out.size
  have hkz := HK.out.size
  go_ret
  exact ⟨_, _, rfl, own5_new ([⟨12, 0, 0, 0, 0⟩]) _ rfl (by omega) (Nat.le_of_ble_eq_true rfl), (HW.out.trans (HK.out.mono (by omega))).alloc (by omega) _⟩
set_option maxHeartbeats 2000000 in
theorem iPJump (o r a x n fr : Int) (ss : Option Addr) (sl sc : Nat) (y : Int) (w : World) (hrd : ∃ gi oi, ss = some ⟨gi, oi, none⟩ ∧ gi < w.heap.size ∧ w.cell? ⟨gi, oi + n.toNat, none⟩ = some (.int .i64 y)) (hn0 : 0 ≤ n) (hn1 : n < (sl : Int)) : Calls Tryz.prog 93 #[.agg #[.int .i64 o, .int .i64 r, .int .i64 a, .int .i64 x, .int .i64 n, .int .i64 fr, .slice ss sl sc, .nilFunc, .int .i64 0]] w fun e w' => ∃ g c, e = .returned (.slice (some ⟨g, 0, none⟩) 1 c) ∧ OwnT5 w' w.heap.size (.slice (some ⟨g, 0, none⟩) 1 c) ([⟨10, 0, 0, 0, y⟩]) ∧ Below w.heap.size w w' := by
  obtain ⟨W, hW, hx, hb, hz⟩ := SX.new w (.int .i64 o) (.int .i64 r) (.int .i64 a) (.int .i64 x) (.int .i64 n) (.int .i64 fr) (.slice ss sl sc) (.nilFunc) (.int .i64 0) 91
  have HX := hid_of hx
  have HW : Hid (Below w.heap.size w W) := hb
  have HK : Hid (Below W.heap.size W W) := Below.refl _ _
  clear hx hb
  obtain ⟨t0, t1, t2, t3, t4, t5, t6, t7, t8, tl⟩ := HX.out
  obtain ⟨gi, oi, es, hgi, hci⟩ := hrd
  subst es
  have i0 := (HW.out.cell (p := ⟨gi, oi + n.toNat, none⟩) hgi).trans hci
  clear hci
  obtain ⟨m, rfl⟩ : ∃ m : Nat, n = (m : Int) := ⟨n.toNat, by omega⟩
  rw [Int.toNat_natCast] at i0
  go_enter Tryz.func93, Tryz.ntmps93
  go_wp2_with (first | (go_at_call 111; refine (iSet _ _ _).mono ?_; rintro e w1 ⟨rfl, hb1⟩; have JK : Hid (Below W.heap.size W w1) := (by first | exact HK.out.trans (hb1.mono HK.out.size) | exact HK.out.drew.trans (hb1.mono HK.out.drew.size)); clear HK; have HK := JK; clear JK hb1; obtain ⟨t0, t1, t2, t3, t4, t5, t6, t7, t8, tl⟩ := HX.out.keep HK.out) | (go_at_call 123; refine (iZero _ _ _).mono ?_; rintro e w1 ⟨rfl, hb1⟩; have JK : Hid (Below W.heap.size W w1) := (by first | exact HK.out.trans (hb1.mono HK.out.size) | exact HK.out.drew.trans (hb1.mono HK.out.drew.size)); clear HK; have HK := JK; clear JK hb1; obtain ⟨t0, t1, t2, t3, t4, t5, t6, t7, t8, tl⟩ := HX.out.keep HK.out) | (go_at_call 114; refine (iJump _ _).mono ?_; rintro e w1 ⟨rfl, hb1⟩; have JK : Hid (Below W.heap.size W w1) := (by first | exact HK.out.trans (hb1.mono HK.out.size) | exact HK.out.drew.trans (hb1.mono HK.out.drew.size)); clear HK; have HK := JK; clear JK hb1; obtain ⟨t0, t1, t2, t3, t4, t5, t6, t7, t8, tl⟩ := HX.out.keep HK.out) | (go_at_call 112; refine (iLess _ _ _ _).mono ?_; rintro e w1 ⟨rfl, hb1⟩; have JK : Hid (Below W.heap.size W w1) := (by first | exact HK.out.trans (hb1.mono HK.out.size) | exact HK.out.drew.trans (hb1.mono HK.out.drew.size)); clear HK; have HK := JK; clear JK hb1; obtain ⟨t0, t1, t2, t3, t4, t5, t6, t7, t8, tl⟩ := HX.out.keep HK.out))
  have hwz := HW.out.size
  have hkz := HK.out.size
  go_ret
  exact ⟨_, _, rfl, own5_new ([⟨10, 0, 0, 0, y⟩]) _ rfl (by omega) (Nat.le_of_ble_eq_true rfl), (HW.out.trans (HK.out.mono (by omega))).alloc (by omega) _⟩
set_option maxHeartbeats 2000000 in
theorem iPZero (o r a x n fr : Int) (ss : Option Addr) (sl sc : Nat) (y : Int) (w : World) (hrd : ∃ gi oi, ss = some ⟨gi, oi, none⟩ ∧ gi < w.heap.size ∧ w.cell? ⟨gi, oi + n.toNat, none⟩ = some (.int .i64 y)) (hn0 : 0 ≤ n) (hn1 : n < (sl : Int)) : Calls Tryz.prog 94 #[.agg #[.int .i64 o, .int .i64 r, .int .i64 a, .int .i64 x, .int .i64 n, .int .i64 fr, .slice ss sl sc, .nilFunc, .int .i64 0]] w fun e w' => ∃ g c, e = .returned (.slice (some ⟨g, 0, none⟩) 1 c) ∧ OwnT5 w' w.heap.size (.slice (some ⟨g, 0, none⟩) 1 c) ([⟨11, 0, a, 0, y⟩]) ∧ Below w.heap.size w w' := by
  obtain ⟨W, hW, hx, hb, hz⟩ := SX.new w (.int .i64 o) (.int .i64 r) (.int .i64 a) (.int .i64 x) (.int .i64 n) (.int .i64 fr) (.slice ss sl sc) (.nilFunc) (.int .i64 0) 91
  have HX := hid_of hx
  have HW : Hid (Below w.heap.size w W) := hb
  have HK : Hid (Below W.heap.size W W) := Below.refl _ _
  clear hx hb
  obtain ⟨t0, t1, t2, t3, t4, t5, t6, t7, t8, tl⟩ := HX.out
  obtain ⟨gi, oi, es, hgi, hci⟩ := hrd
  subst es
  have i0 := (HW.out.cell (p := ⟨gi, oi + n.toNat, none⟩) hgi).trans hci
  clear hci
  obtain ⟨m, rfl⟩ : ∃ m : Nat, n = (m : Int) := ⟨n.toNat, by omega⟩
  rw [Int.toNat_natCast] at i0
  have HI0 := hid_of i0
  go_enter Tryz.func94, Tryz.ntmps94
  go_wp2_with fail
  go_region_held3 (fun w' => w'.cell? ⟨w.heap.size, 2, none⟩ = some (.int .i64 a) ∧ w'.cell? ⟨w.heap.size, 4, none⟩ = some (.int .i64 (m : Int)) ∧ w'.cell? ⟨w.heap.size, 6, none⟩ = some (.slice (some ⟨gi, oi, none⟩) sl sc) ∧ w'.cell? ⟨gi, oi + m, none⟩ = some (.int .i64 y)) (go_keep) (first | (go_at_call 111; refine (iSet _ _ _).mono ?_; rintro e w1 ⟨rfl, hb1⟩; have JK : Hid (Below W.heap.size W w1) := (by first | exact HK.out.trans (hb1.mono HK.out.size) | exact HK.out.drew.trans (hb1.mono HK.out.drew.size)); clear HK; have HK := JK; clear JK hb1; obtain ⟨t0, t1, t2, t3, t4, t5, t6, t7, t8, tl⟩ := HX.out.keep HK.out; have i0 := (HK.out.cell (p := ⟨gi, oi + m, none⟩) (Nat.lt_trans hgi hz)).trans HI0.out) | (go_at_call 123; refine (iZero _ _ _).mono ?_; rintro e w1 ⟨rfl, hb1⟩; have JK : Hid (Below W.heap.size W w1) := (by first | exact HK.out.trans (hb1.mono HK.out.size) | exact HK.out.drew.trans (hb1.mono HK.out.drew.size)); clear HK; have HK := JK; clear JK hb1; obtain ⟨t0, t1, t2, t3, t4, t5, t6, t7, t8, tl⟩ := HX.out.keep HK.out; have i0 := (HK.out.cell (p := ⟨gi, oi + m, none⟩) (Nat.lt_trans hgi hz)).trans HI0.out) | (go_at_call 114; refine (iJump _ _).mono ?_; rintro e w1 ⟨rfl, hb1⟩; have JK : Hid (Below W.heap.size W w1) := (by first | exact HK.out.trans (hb1.mono HK.out.size) | exact HK.out.drew.trans (hb1.mono HK.out.drew.size)); clear HK; have HK := JK; clear JK hb1; obtain ⟨t0, t1, t2, t3, t4, t5, t6, t7, t8, tl⟩ := HX.out.keep HK.out; have i0 := (HK.out.cell (p := ⟨gi, oi + m, none⟩) (Nat.lt_trans hgi hz)).trans HI0.out) | (go_at_call 112; refine (iLess _ _ _ _).mono ?_; rintro e w1 ⟨rfl, hb1⟩; have JK : Hid (Below W.heap.size W w1) := (by first | exact HK.out.trans (hb1.mono HK.out.size) | exact HK.out.drew.trans (hb1.mono HK.out.drew.size)); clear HK; have HK := JK; clear JK hb1; obtain ⟨t0, t1, t2, t3, t4, t5, t6, t7, t8, tl⟩ := HX.out.keep HK.out; have i0 := (HK.out.cell (p := ⟨gi, oi + m, none⟩) (Nat.lt_trans hgi hz)).trans HI0.out))
  go_wp2
  have hwz := HW.out.size
  have hkz := HK.out.size
  go_ret
  exact ⟨_, _, rfl, own5_new ([⟨11, 0, a, 0, y⟩]) _ rfl (by omega) (Nat.le_of_ble_eq_true rfl), (HW.out.trans (HK.out.mono (by omega))).alloc (by omega) _⟩
end

section
set_option linter.unusedSimpArgs false
set_option linter.unusedVariables false
set_option maxRecDepth 100000
open Go.RowKit

/- a place in a box -/
structure XB (w : World) (G : Nat) (o r a x n : Int) : Prop where
  c0 : w.cell? ⟨G, 0, none⟩ = some (.int .i64 o)
  c1 : w.cell? ⟨G, 1, none⟩ = some (.int .i64 r)
  c2 : w.cell? ⟨G, 2, none⟩ = some (.int .i64 a)
  c3 : w.cell? ⟨G, 3, none⟩ = some (.int .i64 x)
  c4 : w.cell? ⟨G, 4, none⟩ = some (.int .i64 n)
  lt : G < w.heap.size
theorem XB.keep {w w' : World} {G : Nat} {o r a x n : Int} (h : XB w G o r a x n) (hb : Below w.heap.size w w') : XB w' G o r a x n :=
  ⟨(hb.cell (p := ⟨G, 0, none⟩) h.lt).trans h.c0, (hb.cell (p := ⟨G, 1, none⟩) h.lt).trans h.c1, (hb.cell (p := ⟨G, 2, none⟩) h.lt).trans h.c2, (hb.cell (p := ⟨G, 3, none⟩) h.lt).trans h.c3, (hb.cell (p := ⟨G, 4, none⟩) h.lt).trans h.c4, by have := hb.size; have := h.lt; omega⟩
theorem XB.new (w : World) (o r a x n : Int) (T : TypeId) : ∃ W, w.alloc (.cells #[.int .i64 o, .int .i64 r, .int .i64 a, .int .i64 x, .int .i64 n] T) = W ∧ XB W w.heap.size o r a x n ∧ Below w.heap.size w W ∧ w.heap.size < W.heap.size :=
  ⟨_, rfl, ⟨by simp [go_sem], by simp [go_sem], by simp [go_sem], by simp [go_sem], by simp [go_sem], by simp⟩, (Below.refl _ _).alloc (Nat.le_refl _) _, by simp⟩
theorem Below.via {B : Nat} {w cur w2 : World} (h2 : Below cur.heap.size cur w2) (hB : B ≤ w.heap.size) (h1 : Below B w cur) : Below B w w2 := h1.trans (h2.mono (Nat.le_trans hB h1.size))
theorem apart {W w1 : World} (hb : Below W.heap.size W w1) : (∀ b, b < W.heap.size → b < w1.heap.size) ∧ (∀ b, b < W.heap.size → ¬ b = w1.heap.size) ∧ (∀ b, b < W.heap.size → ¬ w1.heap.size = b) :=
  ⟨fun b h => by have := hb.size; omega, fun b h => by have := hb.size; omega, fun b h => by have := hb.size; omega⟩
theorem Below.undrew {X w2 : World} (h : Below X.drew.heap.size X.drew w2) : Below X.heap.size X w2 := ⟨h.os, h.tape, h.output, h.size, h.block⟩
structure K3 (w : World) (q : Nat) (sz : Int) (ch : Bool) (f : Value) : Prop where
  c0 : w.cell? ⟨q, 0, none⟩ = some (.int .i64 sz)
  c1 : w.cell? ⟨q, 1, none⟩ = some (.bool ch)
  c2 : w.cell? ⟨q, 2, none⟩ = some f
structure CutE (W1 : World) (v0 v1 v2 v3 v4 v5 v6 : Value) (sz : Int) (ch : Bool) (f : Value) (p q : Nat) (wx : World) : Prop where
  x : SX wx p v0 v1 v2 v3 v4 v5 v6 .nilFunc (.int .i64 0)
  fz : ∀ j, wx.frozen? ⟨p, j, none⟩ = false
  k : K3 wx q sz ch f
  ne : p ≠ q
  hp : W1.heap.size ≤ p
  hq : W1.heap.size ≤ q
  ql : q < wx.heap.size
  b : Below W1.heap.size W1 wx
theorem chanWorld {wd : World} {p q : Nat} {v0 v1 v2 v3 v4 v5 v6 : Value} {sz : Int} {ch : Bool} {f : Value} (hx : SX wd p v0 v1 v2 v3 v4 v5 v6 .nilFunc (.int .i64 0)) (hk : K3 wd q sz ch f) (hne : p ≠ q) (hq : q < wd.heap.size) (F R : Value) (bb : Int) (T : TypeId) :
    SX (((wd.setCell ⟨p, 7, none⟩ F).setCell ⟨p, 8, none⟩ R).alloc (.cells #[.int .i64 bb] T)).drew p v0 v1 v2 v3 v4 v5 v6 F R ∧ K3 (((wd.setCell ⟨p, 7, none⟩ F).setCell ⟨p, 8, none⟩ R).alloc (.cells #[.int .i64 bb] T)).drew q sz ch f ∧ (((wd.setCell ⟨p, 7, none⟩ F).setCell ⟨p, 8, none⟩ R).alloc (.cells #[.int .i64 bb] T)).drew.cell? ⟨wd.heap.size, 0, none⟩ = some (.int .i64 bb) ∧ wd.heap.size < (((wd.setCell ⟨p, 7, none⟩ F).setCell ⟨p, 8, none⟩ R).alloc (.cells #[.int .i64 bb] T)).drew.heap.size := by
  have A : ∀ b j, b < wd.heap.size → (((wd.setCell ⟨p, 7, none⟩ F).setCell ⟨p, 8, none⟩ R).alloc (.cells #[.int .i64 bb] T)).drew.cell? ⟨b, j, none⟩ = ((wd.setCell ⟨p, 7, none⟩ F).setCell ⟨p, 8, none⟩ R).cell? ⟨b, j, none⟩ := fun b j h => ((Below.refl _ _).alloc (Nat.le_refl _) _).cell (p := ⟨b, j, none⟩) (by simpa using h)
  have C : ∀ j, j ≠ 7 → j ≠ 8 → (((wd.setCell ⟨p, 7, none⟩ F).setCell ⟨p, 8, none⟩ R).alloc (.cells #[.int .i64 bb] T)).drew.cell? ⟨p, j, none⟩ = wd.cell? ⟨p, j, none⟩ := fun j h7 h8 => (A p j hx.lt).trans ((setC_off (fun e => h8 e.symm)).trans (setC_off (fun e => h7 e.symm)))
  have D : ∀ j, (((wd.setCell ⟨p, 7, none⟩ F).setCell ⟨p, 8, none⟩ R).alloc (.cells #[.int .i64 bb] T)).drew.cell? ⟨q, j, none⟩ = wd.cell? ⟨q, j, none⟩ := fun j => (A q j hq).trans ((setC_blk hne).trans (setC_blk hne))
  refine ⟨⟨?_, ?_, ?_, ?_, ?_, ?_, ?_, ?_, ?_, ?_⟩, ⟨?_, ?_, ?_⟩, ?_, ?_⟩
  · rw [C 0 (by decide) (by decide)]; exact hx.c0
  · rw [C 1 (by decide) (by decide)]; exact hx.c1
  · rw [C 2 (by decide) (by decide)]; exact hx.c2
  · rw [C 3 (by decide) (by decide)]; exact hx.c3
  · rw [C 4 (by decide) (by decide)]; exact hx.c4
  · rw [C 5 (by decide) (by decide)]; exact hx.c5
  · rw [C 6 (by decide) (by decide)]; exact hx.c6
  · rw [A p 7 hx.lt, setC_off (by decide), setC_at (by rw [hx.c7]; rfl)]
  · rw [A p 8 hx.lt, setC_at (by rw [setC_off (by decide), hx.c8]; rfl)]
  · show p < (World.alloc _ _).heap.size
    have := hx.lt
    simp
    omega
  · rw [D 0]; exact hk.c0
  · rw [D 1]; exact hk.c1
  · rw [D 2]; exact hk.c2
  · show (World.alloc ((wd.setCell ⟨p, 7, none⟩ F).setCell ⟨p, 8, none⟩ R) _).cell? ⟨wd.heap.size, 0, none⟩ = _
    have e : wd.heap.size = ((wd.setCell ⟨p, 7, none⟩ F).setCell ⟨p, 8, none⟩ R).heap.size := by simp
    rw [e]
    simp [go_sem]
  · show wd.heap.size < (World.alloc _ _).heap.size
    simp
set_option maxHeartbeats 8000000 in
theorem emitPlain (o r a x n fr : Int) (ss sk : Option Addr) (sl sc kl kc : Nat) (k : Nat) (sz : Int) (L : List I5) (w : World) (hE : emVal o = #[.int .i64 sz, .bool false, .func (.func k) #[] #[]]) (hF : ∀ (args : Array Value) (w : World), (callFunc k args).run Tryz.prog w = .ok (.enter k args) w) (hok : Plain.insB o r a x n sl kl = true) (hC : ∀ W, Below w.heap.size w W → Calls Tryz.prog k #[.agg #[.int .i64 o, .int .i64 r, .int .i64 a, .int .i64 x, .int .i64 n, .int .i64 fr, .slice ss sl sc, .nilFunc, .int .i64 0]] W fun e w' => ∃ g c, e = .returned (.slice (some ⟨g, 0, none⟩) 1 c) ∧ OwnT5 w' W.heap.size (.slice (some ⟨g, 0, none⟩) 1 c) (L) ∧ Below W.heap.size W w') :
    Calls Tryz.prog 44 #[.slice sk kl kc, .agg #[.int .i64 o, .int .i64 r, .int .i64 a, .int .i64 x, .int .i64 n], .int .i64 fr, .slice ss sl sc] w fun e w' => ∃ g c, e = .returned (.slice (some ⟨g, 0, none⟩) 1 c) ∧ OwnT5 w' w.heap.size (.slice (some ⟨g, 0, none⟩) 1 c) (L) ∧ Below w.heap.size w w' := by
  have HOK := hid_of hok
  have HEM := hid_of hE
  have HCC := hid_of hC
  clear hok hE hC
  obtain ⟨W, hW, hx, hb, hz⟩ := XB.new w o r a x n 46
  have HX := hid_of hx
  have HW : Hid (Below w.heap.size w W) := hb
  have HK : Hid (Below W.heap.size W W) := Below.refl _ _
  clear hx hb
  obtain ⟨q0, q1, q2, q3, q4, tl⟩ := HX.out
  go_enter Tryz.func44, Tryz.ntmps44
  go_upto_region 3 with (go_at_call 67; refine (insOk_any _ _ _ _ _ _ _ _).mono ?_; rintro e w1 ⟨rfl, hb1⟩; rw [HOK.out]; have JK : Hid (Below W.heap.size W w1) := (by first | exact HK.out.trans (hb1.mono HK.out.size) | exact HK.out.drew.trans (hb1.mono HK.out.drew.size)); clear HK; have HK := JK; clear JK; obtain ⟨q0, q1, q2, q3, q4, tl⟩ := HX.out.keep HK.out; clear hb1)
  have n1 : ¬ w.heap.size = w1.heap.size := Nat.ne_of_lt tl
  have n1' : ¬ w1.heap.size = w.heap.size := Nat.ne_of_gt tl
  have n1b : ¬ w.heap.size = w1.heap.size + 1 := by omega
  have n1c : ¬ w1.heap.size + 1 = w.heap.size := by omega
  go_cut [9, 10] (fun s9 s10 wx => ∃ p q, s9 = .pointer (some ⟨p, 0, none⟩) ∧ s10 = .pointer (some ⟨q, 0, none⟩) ∧ CutE w1 (.int .i64 o) (.int .i64 r) (.int .i64 a) (.int .i64 x) (.int .i64 n) (.int .i64 fr) (.slice ss sl sc) sz false (.func (.func k) #[] #[]) p q wx)
  case first =>
    go_region_held3 (fun w' => w'.cell? ⟨w.heap.size, 0, none⟩ = some (.int .i64 o) ∧ w'.cell? ⟨w.heap.size, 1, none⟩ = some (.int .i64 r) ∧ w'.cell? ⟨w.heap.size, 2, none⟩ = some (.int .i64 a) ∧ w'.cell? ⟨w.heap.size, 3, none⟩ = some (.int .i64 x) ∧ w'.cell? ⟨w.heap.size, 4, none⟩ = some (.int .i64 n)) (go_keep) (first | (go_at_call 37; refine (emitterOf_any _ _).mono ?_; rintro e w2 ⟨rfl, hb2⟩; rw [HEM.out]; have JK := hid_of (Below.via (B := W.heap.size) (w := W) hb2 (Nat.le_refl _) (by repeat (first | with_reducible exact HK.out | with_reducible refine Below.drew ?_ | with_reducible refine Below.alloc ?_ (by have := HK.out.size; first | omega | (simp; omega)) _))); have KB := hid_of (Below.via (B := w1.heap.size) (w := w1) hb2 (Nat.le_refl _) (by repeat (first | with_reducible exact Below.refl _ _ | with_reducible refine Below.drew ?_ | with_reducible refine Below.alloc ?_ (by first | omega | (simp; omega) | simp) _))); obtain ⟨q0, q1, q2, q3, q4, tl⟩ := HX.out.keep JK.out; (first | (obtain ⟨bc1, bc2⟩ := bcell (Below.undrew hb2)) | (obtain ⟨bc1, bc2⟩ := bcell hb2)); obtain ⟨ap1, ap2, ap3⟩ := apart (Below.undrew hb2); have n2 : ¬ w.heap.size = w2.heap.size := Nat.ne_of_lt tl; have n2' : ¬ w2.heap.size = w.heap.size := Nat.ne_of_gt tl; try simp only [World.size_alloc] at bc1 bc2 ap1 ap2 ap3; clear hb2))
    all_goals
      go_wp2_with fail
      go_meet
      have zk := KB.out.size
      refine ⟨_, _, rfl, rfl, ⟨⟨?_, ?_, ?_, ?_, ?_, ?_, ?_, ?_, ?_, ?_⟩, fun j => ?_, ⟨?_, ?_, ?_⟩, ?_, ?_, ?_, ?_, ?_⟩⟩
      all_goals first | (simp [go_sem, bc1, bc2, ap1, ap2, ap3]; done) | (simp (config := { maxDischargeDepth := 6 }) [go_sem, bc1, bc2, ap1, ap2, ap3, setC_at]; done) | omega | (simp; omega) | (have := ap1 w1.heap.size (by omega); simp; omega) | (have := ap1 (w1.heap.size + 1) (by omega); simp; omega) | (repeat (first | with_reducible exact KB.out | with_reducible refine Below.alloc ?_ (by first | omega | (simp; omega)) _ | with_reducible refine Below.setCell ?_ (by first | omega | exact Nat.le_refl _ | exact Nat.le_succ _ | (simp; done)) _))
  case rest =>
    obtain ⟨p, q, rfl, rfl, hx, hf, hk, hne, hp, hq, hql, hbx⟩ := hcut
    obtain ⟨u0, u1, u2, u3, u4, u5, u6, u7, u8, ul⟩ := hx
    obtain ⟨k0, k1, k2⟩ := hk
    have z1 := HK.out.size
    have HB9 : Hid (Below w.heap.size w wc) := HW.out.trans ((HK.out.trans (hbx.mono z1)).mono (by omega))
    have z9 := HB9.out.size
    clear hf hbx
    go_wp2_with (refine (HCC.out _ HB9.out).mono ?_; rintro e w5 ⟨g5, c5, rfl, ho5, hb5⟩; have HO5 := hid_of ho5; have HB5 := hid_of hb5; clear ho5 hb5)
    go_ret
    exact ⟨_, _, rfl, HO5.out.low z9, HB9.out.trans (HB5.out.mono z9)⟩
set_option maxHeartbeats 8000000 in
theorem emitChan (o r a x n fr : Int) (ss sk : Option Addr) (sl sc kl kc : Nat) (N lo hi : Nat) (caps : List Int) (bb rm : Int) (k : Nat) (sz : Int) (L : List I5) (w : World) (hE : emVal o = #[.int .i64 sz, .bool true, .func (.func k) #[] #[]]) (hF : ∀ (args : Array Value) (w : World), (callFunc k args).run Tryz.prog w = .ok (.enter k args) w) (hok : Plain.insB o r a x n sl kl = true) (hkl : caps.length = kl) (hcp : IntsR w lo hi sk caps) (hhi : hi ≤ w.heap.size) (hcl : caps.length ≤ 2000000) (hbs : baseV caps n = bb) (hb0 : 0 ≤ bb) (hb1 : bb ≤ 20) (hn0 : 0 ≤ n) (hn1 : n < (kl : Int)) (hrm : caps.getD n.toNat 0 = rm) (hC : ∀ W pb, Below w.heap.size w W → CBx W pb bb → Calls Tryz.prog k #[.agg #[.int .i64 o, .int .i64 r, .int .i64 a, .int .i64 x, .int .i64 n, .int .i64 fr, .slice ss sl sc, .func (.func 99) #[] #[.pointer (some ⟨pb, 0, none⟩)], .int .i64 rm]] W fun e w' => ∃ g c, e = .returned (.slice (some ⟨g, 0, none⟩) N c) ∧ OwnT5 w' W.heap.size (.slice (some ⟨g, 0, none⟩) N c) (L) ∧ Below W.heap.size W w') :
    Calls Tryz.prog 44 #[.slice sk kl kc, .agg #[.int .i64 o, .int .i64 r, .int .i64 a, .int .i64 x, .int .i64 n], .int .i64 fr, .slice ss sl sc] w fun e w' => ∃ g c, e = .returned (.slice (some ⟨g, 0, none⟩) N c) ∧ OwnT5 w' w.heap.size (.slice (some ⟨g, 0, none⟩) N c) (L) ∧ Below w.heap.size w w' := by
  have HOK := hid_of hok
  have HEM := hid_of hE
  have HCC := hid_of hC
  clear hok hE hC
  have HCP := hid_of hcp
  clear hcp
  obtain ⟨W, hW, hx, hb, hz⟩ := XB.new w o r a x n 46
  have HX := hid_of hx
  have HW : Hid (Below w.heap.size w W) := hb
  have HK : Hid (Below W.heap.size W W) := Below.refl _ _
  clear hx hb
  obtain ⟨q0, q1, q2, q3, q4, tl⟩ := HX.out
  go_enter Tryz.func44, Tryz.ntmps44
  go_upto_region 3 with (go_at_call 67; refine (insOk_any _ _ _ _ _ _ _ _).mono ?_; rintro e w1 ⟨rfl, hb1⟩; rw [HOK.out]; have JK : Hid (Below W.heap.size W w1) := (by first | exact HK.out.trans (hb1.mono HK.out.size) | exact HK.out.drew.trans (hb1.mono HK.out.drew.size)); clear HK; have HK := JK; clear JK; obtain ⟨q0, q1, q2, q3, q4, tl⟩ := HX.out.keep HK.out; clear hb1)
  have n1 : ¬ w.heap.size = w1.heap.size := Nat.ne_of_lt tl
  have n1' : ¬ w1.heap.size = w.heap.size := Nat.ne_of_gt tl
  have n1b : ¬ w.heap.size = w1.heap.size + 1 := by omega
  have n1c : ¬ w1.heap.size + 1 = w.heap.size := by omega
  go_cut [9, 10] (fun s9 s10 wx => ∃ p q, s9 = .pointer (some ⟨p, 0, none⟩) ∧ s10 = .pointer (some ⟨q, 0, none⟩) ∧ CutE w1 (.int .i64 o) (.int .i64 r) (.int .i64 a) (.int .i64 x) (.int .i64 n) (.int .i64 fr) (.slice ss sl sc) sz true (.func (.func k) #[] #[]) p q wx)
  case first =>
    go_region_held3 (fun w' => w'.cell? ⟨w.heap.size, 0, none⟩ = some (.int .i64 o) ∧ w'.cell? ⟨w.heap.size, 1, none⟩ = some (.int .i64 r) ∧ w'.cell? ⟨w.heap.size, 2, none⟩ = some (.int .i64 a) ∧ w'.cell? ⟨w.heap.size, 3, none⟩ = some (.int .i64 x) ∧ w'.cell? ⟨w.heap.size, 4, none⟩ = some (.int .i64 n)) (go_keep) (first | (go_at_call 37; refine (emitterOf_any _ _).mono ?_; rintro e w2 ⟨rfl, hb2⟩; rw [HEM.out]; have JK := hid_of (Below.via (B := W.heap.size) (w := W) hb2 (Nat.le_refl _) (by repeat (first | with_reducible exact HK.out | with_reducible refine Below.drew ?_ | with_reducible refine Below.alloc ?_ (by have := HK.out.size; first | omega | (simp; omega)) _))); have KB := hid_of (Below.via (B := w1.heap.size) (w := w1) hb2 (Nat.le_refl _) (by repeat (first | with_reducible exact Below.refl _ _ | with_reducible refine Below.drew ?_ | with_reducible refine Below.alloc ?_ (by first | omega | (simp; omega) | simp) _))); obtain ⟨q0, q1, q2, q3, q4, tl⟩ := HX.out.keep JK.out; (first | (obtain ⟨bc1, bc2⟩ := bcell (Below.undrew hb2)) | (obtain ⟨bc1, bc2⟩ := bcell hb2)); obtain ⟨ap1, ap2, ap3⟩ := apart (Below.undrew hb2); have n2 : ¬ w.heap.size = w2.heap.size := Nat.ne_of_lt tl; have n2' : ¬ w2.heap.size = w.heap.size := Nat.ne_of_gt tl; try simp only [World.size_alloc] at bc1 bc2 ap1 ap2 ap3; clear hb2))
    all_goals
      go_wp2_with fail
      go_meet
      have zk := KB.out.size
      refine ⟨_, _, rfl, rfl, ⟨⟨?_, ?_, ?_, ?_, ?_, ?_, ?_, ?_, ?_, ?_⟩, fun j => ?_, ⟨?_, ?_, ?_⟩, ?_, ?_, ?_, ?_, ?_⟩⟩
      all_goals first | (simp [go_sem, bc1, bc2, ap1, ap2, ap3]; done) | (simp (config := { maxDischargeDepth := 6 }) [go_sem, bc1, bc2, ap1, ap2, ap3, setC_at]; done) | omega | (simp; omega) | (have := ap1 w1.heap.size (by omega); simp; omega) | (have := ap1 (w1.heap.size + 1) (by omega); simp; omega) | (repeat (first | with_reducible exact KB.out | with_reducible refine Below.alloc ?_ (by first | omega | (simp; omega)) _ | with_reducible refine Below.setCell ?_ (by first | omega | exact Nat.le_refl _ | exact Nat.le_succ _ | (simp; done)) _))
  case rest =>
    obtain ⟨p, q, rfl, rfl, hx, hf, hk, hne, hp, hq, hql, hbx⟩ := hcut
    have HX9 := hid_of hx
    have HF9 := hid_of hf
    have HK9 := hid_of hk
    have z1 := HK.out.size
    have HBw : Hid (Below W.heap.size W wc) := HK.out.trans (hbx.mono z1)
    have HB9 : Hid (Below w.heap.size w wc) := HW.out.trans (HBw.out.mono (by omega))
    have z9 := HB9.out.size
    clear hf hbx
    clear q0 q1 q2 q3 q4 tl
    obtain ⟨q0, q1, q2, q3, q4, tl⟩ := HX.out.keep HBw.out
    have k1 := hk.c1
    clear hx hk
    have BC := implBase_any sk kc lo hi caps n wc (HCP.out.keep (Keep.of_below HB9.out hhi)) (by omega) hcl
    rw [hbs, hkl] at BC
    go_upto_region 8 with (go_at_call 43; refine BC.mono ?_; rintro e wd ⟨rfl, hbd⟩; have HBD := hid_of hbd; clear hbd)
    have zd := HBD.out.size
    obtain ⟨m, rfl⟩ : ∃ m : Nat, n = (m : Int) := ⟨n.toNat, by omega⟩
    rw [Int.toNat_natCast] at hrm
    obtain ⟨gk, ok, es, hg1, hg2, hgc⟩ := HCP.out.pos (by omega)
    subst es
    have hgd : gk < wd.heap.size := by omega
    have yc := ((HB9.out.cell (p := ⟨gk, ok + m, none⟩) (by show gk < _; omega)).trans (hgc m (by omega)))
    rw [hrm] at yc
    have yd := (HBD.out.cell (p := ⟨gk, ok + m, none⟩) (by show gk < _; omega)).trans yc
    have y4 := (HBD.out.cell (p := ⟨w.heap.size, 4, none⟩) tl).trans q4
    have u7 := (HBD.out.cell (p := ⟨p, 7, none⟩) HX9.out.lt).trans HX9.out.c7
    have u8 := (HBD.out.cell (p := ⟨p, 8, none⟩) HX9.out.lt).trans HX9.out.c8
    have f7 : ∀ j, wd.frozen? ⟨p, j, none⟩ = false := fun j => (HBD.out.frozen (p := ⟨p, j, none⟩) HX9.out.lt).trans (HF9.out j)
    have hpd : p < wd.heap.size := by have := HX9.out.lt; omega
    have m1 : ¬ p = w.heap.size := by omega
    have m2 : ¬ w.heap.size = p := by omega
    have m3 : ¬ p = gk := by omega
    have m4 : ¬ gk = p := by omega
    have m5 : ¬ p = wd.heap.size := by omega
    have m6 : ¬ wd.heap.size = p := by omega
    have m7 : ¬ gk = wd.heap.size := by omega
    have m8 : ¬ wd.heap.size = gk := by omega
    have m9 : ¬ w.heap.size = wd.heap.size := by omega
    have m10 : ¬ wd.heap.size = w.heap.size := by omega
    have hwd : w.heap.size < wd.heap.size := by omega
    have e0 : (0 : Int) ≤ (m : Int) := by omega
    clear yc hgc q0 q1 q2 q3 q4 BC
    go_region_held3 (fun w' => w'.cell? ⟨w.heap.size, 4, none⟩ = some (.int .i64 (m : Int)) ∧ w'.cell? ⟨gk, ok + m, none⟩ = some (.int .i64 rm)) (go_keep) (first | (go_at_call 70; refine (cellsFrom_is _ _).mono ?_; rintro e wf ⟨rfl, hwf⟩; subst wf))
    have hqd : q < wd.heap.size := by omega
    have hwp : w.heap.size ≤ p := by omega
    obtain ⟨cw1, cw2, cw3, cw4⟩ := chanWorld (HX9.out.keep HBD.out) (⟨(HBD.out.cell (p := ⟨q, 0, none⟩) hql).trans HK9.out.c0, (HBD.out.cell (p := ⟨q, 1, none⟩) hql).trans HK9.out.c1, (HBD.out.cell (p := ⟨q, 2, none⟩) hql).trans HK9.out.c2⟩ : K3 wd q sz true (.func (.func k) #[] #[])) hne hqd (.func (.func 99) #[] #[.pointer (some ⟨wd.heap.size, 0, none⟩)]) (.int .i64 rm) bb 3
    obtain ⟨W8, hW8, hx8, hk8, hc8, hb8, hz8⟩ : ∃ W8, (((wd.setCell ⟨p, 7, none⟩ (.func (.func 99) #[] #[.pointer (some ⟨wd.heap.size, 0, none⟩)])).setCell ⟨p, 8, none⟩ (.int .i64 rm)).alloc (.cells #[.int .i64 bb] 3)).drew = W8 ∧ SX W8 p (.int .i64 o) (.int .i64 r) (.int .i64 a) (.int .i64 x) (.int .i64 (m : Int)) (.int .i64 fr) (.slice ss sl sc) (.func (.func 99) #[] #[.pointer (some ⟨wd.heap.size, 0, none⟩)]) (.int .i64 rm) ∧ K3 W8 q sz true (.func (.func k) #[] #[]) ∧ CBx W8 wd.heap.size bb ∧ Below w.heap.size w W8 ∧ w.heap.size ≤ W8.heap.size := by
      refine ⟨_, rfl, cw1, cw2, ⟨cw3, cw4, hb0, hb1⟩, Below.drew (Below.alloc (((HB9.out.trans (HBD.out.mono z9)).setCell (p := ⟨p, 7, none⟩) hwp _).setCell (p := ⟨p, 8, none⟩) hwp _) (by simp; omega) _), by omega⟩
    rw [hW8]
    have HC8 := hid_of hc8
    have HB8 := hid_of hb8
    obtain ⟨v0, v1, v2, v3, v4, v5, v6, v7, v8, vl⟩ := hx8
    obtain ⟨l0, l1, l2⟩ := hk8
    clear hW8 hc8 hb8 cw1 cw2 cw3 cw4
    go_wp2_with (refine (HCC.out _ _ HB8.out HC8.out).mono ?_; rintro e w5 ⟨g5, c5, rfl, ho5, hb5⟩; have HO5 := hid_of ho5; have HB5 := hid_of hb5; clear ho5 hb5)
    go_ret
    exact ⟨_, _, rfl, HO5.out.low hz8, HB8.out.trans (HB5.out.mono hz8)⟩
end

section
set_option linter.unusedSimpArgs false
set_option linter.unusedVariables false
set_option maxRecDepth 100000
open Go.RowKit

def chanM (o r a x rm b fr : Int) : List I5 :=
  if o = 5 then togL fr [lockR b, askR b 3, faultR b, openR b rm, roundR, putR b a ++ (letR b ++ [⟨10, 0, 0, 0, -1⟩]), letR b ++ [⟨10, 0, 0, 0, 0⟩]] [lockR b, askR b 3, faultR b, openR b rm, roundR, putR b a ++ (letR b ++ [⟨10, 0, 0, 0, -1⟩]), letR b ++ [⟨10, 0, 0, 0, 0⟩]]
  else if o = 6 then togL fr [lockR b, takenR b r rm, roundT, keepT b x, noneT b r x 0, [⟨10, 0, 0, 0, 0⟩]] [lockR b, takenR b r rm, roundT, keepT b x, noneT b r x 0, [⟨10, 0, 0, 0, 0⟩]]
  else if o = 7 then togL fr [lockR b, askR b 3, faultR b, openR b rm, roundR, putR b a ++ (letR b ++ triedR r 1), letR b ++ triedR r 0] [lockR b, askR b 3, faultR b, openR b rm, roundR, putR b a ++ (letR b ++ triedR r 1), letR b ++ triedR r 0]
  else if o = 8 then togL fr [lockR b, takenR b r rm, roundT, keepT b x, noneT b r x 2, cameR r x 0 0] [lockR b, takenR b r rm, roundT, keepT b x, noneT b r x 2, cameR r x 0 0]
  else togL fr [lockR b, askR b 3, faultR b, [⟨1, 7, 0, 0, 1⟩, ⟨6, 0, -1, 7, b + 3⟩] ++ letR b] [lockR b, askR b 3, faultR b, [⟨1, 7, 0, 0, 1⟩, ⟨6, 0, -1, 7, b + 3⟩] ++ letR b]
def emitM (caps starts : List Int) (o r a x n fr : Int) : List I5 :=
  if Plain.insB o r a x n starts.length caps.length = true then
    if o = 1 then [⟨1, r, 0, 0, n⟩] else if o = 2 then [⟨2, r, a, x, 0⟩] else if o = 3 then [⟨3, r, a, x, 0⟩] else if o = 4 then [⟨4, r, a, x, 0⟩]
    else if o = 10 then [⟨9, 0, a, 0, 0⟩] else if o = 11 then [⟨10, 0, 0, 0, starts.getD n.toNat 0⟩] else if o = 12 then [⟨11, 0, a, 0, starts.getD n.toNat 0⟩] else if o = 13 then [⟨12, 0, 0, 0, 0⟩]
    else if baseV caps n = -1 then [] else chanM o r a x (caps.getD n.toNat 0) (baseV caps n) fr
  else []
theorem baseV_up {caps : List Int} {n : Int} (h : baseV caps n ≠ -1) : 0 ≤ baseV caps n ∧ baseV caps n ≤ 20 ∧ 0 ≤ n ∧ n < caps.length := by
  unfold baseV at h ⊢
  by_cases hc : capsR caps = true ∧ sumC caps ≤ 24 ∧ 0 ≤ n ∧ n < caps.length
  · rw [if_pos hc]
    obtain ⟨h1, h2, h3, h4⟩ := hc
    have q := sumC_next h1 (k := n.toNat) (by omega)
    have q2 := capsR_at h1 (k := n.toNat) (by omega)
    have q3 := sumC_len _ (capsR_take n.toNat h1)
    refine ⟨by omega, by omega, h3, h4⟩
  · rw [if_neg hc] at h
    exact absurd rfl h
set_option maxHeartbeats 8000000 in
theorem emitNone (o r a x n fr : Int) (ss sk : Option Addr) (sl sc kl kc : Nat) (lo hi : Nat) (caps : List Int) (k : Nat) (sz : Int) (w : World) (hE : emVal o = #[.int .i64 sz, .bool true, .func (.func k) #[] #[]]) (hF : ∀ (args : Array Value) (w : World), (callFunc k args).run Tryz.prog w = .ok (.enter k args) w) (hok : Plain.insB o r a x n sl kl = true) (hkl : caps.length = kl) (hcp : IntsR w lo hi sk caps) (hhi : hi ≤ w.heap.size) (hcl : caps.length ≤ 2000000) (hbs : baseV caps n = -1) (hC : True) :
    Calls Tryz.prog 44 #[.slice sk kl kc, .agg #[.int .i64 o, .int .i64 r, .int .i64 a, .int .i64 x, .int .i64 n], .int .i64 fr, .slice ss sl sc] w fun e w' => e = .returned (.slice none 0 0) ∧ Below w.heap.size w w' := by
  have HOK := hid_of hok
  have HEM := hid_of hE
  have HCC := hid_of hC
  clear hok hE hC
  have HCP := hid_of hcp
  clear hcp
  obtain ⟨W, hW, hx, hb, hz⟩ := XB.new w o r a x n 46
  have HX := hid_of hx
  have HW : Hid (Below w.heap.size w W) := hb
  have HK : Hid (Below W.heap.size W W) := Below.refl _ _
  clear hx hb
  obtain ⟨q0, q1, q2, q3, q4, tl⟩ := HX.out
  go_enter Tryz.func44, Tryz.ntmps44
  go_upto_region 3 with (go_at_call 67; refine (insOk_any _ _ _ _ _ _ _ _).mono ?_; rintro e w1 ⟨rfl, hb1⟩; rw [HOK.out]; have JK : Hid (Below W.heap.size W w1) := (by first | exact HK.out.trans (hb1.mono HK.out.size) | exact HK.out.drew.trans (hb1.mono HK.out.drew.size)); clear HK; have HK := JK; clear JK; obtain ⟨q0, q1, q2, q3, q4, tl⟩ := HX.out.keep HK.out; clear hb1)
  have n1 : ¬ w.heap.size = w1.heap.size := Nat.ne_of_lt tl
  have n1' : ¬ w1.heap.size = w.heap.size := Nat.ne_of_gt tl
  have n1b : ¬ w.heap.size = w1.heap.size + 1 := by omega
  have n1c : ¬ w1.heap.size + 1 = w.heap.size := by omega
  go_cut [9, 10] (fun s9 s10 wx => ∃ p q, s9 = .pointer (some ⟨p, 0, none⟩) ∧ s10 = .pointer (some ⟨q, 0, none⟩) ∧ CutE w1 (.int .i64 o) (.int .i64 r) (.int .i64 a) (.int .i64 x) (.int .i64 n) (.int .i64 fr) (.slice ss sl sc) sz true (.func (.func k) #[] #[]) p q wx)
  case first =>
    go_region_held3 (fun w' => w'.cell? ⟨w.heap.size, 0, none⟩ = some (.int .i64 o) ∧ w'.cell? ⟨w.heap.size, 1, none⟩ = some (.int .i64 r) ∧ w'.cell? ⟨w.heap.size, 2, none⟩ = some (.int .i64 a) ∧ w'.cell? ⟨w.heap.size, 3, none⟩ = some (.int .i64 x) ∧ w'.cell? ⟨w.heap.size, 4, none⟩ = some (.int .i64 n)) (go_keep) (first | (go_at_call 37; refine (emitterOf_any _ _).mono ?_; rintro e w2 ⟨rfl, hb2⟩; rw [HEM.out]; have JK := hid_of (Below.via (B := W.heap.size) (w := W) hb2 (Nat.le_refl _) (by repeat (first | with_reducible exact HK.out | with_reducible refine Below.drew ?_ | with_reducible refine Below.alloc ?_ (by have := HK.out.size; first | omega | (simp; omega)) _))); have KB := hid_of (Below.via (B := w1.heap.size) (w := w1) hb2 (Nat.le_refl _) (by repeat (first | with_reducible exact Below.refl _ _ | with_reducible refine Below.drew ?_ | with_reducible refine Below.alloc ?_ (by first | omega | (simp; omega) | simp) _))); obtain ⟨q0, q1, q2, q3, q4, tl⟩ := HX.out.keep JK.out; (first | (obtain ⟨bc1, bc2⟩ := bcell (Below.undrew hb2)) | (obtain ⟨bc1, bc2⟩ := bcell hb2)); obtain ⟨ap1, ap2, ap3⟩ := apart (Below.undrew hb2); have n2 : ¬ w.heap.size = w2.heap.size := Nat.ne_of_lt tl; have n2' : ¬ w2.heap.size = w.heap.size := Nat.ne_of_gt tl; try simp only [World.size_alloc] at bc1 bc2 ap1 ap2 ap3; clear hb2))
    all_goals
      go_wp2_with fail
      go_meet
      have zk := KB.out.size
      refine ⟨_, _, rfl, rfl, ⟨⟨?_, ?_, ?_, ?_, ?_, ?_, ?_, ?_, ?_, ?_⟩, fun j => ?_, ⟨?_, ?_, ?_⟩, ?_, ?_, ?_, ?_, ?_⟩⟩
      all_goals first | (simp [go_sem, bc1, bc2, ap1, ap2, ap3]; done) | (simp (config := { maxDischargeDepth := 6 }) [go_sem, bc1, bc2, ap1, ap2, ap3, setC_at]; done) | omega | (simp; omega) | (have := ap1 w1.heap.size (by omega); simp; omega) | (have := ap1 (w1.heap.size + 1) (by omega); simp; omega) | (repeat (first | with_reducible exact KB.out | with_reducible refine Below.alloc ?_ (by first | omega | (simp; omega)) _ | with_reducible refine Below.setCell ?_ (by first | omega | exact Nat.le_refl _ | exact Nat.le_succ _ | (simp; done)) _))
  case rest =>
    obtain ⟨p, q, rfl, rfl, hx, hf, hk, hne, hp, hq, hql, hbx⟩ := hcut
    have z1 := HK.out.size
    have HBw : Hid (Below W.heap.size W wc) := HK.out.trans (hbx.mono z1)
    have HB9 : Hid (Below w.heap.size w wc) := HW.out.trans (HBw.out.mono (by omega))
    have z9 := HB9.out.size
    clear hf hbx
    clear q0 q1 q2 q3 q4 tl
    obtain ⟨q0, q1, q2, q3, q4, tl⟩ := HX.out.keep HBw.out
    have k1 := hk.c1
    clear hx hk
    have BC := implBase_any sk kc lo hi caps n wc (HCP.out.keep (Keep.of_below HB9.out hhi)) (by omega) hcl
    rw [hbs, hkl] at BC
    go_wp2_with (go_at_call 43; refine BC.mono ?_; rintro e wd ⟨rfl, hbd⟩; have HBD := hid_of hbd; clear hbd)
    go_ret
    exact ⟨rfl, HB9.out.trans (HBD.out.mono z9)⟩
theorem ent_set (args : Array Value) (w : World) : (callFunc 83 args).run Tryz.prog w = .ok (.enter 83 args) w := by kernel_rfl
theorem ent_add (args : Array Value) (w : World) : (callFunc 84 args).run Tryz.prog w = .ok (.enter 84 args) w := by kernel_rfl
theorem ent_sub (args : Array Value) (w : World) : (callFunc 85 args).run Tryz.prog w = .ok (.enter 85 args) w := by kernel_rfl
theorem ent_less (args : Array Value) (w : World) : (callFunc 86 args).run Tryz.prog w = .ok (.enter 86 args) w := by kernel_rfl
theorem ent_print (args : Array Value) (w : World) : (callFunc 92 args).run Tryz.prog w = .ok (.enter 92 args) w := by kernel_rfl
theorem ent_end (args : Array Value) (w : World) : (callFunc 95 args).run Tryz.prog w = .ok (.enter 95 args) w := by kernel_rfl
theorem ent_jump (args : Array Value) (w : World) : (callFunc 93 args).run Tryz.prog w = .ok (.enter 93 args) w := by kernel_rfl
theorem ent_zero (args : Array Value) (w : World) : (callFunc 94 args).run Tryz.prog w = .ok (.enter 94 args) w := by kernel_rfl
theorem ent_send (args : Array Value) (w : World) : (callFunc 87 args).run Tryz.prog w = .ok (.enter 87 args) w := by kernel_rfl
theorem ent_take (args : Array Value) (w : World) : (callFunc 88 args).run Tryz.prog w = .ok (.enter 88 args) w := by kernel_rfl
theorem ent_trySend (args : Array Value) (w : World) : (callFunc 89 args).run Tryz.prog w = .ok (.enter 89 args) w := by kernel_rfl
theorem ent_tryTake (args : Array Value) (w : World) : (callFunc 90 args).run Tryz.prog w = .ok (.enter 90 args) w := by kernel_rfl
theorem ent_shut (args : Array Value) (w : World) : (callFunc 91 args).run Tryz.prog w = .ok (.enter 91 args) w := by kernel_rfl
theorem insB_ops {o r a x n pl ch : Int} (h : Plain.insB o r a x n pl ch = true) : o = 1 ∨ o = 2 ∨ o = 3 ∨ o = 4 ∨ o = 5 ∨ o = 6 ∨ o = 7 ∨ o = 8 ∨ o = 9 ∨ o = 10 ∨ o = 11 ∨ o = 12 ∨ o = 13 := by
  unfold Plain.insB at h
  have := of_decide_eq_true h
  omega
theorem insB_jump {o r a x n pl ch : Int} (h : Plain.insB o r a x n pl ch = true) (ho : o = 11 ∨ o = 12) : 0 ≤ n ∧ n < pl := by
  unfold Plain.insB at h
  have := of_decide_eq_true h
  omega
set_option maxHeartbeats 1000000 in
theorem emitNo (o r a x n fr : Int) (ss sk : Option Addr) (sl sc kl kc : Nat) (w : World) (hok : Plain.insB o r a x n sl kl = false) : Calls Tryz.prog 44 #[.slice sk kl kc, .agg #[.int .i64 o, .int .i64 r, .int .i64 a, .int .i64 x, .int .i64 n], .int .i64 fr, .slice ss sl sc] w fun e w' => e = .returned (.slice none 0 0) ∧ Below w.heap.size w w' := by
  have HOK := hid_of hok
  clear hok
  obtain ⟨W, hW, hx, hb, hz⟩ := XB.new w o r a x n 46
  have HX := hid_of hx
  have HW : Hid (Below w.heap.size w W) := hb
  have HK : Hid (Below W.heap.size W W) := Below.refl _ _
  clear hx hb
  obtain ⟨q0, q1, q2, q3, q4, tl⟩ := HX.out
  go_enter Tryz.func44, Tryz.ntmps44
  go_wp2_with (go_at_call 67; refine (insOk_any _ _ _ _ _ _ _ _).mono ?_; rintro e w1 ⟨rfl, hb1⟩; rw [HOK.out]; have JK : Hid (Below W.heap.size W w1) := (by first | exact HK.out.trans (hb1.mono HK.out.size) | exact HK.out.drew.trans (hb1.mono HK.out.drew.size)); clear HK; have HK := JK; clear JK; obtain ⟨q0, q1, q2, q3, q4, tl⟩ := HX.out.keep HK.out; clear hb1)
  go_ret
  exact ⟨rfl, HW.out.trans (HK.out.mono HW.out.size)⟩
theorem implEmit_any (o r a x n fr : Int) (ss sk : Option Addr) (sc kc lo hi lo' hi' : Nat) (caps starts : List Int) (w : World) (hcp : IntsR w lo hi sk caps) (hhi : hi ≤ w.heap.size) (hcl : caps.length ≤ 2000000) (hst : IntsR w lo' hi' ss starts) (hhi' : hi' ≤ w.heap.size) :
    Calls Tryz.prog 44 #[.slice sk caps.length kc, .agg #[.int .i64 o, .int .i64 r, .int .i64 a, .int .i64 x, .int .i64 n], .int .i64 fr, .slice ss starts.length sc] w fun e w' => ∃ v, e = .returned v ∧ OwnT5 w' w.heap.size v (emitM caps starts o r a x n fr) ∧ Below w.heap.size w w' := by
  have up : ∀ {n : Nat} {L : List I5} {C : Ending → World → Prop}, (∀ e w', C e w' → ∃ g c, e = .returned (.slice (some ⟨g, 0, none⟩) n c) ∧ OwnT5 w' w.heap.size (.slice (some ⟨g, 0, none⟩) n c) L ∧ Below w.heap.size w w') → ∀ e w', C e w' → ∃ v, e = .returned v ∧ OwnT5 w' w.heap.size v L ∧ Below w.heap.size w w' := fun h e w' hc => by
    obtain ⟨g, c, h1, h2, h3⟩ := h e w' hc
    exact ⟨_, h1, h2, h3⟩
  by_cases hok : Plain.insB o r a x n starts.length caps.length = true
  · unfold emitM
    rw [if_pos hok]
    have hjr : (o = 11 ∨ o = 12) → ∃ gi oi, ss = some ⟨gi, oi, none⟩ ∧ gi < w.heap.size ∧ w.cell? ⟨gi, oi + n.toNat, none⟩ = some (.int .i64 (starts.getD n.toNat 0)) := fun ho => by
      obtain ⟨h0, h1⟩ := insB_jump hok ho
      obtain ⟨gi, oi, e, q1, q2, q3⟩ := hst.pos (by omega)
      exact ⟨gi, oi, e, by omega, q3 n.toNat (by omega)⟩
    have keepr : ∀ {W : World} {y : Int}, Below w.heap.size w W → (∃ gi oi, ss = some ⟨gi, oi, none⟩ ∧ gi < w.heap.size ∧ w.cell? ⟨gi, oi + n.toNat, none⟩ = some (.int .i64 y)) → ∃ gi oi, ss = some ⟨gi, oi, none⟩ ∧ gi < W.heap.size ∧ W.cell? ⟨gi, oi + n.toNat, none⟩ = some (.int .i64 y) := fun hb ⟨gi, oi, e, h1, h2⟩ => ⟨gi, oi, e, by have := hb.size; omega, (hb.cell (p := ⟨gi, oi + n.toNat, none⟩) h1).trans h2⟩
    rcases insB_ops hok with rfl | rfl | rfl | rfl | rfl | rfl | rfl | rfl | rfl | rfl | rfl | rfl | rfl
    · exact (emitPlain 1 r a x n fr ss sk starts.length sc caps.length kc 83 1 _ w rfl ent_set hok (fun W hb => iPSet 1 r a x n fr ss starts.length sc W)).mono (up (fun e w' h => h))
    · exact (emitPlain 2 r a x n fr ss sk starts.length sc caps.length kc 84 1 _ w rfl ent_add hok (fun W hb => iPAdd 2 r a x n fr ss starts.length sc W)).mono (up (fun e w' h => h))
    · exact (emitPlain 3 r a x n fr ss sk starts.length sc caps.length kc 85 1 _ w rfl ent_sub hok (fun W hb => iPSub 3 r a x n fr ss starts.length sc W)).mono (up (fun e w' h => h))
    · exact (emitPlain 4 r a x n fr ss sk starts.length sc caps.length kc 86 1 _ w rfl ent_less hok (fun W hb => iPLess 4 r a x n fr ss starts.length sc W)).mono (up (fun e w' h => h))
    · by_cases hb : baseV caps n = -1
      · refine (emitNone 5 r a x n fr ss sk starts.length sc caps.length kc lo hi caps 87 29 w rfl ent_send hok rfl hcp hhi hcl hb trivial).mono ?_
        rintro e w' ⟨rfl, h2⟩
        refine ⟨_, rfl, ?_, h2⟩
        have e2 : (if baseV caps n = -1 then [] else chanM 5 r a x (caps.getD n.toNat 0) (baseV caps n) fr) = [] := if_pos hb
        show OwnT5 w' _ _ (if baseV caps n = -1 then [] else chanM 5 r a x (caps.getD n.toNat 0) (baseV caps n) fr)
        rw [e2]
        exact World.ownsRow_nil _ _ _ _
      · obtain ⟨u0, u1, u2, u3⟩ := baseV_up hb
        have e2 : (if baseV caps n = -1 then [] else chanM 5 r a x (caps.getD n.toNat 0) (baseV caps n) fr) = chanM 5 r a x (caps.getD n.toNat 0) (baseV caps n) fr := if_neg hb
        refine (emitChan 5 r a x n fr ss sk starts.length sc caps.length kc 29 lo hi caps (baseV caps n) (caps.getD n.toNat 0) 87 29 _ w rfl ent_send hok rfl hcp hhi hcl rfl u0 u1 u2 u3 rfl (fun W pb hb hc => iSend 5 r a x n fr ss starts.length sc pb (caps.getD n.toNat 0) (baseV caps n) W hc)).mono ?_
        rintro e w' ⟨g, c, h1, h2, h3⟩
        refine ⟨_, h1, ?_, h3⟩
        show OwnT5 w' _ _ (if baseV caps n = -1 then [] else chanM 5 r a x (caps.getD n.toNat 0) (baseV caps n) fr)
        rw [e2]
        exact h2
    · by_cases hb : baseV caps n = -1
      · refine (emitNone 6 r a x n fr ss sk starts.length sc caps.length kc lo hi caps 88 30 w rfl ent_take hok rfl hcp hhi hcl hb trivial).mono ?_
        rintro e w' ⟨rfl, h2⟩
        refine ⟨_, rfl, ?_, h2⟩
        have e2 : (if baseV caps n = -1 then [] else chanM 6 r a x (caps.getD n.toNat 0) (baseV caps n) fr) = [] := if_pos hb
        show OwnT5 w' _ _ (if baseV caps n = -1 then [] else chanM 6 r a x (caps.getD n.toNat 0) (baseV caps n) fr)
        rw [e2]
        exact World.ownsRow_nil _ _ _ _
      · obtain ⟨u0, u1, u2, u3⟩ := baseV_up hb
        have e2 : (if baseV caps n = -1 then [] else chanM 6 r a x (caps.getD n.toNat 0) (baseV caps n) fr) = chanM 6 r a x (caps.getD n.toNat 0) (baseV caps n) fr := if_neg hb
        refine (emitChan 6 r a x n fr ss sk starts.length sc caps.length kc 30 lo hi caps (baseV caps n) (caps.getD n.toNat 0) 88 30 _ w rfl ent_take hok rfl hcp hhi hcl rfl u0 u1 u2 u3 rfl (fun W pb hb hc => iTake 6 r a x n fr ss starts.length sc pb (caps.getD n.toNat 0) (baseV caps n) W hc)).mono ?_
        rintro e w' ⟨g, c, h1, h2, h3⟩
        refine ⟨_, h1, ?_, h3⟩
        show OwnT5 w' _ _ (if baseV caps n = -1 then [] else chanM 6 r a x (caps.getD n.toNat 0) (baseV caps n) fr)
        rw [e2]
        exact h2
    · by_cases hb : baseV caps n = -1
      · refine (emitNone 7 r a x n fr ss sk starts.length sc caps.length kc lo hi caps 89 31 w rfl ent_trySend hok rfl hcp hhi hcl hb trivial).mono ?_
        rintro e w' ⟨rfl, h2⟩
        refine ⟨_, rfl, ?_, h2⟩
        have e2 : (if baseV caps n = -1 then [] else chanM 7 r a x (caps.getD n.toNat 0) (baseV caps n) fr) = [] := if_pos hb
        show OwnT5 w' _ _ (if baseV caps n = -1 then [] else chanM 7 r a x (caps.getD n.toNat 0) (baseV caps n) fr)
        rw [e2]
        exact World.ownsRow_nil _ _ _ _
      · obtain ⟨u0, u1, u2, u3⟩ := baseV_up hb
        have e2 : (if baseV caps n = -1 then [] else chanM 7 r a x (caps.getD n.toNat 0) (baseV caps n) fr) = chanM 7 r a x (caps.getD n.toNat 0) (baseV caps n) fr := if_neg hb
        refine (emitChan 7 r a x n fr ss sk starts.length sc caps.length kc 31 lo hi caps (baseV caps n) (caps.getD n.toNat 0) 89 31 _ w rfl ent_trySend hok rfl hcp hhi hcl rfl u0 u1 u2 u3 rfl (fun W pb hb hc => iTrySend 7 r a x n fr ss starts.length sc pb (caps.getD n.toNat 0) (baseV caps n) W hc)).mono ?_
        rintro e w' ⟨g, c, h1, h2, h3⟩
        refine ⟨_, h1, ?_, h3⟩
        show OwnT5 w' _ _ (if baseV caps n = -1 then [] else chanM 7 r a x (caps.getD n.toNat 0) (baseV caps n) fr)
        rw [e2]
        exact h2
    · by_cases hb : baseV caps n = -1
      · refine (emitNone 8 r a x n fr ss sk starts.length sc caps.length kc lo hi caps 90 32 w rfl ent_tryTake hok rfl hcp hhi hcl hb trivial).mono ?_
        rintro e w' ⟨rfl, h2⟩
        refine ⟨_, rfl, ?_, h2⟩
        have e2 : (if baseV caps n = -1 then [] else chanM 8 r a x (caps.getD n.toNat 0) (baseV caps n) fr) = [] := if_pos hb
        show OwnT5 w' _ _ (if baseV caps n = -1 then [] else chanM 8 r a x (caps.getD n.toNat 0) (baseV caps n) fr)
        rw [e2]
        exact World.ownsRow_nil _ _ _ _
      · obtain ⟨u0, u1, u2, u3⟩ := baseV_up hb
        have e2 : (if baseV caps n = -1 then [] else chanM 8 r a x (caps.getD n.toNat 0) (baseV caps n) fr) = chanM 8 r a x (caps.getD n.toNat 0) (baseV caps n) fr := if_neg hb
        refine (emitChan 8 r a x n fr ss sk starts.length sc caps.length kc 32 lo hi caps (baseV caps n) (caps.getD n.toNat 0) 90 32 _ w rfl ent_tryTake hok rfl hcp hhi hcl rfl u0 u1 u2 u3 rfl (fun W pb hb hc => iTryTake 8 r a x n fr ss starts.length sc pb (caps.getD n.toNat 0) (baseV caps n) W hc)).mono ?_
        rintro e w' ⟨g, c, h1, h2, h3⟩
        refine ⟨_, h1, ?_, h3⟩
        show OwnT5 w' _ _ (if baseV caps n = -1 then [] else chanM 8 r a x (caps.getD n.toNat 0) (baseV caps n) fr)
        rw [e2]
        exact h2
    · by_cases hb : baseV caps n = -1
      · refine (emitNone 9 r a x n fr ss sk starts.length sc caps.length kc lo hi caps 91 13 w rfl ent_shut hok rfl hcp hhi hcl hb trivial).mono ?_
        rintro e w' ⟨rfl, h2⟩
        refine ⟨_, rfl, ?_, h2⟩
        have e2 : (if baseV caps n = -1 then [] else chanM 9 r a x (caps.getD n.toNat 0) (baseV caps n) fr) = [] := if_pos hb
        show OwnT5 w' _ _ (if baseV caps n = -1 then [] else chanM 9 r a x (caps.getD n.toNat 0) (baseV caps n) fr)
        rw [e2]
        exact World.ownsRow_nil _ _ _ _
      · obtain ⟨u0, u1, u2, u3⟩ := baseV_up hb
        have e2 : (if baseV caps n = -1 then [] else chanM 9 r a x (caps.getD n.toNat 0) (baseV caps n) fr) = chanM 9 r a x (caps.getD n.toNat 0) (baseV caps n) fr := if_neg hb
        refine (emitChan 9 r a x n fr ss sk starts.length sc caps.length kc 13 lo hi caps (baseV caps n) (caps.getD n.toNat 0) 91 13 _ w rfl ent_shut hok rfl hcp hhi hcl rfl u0 u1 u2 u3 rfl (fun W pb hb hc => iShut 9 r a x n fr ss starts.length sc pb (caps.getD n.toNat 0) (baseV caps n) W hc)).mono ?_
        rintro e w' ⟨g, c, h1, h2, h3⟩
        refine ⟨_, h1, ?_, h3⟩
        show OwnT5 w' _ _ (if baseV caps n = -1 then [] else chanM 9 r a x (caps.getD n.toNat 0) (baseV caps n) fr)
        rw [e2]
        exact h2
    · exact (emitPlain 10 r a x n fr ss sk starts.length sc caps.length kc 92 1 _ w rfl ent_print hok (fun W hb => iPPrint 10 r a x n fr ss starts.length sc W)).mono (up (fun e w' h => h))
    · obtain ⟨j0, j1⟩ := insB_jump hok (by omega)
      have hj := hjr (by omega)
      exact (emitPlain 11 r a x n fr ss sk starts.length sc caps.length kc 93 1 _ w rfl ent_jump hok (fun W hb => iPJump 11 r a x n fr ss starts.length sc (starts.getD n.toNat 0) W (keepr hb hj) j0 j1)).mono (up (fun e w' h => h))
    · obtain ⟨j0, j1⟩ := insB_jump hok (by omega)
      have hj := hjr (by omega)
      exact (emitPlain 12 r a x n fr ss sk starts.length sc caps.length kc 94 1 _ w rfl ent_zero hok (fun W hb => iPZero 12 r a x n fr ss starts.length sc (starts.getD n.toNat 0) W (keepr hb hj) j0 j1)).mono (up (fun e w' h => h))
    · exact (emitPlain 13 r a x n fr ss sk starts.length sc caps.length kc 95 1 _ w rfl ent_end hok (fun W hb => iPEnd 13 r a x n fr ss starts.length sc W)).mono (up (fun e w' h => h))
  · have e : emitM caps starts o r a x n fr = [] := by unfold emitM; rw [if_neg hok]
    rw [e]
    refine (emitNo o r a x n fr ss sk starts.length sc caps.length kc w (by simpa using hok)).mono ?_
    rintro e w' ⟨rfl, h2⟩
    exact ⟨_, rfl, World.ownsRow_nil _ _ _ _, h2⟩
end

section
set_option linter.unusedSimpArgs false
set_option linter.unusedVariables false
set_option maxRecDepth 100000
open Go.RowKit

/- a row of steps, its block between two -/
structure SB5 (w : World) (lo hi : Nat) (v : Value) (l : List I5) : Prop where
  o : OwnT5 w lo v l
  h : ∀ k, v.ownBlock = some k → k < hi
theorem SB5.of {w : World} {lo : Nat} {v : Value} {l : List I5} (h : OwnT5 w lo v l) : SB5 w lo w.heap.size v l := ⟨h, fun _ hk => (World.ownsRow.lt h _ hk).2⟩
theorem SB5.keep {w w' : World} {lo hi : Nat} {v : Value} {l : List I5} (h : SB5 w lo hi v l) (hk : Keep lo hi w w') : SB5 w' lo hi v l := ⟨ownKeep' h.o (fun k e => hk k (World.ownsRow.lt h.o _ e).1 (h.h k e)), h.h⟩
theorem own5_sl {w : World} {lo : Nat} {v : Value} {l : List I5} (h : OwnT5 w lo v l) : ∃ s c, v = .slice s l.length c := by
  rcases h.2 with ⟨h1, h2⟩ | ⟨g, cap, cur, a, -⟩
  · exact ⟨none, 0, by rw [h1, h2]⟩
  · exact ⟨_, _, a⟩
theorem SB5.insB {w : World} {lo hi : Nat} {s : Option Addr} {c : Nat} {l : List I5} (h : SB5 w lo hi (.slice s l.length c) l) : InsB w w.heap.size s l := by
  rcases Nat.eq_zero_or_pos l.length with h0 | hp
  · exact .inl (List.length_eq_zero_iff.1 h0)
  · obtain ⟨g, cap, e, -, hlt⟩ := World.ownsRow.form h.o hp
    injection e with e1 e2 e3
    subst e1
    rcases h.o.insR with e | ⟨g', o', e, -, hl, hc⟩
    · rw [e] at hp; simp at hp
    · injection e with e
      injection e with e1 e2
      subst e1 e2
      exact .inr ⟨g, 0, rfl, hlt, hc⟩
structure Bo5 (G : Nat) (W : World) (a b c d e : Value) : Prop where
  c0 : W.cell? ⟨G, 0, none⟩ = some a
  c1 : W.cell? ⟨G, 1, none⟩ = some b
  c2 : W.cell? ⟨G, 2, none⟩ = some c
  c3 : W.cell? ⟨G, 3, none⟩ = some d
  c4 : W.cell? ⟨G, 4, none⟩ = some e
theorem Bo5.new (w : World) (a b c d e : Value) (T : TypeId) : ∃ W, w.alloc (.cells #[a, b, c, d, e] T) = W ∧ Bo5 w.heap.size W a b c d e ∧ Below w.heap.size w W ∧ W.heap.size = w.heap.size + 1 :=
  ⟨_, rfl, ⟨by simp [go_sem], by simp [go_sem], by simp [go_sem], by simp [go_sem], by simp [go_sem]⟩, (Below.refl _ _).alloc (Nat.le_refl _) _, by simp⟩
theorem Bo5.keep {G : Nat} {W W' : World} {a b c d e : Value} (h : Bo5 G W a b c d e) (hk : Keep G (G + 1) W W') : Bo5 G W' a b c d e :=
  ⟨(hk.cell (p := ⟨G, 0, none⟩) (Nat.le_refl _) (Nat.lt_succ_self _)).trans h.c0, (hk.cell (p := ⟨G, 1, none⟩) (Nat.le_refl _) (Nat.lt_succ_self _)).trans h.c1, (hk.cell (p := ⟨G, 2, none⟩) (Nat.le_refl _) (Nat.lt_succ_self _)).trans h.c2, (hk.cell (p := ⟨G, 3, none⟩) (Nat.le_refl _) (Nat.lt_succ_self _)).trans h.c3, (hk.cell (p := ⟨G, 4, none⟩) (Nat.le_refl _) (Nat.lt_succ_self _)).trans h.c4⟩
theorem chanM_len (o r a x rm b fr : Int) : (chanM o r a x rm b fr).length ≤ 40 := by
  unfold chanM
  repeat' split
  all_goals
    rw [togL_len]
    simp [lens, lockR, askR, faultR, openR, roundR, putR, letR, triedR, takenR, roundT, keepT, keepR, noneT, noneR, cameR]
theorem emitM_len (caps starts : List Int) (o r a x n fr : Int) : (emitM caps starts o r a x n fr).length ≤ 40 := by
  unfold emitM
  repeat' split
  all_goals first | (exact chanM_len _ _ _ _ _ _ _) | simp
end

end Go.Proofs.YteddmadbegpecaaGreat
