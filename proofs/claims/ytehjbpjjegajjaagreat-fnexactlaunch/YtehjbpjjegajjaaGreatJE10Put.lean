/- What both that send are made of. Conditions: the channel lies in memory. -/
import Derived.Test.YtehjbpjjegajjaaGreatJG00
import Derived.Test.YtehjbpjjegajjaaGreatJG01
import Derived.Test.YtehjbpjjegajjaaGreatJG09
import Derived.Test.YtehjbpjjegajjaaGreatJE10Site
import Derived.Test.YtehjbpjjegajjaaGreatJG07
import Derived.Test.YtehjbpjjegajjaaGreatJG08
namespace Go.Proofs.YtehjbpjjegajjaaGreat
set_option linter.unusedSimpArgs false
set_option linter.unusedVariables false
set_option maxRecDepth 100000
open Go.RowKit
def openR (b rm : Int) : List I5 := [⟨5, 5, -1, 0, b + 2⟩, ⟨1, 7, 0, 0, rm⟩, ⟨4, 6, 5, 7, 0⟩, ⟨11, 0, 6, 0, 6⟩, ⟨5, 4, -1, 0, b + 1⟩, ⟨2, 4, 4, 5, 0⟩, ⟨4, 6, 4, 7, 0⟩, ⟨11, 0, 6, 0, 4⟩, ⟨10, 0, 0, 0, 5⟩]
def roundR : List I5 := [⟨3, 4, 4, 7, 0⟩]
def putR (b a : Int) : List I5 := [⟨6, 0, 4, a, b + 4⟩, ⟨1, 7, 0, 0, 1⟩, ⟨2, 5, 5, 7, 0⟩, ⟨6, 0, -1, 5, b + 2⟩]
set_option maxHeartbeats 8000000 in
theorem iPut1 (o r a x n fr : Int) (ss : Option Addr) (sl sc pb : Nat) (rm b : Int) (gs cs bs gf cf bf : Nat) (w : World) (h : CB w pb b) (hs : OwnT5 w bs (.slice (some ⟨gs, 0, none⟩) 1 cs) ([⟨10, 0, 0, 0, -1⟩])) (hf : OwnT5 w bf (.slice (some ⟨gf, 0, none⟩) 1 cf) ([⟨10, 0, 0, 0, 0⟩])) : Calls Tryz.prog 161 #[.agg #[.int .i64 o, .int .i64 r, .int .i64 a, .int .i64 x, .int .i64 n, .int .i64 fr, .slice ss sl sc, .func (.func 122) #[] #[.pointer (some ⟨pb, 0, none⟩)], .int .i64 rm], .slice (some ⟨gs, 0, none⟩) 1 cs, .slice (some ⟨gf, 0, none⟩) 1 cf] w fun e w' => ∃ g c, e = .returned (.slice (some ⟨g, 0, none⟩) 29 c) ∧ OwnT5 w' w.heap.size (.slice (some ⟨g, 0, none⟩) 29 c) (togL fr [lockR b, askR b 3, faultR b, openR b rm, roundR, putR b a ++ (letR b ++ [⟨10, 0, 0, 0, -1⟩]), letR b ++ [⟨10, 0, 0, 0, 0⟩]] [lockR b, askR b 3, faultR b, openR b rm, roundR, putR b a ++ (letR b ++ [⟨10, 0, 0, 0, -1⟩]), letR b ++ [⟨10, 0, 0, 0, 0⟩]]) ∧ Below w.heap.size w w' := by
 have H0S := hid_of hs
 have H0F := hid_of hf
 clear hs hf
 obtain ⟨W, hW, hx, hb, hz⟩ := SX.new w (.int .i64 o) (.int .i64 r) (.int .i64 a) (.int .i64 x) (.int .i64 n) (.int .i64 fr) (.slice ss sl sc) (.func (.func 122) #[] #[.pointer (some ⟨pb, 0, none⟩)]) (.int .i64 rm) 127
 have HC : Hid (CB W pb b) := h.keep hb
 have HX := hid_of hx
 have HW : Hid (Below w.heap.size w W) := hb
 have HK : Hid (Below W.heap.size W W) := Below.refl _ _
 clear h hx hb
 obtain ⟨t0, t1, t2, t3, t4, t5, t6, t7, t8, tl⟩ := HX.out
 have HSS := hid_of (Row5.of (H0S.out.keep HW.out))
 have HFF := hid_of (Row5.of (H0F.out.keep HW.out))
 clear H0S H0F
 go_enter Tryz.func161, Tryz.ntmps161
 go_wp2
 go_region_held3 (fun w' => w'.cell? ⟨w.heap.size, 0, none⟩ = some (.int .i64 o) ∧ w'.cell? ⟨w.heap.size, 1, none⟩ = some (.int .i64 r) ∧ w'.cell? ⟨w.heap.size, 2, none⟩ = some (.int .i64 a) ∧ w'.cell? ⟨w.heap.size, 3, none⟩ = some (.int .i64 x) ∧ w'.cell? ⟨w.heap.size, 4, none⟩ = some (.int .i64 n) ∧ w'.cell? ⟨w.heap.size, 5, none⟩ = some (.int .i64 fr) ∧ w'.cell? ⟨w.heap.size, 6, none⟩ = some (.slice ss sl sc) ∧ w'.cell? ⟨w.heap.size, 7, none⟩ = some (.func (.func 122) #[] #[.pointer (some ⟨pb, 0, none⟩)]) ∧ w'.cell? ⟨w.heap.size, 8, none⟩ = some (.int .i64 rm)) (go_keep) (first | (go_at_call 159; refine (iSet _ _ _).mono ?_; rintro e w1 ⟨rfl, hb1⟩; have JK : Hid (Below W.heap.size W w1) := (by first | exact HK.out.trans (hb1.mono HK.out.size) | exact HK.out.drew.trans (hb1.mono HK.out.drew.size)); clear HK; have HK := JK; clear JK hb1; obtain ⟨t0, t1, t2, t3, t4, t5, t6, t7, t8, tl⟩ := HX.out.keep HK.out) | (go_at_call 171; refine (iZero _ _ _).mono ?_; rintro e w1 ⟨rfl, hb1⟩; have JK : Hid (Below W.heap.size W w1) := (by first | exact HK.out.trans (hb1.mono HK.out.size) | exact HK.out.drew.trans (hb1.mono HK.out.drew.size)); clear HK; have HK := JK; clear JK hb1; obtain ⟨t0, t1, t2, t3, t4, t5, t6, t7, t8, tl⟩ := HX.out.keep HK.out) | (go_at_call 162; refine (iJump _ _).mono ?_; rintro e w1 ⟨rfl, hb1⟩; have JK : Hid (Below W.heap.size W w1) := (by first | exact HK.out.trans (hb1.mono HK.out.size) | exact HK.out.drew.trans (hb1.mono HK.out.drew.size)); clear HK; have HK := JK; clear JK hb1; obtain ⟨t0, t1, t2, t3, t4, t5, t6, t7, t8, tl⟩ := HX.out.keep HK.out) | (go_at_call 174; refine (iAdd _ _ _).mono ?_; rintro e w1 ⟨rfl, hb1⟩; have JK : Hid (Below W.heap.size W w1) := (by first | exact HK.out.trans (hb1.mono HK.out.size) | exact HK.out.drew.trans (hb1.mono HK.out.drew.size)); clear HK; have HK := JK; clear JK hb1; obtain ⟨t0, t1, t2, t3, t4, t5, t6, t7, t8, tl⟩ := HX.out.keep HK.out) | (go_at_call 175; refine (iSub _ _ _).mono ?_; rintro e w1 ⟨rfl, hb1⟩; have JK : Hid (Below W.heap.size W w1) := (by first | exact HK.out.trans (hb1.mono HK.out.size) | exact HK.out.drew.trans (hb1.mono HK.out.drew.size)); clear HK; have HK := JK; clear JK hb1; obtain ⟨t0, t1, t2, t3, t4, t5, t6, t7, t8, tl⟩ := HX.out.keep HK.out) | (go_at_call 160; refine (iLess _ _ _ _).mono ?_; rintro e w1 ⟨rfl, hb1⟩; have JK : Hid (Below W.heap.size W w1) := (by first | exact HK.out.trans (hb1.mono HK.out.size) | exact HK.out.drew.trans (hb1.mono HK.out.drew.size)); clear HK; have HK := JK; clear JK hb1; obtain ⟨t0, t1, t2, t3, t4, t5, t6, t7, t8, tl⟩ := HX.out.keep HK.out) | (go_at_call 173; refine (iLoad o r a x n fr ss sl sc pb rm b _ _ (by omega) _ (by first | exact HC.out.keep HK.out | exact HC.out.keep HK.out.drew)).mono ?_; rintro e w1 ⟨rfl, hb1⟩; have JK : Hid (Below W.heap.size W w1) := (by first | exact HK.out.trans (hb1.mono HK.out.size) | exact HK.out.drew.trans (hb1.mono HK.out.drew.size)); clear HK; have HK := JK; clear JK hb1; obtain ⟨t0, t1, t2, t3, t4, t5, t6, t7, t8, tl⟩ := HX.out.keep HK.out) | (go_at_call 166; refine (iStore o r a x n fr ss sl sc pb rm b _ _ (by omega) _ (by first | exact HC.out.keep HK.out | exact HC.out.keep HK.out.drew)).mono ?_; rintro e w1 ⟨rfl, hb1⟩; have JK : Hid (Below W.heap.size W w1) := (by first | exact HK.out.trans (hb1.mono HK.out.size) | exact HK.out.drew.trans (hb1.mono HK.out.drew.size)); clear HK; have HK := JK; clear JK hb1; obtain ⟨t0, t1, t2, t3, t4, t5, t6, t7, t8, tl⟩ := HX.out.keep HK.out) | (go_at_call 178; refine (iLoadN o r a x n fr ss sl sc pb rm b _  _ (by first | exact HC.out.keep HK.out | exact HC.out.keep HK.out.drew)).mono ?_; rintro e w1 ⟨rfl, hb1⟩; have JK : Hid (Below W.heap.size W w1) := (by first | exact HK.out.trans (hb1.mono HK.out.size) | exact HK.out.drew.trans (hb1.mono HK.out.drew.size)); clear HK; have HK := JK; clear JK hb1; obtain ⟨t0, t1, t2, t3, t4, t5, t6, t7, t8, tl⟩ := HX.out.keep HK.out) | (go_at_call 176; refine (iStoreN o r a x n fr ss sl sc pb rm b _  _ (by first | exact HC.out.keep HK.out | exact HC.out.keep HK.out.drew)).mono ?_; rintro e w1 ⟨rfl, hb1⟩; have JK : Hid (Below W.heap.size W w1) := (by first | exact HK.out.trans (hb1.mono HK.out.size) | exact HK.out.drew.trans (hb1.mono HK.out.drew.size)); clear HK; have HK := JK; clear JK hb1; obtain ⟨t0, t1, t2, t3, t4, t5, t6, t7, t8, tl⟩ := HX.out.keep HK.out))
 first | refine name5 (P := Exit.then _ _ _ _) (openR b rm) W.heap.size 9 rfl rfl (by omega) HK.out.size ?_ | refine name5 (P := Code.wp _ _ _ _) (openR b rm) W.heap.size 9 rfl rfl (by omega) HK.out.size ?_
 intro W1 ho hb hz
 obtain ⟨gHOO, hg⟩ : ∃ g, w1.heap.size = g := ⟨_, rfl⟩
 rw [hg] at ho ⊢
 clear hg hz
 have hbn : Below W.heap.size W W1 := (HK.out.trans (hb.mono HK.out.size))
 have JX := hid_of (HX.out.keep hbn)
 have JC := hid_of (HC.out.keep hbn)
 have JW : Hid (Below w.heap.size w W1) := HW.out.trans (hbn.mono HW.out.size)
 have JHSS := hid_of (HSS.out.keep hbn)
 have JHFF := hid_of (HFF.out.keep hbn)
 have HOO := hid_of (Row5.of ho)
 clear HX HC HW HK HSS HFF
 clear t0 t1 t2 t3 t4 t5 t6 t7 t8
 have HX := JX
 clear JX
 have HC := JC
 clear JC
 have HW := JW
 clear JW
 have HSS := JHSS
 clear JHSS
 have HFF := JHFF
 clear JHFF
 have HK : Hid (Below W1.heap.size W1 W1) := Below.refl _ _
 obtain ⟨t0, t1, t2, t3, t4, t5, t6, t7, t8, tl⟩ := HX.out
 clear hbn
 clear ho hb
 go_wp2_with fail
 go_wp2_with (first | (go_at_call 159; refine (iSet _ _ _).mono ?_; rintro e w1 ⟨rfl, hb1⟩; have JK : Hid (Below W1.heap.size W1 w1) := (by first | exact HK.out.trans (hb1.mono HK.out.size) | exact HK.out.drew.trans (hb1.mono HK.out.drew.size)); clear HK; have HK := JK; clear JK hb1; obtain ⟨t0, t1, t2, t3, t4, t5, t6, t7, t8, tl⟩ := HX.out.keep HK.out) | (go_at_call 171; refine (iZero _ _ _).mono ?_; rintro e w1 ⟨rfl, hb1⟩; have JK : Hid (Below W1.heap.size W1 w1) := (by first | exact HK.out.trans (hb1.mono HK.out.size) | exact HK.out.drew.trans (hb1.mono HK.out.drew.size)); clear HK; have HK := JK; clear JK hb1; obtain ⟨t0, t1, t2, t3, t4, t5, t6, t7, t8, tl⟩ := HX.out.keep HK.out) | (go_at_call 162; refine (iJump _ _).mono ?_; rintro e w1 ⟨rfl, hb1⟩; have JK : Hid (Below W1.heap.size W1 w1) := (by first | exact HK.out.trans (hb1.mono HK.out.size) | exact HK.out.drew.trans (hb1.mono HK.out.drew.size)); clear HK; have HK := JK; clear JK hb1; obtain ⟨t0, t1, t2, t3, t4, t5, t6, t7, t8, tl⟩ := HX.out.keep HK.out) | (go_at_call 174; refine (iAdd _ _ _).mono ?_; rintro e w1 ⟨rfl, hb1⟩; have JK : Hid (Below W1.heap.size W1 w1) := (by first | exact HK.out.trans (hb1.mono HK.out.size) | exact HK.out.drew.trans (hb1.mono HK.out.drew.size)); clear HK; have HK := JK; clear JK hb1; obtain ⟨t0, t1, t2, t3, t4, t5, t6, t7, t8, tl⟩ := HX.out.keep HK.out) | (go_at_call 175; refine (iSub _ _ _).mono ?_; rintro e w1 ⟨rfl, hb1⟩; have JK : Hid (Below W1.heap.size W1 w1) := (by first | exact HK.out.trans (hb1.mono HK.out.size) | exact HK.out.drew.trans (hb1.mono HK.out.drew.size)); clear HK; have HK := JK; clear JK hb1; obtain ⟨t0, t1, t2, t3, t4, t5, t6, t7, t8, tl⟩ := HX.out.keep HK.out) | (go_at_call 160; refine (iLess _ _ _ _).mono ?_; rintro e w1 ⟨rfl, hb1⟩; have JK : Hid (Below W1.heap.size W1 w1) := (by first | exact HK.out.trans (hb1.mono HK.out.size) | exact HK.out.drew.trans (hb1.mono HK.out.drew.size)); clear HK; have HK := JK; clear JK hb1; obtain ⟨t0, t1, t2, t3, t4, t5, t6, t7, t8, tl⟩ := HX.out.keep HK.out) | (go_at_call 173; refine (iLoad o r a x n fr ss sl sc pb rm b _ _ (by omega) _ (by first | exact HC.out.keep HK.out | exact HC.out.keep HK.out.drew)).mono ?_; rintro e w1 ⟨rfl, hb1⟩; have JK : Hid (Below W1.heap.size W1 w1) := (by first | exact HK.out.trans (hb1.mono HK.out.size) | exact HK.out.drew.trans (hb1.mono HK.out.drew.size)); clear HK; have HK := JK; clear JK hb1; obtain ⟨t0, t1, t2, t3, t4, t5, t6, t7, t8, tl⟩ := HX.out.keep HK.out) | (go_at_call 166; refine (iStore o r a x n fr ss sl sc pb rm b _ _ (by omega) _ (by first | exact HC.out.keep HK.out | exact HC.out.keep HK.out.drew)).mono ?_; rintro e w1 ⟨rfl, hb1⟩; have JK : Hid (Below W1.heap.size W1 w1) := (by first | exact HK.out.trans (hb1.mono HK.out.size) | exact HK.out.drew.trans (hb1.mono HK.out.drew.size)); clear HK; have HK := JK; clear JK hb1; obtain ⟨t0, t1, t2, t3, t4, t5, t6, t7, t8, tl⟩ := HX.out.keep HK.out) | (go_at_call 178; refine (iLoadN o r a x n fr ss sl sc pb rm b _  _ (by first | exact HC.out.keep HK.out | exact HC.out.keep HK.out.drew)).mono ?_; rintro e w1 ⟨rfl, hb1⟩; have JK : Hid (Below W1.heap.size W1 w1) := (by first | exact HK.out.trans (hb1.mono HK.out.size) | exact HK.out.drew.trans (hb1.mono HK.out.drew.size)); clear HK; have HK := JK; clear JK hb1; obtain ⟨t0, t1, t2, t3, t4, t5, t6, t7, t8, tl⟩ := HX.out.keep HK.out) | (go_at_call 176; refine (iStoreN o r a x n fr ss sl sc pb rm b _  _ (by first | exact HC.out.keep HK.out | exact HC.out.keep HK.out.drew)).mono ?_; rintro e w1 ⟨rfl, hb1⟩; have JK : Hid (Below W1.heap.size W1 w1) := (by first | exact HK.out.trans (hb1.mono HK.out.size) | exact HK.out.drew.trans (hb1.mono HK.out.drew.size)); clear HK; have HK := JK; clear JK hb1; obtain ⟨t0, t1, t2, t3, t4, t5, t6, t7, t8, tl⟩ := HX.out.keep HK.out))
 first | refine name5 (P := Exit.then _ _ _ _) (roundR) W1.heap.size 1 rfl rfl (by omega) HK.out.size ?_ | refine name5 (P := Code.wp _ _ _ _) (roundR) W1.heap.size 1 rfl rfl (by omega) HK.out.size ?_
 intro W2 ho hb hz
 obtain ⟨gHRR, hg⟩ : ∃ g, w1.heap.size = g := ⟨_, rfl⟩
 rw [hg] at ho ⊢
 clear hg hz
 have hbn : Below W1.heap.size W1 W2 := (HK.out.trans (hb.mono HK.out.size))
 have JX := hid_of (HX.out.keep hbn)
 have JC := hid_of (HC.out.keep hbn)
 have JW : Hid (Below w.heap.size w W2) := HW.out.trans (hbn.mono HW.out.size)
 have JHSS := hid_of (HSS.out.keep hbn)
 have JHFF := hid_of (HFF.out.keep hbn)
 have JHOO := hid_of (HOO.out.keep hbn)
 have HRR := hid_of (Row5.of ho)
 clear HX HC HW HK HSS HFF HOO
 clear t0 t1 t2 t3 t4 t5 t6 t7 t8
 have HX := JX
 clear JX
 have HC := JC
 clear JC
 have HW := JW
 clear JW
 have HSS := JHSS
 clear JHSS
 have HFF := JHFF
 clear JHFF
 have HOO := JHOO
 clear JHOO
 have HK : Hid (Below W2.heap.size W2 W2) := Below.refl _ _
 obtain ⟨t0, t1, t2, t3, t4, t5, t6, t7, t8, tl⟩ := HX.out
 clear hbn
 clear ho hb
 go_region_held3 (fun w' => w'.cell? ⟨w.heap.size, 0, none⟩ = some (.int .i64 o) ∧ w'.cell? ⟨w.heap.size, 1, none⟩ = some (.int .i64 r) ∧ w'.cell? ⟨w.heap.size, 2, none⟩ = some (.int .i64 a) ∧ w'.cell? ⟨w.heap.size, 3, none⟩ = some (.int .i64 x) ∧ w'.cell? ⟨w.heap.size, 4, none⟩ = some (.int .i64 n) ∧ w'.cell? ⟨w.heap.size, 5, none⟩ = some (.int .i64 fr) ∧ w'.cell? ⟨w.heap.size, 6, none⟩ = some (.slice ss sl sc) ∧ w'.cell? ⟨w.heap.size, 7, none⟩ = some (.func (.func 122) #[] #[.pointer (some ⟨pb, 0, none⟩)]) ∧ w'.cell? ⟨w.heap.size, 8, none⟩ = some (.int .i64 rm)) (go_keep) (first | (go_at_call 159; refine (iSet _ _ _).mono ?_; rintro e w1 ⟨rfl, hb1⟩; have JK : Hid (Below W2.heap.size W2 w1) := (by first | exact HK.out.trans (hb1.mono HK.out.size) | exact HK.out.drew.trans (hb1.mono HK.out.drew.size)); clear HK; have HK := JK; clear JK hb1; obtain ⟨t0, t1, t2, t3, t4, t5, t6, t7, t8, tl⟩ := HX.out.keep HK.out) | (go_at_call 171; refine (iZero _ _ _).mono ?_; rintro e w1 ⟨rfl, hb1⟩; have JK : Hid (Below W2.heap.size W2 w1) := (by first | exact HK.out.trans (hb1.mono HK.out.size) | exact HK.out.drew.trans (hb1.mono HK.out.drew.size)); clear HK; have HK := JK; clear JK hb1; obtain ⟨t0, t1, t2, t3, t4, t5, t6, t7, t8, tl⟩ := HX.out.keep HK.out) | (go_at_call 162; refine (iJump _ _).mono ?_; rintro e w1 ⟨rfl, hb1⟩; have JK : Hid (Below W2.heap.size W2 w1) := (by first | exact HK.out.trans (hb1.mono HK.out.size) | exact HK.out.drew.trans (hb1.mono HK.out.drew.size)); clear HK; have HK := JK; clear JK hb1; obtain ⟨t0, t1, t2, t3, t4, t5, t6, t7, t8, tl⟩ := HX.out.keep HK.out) | (go_at_call 174; refine (iAdd _ _ _).mono ?_; rintro e w1 ⟨rfl, hb1⟩; have JK : Hid (Below W2.heap.size W2 w1) := (by first | exact HK.out.trans (hb1.mono HK.out.size) | exact HK.out.drew.trans (hb1.mono HK.out.drew.size)); clear HK; have HK := JK; clear JK hb1; obtain ⟨t0, t1, t2, t3, t4, t5, t6, t7, t8, tl⟩ := HX.out.keep HK.out) | (go_at_call 175; refine (iSub _ _ _).mono ?_; rintro e w1 ⟨rfl, hb1⟩; have JK : Hid (Below W2.heap.size W2 w1) := (by first | exact HK.out.trans (hb1.mono HK.out.size) | exact HK.out.drew.trans (hb1.mono HK.out.drew.size)); clear HK; have HK := JK; clear JK hb1; obtain ⟨t0, t1, t2, t3, t4, t5, t6, t7, t8, tl⟩ := HX.out.keep HK.out) | (go_at_call 160; refine (iLess _ _ _ _).mono ?_; rintro e w1 ⟨rfl, hb1⟩; have JK : Hid (Below W2.heap.size W2 w1) := (by first | exact HK.out.trans (hb1.mono HK.out.size) | exact HK.out.drew.trans (hb1.mono HK.out.drew.size)); clear HK; have HK := JK; clear JK hb1; obtain ⟨t0, t1, t2, t3, t4, t5, t6, t7, t8, tl⟩ := HX.out.keep HK.out) | (go_at_call 173; refine (iLoad o r a x n fr ss sl sc pb rm b _ _ (by omega) _ (by first | exact HC.out.keep HK.out | exact HC.out.keep HK.out.drew)).mono ?_; rintro e w1 ⟨rfl, hb1⟩; have JK : Hid (Below W2.heap.size W2 w1) := (by first | exact HK.out.trans (hb1.mono HK.out.size) | exact HK.out.drew.trans (hb1.mono HK.out.drew.size)); clear HK; have HK := JK; clear JK hb1; obtain ⟨t0, t1, t2, t3, t4, t5, t6, t7, t8, tl⟩ := HX.out.keep HK.out) | (go_at_call 166; refine (iStore o r a x n fr ss sl sc pb rm b _ _ (by omega) _ (by first | exact HC.out.keep HK.out | exact HC.out.keep HK.out.drew)).mono ?_; rintro e w1 ⟨rfl, hb1⟩; have JK : Hid (Below W2.heap.size W2 w1) := (by first | exact HK.out.trans (hb1.mono HK.out.size) | exact HK.out.drew.trans (hb1.mono HK.out.drew.size)); clear HK; have HK := JK; clear JK hb1; obtain ⟨t0, t1, t2, t3, t4, t5, t6, t7, t8, tl⟩ := HX.out.keep HK.out) | (go_at_call 178; refine (iLoadN o r a x n fr ss sl sc pb rm b _  _ (by first | exact HC.out.keep HK.out | exact HC.out.keep HK.out.drew)).mono ?_; rintro e w1 ⟨rfl, hb1⟩; have JK : Hid (Below W2.heap.size W2 w1) := (by first | exact HK.out.trans (hb1.mono HK.out.size) | exact HK.out.drew.trans (hb1.mono HK.out.drew.size)); clear HK; have HK := JK; clear JK hb1; obtain ⟨t0, t1, t2, t3, t4, t5, t6, t7, t8, tl⟩ := HX.out.keep HK.out) | (go_at_call 176; refine (iStoreN o r a x n fr ss sl sc pb rm b _  _ (by first | exact HC.out.keep HK.out | exact HC.out.keep HK.out.drew)).mono ?_; rintro e w1 ⟨rfl, hb1⟩; have JK : Hid (Below W2.heap.size W2 w1) := (by first | exact HK.out.trans (hb1.mono HK.out.size) | exact HK.out.drew.trans (hb1.mono HK.out.drew.size)); clear HK; have HK := JK; clear JK hb1; obtain ⟨t0, t1, t2, t3, t4, t5, t6, t7, t8, tl⟩ := HX.out.keep HK.out))
 refine name5 (P := Exit.then _ _ _ _) (putR b a) W2.heap.size 4 rfl rfl (by omega) HK.out.size ?_
 intro W3 ho hb hz
 obtain ⟨gHPO, hg⟩ : ∃ g, w1.heap.size = g := ⟨_, rfl⟩
 rw [hg] at ho ⊢
 clear hg hz
 have HPO := hid_of ho
 have JK : Hid (Below W2.heap.size W2 W3) := HK.out.trans (hb.mono HK.out.size)
 clear HK ho hb
 have HK := JK
 clear JK
 obtain ⟨t0, t1, t2, t3, t4, t5, t6, t7, t8, tl⟩ := HX.out.keep HK.out
 go_wp2_with (first | (go_at_call 177; refine (iLetThen o r a x n fr ss sl sc pb rm b gs 1 cs _ ([⟨10, 0, 0, 0, -1⟩]) _ (by first | exact HC.out.keep HK.out | exact HC.out.keep HK.out.drew) (by first | exact (HSS.out.keep HK.out).o.choose_spec | exact (HSS.out.keep HK.out.drew).o.choose_spec) (by omega) (by omega) 3 rfl).mono ?_; rintro e w1 ⟨g1, c1, rfl, ho1, hb1⟩; have J0 := hid_of (HPO.out.keep hb1); clear HPO; have HPO := J0; clear J0; have HG := hid_of ho1; clear ho1; have JK : Hid (Below W2.heap.size W2 w1) := (by first | exact HK.out.trans (hb1.mono HK.out.size) | exact HK.out.drew.trans (hb1.mono HK.out.drew.size)); clear HK; have HK := JK; clear JK hb1; obtain ⟨t0, t1, t2, t3, t4, t5, t6, t7, t8, tl⟩ := HX.out.keep HK.out) | (at_builtin; refine app5 rfl _ _ rfl w1 W2.heap.size (.slice (some ⟨gHPO, 0, none⟩) 4 4) (putR b a) rfl HPO.out _ g1 3 c1 (letR b ++ [⟨10, 0, 0, 0, -1⟩]) rfl HG.out rfl (by omega) (by first | exact Nat.le_of_ble_eq_true rfl | decide) 7 rfl HK.out.size ?_; intro gQ cQ w2 ho2 hb2; have JK : Hid (Below W2.heap.size W2 w2) := HK.out.trans hb2; clear HK; have HK := JK; clear JK; have HQ := hid_of (Row5.of ho2); clear ho2 hb2; obtain ⟨t0, t1, t2, t3, t4, t5, t6, t7, t8, tl⟩ := HX.out.keep HK.out))
 have hbn : Below W2.heap.size W2 w2 := HK.out
 have JX := hid_of (HX.out.keep hbn)
 have JC := hid_of (HC.out.keep hbn)
 have JW : Hid (Below w.heap.size w w2) := HW.out.trans (hbn.mono HW.out.size)
 have JHSS := hid_of (HSS.out.keep hbn)
 have JHFF := hid_of (HFF.out.keep hbn)
 have JHOO := hid_of (HOO.out.keep hbn)
 have JHRR := hid_of (HRR.out.keep hbn)
 clear HX HC HW HK HSS HFF HOO HRR
 clear t0 t1 t2 t3 t4 t5 t6 t7 t8
 have HX := JX
 clear JX
 have HC := JC
 clear JC
 have HW := JW
 clear JW
 have HSS := JHSS
 clear JHSS
 have HFF := JHFF
 clear JHFF
 have HOO := JHOO
 clear JHOO
 have HRR := JHRR
 clear JHRR
 have HK : Hid (Below w2.heap.size w2 w2) := Below.refl _ _
 obtain ⟨t0, t1, t2, t3, t4, t5, t6, t7, t8, tl⟩ := HX.out
 clear hbn
 go_region_held3 (fun w' => w'.cell? ⟨w.heap.size, 0, none⟩ = some (.int .i64 o) ∧ w'.cell? ⟨w.heap.size, 1, none⟩ = some (.int .i64 r) ∧ w'.cell? ⟨w.heap.size, 2, none⟩ = some (.int .i64 a) ∧ w'.cell? ⟨w.heap.size, 3, none⟩ = some (.int .i64 x) ∧ w'.cell? ⟨w.heap.size, 4, none⟩ = some (.int .i64 n) ∧ w'.cell? ⟨w.heap.size, 5, none⟩ = some (.int .i64 fr) ∧ w'.cell? ⟨w.heap.size, 6, none⟩ = some (.slice ss sl sc) ∧ w'.cell? ⟨w.heap.size, 7, none⟩ = some (.func (.func 122) #[] #[.pointer (some ⟨pb, 0, none⟩)]) ∧ w'.cell? ⟨w.heap.size, 8, none⟩ = some (.int .i64 rm)) (go_keep) (first | (go_at_call 168; refine (iAsk o r a x n fr ss sl sc pb rm b 3 _ (by first | exact HC.out.keep HK.out | exact HC.out.keep HK.out.drew)).mono ?_; rintro e w1 ⟨gA, cA, rfl, hoA, hb1⟩; have HA := hid_of (Row5.of hoA); clear hoA; have JK : Hid (Below w2.heap.size w2 w1) := (by first | exact HK.out.trans (hb1.mono HK.out.size) | exact HK.out.drew.trans (hb1.mono HK.out.drew.size)); clear HK; have HK := JK; clear JK hb1; obtain ⟨t0, t1, t2, t3, t4, t5, t6, t7, t8, tl⟩ := HX.out.keep HK.out) | (go_at_call 169; refine (iFault o r a x n fr ss sl sc pb rm b _ (by first | exact HC.out.keep HK.out | exact HC.out.keep HK.out.drew)).mono ?_; rintro e w1 ⟨gE, cE, rfl, hoE, hb1⟩; have HE := hid_of (Row5.of hoE); have J0 := hid_of (HA.out.keep hb1); clear HA; have HA := J0; clear J0 hoE; have JK : Hid (Below w2.heap.size w2 w1) := (by first | exact HK.out.trans (hb1.mono HK.out.size) | exact HK.out.drew.trans (hb1.mono HK.out.drew.size)); clear HK; have HK := JK; clear JK hb1; obtain ⟨t0, t1, t2, t3, t4, t5, t6, t7, t8, tl⟩ := HX.out.keep HK.out) | (go_at_call 177; refine (iLetThen o r a x n fr ss sl sc pb rm b gf 1 cf _ ([⟨10, 0, 0, 0, 0⟩]) _ (by first | exact HC.out.keep HK.out | exact HC.out.keep HK.out.drew) (by first | exact (HFF.out.keep HK.out).o.choose_spec | exact (HFF.out.keep HK.out.drew).o.choose_spec) (by omega) (by omega) 3 rfl).mono ?_; rintro e w1 ⟨gU, cU, rfl, hoU, hb1⟩; have HU := hid_of (Row5.of hoU); have J0 := hid_of (HA.out.keep hb1); clear HA; have HA := J0; clear J0; have J0 := hid_of (HE.out.keep hb1); clear HE; have HE := J0; clear J0 hoU; have JK : Hid (Below w2.heap.size w2 w1) := (by first | exact HK.out.trans (hb1.mono HK.out.size) | exact HK.out.drew.trans (hb1.mono HK.out.drew.size)); clear HK; have HK := JK; clear JK hb1; obtain ⟨t0, t1, t2, t3, t4, t5, t6, t7, t8, tl⟩ := HX.out.keep HK.out) | (go_at_call 167; refine (iUnder o r a x n fr ss sl sc pb rm b w1.heap.size 6 [⟨gA, cA, askR b 3⟩, ⟨gE, cE, faultR b⟩, ⟨gHOO, 9, openR b rm⟩, ⟨gHRR, 1, roundR⟩, ⟨gQ, cQ, putR b a ++ (letR b ++ [⟨10, 0, 0, 0, -1⟩])⟩, ⟨gU, cU, letR b ++ [⟨10, 0, 0, 0, 0⟩]⟩] _ ((HC.out.keep HK.out).keep ((Below.refl _ _).alloc (Nat.le_refl _) _)) (parts_new w1 _ _ rfl (fun y hy => by simp only [List.mem_cons, List.not_mem_nil, or_false] at hy; rcases hy with rfl | rfl | rfl | rfl | rfl | rfl; (exact HA.out); (exact HE.out); (exact (HOO.out.keep HK.out)); (exact (HRR.out.keep HK.out)); (exact (HQ.out.keep HK.out)); (exact HU.out))) (by first | exact Nat.le_of_ble_eq_true rfl | decide) (by first | exact Nat.le_of_ble_eq_true rfl | decide) (by first | exact Nat.le_of_ble_eq_true rfl | decide) (jOk_of (fun y hy => by simp only [List.mem_cons, List.not_mem_nil, or_false] at hy; rcases hy with rfl | rfl | rfl | rfl | rfl | rfl <;> simp [jOk, isJ, askR, faultR, letR, openR, roundR, putR, triedR])) 29 rfl).mono ?_; rintro e w5 ⟨g5, c5, rfl, ho5, hb5⟩; have hb6 : Below w1.heap.size w1 w5 := ((Below.refl _ _).alloc (Nat.le_refl _) _).trans (hb5.mono (by simp)); have HO5 := hid_of ho5; have HB5 := hid_of hb6; have JK : Hid (Below w2.heap.size w2 w5) := HK.out.trans (hb6.mono HK.out.size); obtain ⟨t0, t1, t2, t3, t4, t5, t6, t7, t8, tl⟩ := HX.out.keep JK.out; clear ho5 hb5 hb6))
 go_wp2
 go_ret
 have hz1 := HW.out.size
 have hz2 := HK.out.size
 exact ⟨_, _, rfl, HO5.out.low (by simp; omega), HW.out.trans (JK.out.mono hz1)⟩
set_option maxHeartbeats 8000000 in
theorem iPut2 (o r a x n fr : Int) (ss : Option Addr) (sl sc pb : Nat) (rm b : Int) (gs cs bs gf cf bf : Nat) (w : World) (h : CB w pb b) (hs : OwnT5 w bs (.slice (some ⟨gs, 0, none⟩) 2 cs) (triedR r 1)) (hf : OwnT5 w bf (.slice (some ⟨gf, 0, none⟩) 2 cf) (triedR r 0)) : Calls Tryz.prog 161 #[.agg #[.int .i64 o, .int .i64 r, .int .i64 a, .int .i64 x, .int .i64 n, .int .i64 fr, .slice ss sl sc, .func (.func 122) #[] #[.pointer (some ⟨pb, 0, none⟩)], .int .i64 rm], .slice (some ⟨gs, 0, none⟩) 2 cs, .slice (some ⟨gf, 0, none⟩) 2 cf] w fun e w' => ∃ g c, e = .returned (.slice (some ⟨g, 0, none⟩) 31 c) ∧ OwnT5 w' w.heap.size (.slice (some ⟨g, 0, none⟩) 31 c) (togL fr [lockR b, askR b 3, faultR b, openR b rm, roundR, putR b a ++ (letR b ++ triedR r 1), letR b ++ triedR r 0] [lockR b, askR b 3, faultR b, openR b rm, roundR, putR b a ++ (letR b ++ triedR r 1), letR b ++ triedR r 0]) ∧ Below w.heap.size w w' := by
 have H0S := hid_of hs
 have H0F := hid_of hf
 clear hs hf
 obtain ⟨W, hW, hx, hb, hz⟩ := SX.new w (.int .i64 o) (.int .i64 r) (.int .i64 a) (.int .i64 x) (.int .i64 n) (.int .i64 fr) (.slice ss sl sc) (.func (.func 122) #[] #[.pointer (some ⟨pb, 0, none⟩)]) (.int .i64 rm) 127
 have HC : Hid (CB W pb b) := h.keep hb
 have HX := hid_of hx
 have HW : Hid (Below w.heap.size w W) := hb
 have HK : Hid (Below W.heap.size W W) := Below.refl _ _
 clear h hx hb
 obtain ⟨t0, t1, t2, t3, t4, t5, t6, t7, t8, tl⟩ := HX.out
 have HSS := hid_of (Row5.of (H0S.out.keep HW.out))
 have HFF := hid_of (Row5.of (H0F.out.keep HW.out))
 clear H0S H0F
 go_enter Tryz.func161, Tryz.ntmps161
 go_wp2
 go_region_held3 (fun w' => w'.cell? ⟨w.heap.size, 0, none⟩ = some (.int .i64 o) ∧ w'.cell? ⟨w.heap.size, 1, none⟩ = some (.int .i64 r) ∧ w'.cell? ⟨w.heap.size, 2, none⟩ = some (.int .i64 a) ∧ w'.cell? ⟨w.heap.size, 3, none⟩ = some (.int .i64 x) ∧ w'.cell? ⟨w.heap.size, 4, none⟩ = some (.int .i64 n) ∧ w'.cell? ⟨w.heap.size, 5, none⟩ = some (.int .i64 fr) ∧ w'.cell? ⟨w.heap.size, 6, none⟩ = some (.slice ss sl sc) ∧ w'.cell? ⟨w.heap.size, 7, none⟩ = some (.func (.func 122) #[] #[.pointer (some ⟨pb, 0, none⟩)]) ∧ w'.cell? ⟨w.heap.size, 8, none⟩ = some (.int .i64 rm)) (go_keep) (first | (go_at_call 159; refine (iSet _ _ _).mono ?_; rintro e w1 ⟨rfl, hb1⟩; have JK : Hid (Below W.heap.size W w1) := (by first | exact HK.out.trans (hb1.mono HK.out.size) | exact HK.out.drew.trans (hb1.mono HK.out.drew.size)); clear HK; have HK := JK; clear JK hb1; obtain ⟨t0, t1, t2, t3, t4, t5, t6, t7, t8, tl⟩ := HX.out.keep HK.out) | (go_at_call 171; refine (iZero _ _ _).mono ?_; rintro e w1 ⟨rfl, hb1⟩; have JK : Hid (Below W.heap.size W w1) := (by first | exact HK.out.trans (hb1.mono HK.out.size) | exact HK.out.drew.trans (hb1.mono HK.out.drew.size)); clear HK; have HK := JK; clear JK hb1; obtain ⟨t0, t1, t2, t3, t4, t5, t6, t7, t8, tl⟩ := HX.out.keep HK.out) | (go_at_call 162; refine (iJump _ _).mono ?_; rintro e w1 ⟨rfl, hb1⟩; have JK : Hid (Below W.heap.size W w1) := (by first | exact HK.out.trans (hb1.mono HK.out.size) | exact HK.out.drew.trans (hb1.mono HK.out.drew.size)); clear HK; have HK := JK; clear JK hb1; obtain ⟨t0, t1, t2, t3, t4, t5, t6, t7, t8, tl⟩ := HX.out.keep HK.out) | (go_at_call 174; refine (iAdd _ _ _).mono ?_; rintro e w1 ⟨rfl, hb1⟩; have JK : Hid (Below W.heap.size W w1) := (by first | exact HK.out.trans (hb1.mono HK.out.size) | exact HK.out.drew.trans (hb1.mono HK.out.drew.size)); clear HK; have HK := JK; clear JK hb1; obtain ⟨t0, t1, t2, t3, t4, t5, t6, t7, t8, tl⟩ := HX.out.keep HK.out) | (go_at_call 175; refine (iSub _ _ _).mono ?_; rintro e w1 ⟨rfl, hb1⟩; have JK : Hid (Below W.heap.size W w1) := (by first | exact HK.out.trans (hb1.mono HK.out.size) | exact HK.out.drew.trans (hb1.mono HK.out.drew.size)); clear HK; have HK := JK; clear JK hb1; obtain ⟨t0, t1, t2, t3, t4, t5, t6, t7, t8, tl⟩ := HX.out.keep HK.out) | (go_at_call 160; refine (iLess _ _ _ _).mono ?_; rintro e w1 ⟨rfl, hb1⟩; have JK : Hid (Below W.heap.size W w1) := (by first | exact HK.out.trans (hb1.mono HK.out.size) | exact HK.out.drew.trans (hb1.mono HK.out.drew.size)); clear HK; have HK := JK; clear JK hb1; obtain ⟨t0, t1, t2, t3, t4, t5, t6, t7, t8, tl⟩ := HX.out.keep HK.out) | (go_at_call 173; refine (iLoad o r a x n fr ss sl sc pb rm b _ _ (by omega) _ (by first | exact HC.out.keep HK.out | exact HC.out.keep HK.out.drew)).mono ?_; rintro e w1 ⟨rfl, hb1⟩; have JK : Hid (Below W.heap.size W w1) := (by first | exact HK.out.trans (hb1.mono HK.out.size) | exact HK.out.drew.trans (hb1.mono HK.out.drew.size)); clear HK; have HK := JK; clear JK hb1; obtain ⟨t0, t1, t2, t3, t4, t5, t6, t7, t8, tl⟩ := HX.out.keep HK.out) | (go_at_call 166; refine (iStore o r a x n fr ss sl sc pb rm b _ _ (by omega) _ (by first | exact HC.out.keep HK.out | exact HC.out.keep HK.out.drew)).mono ?_; rintro e w1 ⟨rfl, hb1⟩; have JK : Hid (Below W.heap.size W w1) := (by first | exact HK.out.trans (hb1.mono HK.out.size) | exact HK.out.drew.trans (hb1.mono HK.out.drew.size)); clear HK; have HK := JK; clear JK hb1; obtain ⟨t0, t1, t2, t3, t4, t5, t6, t7, t8, tl⟩ := HX.out.keep HK.out) | (go_at_call 178; refine (iLoadN o r a x n fr ss sl sc pb rm b _  _ (by first | exact HC.out.keep HK.out | exact HC.out.keep HK.out.drew)).mono ?_; rintro e w1 ⟨rfl, hb1⟩; have JK : Hid (Below W.heap.size W w1) := (by first | exact HK.out.trans (hb1.mono HK.out.size) | exact HK.out.drew.trans (hb1.mono HK.out.drew.size)); clear HK; have HK := JK; clear JK hb1; obtain ⟨t0, t1, t2, t3, t4, t5, t6, t7, t8, tl⟩ := HX.out.keep HK.out) | (go_at_call 176; refine (iStoreN o r a x n fr ss sl sc pb rm b _  _ (by first | exact HC.out.keep HK.out | exact HC.out.keep HK.out.drew)).mono ?_; rintro e w1 ⟨rfl, hb1⟩; have JK : Hid (Below W.heap.size W w1) := (by first | exact HK.out.trans (hb1.mono HK.out.size) | exact HK.out.drew.trans (hb1.mono HK.out.drew.size)); clear HK; have HK := JK; clear JK hb1; obtain ⟨t0, t1, t2, t3, t4, t5, t6, t7, t8, tl⟩ := HX.out.keep HK.out))
 first | refine name5 (P := Exit.then _ _ _ _) (openR b rm) W.heap.size 9 rfl rfl (by omega) HK.out.size ?_ | refine name5 (P := Code.wp _ _ _ _) (openR b rm) W.heap.size 9 rfl rfl (by omega) HK.out.size ?_
 intro W1 ho hb hz
 obtain ⟨gHOO, hg⟩ : ∃ g, w1.heap.size = g := ⟨_, rfl⟩
 rw [hg] at ho ⊢
 clear hg hz
 have hbn : Below W.heap.size W W1 := (HK.out.trans (hb.mono HK.out.size))
 have JX := hid_of (HX.out.keep hbn)
 have JC := hid_of (HC.out.keep hbn)
 have JW : Hid (Below w.heap.size w W1) := HW.out.trans (hbn.mono HW.out.size)
 have JHSS := hid_of (HSS.out.keep hbn)
 have JHFF := hid_of (HFF.out.keep hbn)
 have HOO := hid_of (Row5.of ho)
 clear HX HC HW HK HSS HFF
 clear t0 t1 t2 t3 t4 t5 t6 t7 t8
 have HX := JX
 clear JX
 have HC := JC
 clear JC
 have HW := JW
 clear JW
 have HSS := JHSS
 clear JHSS
 have HFF := JHFF
 clear JHFF
 have HK : Hid (Below W1.heap.size W1 W1) := Below.refl _ _
 obtain ⟨t0, t1, t2, t3, t4, t5, t6, t7, t8, tl⟩ := HX.out
 clear hbn
 clear ho hb
 go_wp2_with fail
 go_wp2_with (first | (go_at_call 159; refine (iSet _ _ _).mono ?_; rintro e w1 ⟨rfl, hb1⟩; have JK : Hid (Below W1.heap.size W1 w1) := (by first | exact HK.out.trans (hb1.mono HK.out.size) | exact HK.out.drew.trans (hb1.mono HK.out.drew.size)); clear HK; have HK := JK; clear JK hb1; obtain ⟨t0, t1, t2, t3, t4, t5, t6, t7, t8, tl⟩ := HX.out.keep HK.out) | (go_at_call 171; refine (iZero _ _ _).mono ?_; rintro e w1 ⟨rfl, hb1⟩; have JK : Hid (Below W1.heap.size W1 w1) := (by first | exact HK.out.trans (hb1.mono HK.out.size) | exact HK.out.drew.trans (hb1.mono HK.out.drew.size)); clear HK; have HK := JK; clear JK hb1; obtain ⟨t0, t1, t2, t3, t4, t5, t6, t7, t8, tl⟩ := HX.out.keep HK.out) | (go_at_call 162; refine (iJump _ _).mono ?_; rintro e w1 ⟨rfl, hb1⟩; have JK : Hid (Below W1.heap.size W1 w1) := (by first | exact HK.out.trans (hb1.mono HK.out.size) | exact HK.out.drew.trans (hb1.mono HK.out.drew.size)); clear HK; have HK := JK; clear JK hb1; obtain ⟨t0, t1, t2, t3, t4, t5, t6, t7, t8, tl⟩ := HX.out.keep HK.out) | (go_at_call 174; refine (iAdd _ _ _).mono ?_; rintro e w1 ⟨rfl, hb1⟩; have JK : Hid (Below W1.heap.size W1 w1) := (by first | exact HK.out.trans (hb1.mono HK.out.size) | exact HK.out.drew.trans (hb1.mono HK.out.drew.size)); clear HK; have HK := JK; clear JK hb1; obtain ⟨t0, t1, t2, t3, t4, t5, t6, t7, t8, tl⟩ := HX.out.keep HK.out) | (go_at_call 175; refine (iSub _ _ _).mono ?_; rintro e w1 ⟨rfl, hb1⟩; have JK : Hid (Below W1.heap.size W1 w1) := (by first | exact HK.out.trans (hb1.mono HK.out.size) | exact HK.out.drew.trans (hb1.mono HK.out.drew.size)); clear HK; have HK := JK; clear JK hb1; obtain ⟨t0, t1, t2, t3, t4, t5, t6, t7, t8, tl⟩ := HX.out.keep HK.out) | (go_at_call 160; refine (iLess _ _ _ _).mono ?_; rintro e w1 ⟨rfl, hb1⟩; have JK : Hid (Below W1.heap.size W1 w1) := (by first | exact HK.out.trans (hb1.mono HK.out.size) | exact HK.out.drew.trans (hb1.mono HK.out.drew.size)); clear HK; have HK := JK; clear JK hb1; obtain ⟨t0, t1, t2, t3, t4, t5, t6, t7, t8, tl⟩ := HX.out.keep HK.out) | (go_at_call 173; refine (iLoad o r a x n fr ss sl sc pb rm b _ _ (by omega) _ (by first | exact HC.out.keep HK.out | exact HC.out.keep HK.out.drew)).mono ?_; rintro e w1 ⟨rfl, hb1⟩; have JK : Hid (Below W1.heap.size W1 w1) := (by first | exact HK.out.trans (hb1.mono HK.out.size) | exact HK.out.drew.trans (hb1.mono HK.out.drew.size)); clear HK; have HK := JK; clear JK hb1; obtain ⟨t0, t1, t2, t3, t4, t5, t6, t7, t8, tl⟩ := HX.out.keep HK.out) | (go_at_call 166; refine (iStore o r a x n fr ss sl sc pb rm b _ _ (by omega) _ (by first | exact HC.out.keep HK.out | exact HC.out.keep HK.out.drew)).mono ?_; rintro e w1 ⟨rfl, hb1⟩; have JK : Hid (Below W1.heap.size W1 w1) := (by first | exact HK.out.trans (hb1.mono HK.out.size) | exact HK.out.drew.trans (hb1.mono HK.out.drew.size)); clear HK; have HK := JK; clear JK hb1; obtain ⟨t0, t1, t2, t3, t4, t5, t6, t7, t8, tl⟩ := HX.out.keep HK.out) | (go_at_call 178; refine (iLoadN o r a x n fr ss sl sc pb rm b _  _ (by first | exact HC.out.keep HK.out | exact HC.out.keep HK.out.drew)).mono ?_; rintro e w1 ⟨rfl, hb1⟩; have JK : Hid (Below W1.heap.size W1 w1) := (by first | exact HK.out.trans (hb1.mono HK.out.size) | exact HK.out.drew.trans (hb1.mono HK.out.drew.size)); clear HK; have HK := JK; clear JK hb1; obtain ⟨t0, t1, t2, t3, t4, t5, t6, t7, t8, tl⟩ := HX.out.keep HK.out) | (go_at_call 176; refine (iStoreN o r a x n fr ss sl sc pb rm b _  _ (by first | exact HC.out.keep HK.out | exact HC.out.keep HK.out.drew)).mono ?_; rintro e w1 ⟨rfl, hb1⟩; have JK : Hid (Below W1.heap.size W1 w1) := (by first | exact HK.out.trans (hb1.mono HK.out.size) | exact HK.out.drew.trans (hb1.mono HK.out.drew.size)); clear HK; have HK := JK; clear JK hb1; obtain ⟨t0, t1, t2, t3, t4, t5, t6, t7, t8, tl⟩ := HX.out.keep HK.out))
 first | refine name5 (P := Exit.then _ _ _ _) (roundR) W1.heap.size 1 rfl rfl (by omega) HK.out.size ?_ | refine name5 (P := Code.wp _ _ _ _) (roundR) W1.heap.size 1 rfl rfl (by omega) HK.out.size ?_
 intro W2 ho hb hz
 obtain ⟨gHRR, hg⟩ : ∃ g, w1.heap.size = g := ⟨_, rfl⟩
 rw [hg] at ho ⊢
 clear hg hz
 have hbn : Below W1.heap.size W1 W2 := (HK.out.trans (hb.mono HK.out.size))
 have JX := hid_of (HX.out.keep hbn)
 have JC := hid_of (HC.out.keep hbn)
 have JW : Hid (Below w.heap.size w W2) := HW.out.trans (hbn.mono HW.out.size)
 have JHSS := hid_of (HSS.out.keep hbn)
 have JHFF := hid_of (HFF.out.keep hbn)
 have JHOO := hid_of (HOO.out.keep hbn)
 have HRR := hid_of (Row5.of ho)
 clear HX HC HW HK HSS HFF HOO
 clear t0 t1 t2 t3 t4 t5 t6 t7 t8
 have HX := JX
 clear JX
 have HC := JC
 clear JC
 have HW := JW
 clear JW
 have HSS := JHSS
 clear JHSS
 have HFF := JHFF
 clear JHFF
 have HOO := JHOO
 clear JHOO
 have HK : Hid (Below W2.heap.size W2 W2) := Below.refl _ _
 obtain ⟨t0, t1, t2, t3, t4, t5, t6, t7, t8, tl⟩ := HX.out
 clear hbn
 clear ho hb
 go_region_held3 (fun w' => w'.cell? ⟨w.heap.size, 0, none⟩ = some (.int .i64 o) ∧ w'.cell? ⟨w.heap.size, 1, none⟩ = some (.int .i64 r) ∧ w'.cell? ⟨w.heap.size, 2, none⟩ = some (.int .i64 a) ∧ w'.cell? ⟨w.heap.size, 3, none⟩ = some (.int .i64 x) ∧ w'.cell? ⟨w.heap.size, 4, none⟩ = some (.int .i64 n) ∧ w'.cell? ⟨w.heap.size, 5, none⟩ = some (.int .i64 fr) ∧ w'.cell? ⟨w.heap.size, 6, none⟩ = some (.slice ss sl sc) ∧ w'.cell? ⟨w.heap.size, 7, none⟩ = some (.func (.func 122) #[] #[.pointer (some ⟨pb, 0, none⟩)]) ∧ w'.cell? ⟨w.heap.size, 8, none⟩ = some (.int .i64 rm)) (go_keep) (first | (go_at_call 159; refine (iSet _ _ _).mono ?_; rintro e w1 ⟨rfl, hb1⟩; have JK : Hid (Below W2.heap.size W2 w1) := (by first | exact HK.out.trans (hb1.mono HK.out.size) | exact HK.out.drew.trans (hb1.mono HK.out.drew.size)); clear HK; have HK := JK; clear JK hb1; obtain ⟨t0, t1, t2, t3, t4, t5, t6, t7, t8, tl⟩ := HX.out.keep HK.out) | (go_at_call 171; refine (iZero _ _ _).mono ?_; rintro e w1 ⟨rfl, hb1⟩; have JK : Hid (Below W2.heap.size W2 w1) := (by first | exact HK.out.trans (hb1.mono HK.out.size) | exact HK.out.drew.trans (hb1.mono HK.out.drew.size)); clear HK; have HK := JK; clear JK hb1; obtain ⟨t0, t1, t2, t3, t4, t5, t6, t7, t8, tl⟩ := HX.out.keep HK.out) | (go_at_call 162; refine (iJump _ _).mono ?_; rintro e w1 ⟨rfl, hb1⟩; have JK : Hid (Below W2.heap.size W2 w1) := (by first | exact HK.out.trans (hb1.mono HK.out.size) | exact HK.out.drew.trans (hb1.mono HK.out.drew.size)); clear HK; have HK := JK; clear JK hb1; obtain ⟨t0, t1, t2, t3, t4, t5, t6, t7, t8, tl⟩ := HX.out.keep HK.out) | (go_at_call 174; refine (iAdd _ _ _).mono ?_; rintro e w1 ⟨rfl, hb1⟩; have JK : Hid (Below W2.heap.size W2 w1) := (by first | exact HK.out.trans (hb1.mono HK.out.size) | exact HK.out.drew.trans (hb1.mono HK.out.drew.size)); clear HK; have HK := JK; clear JK hb1; obtain ⟨t0, t1, t2, t3, t4, t5, t6, t7, t8, tl⟩ := HX.out.keep HK.out) | (go_at_call 175; refine (iSub _ _ _).mono ?_; rintro e w1 ⟨rfl, hb1⟩; have JK : Hid (Below W2.heap.size W2 w1) := (by first | exact HK.out.trans (hb1.mono HK.out.size) | exact HK.out.drew.trans (hb1.mono HK.out.drew.size)); clear HK; have HK := JK; clear JK hb1; obtain ⟨t0, t1, t2, t3, t4, t5, t6, t7, t8, tl⟩ := HX.out.keep HK.out) | (go_at_call 160; refine (iLess _ _ _ _).mono ?_; rintro e w1 ⟨rfl, hb1⟩; have JK : Hid (Below W2.heap.size W2 w1) := (by first | exact HK.out.trans (hb1.mono HK.out.size) | exact HK.out.drew.trans (hb1.mono HK.out.drew.size)); clear HK; have HK := JK; clear JK hb1; obtain ⟨t0, t1, t2, t3, t4, t5, t6, t7, t8, tl⟩ := HX.out.keep HK.out) | (go_at_call 173; refine (iLoad o r a x n fr ss sl sc pb rm b _ _ (by omega) _ (by first | exact HC.out.keep HK.out | exact HC.out.keep HK.out.drew)).mono ?_; rintro e w1 ⟨rfl, hb1⟩; have JK : Hid (Below W2.heap.size W2 w1) := (by first | exact HK.out.trans (hb1.mono HK.out.size) | exact HK.out.drew.trans (hb1.mono HK.out.drew.size)); clear HK; have HK := JK; clear JK hb1; obtain ⟨t0, t1, t2, t3, t4, t5, t6, t7, t8, tl⟩ := HX.out.keep HK.out) | (go_at_call 166; refine (iStore o r a x n fr ss sl sc pb rm b _ _ (by omega) _ (by first | exact HC.out.keep HK.out | exact HC.out.keep HK.out.drew)).mono ?_; rintro e w1 ⟨rfl, hb1⟩; have JK : Hid (Below W2.heap.size W2 w1) := (by first | exact HK.out.trans (hb1.mono HK.out.size) | exact HK.out.drew.trans (hb1.mono HK.out.drew.size)); clear HK; have HK := JK; clear JK hb1; obtain ⟨t0, t1, t2, t3, t4, t5, t6, t7, t8, tl⟩ := HX.out.keep HK.out) | (go_at_call 178; refine (iLoadN o r a x n fr ss sl sc pb rm b _  _ (by first | exact HC.out.keep HK.out | exact HC.out.keep HK.out.drew)).mono ?_; rintro e w1 ⟨rfl, hb1⟩; have JK : Hid (Below W2.heap.size W2 w1) := (by first | exact HK.out.trans (hb1.mono HK.out.size) | exact HK.out.drew.trans (hb1.mono HK.out.drew.size)); clear HK; have HK := JK; clear JK hb1; obtain ⟨t0, t1, t2, t3, t4, t5, t6, t7, t8, tl⟩ := HX.out.keep HK.out) | (go_at_call 176; refine (iStoreN o r a x n fr ss sl sc pb rm b _  _ (by first | exact HC.out.keep HK.out | exact HC.out.keep HK.out.drew)).mono ?_; rintro e w1 ⟨rfl, hb1⟩; have JK : Hid (Below W2.heap.size W2 w1) := (by first | exact HK.out.trans (hb1.mono HK.out.size) | exact HK.out.drew.trans (hb1.mono HK.out.drew.size)); clear HK; have HK := JK; clear JK hb1; obtain ⟨t0, t1, t2, t3, t4, t5, t6, t7, t8, tl⟩ := HX.out.keep HK.out))
 refine name5 (P := Exit.then _ _ _ _) (putR b a) W2.heap.size 4 rfl rfl (by omega) HK.out.size ?_
 intro W3 ho hb hz
 obtain ⟨gHPO, hg⟩ : ∃ g, w1.heap.size = g := ⟨_, rfl⟩
 rw [hg] at ho ⊢
 clear hg hz
 have HPO := hid_of ho
 have JK : Hid (Below W2.heap.size W2 W3) := HK.out.trans (hb.mono HK.out.size)
 clear HK ho hb
 have HK := JK
 clear JK
 obtain ⟨t0, t1, t2, t3, t4, t5, t6, t7, t8, tl⟩ := HX.out.keep HK.out
 go_wp2_with (first | (go_at_call 177; refine (iLetThen o r a x n fr ss sl sc pb rm b gs 2 cs _ (triedR r 1) _ (by first | exact HC.out.keep HK.out | exact HC.out.keep HK.out.drew) (by first | exact (HSS.out.keep HK.out).o.choose_spec | exact (HSS.out.keep HK.out.drew).o.choose_spec) (by omega) (by omega) 4 rfl).mono ?_; rintro e w1 ⟨g1, c1, rfl, ho1, hb1⟩; have J0 := hid_of (HPO.out.keep hb1); clear HPO; have HPO := J0; clear J0; have HG := hid_of ho1; clear ho1; have JK : Hid (Below W2.heap.size W2 w1) := (by first | exact HK.out.trans (hb1.mono HK.out.size) | exact HK.out.drew.trans (hb1.mono HK.out.drew.size)); clear HK; have HK := JK; clear JK hb1; obtain ⟨t0, t1, t2, t3, t4, t5, t6, t7, t8, tl⟩ := HX.out.keep HK.out) | (at_builtin; refine app5 rfl _ _ rfl w1 W2.heap.size (.slice (some ⟨gHPO, 0, none⟩) 4 4) (putR b a) rfl HPO.out _ g1 4 c1 (letR b ++ triedR r 1) rfl HG.out rfl (by omega) (by first | exact Nat.le_of_ble_eq_true rfl | decide) 8 rfl HK.out.size ?_; intro gQ cQ w2 ho2 hb2; have JK : Hid (Below W2.heap.size W2 w2) := HK.out.trans hb2; clear HK; have HK := JK; clear JK; have HQ := hid_of (Row5.of ho2); clear ho2 hb2; obtain ⟨t0, t1, t2, t3, t4, t5, t6, t7, t8, tl⟩ := HX.out.keep HK.out))
 have hbn : Below W2.heap.size W2 w2 := HK.out
 have JX := hid_of (HX.out.keep hbn)
 have JC := hid_of (HC.out.keep hbn)
 have JW : Hid (Below w.heap.size w w2) := HW.out.trans (hbn.mono HW.out.size)
 have JHSS := hid_of (HSS.out.keep hbn)
 have JHFF := hid_of (HFF.out.keep hbn)
 have JHOO := hid_of (HOO.out.keep hbn)
 have JHRR := hid_of (HRR.out.keep hbn)
 clear HX HC HW HK HSS HFF HOO HRR
 clear t0 t1 t2 t3 t4 t5 t6 t7 t8
 have HX := JX
 clear JX
 have HC := JC
 clear JC
 have HW := JW
 clear JW
 have HSS := JHSS
 clear JHSS
 have HFF := JHFF
 clear JHFF
 have HOO := JHOO
 clear JHOO
 have HRR := JHRR
 clear JHRR
 have HK : Hid (Below w2.heap.size w2 w2) := Below.refl _ _
 obtain ⟨t0, t1, t2, t3, t4, t5, t6, t7, t8, tl⟩ := HX.out
 clear hbn
 go_region_held3 (fun w' => w'.cell? ⟨w.heap.size, 0, none⟩ = some (.int .i64 o) ∧ w'.cell? ⟨w.heap.size, 1, none⟩ = some (.int .i64 r) ∧ w'.cell? ⟨w.heap.size, 2, none⟩ = some (.int .i64 a) ∧ w'.cell? ⟨w.heap.size, 3, none⟩ = some (.int .i64 x) ∧ w'.cell? ⟨w.heap.size, 4, none⟩ = some (.int .i64 n) ∧ w'.cell? ⟨w.heap.size, 5, none⟩ = some (.int .i64 fr) ∧ w'.cell? ⟨w.heap.size, 6, none⟩ = some (.slice ss sl sc) ∧ w'.cell? ⟨w.heap.size, 7, none⟩ = some (.func (.func 122) #[] #[.pointer (some ⟨pb, 0, none⟩)]) ∧ w'.cell? ⟨w.heap.size, 8, none⟩ = some (.int .i64 rm)) (go_keep) (first | (go_at_call 168; refine (iAsk o r a x n fr ss sl sc pb rm b 3 _ (by first | exact HC.out.keep HK.out | exact HC.out.keep HK.out.drew)).mono ?_; rintro e w1 ⟨gA, cA, rfl, hoA, hb1⟩; have HA := hid_of (Row5.of hoA); clear hoA; have JK : Hid (Below w2.heap.size w2 w1) := (by first | exact HK.out.trans (hb1.mono HK.out.size) | exact HK.out.drew.trans (hb1.mono HK.out.drew.size)); clear HK; have HK := JK; clear JK hb1; obtain ⟨t0, t1, t2, t3, t4, t5, t6, t7, t8, tl⟩ := HX.out.keep HK.out) | (go_at_call 169; refine (iFault o r a x n fr ss sl sc pb rm b _ (by first | exact HC.out.keep HK.out | exact HC.out.keep HK.out.drew)).mono ?_; rintro e w1 ⟨gE, cE, rfl, hoE, hb1⟩; have HE := hid_of (Row5.of hoE); have J0 := hid_of (HA.out.keep hb1); clear HA; have HA := J0; clear J0 hoE; have JK : Hid (Below w2.heap.size w2 w1) := (by first | exact HK.out.trans (hb1.mono HK.out.size) | exact HK.out.drew.trans (hb1.mono HK.out.drew.size)); clear HK; have HK := JK; clear JK hb1; obtain ⟨t0, t1, t2, t3, t4, t5, t6, t7, t8, tl⟩ := HX.out.keep HK.out) | (go_at_call 177; refine (iLetThen o r a x n fr ss sl sc pb rm b gf 2 cf _ (triedR r 0) _ (by first | exact HC.out.keep HK.out | exact HC.out.keep HK.out.drew) (by first | exact (HFF.out.keep HK.out).o.choose_spec | exact (HFF.out.keep HK.out.drew).o.choose_spec) (by omega) (by omega) 4 rfl).mono ?_; rintro e w1 ⟨gU, cU, rfl, hoU, hb1⟩; have HU := hid_of (Row5.of hoU); have J0 := hid_of (HA.out.keep hb1); clear HA; have HA := J0; clear J0; have J0 := hid_of (HE.out.keep hb1); clear HE; have HE := J0; clear J0 hoU; have JK : Hid (Below w2.heap.size w2 w1) := (by first | exact HK.out.trans (hb1.mono HK.out.size) | exact HK.out.drew.trans (hb1.mono HK.out.drew.size)); clear HK; have HK := JK; clear JK hb1; obtain ⟨t0, t1, t2, t3, t4, t5, t6, t7, t8, tl⟩ := HX.out.keep HK.out) | (go_at_call 167; refine (iUnder o r a x n fr ss sl sc pb rm b w1.heap.size 6 [⟨gA, cA, askR b 3⟩, ⟨gE, cE, faultR b⟩, ⟨gHOO, 9, openR b rm⟩, ⟨gHRR, 1, roundR⟩, ⟨gQ, cQ, putR b a ++ (letR b ++ triedR r 1)⟩, ⟨gU, cU, letR b ++ triedR r 0⟩] _ ((HC.out.keep HK.out).keep ((Below.refl _ _).alloc (Nat.le_refl _) _)) (parts_new w1 _ _ rfl (fun y hy => by simp only [List.mem_cons, List.not_mem_nil, or_false] at hy; rcases hy with rfl | rfl | rfl | rfl | rfl | rfl; (exact HA.out); (exact HE.out); (exact (HOO.out.keep HK.out)); (exact (HRR.out.keep HK.out)); (exact (HQ.out.keep HK.out)); (exact HU.out))) (by first | exact Nat.le_of_ble_eq_true rfl | decide) (by first | exact Nat.le_of_ble_eq_true rfl | decide) (by first | exact Nat.le_of_ble_eq_true rfl | decide) (jOk_of (fun y hy => by simp only [List.mem_cons, List.not_mem_nil, or_false] at hy; rcases hy with rfl | rfl | rfl | rfl | rfl | rfl <;> simp [jOk, isJ, askR, faultR, letR, openR, roundR, putR, triedR])) 31 rfl).mono ?_; rintro e w5 ⟨g5, c5, rfl, ho5, hb5⟩; have hb6 : Below w1.heap.size w1 w5 := ((Below.refl _ _).alloc (Nat.le_refl _) _).trans (hb5.mono (by simp)); have HO5 := hid_of ho5; have HB5 := hid_of hb6; have JK : Hid (Below w2.heap.size w2 w5) := HK.out.trans (hb6.mono HK.out.size); obtain ⟨t0, t1, t2, t3, t4, t5, t6, t7, t8, tl⟩ := HX.out.keep JK.out; clear ho5 hb5 hb6))
 go_wp2
 go_ret
 have hz1 := HW.out.size
 have hz2 := HK.out.size
 exact ⟨_, _, rfl, HO5.out.low (by simp; omega), HW.out.trans (JK.out.mono hz1)⟩
end Go.Proofs.YtehjbpjjegajjaaGreat
