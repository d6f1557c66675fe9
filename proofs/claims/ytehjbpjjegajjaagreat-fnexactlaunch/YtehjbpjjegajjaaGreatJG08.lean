/- What a site locks, lets go, asks. Conditions: the channel lies in memory. A row behind what lets a lock go; what faults. Conditions: the channel lies in memory, and the row is of at most a hundred steps. Where parts begin that stand one behind the other. Conditions: at most a hundred of them. -/
import Derived.Test.YtehjbpjjegajjaaGreatJG00
import Derived.Test.YtehjbpjjegajjaaGreatJG01
import Derived.Test.YtehjbpjjegajjaaGreatJG07
import Derived.Test.YtehjbpjjegajjaaGreatJE10Site
namespace Go.Proofs.YtehjbpjjegajjaaGreat
section
set_option linter.unusedSimpArgs false
set_option linter.unusedVariables false
set_option maxRecDepth 100000
open Go.RowKit
def lockR (b : Int) : List I5 := [⟨1, 7, 0, 0, 1⟩, ⟨8, 6, 0, 7, b⟩, ⟨11, 0, 6, 0, 1⟩, ⟨10, 0, 0, 0, 0⟩]
def letR (b : Int) : List I5 := [⟨1, 7, 0, 0, 0⟩, ⟨7, 0, -1, 7, b⟩]
def askR (b p : Int) : List I5 := [⟨5, 4, -1, 0, b + 3⟩, ⟨11, 0, 4, 0, p⟩]
def faultR (b : Int) : List I5 := letR b ++ [⟨13, 0, 0, 0, 0⟩]
def triedR (r h : Int) : List I5 := [⟨1, r, 0, 0, h⟩, ⟨10, 0, 0, 0, -1⟩]
def cameR (r x v h : Int) : List I5 := [⟨1, r, 0, 0, v⟩, ⟨1, x, 0, 0, h⟩, ⟨10, 0, 0, 0, -1⟩]
set_option maxHeartbeats 2000000 in
theorem iLock (o r a x n fr : Int) (ss : Option Addr) (sl sc pb : Nat) (rm b : Int) (w : World) (h : CB w pb b) : Calls Tryz.prog 180 #[.agg #[.int .i64 o, .int .i64 r, .int .i64 a, .int .i64 x, .int .i64 n, .int .i64 fr, .slice ss sl sc, .func (.func 122) #[] #[.pointer (some ⟨pb, 0, none⟩)], .int .i64 rm]] w fun e w' => ∃ g c, e = .returned (.slice (some ⟨g, 0, none⟩) 4 c) ∧ OwnT5 w' w.heap.size (.slice (some ⟨g, 0, none⟩) 4 c) (lockR b) ∧ Below w.heap.size w w' := by
 obtain ⟨W, hW, hx, hb, hz⟩ := SX.new w (.int .i64 o) (.int .i64 r) (.int .i64 a) (.int .i64 x) (.int .i64 n) (.int .i64 fr) (.slice ss sl sc) (.func (.func 122) #[] #[.pointer (some ⟨pb, 0, none⟩)]) (.int .i64 rm) 127
 have HC : Hid (CB W pb b) := h.keep hb
 have HX := hid_of hx
 have HW : Hid (Below w.heap.size w W) := hb
 have HK : Hid (Below W.heap.size W W) := Below.refl _ _
 clear h hx hb
 obtain ⟨t0, t1, t2, t3, t4, t5, t6, t7, t8, tl⟩ := HX.out
 go_enter Tryz.func180, Tryz.ntmps180
 go_wp2
 go_region_held3 (fun w' => w'.cell? ⟨w.heap.size, 7, none⟩ = some (.func (.func 122) #[] #[.pointer (some ⟨pb, 0, none⟩)])) (go_keep) (first | (go_at_call 159; refine (iSet _ _ _).mono ?_; rintro e w1 ⟨rfl, hb1⟩; have JK : Hid (Below W.heap.size W w1) := (by first | exact HK.out.trans (hb1.mono HK.out.size) | exact HK.out.drew.trans (hb1.mono HK.out.drew.size)); clear HK; have HK := JK; clear JK hb1; obtain ⟨t0, t1, t2, t3, t4, t5, t6, t7, t8, tl⟩ := HX.out.keep HK.out) | (go_at_call 171; refine (iZero _ _ _).mono ?_; rintro e w1 ⟨rfl, hb1⟩; have JK : Hid (Below W.heap.size W w1) := (by first | exact HK.out.trans (hb1.mono HK.out.size) | exact HK.out.drew.trans (hb1.mono HK.out.drew.size)); clear HK; have HK := JK; clear JK hb1; obtain ⟨t0, t1, t2, t3, t4, t5, t6, t7, t8, tl⟩ := HX.out.keep HK.out) | (go_at_call 162; refine (iJump _ _).mono ?_; rintro e w1 ⟨rfl, hb1⟩; have JK : Hid (Below W.heap.size W w1) := (by first | exact HK.out.trans (hb1.mono HK.out.size) | exact HK.out.drew.trans (hb1.mono HK.out.drew.size)); clear HK; have HK := JK; clear JK hb1; obtain ⟨t0, t1, t2, t3, t4, t5, t6, t7, t8, tl⟩ := HX.out.keep HK.out) | (go_at_call 122; refine (cell_is pb b 0 _ ((by first | exact HC.out.keep HK.out | exact HC.out.keep HK.out.drew) : CB _ pb b).c HC.out.lo (by have := HC.out.hi; omega) (by omega) (by omega)).mono ?_; rintro e w9 ⟨rfl, hw⟩; subst w9))
 go_wp2
 have hwz := HW.out.size
 have hkz := HK.out.size
 go_ret
 exact ⟨_, _, rfl, own5_new (lockR b) _ rfl (by omega) (Nat.le_of_ble_eq_true rfl), (HW.out.trans (HK.out.mono (by omega))).alloc (by omega) _⟩
set_option maxHeartbeats 2000000 in
theorem iLetGo (o r a x n fr : Int) (ss : Option Addr) (sl sc pb : Nat) (rm b : Int) (w : World) (h : CB w pb b) : Calls Tryz.prog 170 #[.agg #[.int .i64 o, .int .i64 r, .int .i64 a, .int .i64 x, .int .i64 n, .int .i64 fr, .slice ss sl sc, .func (.func 122) #[] #[.pointer (some ⟨pb, 0, none⟩)], .int .i64 rm]] w fun e w' => ∃ g c, e = .returned (.slice (some ⟨g, 0, none⟩) 2 c) ∧ OwnT5 w' w.heap.size (.slice (some ⟨g, 0, none⟩) 2 c) (letR b) ∧ Below w.heap.size w w' := by
 obtain ⟨W, hW, hx, hb, hz⟩ := SX.new w (.int .i64 o) (.int .i64 r) (.int .i64 a) (.int .i64 x) (.int .i64 n) (.int .i64 fr) (.slice ss sl sc) (.func (.func 122) #[] #[.pointer (some ⟨pb, 0, none⟩)]) (.int .i64 rm) 127
 have HC : Hid (CB W pb b) := h.keep hb
 have HX := hid_of hx
 have HW : Hid (Below w.heap.size w W) := hb
 have HK : Hid (Below W.heap.size W W) := Below.refl _ _
 clear h hx hb
 obtain ⟨t0, t1, t2, t3, t4, t5, t6, t7, t8, tl⟩ := HX.out
 go_enter Tryz.func170, Tryz.ntmps170
 go_wp2
 go_region_held3 (fun w' => w'.cell? ⟨w.heap.size, 7, none⟩ = some (.func (.func 122) #[] #[.pointer (some ⟨pb, 0, none⟩)])) (go_keep) (first | (go_at_call 159; refine (iSet _ _ _).mono ?_; rintro e w1 ⟨rfl, hb1⟩; have JK : Hid (Below W.heap.size W w1) := (by first | exact HK.out.trans (hb1.mono HK.out.size) | exact HK.out.drew.trans (hb1.mono HK.out.drew.size)); clear HK; have HK := JK; clear JK hb1; obtain ⟨t0, t1, t2, t3, t4, t5, t6, t7, t8, tl⟩ := HX.out.keep HK.out) | (go_at_call 171; refine (iZero _ _ _).mono ?_; rintro e w1 ⟨rfl, hb1⟩; have JK : Hid (Below W.heap.size W w1) := (by first | exact HK.out.trans (hb1.mono HK.out.size) | exact HK.out.drew.trans (hb1.mono HK.out.drew.size)); clear HK; have HK := JK; clear JK hb1; obtain ⟨t0, t1, t2, t3, t4, t5, t6, t7, t8, tl⟩ := HX.out.keep HK.out) | (go_at_call 162; refine (iJump _ _).mono ?_; rintro e w1 ⟨rfl, hb1⟩; have JK : Hid (Below W.heap.size W w1) := (by first | exact HK.out.trans (hb1.mono HK.out.size) | exact HK.out.drew.trans (hb1.mono HK.out.drew.size)); clear HK; have HK := JK; clear JK hb1; obtain ⟨t0, t1, t2, t3, t4, t5, t6, t7, t8, tl⟩ := HX.out.keep HK.out) | (go_at_call 122; refine (cell_is pb b 0 _ ((by first | exact HC.out.keep HK.out | exact HC.out.keep HK.out.drew) : CB _ pb b).c HC.out.lo (by have := HC.out.hi; omega) (by omega) (by omega)).mono ?_; rintro e w9 ⟨rfl, hw⟩; subst w9))
 go_wp2
 have hwz := HW.out.size
 have hkz := HK.out.size
 go_ret
 exact ⟨_, _, rfl, own5_new (letR b) _ rfl (by omega) (Nat.le_of_ble_eq_true rfl), (HW.out.trans (HK.out.mono (by omega))).alloc (by omega) _⟩
set_option maxHeartbeats 2000000 in
theorem iAsk (o r a x n fr : Int) (ss : Option Addr) (sl sc pb : Nat) (rm b : Int) (y : Int) (w : World) (h : CB w pb b) : Calls Tryz.prog 168 #[.agg #[.int .i64 o, .int .i64 r, .int .i64 a, .int .i64 x, .int .i64 n, .int .i64 fr, .slice ss sl sc, .func (.func 122) #[] #[.pointer (some ⟨pb, 0, none⟩)], .int .i64 rm], .int .i64 y] w fun e w' => ∃ g c, e = .returned (.slice (some ⟨g, 0, none⟩) 2 c) ∧ OwnT5 w' w.heap.size (.slice (some ⟨g, 0, none⟩) 2 c) (askR b y) ∧ Below w.heap.size w w' := by
 obtain ⟨W, hW, hx, hb, hz⟩ := SX.new w (.int .i64 o) (.int .i64 r) (.int .i64 a) (.int .i64 x) (.int .i64 n) (.int .i64 fr) (.slice ss sl sc) (.func (.func 122) #[] #[.pointer (some ⟨pb, 0, none⟩)]) (.int .i64 rm) 127
 have HC : Hid (CB W pb b) := h.keep hb
 have HX := hid_of hx
 have HW : Hid (Below w.heap.size w W) := hb
 have HK : Hid (Below W.heap.size W W) := Below.refl _ _
 clear h hx hb
 obtain ⟨t0, t1, t2, t3, t4, t5, t6, t7, t8, tl⟩ := HX.out
 go_enter Tryz.func168, Tryz.ntmps168
 go_wp2_with (first | (go_at_call 159; refine (iSet _ _ _).mono ?_; rintro e w1 ⟨rfl, hb1⟩; have JK : Hid (Below W.heap.size W w1) := (by first | exact HK.out.trans (hb1.mono HK.out.size) | exact HK.out.drew.trans (hb1.mono HK.out.drew.size)); clear HK; have HK := JK; clear JK hb1; obtain ⟨t0, t1, t2, t3, t4, t5, t6, t7, t8, tl⟩ := HX.out.keep HK.out) | (go_at_call 171; refine (iZero _ _ _).mono ?_; rintro e w1 ⟨rfl, hb1⟩; have JK : Hid (Below W.heap.size W w1) := (by first | exact HK.out.trans (hb1.mono HK.out.size) | exact HK.out.drew.trans (hb1.mono HK.out.drew.size)); clear HK; have HK := JK; clear JK hb1; obtain ⟨t0, t1, t2, t3, t4, t5, t6, t7, t8, tl⟩ := HX.out.keep HK.out) | (go_at_call 162; refine (iJump _ _).mono ?_; rintro e w1 ⟨rfl, hb1⟩; have JK : Hid (Below W.heap.size W w1) := (by first | exact HK.out.trans (hb1.mono HK.out.size) | exact HK.out.drew.trans (hb1.mono HK.out.drew.size)); clear HK; have HK := JK; clear JK hb1; obtain ⟨t0, t1, t2, t3, t4, t5, t6, t7, t8, tl⟩ := HX.out.keep HK.out) | (go_at_call 173; refine (iLoad o r a x n fr ss sl sc pb rm b _ _ (by omega) _ (by first | exact HC.out.keep HK.out | exact HC.out.keep HK.out.drew)).mono ?_; rintro e w1 ⟨rfl, hb1⟩; have JK : Hid (Below W.heap.size W w1) := (by first | exact HK.out.trans (hb1.mono HK.out.size) | exact HK.out.drew.trans (hb1.mono HK.out.drew.size)); clear HK; have HK := JK; clear JK hb1; obtain ⟨t0, t1, t2, t3, t4, t5, t6, t7, t8, tl⟩ := HX.out.keep HK.out))
 have hwz := HW.out.size
 have hkz := HK.out.size
 go_ret
 exact ⟨_, _, rfl, own5_new (askR b y) _ rfl (by omega) (Nat.le_of_ble_eq_true rfl), (HW.out.trans (HK.out.mono (by omega))).alloc (by omega) _⟩
set_option maxHeartbeats 2000000 in
theorem iTried (o r a x n fr : Int) (ss : Option Addr) (sl sc pb : Nat) (rm b : Int) (y : Int) (w : World) (h : CB w pb b) : Calls Tryz.prog 164 #[.agg #[.int .i64 o, .int .i64 r, .int .i64 a, .int .i64 x, .int .i64 n, .int .i64 fr, .slice ss sl sc, .func (.func 122) #[] #[.pointer (some ⟨pb, 0, none⟩)], .int .i64 rm], .int .i64 y] w fun e w' => ∃ g c, e = .returned (.slice (some ⟨g, 0, none⟩) 2 c) ∧ OwnT5 w' w.heap.size (.slice (some ⟨g, 0, none⟩) 2 c) (triedR r y) ∧ Below w.heap.size w w' := by
 obtain ⟨W, hW, hx, hb, hz⟩ := SX.new w (.int .i64 o) (.int .i64 r) (.int .i64 a) (.int .i64 x) (.int .i64 n) (.int .i64 fr) (.slice ss sl sc) (.func (.func 122) #[] #[.pointer (some ⟨pb, 0, none⟩)]) (.int .i64 rm) 127
 have HC : Hid (CB W pb b) := h.keep hb
 have HX := hid_of hx
 have HW : Hid (Below w.heap.size w W) := hb
 have HK : Hid (Below W.heap.size W W) := Below.refl _ _
 clear h hx hb
 obtain ⟨t0, t1, t2, t3, t4, t5, t6, t7, t8, tl⟩ := HX.out
 go_enter Tryz.func164, Tryz.ntmps164
 go_wp2_with (first | (go_at_call 159; refine (iSet _ _ _).mono ?_; rintro e w1 ⟨rfl, hb1⟩; have JK : Hid (Below W.heap.size W w1) := (by first | exact HK.out.trans (hb1.mono HK.out.size) | exact HK.out.drew.trans (hb1.mono HK.out.drew.size)); clear HK; have HK := JK; clear JK hb1; obtain ⟨t0, t1, t2, t3, t4, t5, t6, t7, t8, tl⟩ := HX.out.keep HK.out) | (go_at_call 171; refine (iZero _ _ _).mono ?_; rintro e w1 ⟨rfl, hb1⟩; have JK : Hid (Below W.heap.size W w1) := (by first | exact HK.out.trans (hb1.mono HK.out.size) | exact HK.out.drew.trans (hb1.mono HK.out.drew.size)); clear HK; have HK := JK; clear JK hb1; obtain ⟨t0, t1, t2, t3, t4, t5, t6, t7, t8, tl⟩ := HX.out.keep HK.out) | (go_at_call 162; refine (iJump _ _).mono ?_; rintro e w1 ⟨rfl, hb1⟩; have JK : Hid (Below W.heap.size W w1) := (by first | exact HK.out.trans (hb1.mono HK.out.size) | exact HK.out.drew.trans (hb1.mono HK.out.drew.size)); clear HK; have HK := JK; clear JK hb1; obtain ⟨t0, t1, t2, t3, t4, t5, t6, t7, t8, tl⟩ := HX.out.keep HK.out))
 have hwz := HW.out.size
 have hkz := HK.out.size
 go_ret
 exact ⟨_, _, rfl, own5_new (triedR r y) _ rfl (by omega) (Nat.le_of_ble_eq_true rfl), (HW.out.trans (HK.out.mono (by omega))).alloc (by omega) _⟩
set_option maxHeartbeats 2000000 in
theorem iCame (o r a x n fr : Int) (ss : Option Addr) (sl sc pb : Nat) (rm b : Int) (y z : Int) (w : World) (h : CB w pb b) : Calls Tryz.prog 165 #[.agg #[.int .i64 o, .int .i64 r, .int .i64 a, .int .i64 x, .int .i64 n, .int .i64 fr, .slice ss sl sc, .func (.func 122) #[] #[.pointer (some ⟨pb, 0, none⟩)], .int .i64 rm], .int .i64 y, .int .i64 z] w fun e w' => ∃ g c, e = .returned (.slice (some ⟨g, 0, none⟩) 3 c) ∧ OwnT5 w' w.heap.size (.slice (some ⟨g, 0, none⟩) 3 c) (cameR r x y z) ∧ Below w.heap.size w w' := by
 obtain ⟨W, hW, hx, hb, hz⟩ := SX.new w (.int .i64 o) (.int .i64 r) (.int .i64 a) (.int .i64 x) (.int .i64 n) (.int .i64 fr) (.slice ss sl sc) (.func (.func 122) #[] #[.pointer (some ⟨pb, 0, none⟩)]) (.int .i64 rm) 127
 have HC : Hid (CB W pb b) := h.keep hb
 have HX := hid_of hx
 have HW : Hid (Below w.heap.size w W) := hb
 have HK : Hid (Below W.heap.size W W) := Below.refl _ _
 clear h hx hb
 obtain ⟨t0, t1, t2, t3, t4, t5, t6, t7, t8, tl⟩ := HX.out
 go_enter Tryz.func165, Tryz.ntmps165
 go_wp2
 go_region_held3 (fun w' => w'.cell? ⟨w.heap.size, 1, none⟩ = some (.int .i64 r) ∧ w'.cell? ⟨w.heap.size, 3, none⟩ = some (.int .i64 x)) (go_keep) (first | (go_at_call 159; refine (iSet _ _ _).mono ?_; rintro e w1 ⟨rfl, hb1⟩; have JK : Hid (Below W.heap.size W w1) := (by first | exact HK.out.trans (hb1.mono HK.out.size) | exact HK.out.drew.trans (hb1.mono HK.out.drew.size)); clear HK; have HK := JK; clear JK hb1; obtain ⟨t0, t1, t2, t3, t4, t5, t6, t7, t8, tl⟩ := HX.out.keep HK.out) | (go_at_call 171; refine (iZero _ _ _).mono ?_; rintro e w1 ⟨rfl, hb1⟩; have JK : Hid (Below W.heap.size W w1) := (by first | exact HK.out.trans (hb1.mono HK.out.size) | exact HK.out.drew.trans (hb1.mono HK.out.drew.size)); clear HK; have HK := JK; clear JK hb1; obtain ⟨t0, t1, t2, t3, t4, t5, t6, t7, t8, tl⟩ := HX.out.keep HK.out) | (go_at_call 162; refine (iJump _ _).mono ?_; rintro e w1 ⟨rfl, hb1⟩; have JK : Hid (Below W.heap.size W w1) := (by first | exact HK.out.trans (hb1.mono HK.out.size) | exact HK.out.drew.trans (hb1.mono HK.out.drew.size)); clear HK; have HK := JK; clear JK hb1; obtain ⟨t0, t1, t2, t3, t4, t5, t6, t7, t8, tl⟩ := HX.out.keep HK.out))
 go_wp2
 have hwz := HW.out.size
 have hkz := HK.out.size
 go_ret
 exact ⟨_, _, rfl, own5_new (cameR r x y z) _ rfl (by omega) (Nat.le_of_ble_eq_true rfl), (HW.out.trans (HK.out.mono (by omega))).alloc (by omega) _⟩
end
section
set_option linter.unusedSimpArgs false
set_option linter.unusedVariables false
set_option maxRecDepth 100000
open Go.RowKit
set_option maxHeartbeats 2000000 in
theorem iLetThen (o r a x n fr : Int) (ss : Option Addr) (sl sc pb : Nat) (rm b : Int) (gt nt ct bt : Nat) (L : List I5) (w : World) (h : CB w pb b) (hL : OwnT5 w bt (.slice (some ⟨gt, 0, none⟩) nt ct) L) (hn0 : 0 < nt) (hn : nt ≤ 100) (N : Nat) (hN : nt + 2 = N) : Calls Tryz.prog 177 #[.agg #[.int .i64 o, .int .i64 r, .int .i64 a, .int .i64 x, .int .i64 n, .int .i64 fr, .slice ss sl sc, .func (.func 122) #[] #[.pointer (some ⟨pb, 0, none⟩)], .int .i64 rm], .slice (some ⟨gt, 0, none⟩) nt ct] w fun e w' => ∃ g c, e = .returned (.slice (some ⟨g, 0, none⟩) N c) ∧ OwnT5 w' w.heap.size (.slice (some ⟨g, 0, none⟩) N c) (letR b ++ L) ∧ Below w.heap.size w w' := by
 have hlen : L.length = nt := hL.len.symm
 have HL0 : Hid (OwnT5 w bt (.slice (some ⟨gt, 0, none⟩) nt ct) L) := hL
 have HLN : Hid (L.length = nt) := hlen
 clear hL hlen
 obtain ⟨W, hW, hx, hb, hz⟩ := SX.new w (.int .i64 o) (.int .i64 r) (.int .i64 a) (.int .i64 x) (.int .i64 n) (.int .i64 fr) (.slice ss sl sc) (.func (.func 122) #[] #[.pointer (some ⟨pb, 0, none⟩)]) (.int .i64 rm) 127
 have HC : Hid (CB W pb b) := h.keep hb
 have HX := hid_of hx
 have HW : Hid (Below w.heap.size w W) := hb
 have HK : Hid (Below W.heap.size W W) := Below.refl _ _
 clear h hx hb
 obtain ⟨t0, t1, t2, t3, t4, t5, t6, t7, t8, tl⟩ := HX.out
 have HL : Hid (OwnT5 W bt (.slice (some ⟨gt, 0, none⟩) nt ct) L) := HL0.out.keep HW.out
 clear HL0
 go_enter Tryz.func177, Tryz.ntmps177
 have hwz := HW.out.size
 go_wp2_with (first | (go_at_call 170; refine (iLetGo o r a x n fr ss sl sc pb rm b _ (by first | exact HC.out.keep HK.out | exact HC.out.keep HK.out.drew)).mono ?_; rintro e w1 ⟨g1, c1, rfl, ho1, hb1⟩; have HO1 := hid_of ho1; have HL1 := hid_of (HL.out.keep hb1); have hz1 := hb1.size; have HB1 := hid_of hb1; clear ho1 hb1) | (at_builtin; refine app5 rfl _ _ rfl w1 W.heap.size (.slice (some ⟨g1, 0, none⟩) 2 c1) (letR b) rfl HO1.out bt gt nt ct L rfl HL1.out HLN.out hn0 (by show 2 + nt ≤ 1000; omega) N (by show 2 + nt = N; omega) (by omega) ?_; intro g2 c2 w2 ho2 hb2; have HO2 := hid_of ho2; have HB2 := hid_of hb2; clear ho2 hb2))
 go_ret
 exact ⟨_, _, rfl, HO2.out.low (by omega), (HW.out.trans (HB1.out.mono (by omega))).trans (HB2.out.mono (by omega))⟩
theorem calls_new {f : Nat} {args : Array Value} {w : World} {C : Array Value} {post : Ending → World → Prop} (L : List I5) (base n : Nat) (hC : C.toList = (fl5 L).map (Value.int .i64)) (hn : L.length = n) (hn' : n ≤ 1000) (hb : base ≤ w.heap.size)
  (h : ∀ W, OwnT5 W base (.slice (some ⟨w.heap.size, 0, none⟩) n n) L → Below w.heap.size w W → W.heap.size = w.heap.size + 1 → Calls Tryz.prog f args W post) : Calls Tryz.prog f args (w.alloc (.cells C 97)) post := by
 subst hn
 exact h _ (own5_new L C hC hb hn') ((Below.refl _ _).alloc (Nat.le_refl _) _) (by simp)
set_option maxHeartbeats 2000000 in
theorem iFault (o r a x n fr : Int) (ss : Option Addr) (sl sc pb : Nat) (rm b : Int) (w : World) (h : CB w pb b) : Calls Tryz.prog 169 #[.agg #[.int .i64 o, .int .i64 r, .int .i64 a, .int .i64 x, .int .i64 n, .int .i64 fr, .slice ss sl sc, .func (.func 122) #[] #[.pointer (some ⟨pb, 0, none⟩)], .int .i64 rm]] w fun e w' => ∃ g c, e = .returned (.slice (some ⟨g, 0, none⟩) 3 c) ∧ OwnT5 w' w.heap.size (.slice (some ⟨g, 0, none⟩) 3 c) (faultR b) ∧ Below w.heap.size w w' := by
 obtain ⟨W, hW, hx, hb, hz⟩ := SX.new w (.int .i64 o) (.int .i64 r) (.int .i64 a) (.int .i64 x) (.int .i64 n) (.int .i64 fr) (.slice ss sl sc) (.func (.func 122) #[] #[.pointer (some ⟨pb, 0, none⟩)]) (.int .i64 rm) 127
 have HC : Hid (CB W pb b) := h.keep hb
 have HX := hid_of hx
 have HW : Hid (Below w.heap.size w W) := hb
 have HK : Hid (Below W.heap.size W W) := Below.refl _ _
 clear h hx hb
 obtain ⟨t0, t1, t2, t3, t4, t5, t6, t7, t8, tl⟩ := HX.out
 go_enter Tryz.func169, Tryz.ntmps169
 have hwz := HW.out.size
 go_wp2_with (go_at_call 177; refine calls_new [⟨13, 0, 0, 0, 0⟩] W.heap.size 1 rfl rfl (by omega) (Nat.le_refl _) ?_; intro W2 ho2 hb2 hz2; refine (iLetThen o r a x n fr ss sl sc pb rm b _ 1 _ W.heap.size [⟨13, 0, 0, 0, 0⟩] _ (HC.out.keep hb2) ho2 (by omega) (by omega) 3 rfl).mono ?_; rintro e w1 ⟨g1, c1, rfl, ho1, hb1⟩; have HO1 := hid_of ho1; have HB2 := hid_of hb2; have HB1 := hid_of hb1; have HZ2 := hid_of hz2; clear ho1 hb1 ho2 hb2 hz2)
 go_ret
 have hz2 := HZ2.out
 exact ⟨_, _, rfl, HO1.out.low (by omega), (HW.out.trans (HB2.out.mono (by omega))).trans (HB1.out.mono (by omega))⟩
end
section
set_option linter.unusedSimpArgs false
set_option linter.unusedVariables false
set_option maxRecDepth 100000
open Go.RowKit
def isJ (o : Int) : Bool := decide (o = 10 ∨ o = 11)
theorem isJump_is (o r a b n : Int) (q : Bool) (w : World) (h : isJ o = q) : Calls Tryz.prog 181 #[.agg #[.int .i64 o, .int .i64 r, .int .i64 a, .int .i64 b, .int .i64 n]] w fun e w' => e = .returned (.bool q) ∧ Below w.heap.size w w' := by
 subst h
 by_cases h0 : o = 10
 ·subst h0
  go_enter Tryz.func181, Tryz.ntmps181
  go_wp2
  go_ret
  exact ⟨rfl, (Below.refl _ _).alloc (Nat.le_refl _) _⟩
 ·have e0 : (o == 10) = false := by simpa using h0
  by_cases h1 : o = 11
  ·subst h1
   go_enter Tryz.func181, Tryz.ntmps181
   go_wp2
   go_ret
   exact ⟨rfl, (Below.refl _ _).alloc (Nat.le_refl _) _⟩
  ·have e1 : (o == 11) = false := by simpa using h1
   have e : isJ o = false := decide_eq_false (fun e => by omega)
   rw [e]
   clear e h0 h1
   go_enter Tryz.func181, Tryz.ntmps181
   go_wp2
   go_ret
   exact ⟨by simp [Array.getD, e1], (Below.refl _ _).alloc (Nat.le_refl _) _⟩
/- parts: rows of steps, each somewhere, and the row that holds them -/
structure RD where
 g : Nat
 c : Nat
 l : List I5
structure PartR (w : World) (B G : Nat) (i : Nat) (x : RD) : Prop where
 c : w.cell? ⟨G, i, none⟩ = some (.slice (some ⟨x.g, 0, none⟩) x.l.length x.c)
 lt : x.g < B
 at' : ∀ j, j < x.l.length → At5 w x.g (j * 5) (x.l.getD j z5)
structure PartsR (w : World) (B G : Nat) (D : List RD) : Prop where
 lt : G < B
 r : ∀ (i : Nat) (x : RD), D[i]? = some x → PartR w B G i x
theorem PartR.keep {w w' : World} {B G i : Nat} {x : RD} (h : PartR w B G i x) (hg : G < B) (hb : Below B w w') : PartR w' B G i x :=
 ⟨(hb.cell (p := ⟨G, i, none⟩) hg).trans h.c, h.lt, fun j hj => by
  obtain ⟨h0, h1, h2, h3, h4⟩ := h.at' j hj
  have g0 := h.lt
  exact ⟨(hb.cell (p := ⟨x.g, j * 5, none⟩) g0).trans h0, (hb.cell (p := ⟨x.g, j * 5 + 1, none⟩) g0).trans h1, (hb.cell (p := ⟨x.g, j * 5 + 2, none⟩) g0).trans h2, (hb.cell (p := ⟨x.g, j * 5 + 3, none⟩) g0).trans h3, (hb.cell (p := ⟨x.g, j * 5 + 4, none⟩) g0).trans h4⟩⟩
theorem PartsR.keep {w w' : World} {B G : Nat} {D : List RD} (h : PartsR w B G D) (hb : Below B w w') : PartsR w' B G D := ⟨h.lt, fun i x hx => (h.r i x hx).keep h.lt hb⟩
def firstV (f : Int) : List (List I5) → Int
 | [] => f
 | l :: r => firstV (ad f l.length) r
theorem firstV_app (b : List (List I5)) : ∀ (a : List (List I5)) (f : Int), firstV f (a ++ b) = firstV (firstV f a) b
 | [], f => rfl
 | x :: r, f => firstV_app b r (ad f x.length)
theorem firstV_take {D : List RD} {f : Int} {i : Nat} {x : RD} (h : D[i]? = some x) : firstV f ((D.map RD.l).take (i + 1)) = ad (firstV f ((D.map RD.l).take i)) x.l.length := by
 have e : (D.map RD.l)[i]? = some x.l := by rw [List.getElem?_map, h]; rfl
 rw [List.take_add_one, e, Option.toList_some, firstV_app]
 rfl
def toN (t : Int) (n : Nat) : Nat := if t = -1 then n else t.toNat
theorem firstOf_is (fr t : Int) (G C : Nat) (D : List RD) (w : World) (B : Nat) (h : PartsR w B G D) (hC : D.length ≤ C) (hn : D.length ≤ 100) (t0 : -1 ≤ t) (t1 : t ≤ D.length) :
  Calls Tryz.prog 182 #[.int .i64 fr, .slice (some ⟨G, 0, none⟩) D.length C, .int .i64 t] w fun e w' => e = .returned (.int .i64 (firstV fr ((D.map RD.l).take (toN t D.length)))) ∧ w' = w := by
 have H := hid_of h
 clear h
 obtain ⟨k, hk, hk1⟩ : ∃ k : Nat, toN t D.length = k ∧ k ≤ D.length := by
  refine ⟨_, rfl, ?_⟩
  unfold toN
  split <;> omega
 have HKN := hid_of hk
 rw [hk]
 clear hk
 by_cases hm : t = -1
 ·subst hm
  have ek : k = D.length := by rw [← HKN.out]; rfl
  subst ek
  go_enter Tryz.func182, Tryz.ntmps182
  go_wp2
  go_loop [0, 17] (fun a i => ∃ (j : Nat) (z : Int), j ≤ D.length ∧ i = .int .i64 j ∧ a = .int .i64 z ∧ Hid (z = firstV fr ((D.map RD.l).take j))) (fun _ i => D.length - (intOf i).toNat)
  case atStart => exact ⟨0, fr, Nat.zero_le _, rfl, rfl, show _ = _ by rfl⟩
  case round =>
   obtain ⟨j, z, hj, rfl, rfl, HZ⟩ := hrel
   by_cases hlt : j < D.length
   ·obtain ⟨x, hx⟩ : ∃ x, D[j]? = some x := ⟨_, List.getElem?_eq_getElem hlt⟩
    have p := (H.out.r j x hx).c
    have HS := hid_of (firstV_take (f := fr) hx)
    have b0 : (0 : Int) ≤ (j : Int) := by omega
    have b1 : (j : Int) < (D.length : Int) := by omega
    go_wp2
    go_round
    case rel => exact ⟨j + 1, _, by omega, by go_num, rfl, by show _ = _; rw [HS.out, ← HZ.out]; rfl⟩
    case measure => simp [intOf]; omega
   ·go_wp2
    go_ret
    have e : j = D.length := by omega
    subst e
    exact ⟨by rw [HZ.out]; rfl, rfl⟩
 ·have em : (t == -1) = false := by simpa using hm
  have ek : t = (k : Int) := by
   have := HKN.out
   unfold toN at this
   rw [if_neg hm] at this
   omega
  subst ek
  have b2 : (0 : Int) ≤ (k : Int) := by omega
  have b3 : (k : Int) ≤ (C : Int) := by omega
  clear hm t0
  go_enter Tryz.func182, Tryz.ntmps182
  go_wp2
  go_loop [0, 17] (fun a i => ∃ (j : Nat) (z : Int), j ≤ k ∧ i = .int .i64 j ∧ a = .int .i64 z ∧ Hid (z = firstV fr ((D.map RD.l).take j))) (fun _ i => k - (intOf i).toNat)
  case atStart => exact ⟨0, fr, Nat.zero_le _, rfl, rfl, show _ = _ by rfl⟩
  case round =>
   obtain ⟨j, z, hj, rfl, rfl, HZ⟩ := hrel
   by_cases hlt : j < k
   ·obtain ⟨x, hx⟩ : ∃ x, D[j]? = some x := ⟨_, List.getElem?_eq_getElem (by omega)⟩
    have p := (H.out.r j x hx).c
    have HS := hid_of (firstV_take (f := fr) hx)
    have b0 : (0 : Int) ≤ (j : Int) := by omega
    have b1 : (j : Int) < (k : Int) := by omega
    go_wp2
    go_round
    case rel => exact ⟨j + 1, _, by omega, by go_num, rfl, by show _ = _; rw [HS.out, ← HZ.out]; rfl⟩
    case measure => simp [intOf]; omega
   ·go_wp2
    go_ret
    have e : j = k := by omega
    subst e
    exact ⟨by rw [HZ.out]; rfl, rfl⟩
end
end Go.Proofs.YtehjbpjjegajjaaGreat
