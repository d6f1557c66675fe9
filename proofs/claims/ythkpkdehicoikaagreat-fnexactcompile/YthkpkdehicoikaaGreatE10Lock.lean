/- What a site locks, lets go, asks. Conditions: the channel lies in memory. -/
import Derived.Test.YthkpkdehicoikaaGreatJ17
namespace Go.Proofs.YthkpkdehicoikaaGreat
set_option linter.unusedSimpArgs false
set_option linter.unusedVariables false
set_option maxRecDepth 100000
open Go.RowKit

def lockR (b : Int) : List I5 := [⟨1, 7, 0, 0, 1⟩, ⟨8, 6, 0, 7, b⟩, ⟨11, 0, 6, 0, 1⟩, ⟨10, 0, 0, 0, 0⟩]
def letR (b : Int) : List I5 := [⟨1, 7, 0, 0, 0⟩, ⟨7, 0, -1, 7, b⟩]
def askR (b p : Int) : List I5 := [⟨5, 4, -1, 0, b + 3⟩, ⟨11, 0, 4, 0, p⟩]
def faultR (b : Int) : List I5 := letR b ++ [⟨13, 0, 0, 0, 0⟩]
def triedR (r h : Int) : List I5 := [⟨1, r, 0, 0, h⟩, ⟨10, 0, 0, 0, -1⟩]
def cameR (r x v h : Int) : List I5 := [⟨1, r, 0, 0, v⟩, ⟨1, x, 0, 0, h⟩, ⟨10, 0, 0, 0, -1⟩]
set_option maxHeartbeats 2000000 in
theorem iLock (o r a x n fr : Int) (ss : Option Addr) (sl sc pb : Nat) (rm b : Int) (w : World) (h : CB w pb b) : Calls Tryz.prog 146 #[.agg #[.int .i64 o, .int .i64 r, .int .i64 a, .int .i64 x, .int .i64 n, .int .i64 fr, .slice ss sl sc, .func (.func 88) #[] #[.pointer (some ⟨pb, 0, none⟩)], .int .i64 rm]] w fun e w' => ∃ g c, e = .returned (.slice (some ⟨g, 0, none⟩) 4 c) ∧ OwnT5 w' w.heap.size (.slice (some ⟨g, 0, none⟩) 4 c) (lockR b) ∧ Below w.heap.size w w' := by
  obtain ⟨W, hW, hx, hb, hz⟩ := SX.new w (.int .i64 o) (.int .i64 r) (.int .i64 a) (.int .i64 x) (.int .i64 n) (.int .i64 fr) (.slice ss sl sc) (.func (.func 88) #[] #[.pointer (some ⟨pb, 0, none⟩)]) (.int .i64 rm) 89
  have HC : Hid (CB W pb b) := h.keep hb
  have HX := hid_of hx
  have HW : Hid (Below w.heap.size w W) := hb
  have HK : Hid (Below W.heap.size W W) := Below.refl _ _
  clear h hx hb
  obtain ⟨t0, t1, t2, t3, t4, t5, t6, t7, t8, tl⟩ := HX.out
  go_enter Tryz.func146, Tryz.ntmps146
  go_wp2
  go_region_held3 (fun w' => w'.cell? ⟨w.heap.size, 7, none⟩ = some (.func (.func 88) #[] #[.pointer (some ⟨pb, 0, none⟩)])) (go_keep) (first | (go_at_call 125; refine (iSet _ _ _).mono ?_; rintro e w1 ⟨rfl, hb1⟩; have JK : Hid (Below W.heap.size W w1) := (by first | exact HK.out.trans (hb1.mono HK.out.size) | exact HK.out.drew.trans (hb1.mono HK.out.drew.size)); clear HK; have HK := JK; clear JK hb1; obtain ⟨t0, t1, t2, t3, t4, t5, t6, t7, t8, tl⟩ := HX.out.keep HK.out) | (go_at_call 137; refine (iZero _ _ _).mono ?_; rintro e w1 ⟨rfl, hb1⟩; have JK : Hid (Below W.heap.size W w1) := (by first | exact HK.out.trans (hb1.mono HK.out.size) | exact HK.out.drew.trans (hb1.mono HK.out.drew.size)); clear HK; have HK := JK; clear JK hb1; obtain ⟨t0, t1, t2, t3, t4, t5, t6, t7, t8, tl⟩ := HX.out.keep HK.out) | (go_at_call 128; refine (iJump _ _).mono ?_; rintro e w1 ⟨rfl, hb1⟩; have JK : Hid (Below W.heap.size W w1) := (by first | exact HK.out.trans (hb1.mono HK.out.size) | exact HK.out.drew.trans (hb1.mono HK.out.drew.size)); clear HK; have HK := JK; clear JK hb1; obtain ⟨t0, t1, t2, t3, t4, t5, t6, t7, t8, tl⟩ := HX.out.keep HK.out) | (go_at_call 88; refine (cell_is pb b 0 _ ((by first | exact HC.out.keep HK.out | exact HC.out.keep HK.out.drew) : CB _ pb b).c HC.out.lo (by have := HC.out.hi; omega) (by omega) (by omega)).mono ?_; rintro e w9 ⟨rfl, hw⟩; subst w9))
  go_wp2
  have hwz := HW.out.size
  have hkz := HK.out.size
  go_ret
  exact ⟨_, _, rfl, own5_new (lockR b) _ rfl (by omega) (Nat.le_of_ble_eq_true rfl), (HW.out.trans (HK.out.mono (by omega))).alloc (by omega) _⟩
set_option maxHeartbeats 2000000 in
theorem iLetGo (o r a x n fr : Int) (ss : Option Addr) (sl sc pb : Nat) (rm b : Int) (w : World) (h : CB w pb b) : Calls Tryz.prog 136 #[.agg #[.int .i64 o, .int .i64 r, .int .i64 a, .int .i64 x, .int .i64 n, .int .i64 fr, .slice ss sl sc, .func (.func 88) #[] #[.pointer (some ⟨pb, 0, none⟩)], .int .i64 rm]] w fun e w' => ∃ g c, e = .returned (.slice (some ⟨g, 0, none⟩) 2 c) ∧ OwnT5 w' w.heap.size (.slice (some ⟨g, 0, none⟩) 2 c) (letR b) ∧ Below w.heap.size w w' := by
  obtain ⟨W, hW, hx, hb, hz⟩ := SX.new w (.int .i64 o) (.int .i64 r) (.int .i64 a) (.int .i64 x) (.int .i64 n) (.int .i64 fr) (.slice ss sl sc) (.func (.func 88) #[] #[.pointer (some ⟨pb, 0, none⟩)]) (.int .i64 rm) 89
  have HC : Hid (CB W pb b) := h.keep hb
  have HX := hid_of hx
  have HW : Hid (Below w.heap.size w W) := hb
  have HK : Hid (Below W.heap.size W W) := Below.refl _ _
  clear h hx hb
  obtain ⟨t0, t1, t2, t3, t4, t5, t6, t7, t8, tl⟩ := HX.out
  go_enter Tryz.func136, Tryz.ntmps136
  go_wp2
  go_region_held3 (fun w' => w'.cell? ⟨w.heap.size, 7, none⟩ = some (.func (.func 88) #[] #[.pointer (some ⟨pb, 0, none⟩)])) (go_keep) (first | (go_at_call 125; refine (iSet _ _ _).mono ?_; rintro e w1 ⟨rfl, hb1⟩; have JK : Hid (Below W.heap.size W w1) := (by first | exact HK.out.trans (hb1.mono HK.out.size) | exact HK.out.drew.trans (hb1.mono HK.out.drew.size)); clear HK; have HK := JK; clear JK hb1; obtain ⟨t0, t1, t2, t3, t4, t5, t6, t7, t8, tl⟩ := HX.out.keep HK.out) | (go_at_call 137; refine (iZero _ _ _).mono ?_; rintro e w1 ⟨rfl, hb1⟩; have JK : Hid (Below W.heap.size W w1) := (by first | exact HK.out.trans (hb1.mono HK.out.size) | exact HK.out.drew.trans (hb1.mono HK.out.drew.size)); clear HK; have HK := JK; clear JK hb1; obtain ⟨t0, t1, t2, t3, t4, t5, t6, t7, t8, tl⟩ := HX.out.keep HK.out) | (go_at_call 128; refine (iJump _ _).mono ?_; rintro e w1 ⟨rfl, hb1⟩; have JK : Hid (Below W.heap.size W w1) := (by first | exact HK.out.trans (hb1.mono HK.out.size) | exact HK.out.drew.trans (hb1.mono HK.out.drew.size)); clear HK; have HK := JK; clear JK hb1; obtain ⟨t0, t1, t2, t3, t4, t5, t6, t7, t8, tl⟩ := HX.out.keep HK.out) | (go_at_call 88; refine (cell_is pb b 0 _ ((by first | exact HC.out.keep HK.out | exact HC.out.keep HK.out.drew) : CB _ pb b).c HC.out.lo (by have := HC.out.hi; omega) (by omega) (by omega)).mono ?_; rintro e w9 ⟨rfl, hw⟩; subst w9))
  go_wp2
  have hwz := HW.out.size
  have hkz := HK.out.size
  go_ret
  exact ⟨_, _, rfl, own5_new (letR b) _ rfl (by omega) (Nat.le_of_ble_eq_true rfl), (HW.out.trans (HK.out.mono (by omega))).alloc (by omega) _⟩
set_option maxHeartbeats 2000000 in
theorem iAsk (o r a x n fr : Int) (ss : Option Addr) (sl sc pb : Nat) (rm b : Int) (y : Int) (w : World) (h : CB w pb b) : Calls Tryz.prog 134 #[.agg #[.int .i64 o, .int .i64 r, .int .i64 a, .int .i64 x, .int .i64 n, .int .i64 fr, .slice ss sl sc, .func (.func 88) #[] #[.pointer (some ⟨pb, 0, none⟩)], .int .i64 rm], .int .i64 y] w fun e w' => ∃ g c, e = .returned (.slice (some ⟨g, 0, none⟩) 2 c) ∧ OwnT5 w' w.heap.size (.slice (some ⟨g, 0, none⟩) 2 c) (askR b y) ∧ Below w.heap.size w w' := by
  obtain ⟨W, hW, hx, hb, hz⟩ := SX.new w (.int .i64 o) (.int .i64 r) (.int .i64 a) (.int .i64 x) (.int .i64 n) (.int .i64 fr) (.slice ss sl sc) (.func (.func 88) #[] #[.pointer (some ⟨pb, 0, none⟩)]) (.int .i64 rm) 89
  have HC : Hid (CB W pb b) := h.keep hb
  have HX := hid_of hx
  have HW : Hid (Below w.heap.size w W) := hb
  have HK : Hid (Below W.heap.size W W) := Below.refl _ _
  clear h hx hb
  obtain ⟨t0, t1, t2, t3, t4, t5, t6, t7, t8, tl⟩ := HX.out
  go_enter Tryz.func134, Tryz.ntmps134
  go_wp2_with (first | (go_at_call 125; refine (iSet _ _ _).mono ?_; rintro e w1 ⟨rfl, hb1⟩; have JK : Hid (Below W.heap.size W w1) := (by first | exact HK.out.trans (hb1.mono HK.out.size) | exact HK.out.drew.trans (hb1.mono HK.out.drew.size)); clear HK; have HK := JK; clear JK hb1; obtain ⟨t0, t1, t2, t3, t4, t5, t6, t7, t8, tl⟩ := HX.out.keep HK.out) | (go_at_call 137; refine (iZero _ _ _).mono ?_; rintro e w1 ⟨rfl, hb1⟩; have JK : Hid (Below W.heap.size W w1) := (by first | exact HK.out.trans (hb1.mono HK.out.size) | exact HK.out.drew.trans (hb1.mono HK.out.drew.size)); clear HK; have HK := JK; clear JK hb1; obtain ⟨t0, t1, t2, t3, t4, t5, t6, t7, t8, tl⟩ := HX.out.keep HK.out) | (go_at_call 128; refine (iJump _ _).mono ?_; rintro e w1 ⟨rfl, hb1⟩; have JK : Hid (Below W.heap.size W w1) := (by first | exact HK.out.trans (hb1.mono HK.out.size) | exact HK.out.drew.trans (hb1.mono HK.out.drew.size)); clear HK; have HK := JK; clear JK hb1; obtain ⟨t0, t1, t2, t3, t4, t5, t6, t7, t8, tl⟩ := HX.out.keep HK.out) | (go_at_call 139; refine (iLoad o r a x n fr ss sl sc pb rm b _ _ (by omega) _ (by first | exact HC.out.keep HK.out | exact HC.out.keep HK.out.drew)).mono ?_; rintro e w1 ⟨rfl, hb1⟩; have JK : Hid (Below W.heap.size W w1) := (by first | exact HK.out.trans (hb1.mono HK.out.size) | exact HK.out.drew.trans (hb1.mono HK.out.drew.size)); clear HK; have HK := JK; clear JK hb1; obtain ⟨t0, t1, t2, t3, t4, t5, t6, t7, t8, tl⟩ := HX.out.keep HK.out))
  have hwz := HW.out.size
  have hkz := HK.out.size
  go_ret
  exact ⟨_, _, rfl, own5_new (askR b y) _ rfl (by omega) (Nat.le_of_ble_eq_true rfl), (HW.out.trans (HK.out.mono (by omega))).alloc (by omega) _⟩
set_option maxHeartbeats 2000000 in
theorem iTried (o r a x n fr : Int) (ss : Option Addr) (sl sc pb : Nat) (rm b : Int) (y : Int) (w : World) (h : CB w pb b) : Calls Tryz.prog 130 #[.agg #[.int .i64 o, .int .i64 r, .int .i64 a, .int .i64 x, .int .i64 n, .int .i64 fr, .slice ss sl sc, .func (.func 88) #[] #[.pointer (some ⟨pb, 0, none⟩)], .int .i64 rm], .int .i64 y] w fun e w' => ∃ g c, e = .returned (.slice (some ⟨g, 0, none⟩) 2 c) ∧ OwnT5 w' w.heap.size (.slice (some ⟨g, 0, none⟩) 2 c) (triedR r y) ∧ Below w.heap.size w w' := by
  obtain ⟨W, hW, hx, hb, hz⟩ := SX.new w (.int .i64 o) (.int .i64 r) (.int .i64 a) (.int .i64 x) (.int .i64 n) (.int .i64 fr) (.slice ss sl sc) (.func (.func 88) #[] #[.pointer (some ⟨pb, 0, none⟩)]) (.int .i64 rm) 89
  have HC : Hid (CB W pb b) := h.keep hb
  have HX := hid_of hx
  have HW : Hid (Below w.heap.size w W) := hb
  have HK : Hid (Below W.heap.size W W) := Below.refl _ _
  clear h hx hb
  obtain ⟨t0, t1, t2, t3, t4, t5, t6, t7, t8, tl⟩ := HX.out
  go_enter Tryz.func130, Tryz.ntmps130
  go_wp2_with (first | (go_at_call 125; refine (iSet _ _ _).mono ?_; rintro e w1 ⟨rfl, hb1⟩; have JK : Hid (Below W.heap.size W w1) := (by first | exact HK.out.trans (hb1.mono HK.out.size) | exact HK.out.drew.trans (hb1.mono HK.out.drew.size)); clear HK; have HK := JK; clear JK hb1; obtain ⟨t0, t1, t2, t3, t4, t5, t6, t7, t8, tl⟩ := HX.out.keep HK.out) | (go_at_call 137; refine (iZero _ _ _).mono ?_; rintro e w1 ⟨rfl, hb1⟩; have JK : Hid (Below W.heap.size W w1) := (by first | exact HK.out.trans (hb1.mono HK.out.size) | exact HK.out.drew.trans (hb1.mono HK.out.drew.size)); clear HK; have HK := JK; clear JK hb1; obtain ⟨t0, t1, t2, t3, t4, t5, t6, t7, t8, tl⟩ := HX.out.keep HK.out) | (go_at_call 128; refine (iJump _ _).mono ?_; rintro e w1 ⟨rfl, hb1⟩; have JK : Hid (Below W.heap.size W w1) := (by first | exact HK.out.trans (hb1.mono HK.out.size) | exact HK.out.drew.trans (hb1.mono HK.out.drew.size)); clear HK; have HK := JK; clear JK hb1; obtain ⟨t0, t1, t2, t3, t4, t5, t6, t7, t8, tl⟩ := HX.out.keep HK.out))
  have hwz := HW.out.size
  have hkz := HK.out.size
  go_ret
  exact ⟨_, _, rfl, own5_new (triedR r y) _ rfl (by omega) (Nat.le_of_ble_eq_true rfl), (HW.out.trans (HK.out.mono (by omega))).alloc (by omega) _⟩
set_option maxHeartbeats 2000000 in
theorem iCame (o r a x n fr : Int) (ss : Option Addr) (sl sc pb : Nat) (rm b : Int) (y z : Int) (w : World) (h : CB w pb b) : Calls Tryz.prog 131 #[.agg #[.int .i64 o, .int .i64 r, .int .i64 a, .int .i64 x, .int .i64 n, .int .i64 fr, .slice ss sl sc, .func (.func 88) #[] #[.pointer (some ⟨pb, 0, none⟩)], .int .i64 rm], .int .i64 y, .int .i64 z] w fun e w' => ∃ g c, e = .returned (.slice (some ⟨g, 0, none⟩) 3 c) ∧ OwnT5 w' w.heap.size (.slice (some ⟨g, 0, none⟩) 3 c) (cameR r x y z) ∧ Below w.heap.size w w' := by
  obtain ⟨W, hW, hx, hb, hz⟩ := SX.new w (.int .i64 o) (.int .i64 r) (.int .i64 a) (.int .i64 x) (.int .i64 n) (.int .i64 fr) (.slice ss sl sc) (.func (.func 88) #[] #[.pointer (some ⟨pb, 0, none⟩)]) (.int .i64 rm) 89
  have HC : Hid (CB W pb b) := h.keep hb
  have HX := hid_of hx
  have HW : Hid (Below w.heap.size w W) := hb
  have HK : Hid (Below W.heap.size W W) := Below.refl _ _
  clear h hx hb
  obtain ⟨t0, t1, t2, t3, t4, t5, t6, t7, t8, tl⟩ := HX.out
  go_enter Tryz.func131, Tryz.ntmps131
  go_wp2
  go_region_held3 (fun w' => w'.cell? ⟨w.heap.size, 1, none⟩ = some (.int .i64 r) ∧ w'.cell? ⟨w.heap.size, 3, none⟩ = some (.int .i64 x)) (go_keep) (first | (go_at_call 125; refine (iSet _ _ _).mono ?_; rintro e w1 ⟨rfl, hb1⟩; have JK : Hid (Below W.heap.size W w1) := (by first | exact HK.out.trans (hb1.mono HK.out.size) | exact HK.out.drew.trans (hb1.mono HK.out.drew.size)); clear HK; have HK := JK; clear JK hb1; obtain ⟨t0, t1, t2, t3, t4, t5, t6, t7, t8, tl⟩ := HX.out.keep HK.out) | (go_at_call 137; refine (iZero _ _ _).mono ?_; rintro e w1 ⟨rfl, hb1⟩; have JK : Hid (Below W.heap.size W w1) := (by first | exact HK.out.trans (hb1.mono HK.out.size) | exact HK.out.drew.trans (hb1.mono HK.out.drew.size)); clear HK; have HK := JK; clear JK hb1; obtain ⟨t0, t1, t2, t3, t4, t5, t6, t7, t8, tl⟩ := HX.out.keep HK.out) | (go_at_call 128; refine (iJump _ _).mono ?_; rintro e w1 ⟨rfl, hb1⟩; have JK : Hid (Below W.heap.size W w1) := (by first | exact HK.out.trans (hb1.mono HK.out.size) | exact HK.out.drew.trans (hb1.mono HK.out.drew.size)); clear HK; have HK := JK; clear JK hb1; obtain ⟨t0, t1, t2, t3, t4, t5, t6, t7, t8, tl⟩ := HX.out.keep HK.out))
  go_wp2
  have hwz := HW.out.size
  have hkz := HK.out.size
  go_ret
  exact ⟨_, _, rfl, own5_new (cameR r x y z) _ rfl (by omega) (Nat.le_of_ble_eq_true rfl), (HW.out.trans (HK.out.mono (by omega))).alloc (by omega) _⟩

end Go.Proofs.YthkpkdehicoikaaGreat
