/- The drawn channels of the laws of chapter 3. Conditions: the bytes lie in memory as the reading says. -/
import Derived.Test.YtjffdcnninhicacChDraw
namespace Go.Proofs.Ytjffdcnninhicac
set_option linter.unusedSimpArgs false
set_option linter.unusedVariables false
set_option maxRecDepth 100000
open Go.RowKit

theorem Bytes.up {w : World} {p p' n : Nat} {s : Option Addr} (h : Bytes w p s n) (hp : p ≤ p') : Bytes w p' s n := by
  rcases h with h | ⟨g, o, h1, h2, h3⟩
  · exact .inl h
  · exact .inr ⟨g, o, h1, by omega, h3⟩
/- a drawn channel in new memory -/
def Drawn (w w' : World) (cap : Int) (u : Value) (b : Bool) (l : List Int) : Prop := OwnN w' w.heap.size u l ∧ l.length ≤ 8 ∧ Below w.heap.size w w'

set_option maxHeartbeats 2000000 in
theorem drawTake_new (s : Option Addr) (n c : Nat) (w : World) (hb : Bytes w w.heap.size s n) (hn : n ≤ maxLen) :
    Calls Try.prog 16 #[.slice s n c] w fun e w' => ∃ (cap : Int) (u : Value) (l : List Int) (b : Bool), e = .returned (.agg #[.int .i64 cap, u, .bool b]) ∧ Drawn w w' cap u b l := by
  have HB : Hid (Bytes w w.heap.size s n) := hb
  have HN : Hid (n ≤ maxLen) := hn
  clear hb hn
  go_enter Try.func16, Try.ntmps16
  go_wp2_with fail
  obtain ⟨A, hA, rA, kA, sA⟩ := box1 w (.int .i64 0) (.slice none 0 0) (.bool false) 26
  rw [hA]
  have zA : w.heap.size < A.heap.size := by omega
  clear hA sA
  refine (new_cb s n c A ((HB.out.below kA (Nat.le_refl _)).up kA.size) HN.out).mono ?_
  rintro e w1 ⟨rfl, hc1, hb1, hs1⟩
  have z1 : A.heap.size < w1.heap.size := by omega
  clear hs1
  have r1 := rA.keep (hb1.block _ rA.z) hb1.size
  have HC1 : Hid (CB w1 A.heap.size s n c) := hc1
  clear hc1
  go_wp2_with fail
  refine (draw3_cb A.heap.size s n c w1 HC1.out).mono ?_
  rintro e w2 ⟨cap, u, l, b, rfl, ho2, hl2, hc2, hb2⟩
  have r2 := r1.keep (hb2.block _ r1.z (by omega)) hb2.size
  have K2 : Below w.heap.size w w2 := (kA.trans (hb1.mono (by omega))).trans (hb2.below (by omega) (by omega))
  obtain ⟨su, cu, rfl⟩ := ho2.sl
  have HO2 := (show Hid _ from ho2)
  clear ho2 hc2 hb2 r1 rA hb1 HC1 kA HB HN
  obtain ⟨r0, r1, r2, rf, rz⟩ := r2
  go_wp2
  refine bodyPost_ret (v := .agg #[.int .i64 cap, .slice su l.length cu, .bool b]) (by simp [results, Try.results16, go_sem, r0, r1, r2]) rfl ⟨_, _, l, b, rfl, ?_, hl2, ?_⟩
  · exact OwnN.low (((OwnN.set HO2.out (a := ⟨w.heap.size, 0, none⟩) (by simp; omega) _).set (a := ⟨w.heap.size, 1, none⟩) (by simp; omega) _).set (a := ⟨w.heap.size, 2, none⟩) (by simp; omega) _) (by omega)
  · exact ((K2.setCell (p := ⟨w.heap.size, 0, none⟩) (Nat.le_refl _) _).setCell (p := ⟨w.heap.size, 1, none⟩) (Nat.le_refl _) _).setCell (p := ⟨w.heap.size, 2, none⟩) (Nat.le_refl _) _

set_option maxHeartbeats 2000000 in
theorem drawClose_new (s : Option Addr) (n c : Nat) (w : World) (hb : Bytes w w.heap.size s n) (hn : n ≤ maxLen) :
    Calls Try.prog 13 #[.slice s n c] w fun e w' => ∃ (cap : Int) (u : Value) (l : List Int) (b : Bool), e = .returned (.agg #[.int .i64 cap, u, .bool b]) ∧ Drawn w w' cap u b l := by
  have HB : Hid (Bytes w w.heap.size s n) := hb
  have HN : Hid (n ≤ maxLen) := hn
  clear hb hn
  go_enter Try.func13, Try.ntmps13
  go_wp2_with fail
  obtain ⟨A, hA, rA, kA, sA⟩ := box1 w (.int .i64 0) (.slice none 0 0) (.bool false) 26
  rw [hA]
  have zA : w.heap.size < A.heap.size := by omega
  clear hA sA
  refine (new_cb s n c A ((HB.out.below kA (Nat.le_refl _)).up kA.size) HN.out).mono ?_
  rintro e w1 ⟨rfl, hc1, hb1, hs1⟩
  have z1 : A.heap.size < w1.heap.size := by omega
  clear hs1
  have r1 := rA.keep (hb1.block _ rA.z) hb1.size
  have HC1 : Hid (CB w1 A.heap.size s n c) := hc1
  clear hc1
  go_wp2_with fail
  refine (draw3_cb A.heap.size s n c w1 HC1.out).mono ?_
  rintro e w2 ⟨cap, u, l, b, rfl, ho2, hl2, hc2, hb2⟩
  have r2 := r1.keep (hb2.block _ r1.z (by omega)) hb2.size
  have K2 : Below w.heap.size w w2 := (kA.trans (hb1.mono (by omega))).trans (hb2.below (by omega) (by omega))
  obtain ⟨su, cu, rfl⟩ := ho2.sl
  have HO2 := (show Hid _ from ho2)
  clear ho2 hc2 hb2 r1 rA hb1 HC1 kA HB HN
  obtain ⟨r0, r1, r2, rf, rz⟩ := r2
  go_wp2
  refine bodyPost_ret (v := .agg #[.int .i64 cap, .slice su l.length cu, .bool b]) (by simp [results, Try.results13, go_sem, r0, r1, r2]) rfl ⟨_, _, l, b, rfl, ?_, hl2, ?_⟩
  · exact OwnN.low (((OwnN.set HO2.out (a := ⟨w.heap.size, 0, none⟩) (by simp; omega) _).set (a := ⟨w.heap.size, 1, none⟩) (by simp; omega) _).set (a := ⟨w.heap.size, 2, none⟩) (by simp; omega) _) (by omega)
  · exact ((K2.setCell (p := ⟨w.heap.size, 0, none⟩) (Nat.le_refl _) _).setCell (p := ⟨w.heap.size, 1, none⟩) (Nat.le_refl _) _).setCell (p := ⟨w.heap.size, 2, none⟩) (Nat.le_refl _) _

set_option maxHeartbeats 2000000 in
theorem drawSend_new (s : Option Addr) (n c : Nat) (w : World) (hb : Bytes w w.heap.size s n) (hn : n ≤ maxLen) :
    Calls Try.prog 6 #[.slice s n c] w fun e w' => ∃ (cap : Int) (u : Value) (l : List Int) (b : Bool) (v : Int), e = .returned (.tuple #[.agg #[.int .i64 cap, u, .bool b], .int .i64 v]) ∧ Drawn w w' cap u b l := by
  have HB : Hid (Bytes w w.heap.size s n) := hb
  have HN : Hid (n ≤ maxLen) := hn
  clear hb hn
  go_enter Try.func6, Try.ntmps6
  go_wp2_with fail
  obtain ⟨A, hA, rA, kA, sA⟩ := box1 w (.int .i64 0) (.slice none 0 0) (.bool false) 26
  rw [hA]
  have zA : w.heap.size < A.heap.size := by omega
  clear hA sA
  refine (new_cb s n c A ((HB.out.below kA (Nat.le_refl _)).up kA.size) HN.out).mono ?_
  rintro e w1 ⟨rfl, hc1, hb1, hs1⟩
  have z1 : A.heap.size < w1.heap.size := by omega
  clear hs1
  have r1 := rA.keep (hb1.block _ rA.z) hb1.size
  have HC1 : Hid (CB w1 A.heap.size s n c) := hc1
  clear hc1
  go_wp2_with fail
  refine (draw3_cb A.heap.size s n c w1 HC1.out).mono ?_
  rintro e w2 ⟨cap, u, l, b, rfl, ho2, hl2, hc2, hb2⟩
  have r2 := r1.keep (hb2.block _ r1.z (by omega)) hb2.size
  have K2 : Below w.heap.size w w2 := (kA.trans (hb1.mono (by omega))).trans (hb2.below (by omega) (by omega))
  obtain ⟨su, cu, rfl⟩ := ho2.sl
  have hz2 := hb2.size
  have HC2 : Hid (CB w2 A.heap.size s n c) := hc2
  have HO2 : Hid (OwnN w2 w1.heap.size (.slice su l.length cu) l) := ho2
  clear hc2 ho2
  go_wp2_with fail
  obtain ⟨X, hX, xX, kX, sX⟩ := box1 w2 (.int .i64 cap) (.slice su l.length cu) (.bool b) 26
  rw [hX]
  have zX : w2.heap.size < X.heap.size := by omega
  clear hX sX
  have HO : Hid (OwnN X w1.heap.size (.slice su l.length cu) l) := HO2.out.below kX
  have KX : Hid (Below w.heap.size w X) := K2.trans (kX.mono (by omega))
  have HC : Hid (CB X A.heap.size s n c) := HC2.out.keep kX
  have HR : Hid (Box1 w.heap.size X (.int .i64 0) (.slice none 0 0) (.bool false)) := r2.keep (kX.block _ r2.z) kX.size
  have HX : Hid (Box1 w2.heap.size X (.int .i64 cap) (.slice su l.length cu) (.bool b)) := xX
  clear HO2 HC2 hb2 r1 r2 rA hb1 HC1 kA HB HN K2 kX xX
  obtain ⟨r0, r1, r2, rf, rz⟩ := HR.out
  obtain ⟨x0, x1, x2, xf, xz⟩ := HX.out
  have n1 : ¬ w.heap.size = w2.heap.size := by omega
  have n2 : ¬ w2.heap.size = w.heap.size := by omega
  go_region_held3 (fun w' => w'.cell? ⟨w2.heap.size, 0, none⟩ = some (.int .i64 cap) ∧ w'.cell? ⟨w2.heap.size, 1, none⟩ = some (.slice su l.length cu) ∧ w'.cell? ⟨w2.heap.size, 2, none⟩ = some (.bool b)) (go_keep) (first | (go_at_call 20; refine (below_cb A.heap.size s n c 30 X.drew (HC.out.keep (w' := X.drew) (Below.drew (Below.refl _ _))) (by omega) (by omega)).mono ?_; rintro e w4 ⟨y, rfl, y0, y1, -, hb4⟩; have R4 := HR.out.keep (w1 := w4) (hb4.block _ (show _ < X.heap.size by omega) (by omega)) hb4.size; have X4 := HX.out.keep (w1 := w4) (hb4.block _ (show _ < X.heap.size by omega) (by omega)) hb4.size; have p0 := R4.c0; have p1 := R4.c1; have p2 := R4.c2; have pf := R4.f; have pz := R4.z; have q0 := X4.c0; have q1 := X4.c1; have q2 := X4.c2))
  have HO4 : Hid (OwnN w4 w1.heap.size (.slice su l.length cu) l) := HO.out.keep (w' := w4) (fun k h1 h2 => hb4.block k h2 (by omega))
  have K4 : Hid (Below w.heap.size w w4) := (KX.out.trans (Below.drew (Below.refl _ _))).trans (hb4.below (by omega) (by show _ ≤ X.heap.size; omega))
  clear hb4 R4 X4
  generalize IntKind.i64.wrap (y - 9) = v
  go_wp2
  refine bodyPost_ret (v := .tuple #[.agg #[.int .i64 cap, .slice su l.length cu, .bool b], .int .i64 v]) (by simp [results, Try.results6, go_sem, p0, p1, p2]) rfl ⟨_, _, l, b, _, rfl, ?_, hl2, ?_⟩
  · exact OwnN.low (((HO4.out.set (a := ⟨w.heap.size, 0, none⟩) (by simp; omega) _).set (a := ⟨w.heap.size, 1, none⟩) (by simp; omega) _).set (a := ⟨w.heap.size, 2, none⟩) (by simp; omega) _) (by omega)
  · exact ((K4.out.setCell (p := ⟨w.heap.size, 0, none⟩) (Nat.le_refl _) _).setCell (p := ⟨w.heap.size, 1, none⟩) (Nat.le_refl _) _).setCell (p := ⟨w.heap.size, 2, none⟩) (Nat.le_refl _) _

end Go.Proofs.Ytjffdcnninhicac
