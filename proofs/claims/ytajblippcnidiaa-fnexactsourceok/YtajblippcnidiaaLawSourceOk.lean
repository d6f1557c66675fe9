/- The law FnExactSourceOk of the given statements: at every argument SourceOk of the program answers as the specification's, and writes into none. No condition. -/
import Derived.Test.YtajblippcnidiaaSrcFrame
import Derived.Test.YtajblippcnidiaaSzProg
import Derived.Test.YtajblippcnidiaaSrcCopy2
import Derived.Test.YtajblippcnidiaaSrcEq
import Derived.Test.YtajblippcnidiaaSrcOk3
import Derived.Test.YtajblippcnidiaaSrcOkS
import Derived.Deep.RegionHeld3
namespace Go.Proofs.Ytajblippcnidiaa
set_option linter.unusedSimpArgs false
set_option linter.unusedVariables false
set_option maxRecDepth 100000
open Go.ChangeShapes Go.WideShapes Go.ChangeAt Go.RowKit Go.Deep

theorem fiveL {w W : World} {a b c d e : Value} {T T' : TypeId} (hW : (w.alloc (.cells #[a, b] T)).alloc (.cells #[c, d, e] T') = W) : Below w.heap.size w W ∧ w.heap.size < W.heap.size ∧ w.heap.size + 1 < W.heap.size ∧ (W.cell? ⟨w.heap.size, 0, none⟩ = some a ∧ W.cell? ⟨w.heap.size, 1, none⟩ = some b) ∧ W.cell? ⟨w.heap.size + 1, 0, none⟩ = some c ∧ W.cell? ⟨w.heap.size + 1, 1, none⟩ = some d ∧ W.cell? ⟨w.heap.size + 1, 2, none⟩ = some e := by
  subst hW
  exact ⟨((Below.refl _ _).alloc (Nat.le_refl _) _).alloc (by simp) _, by simp; omega, by simp, ⟨by simp [go_sem], by simp [go_sem]⟩, by simp [go_sem], by simp [go_sem], by simp [go_sem]⟩

structure Args (w W : World) (a b c d e : Value) : Prop where
  c0 : W.cell? ⟨w.heap.size, 0, none⟩ = some a
  c1 : W.cell? ⟨w.heap.size, 1, none⟩ = some b
  c2 : W.cell? ⟨w.heap.size + 1, 0, none⟩ = some c
  c3 : W.cell? ⟨w.heap.size + 1, 1, none⟩ = some d
  c4 : W.cell? ⟨w.heap.size + 1, 2, none⟩ = some e
  z0 : w.heap.size < W.heap.size
  z1 : w.heap.size + 1 < W.heap.size
theorem Args.keep {w W W' : World} {a b c d e : Value} {B : Nat} (h : Args w W a b c d e) (hb : Below B W W') (hB : w.heap.size + 1 < B) : Args w W' a b c d e := by
  have q := hb.size
  have r := h.z1
  exact ⟨(hb.cell (p := ⟨w.heap.size, 0, none⟩) (by show w.heap.size < B; omega)).trans h.c0, (hb.cell (p := ⟨w.heap.size, 1, none⟩) (by show w.heap.size < B; omega)).trans h.c1, (hb.cell (p := ⟨w.heap.size + 1, 0, none⟩) hB).trans h.c2, (hb.cell (p := ⟨w.heap.size + 1, 1, none⟩) hB).trans h.c3, (hb.cell (p := ⟨w.heap.size + 1, 2, none⟩) hB).trans h.c4, by omega, by omega⟩
structure B2s (G : Nat) (W : World) (a b : Value) : Prop where
  c0 : W.cell? ⟨G, 0, none⟩ = some a
  c1 : W.cell? ⟨G, 1, none⟩ = some b
  z : G < W.heap.size
theorem bx2s (w : World) (a b : Value) (T : TypeId) : ∃ W, w.alloc (.cells #[a, b] T) = W ∧ B2s w.heap.size W a b ∧ Below w.heap.size w W ∧ w.heap.size < W.heap.size :=
  ⟨_, rfl, ⟨by simp [go_sem], by simp [go_sem], by simp⟩, (Below.refl _ _).alloc (Nat.le_refl _) _, by simp⟩
theorem B2s.keep {G B : Nat} {W W' : World} {a b : Value} (h : B2s G W a b) (hb : Below B W W') (hB : G < B) : B2s G W' a b :=
  ⟨(hb.cell (p := ⟨G, 0, none⟩) hB).trans h.c0, (hb.cell (p := ⟨G, 1, none⟩) hB).trans h.c1, Nat.lt_of_lt_of_le h.z hb.size⟩
structure B3s (G : Nat) (W : World) (a b c : Value) : Prop where
  c0 : W.cell? ⟨G, 0, none⟩ = some a
  c1 : W.cell? ⟨G, 1, none⟩ = some b
  c2 : W.cell? ⟨G, 2, none⟩ = some c
  z : G < W.heap.size
theorem bx3s (w : World) (a b c : Value) (T : TypeId) : ∃ W, w.alloc (.cells #[a, b, c] T) = W ∧ B3s w.heap.size W a b c ∧ Below w.heap.size w W ∧ w.heap.size < W.heap.size :=
  ⟨_, rfl, ⟨by simp [go_sem], by simp [go_sem], by simp [go_sem], by simp⟩, (Below.refl _ _).alloc (Nat.le_refl _) _, by simp⟩
theorem B3s.keep {G B : Nat} {W W' : World} {a b c : Value} (h : B3s G W a b c) (hb : Below B W W') (hB : G < B) : B3s G W' a b c :=
  ⟨(hb.cell (p := ⟨G, 0, none⟩) hB).trans h.c0, (hb.cell (p := ⟨G, 1, none⟩) hB).trans h.c1, (hb.cell (p := ⟨G, 2, none⟩) hB).trans h.c2, Nat.lt_of_lt_of_le h.z hb.size⟩

set_option maxRecDepth 100000 in
set_option maxHeartbeats 8000000 in
theorem walkSourceOk (p1 p2 s1 s2 s3 : Option Addr) (a1 a2 c1 c2 c3 : Nat) (p : PD) (d : SD) (w : World) (h : ProgR w 0 w.heap.size p1 p2 p) (m1 : p.caps.length ≤ maxLen) (m2 : p.bods.length ≤ maxLen) (m3 : ∀ i, i < p.bods.length → (p.bods.getD i []).length ≤ maxLen) (h' : SrcR w 0 w.heap.size s1 s2 s3 d) (hn : SLens d) :
    Calls Try.prog 3 #[.agg #[.slice p1 p.caps.length a1, .slice p2 p.bods.length a2], .agg #[.slice s1 d.ths.length c1, .slice s2 d.chs.length c2, .slice s3 d.tr.length c3]] w fun e w' => e = .returned (.bool true) ∧ Below w.heap.size w w' := by
  have H : Hid (ProgR w 0 w.heap.size p1 p2 p) := h
  have H' : Hid (SrcR w 0 w.heap.size s1 s2 s3 d) := h'
  have M3 : Hid (∀ i, i < p.bods.length → (p.bods.getD i []).length ≤ maxLen) := m3
  have HN : Hid (SLens d) := hn
  clear h h' m3 hn
  go_enter Try.func3, Try.ntmps3
  go_wp2_with fail
  obtain ⟨W, hW⟩ : ∃ W, (w.alloc (.cells #[.slice p1 p.caps.length a1, .slice p2 p.bods.length a2] 25)).alloc (.cells #[.slice s1 d.ths.length c1, .slice s2 d.chs.length c2, .slice s3 d.tr.length c3] 30) = W := ⟨_, rfl⟩
  obtain ⟨ka, z0, z1, ⟨x0, x1⟩, y0, y1, y2⟩ := fiveL hW
  rw [hW]
  clear hW
  have K : Hid (Below w.heap.size w W) := ka
  clear ka
  refine (szProg_le p1 p2 a1 a2 0 w.heap.size p W (H.out.keep' (Keep.of_below K.out (Nat.le_refl _))) (by omega) m1 m2 M3.out).mono ?_
  rintro e w1 ⟨⟨v, rfl, hv⟩, hb1⟩
  have q1 := hb1.size
  have K1 : Hid (Below w.heap.size w w1) := K.out.trans (hb1.mono (by omega))
  have x0' := (hb1.cell (p := ⟨w.heap.size, 0, none⟩) z0).trans x0
  have x1' := (hb1.cell (p := ⟨w.heap.size, 1, none⟩) z0).trans x1
  have y0' := (hb1.cell (p := ⟨w.heap.size + 1, 0, none⟩) z1).trans y0
  have y1' := (hb1.cell (p := ⟨w.heap.size + 1, 1, none⟩) z1).trans y1
  have y2' := (hb1.cell (p := ⟨w.heap.size + 1, 2, none⟩) z1).trans y2
  have z0' : w.heap.size < w1.heap.size := by omega
  have z1' : w.heap.size + 1 < w1.heap.size := by omega
  clear x0 x1 y0 y1 y2 hb1 K z0 z1 q1
  rcases hv with hv | ⟨hv, hv2, hf⟩
  · go_wp2
    go_ret
    exact ⟨rfl, K1.out⟩
  have hvn : ¬ v < 0 := by omega
  have FP : Hid (Fits p) := hf
  clear hf
  go_wp2_with fail
  refine (szSource_any s1 s2 s3 c1 c2 c3 0 w.heap.size d v w1 (H'.out.keep (Keep.of_below K1.out (Nat.le_refl _))) (by omega) HN.out hv hv2).mono ?_
  rintro e w2 ⟨⟨u, rfl, hu⟩, hb2⟩
  have q2 := hb2.size
  have K2 : Hid (Below w.heap.size w w2) := K1.out.trans (hb2.mono (by omega))
  have x0 := (hb2.cell (p := ⟨w.heap.size, 0, none⟩) z0').trans x0'
  have x1 := (hb2.cell (p := ⟨w.heap.size, 1, none⟩) z0').trans x1'
  have y0 := (hb2.cell (p := ⟨w.heap.size + 1, 0, none⟩) z1').trans y0'
  have y1 := (hb2.cell (p := ⟨w.heap.size + 1, 1, none⟩) z1').trans y1'
  have y2 := (hb2.cell (p := ⟨w.heap.size + 1, 2, none⟩) z1').trans y2'
  have z0 : w.heap.size < w2.heap.size := by omega
  have z1 : w.heap.size + 1 < w2.heap.size := by omega
  clear x0' x1' y0' y1' y2' hb2 K1 z0' z1' q2 hv hv2 hvn
  rcases hu with hu | ⟨hu, hf⟩
  · go_wp2
    go_ret
    exact ⟨rfl, K2.out⟩
  have hun : ¬ u < 0 := by omega
  have FS : Hid (SFits d) := hf
  clear hf
  go_wp2_with fail
  have AW : Hid (Args w w2 (.slice p1 p.caps.length a1) (.slice p2 p.bods.length a2) (.slice s1 d.ths.length c1) (.slice s2 d.chs.length c2) (.slice s3 d.tr.length c3)) := ⟨x0, x1, y0, y1, y2, z0, z1⟩
  go_region_held3 (fun w' => w'.cell? ⟨w.heap.size, 0, none⟩ = some (.slice p1 p.caps.length a1) ∧ w'.cell? ⟨w.heap.size, 1, none⟩ = some (.slice p2 p.bods.length a2) ∧ w'.cell? ⟨w.heap.size + 1, 0, none⟩ = some (.slice s1 d.ths.length c1) ∧ w'.cell? ⟨w.heap.size + 1, 1, none⟩ = some (.slice s2 d.chs.length c2) ∧ w'.cell? ⟨w.heap.size + 1, 2, none⟩ = some (.slice s3 d.tr.length c3)) (go_keep) (first | (go_at_call 8; refine (toProg_new p1 p2 a1 a2 0 w.heap.size p w2.drew (H.out.keep' (Keep.of_below K2.out.drew (Nat.le_refl _))) (Nat.le_of_lt z0) FP.out).mono ?_; rintro e w3 ⟨t1, t2, rfl, hb3, hz3, hp3⟩; have kx3 : Below w2.heap.size w2 w3 := (Below.drew (Below.refl _ _)).trans hb3; obtain ⟨k0, k1, k2, k3, k4, k5, k6⟩ := AW.out.keep kx3 z1) | (go_at_call 9; refine (toSource_own s1 s2 s3 c1 c2 c3 0 w.heap.size d w3 (H'.out.keep (Keep.of_below (K2.out.trans (kx3.mono (Nat.le_of_lt z0))) (Nat.le_refl _))) (Nat.le_of_lt k5) FS.out).mono ?_; rintro e w4 ⟨v1, v2, v3, L1, L2, rfl, ho4, hb4, hz4⟩; obtain ⟨t3, e3, t4, e4, t5, e5, rfl, rfl, rfl, hs4⟩ := ho4.src; have kx4 : Below w2.heap.size w2 w4 := kx3.trans (hb4.mono kx3.size); obtain ⟨j0, j1, j2, j3, j4, j5, j6⟩ := AW.out.keep kx4 z1) | (go_at_call 7; refine (specSource_any t1 t2 t3 t4 t5 _ _ e3 e4 e5 w2.heap.size w3.heap.size w3.heap.size w4.heap.size p d w4 (hp3.keep' (Keep.of_below hb4 (Nat.le_refl _))) hs4 (Nat.le_of_lt hz4) (Nat.le_refl _) FP.out FS.out).mono ?_; rintro e w5 ⟨rfl, hb5⟩; have kx5 : Below w2.heap.size w2 w5 := kx4.trans (hb5.mono kx4.size); obtain ⟨i0, i1, i2, i3, i4, i5, i6⟩ := AW.out.keep kx5 z1))
  have K5 : Hid (Below w.heap.size w w5) := K2.out.trans (kx5.mono (Nat.le_of_lt z0))
  have AX : Hid (Args w w5 (.slice p1 p.caps.length a1) (.slice p2 p.bods.length a2) (.slice s1 d.ths.length c1) (.slice s2 d.chs.length c2) (.slice s3 d.tr.length c3)) := AW.out.keep kx5 z1
  clear x0 x1 y0 y1 y2 z0 z1 k0 k1 k2 k3 k4 k5 k6 j0 j1 j2 j3 j4 j5 j6 i0 i1 i2 i3 i4 i5 i6 hb3 hb4 hb5 hp3 hs4 ho4 kx3 kx4 kx5 AW K2 hz3 hz4
  have SB : Hid (∃ b, srcB p d = b) := ⟨_, rfl⟩
  obtain ⟨b, hbe⟩ := SB.out
  have HBE : Hid (srcB p d = b) := hbe
  rw [hbe]
  clear hbe SB
  have hbb : (b != b) = false := by simp
  obtain ⟨x0, x1, y0, y1, y2, z0, z1⟩ := AX.out
  go_wp2_with fail
  refine (toProg_new p1 p2 a1 a2 0 w.heap.size p w5 (H.out.keep' (Keep.of_below K5.out (Nat.le_refl _))) (Nat.le_of_lt z0) FP.out).mono ?_
  rintro e w6 ⟨g1, g2, rfl, hb6, hz6, hp6⟩
  have K6 : Hid (Below w.heap.size w w6) := K5.out.trans (hb6.mono K5.out.size)
  have A6 : Hid (Args w w6 (.slice p1 p.caps.length a1) (.slice p2 p.bods.length a2) (.slice s1 d.ths.length c1) (.slice s2 d.chs.length c2) (.slice s3 d.tr.length c3)) := AX.out.keep hb6 z1
  have P6 : Hid (ProgR w6 w5.heap.size w6.heap.size g1 g2 p) := hp6
  clear x0 x1 y0 y1 y2 z0 z1 hb6 hp6 AX
  obtain ⟨x0, x1, y0, y1, y2, z0, z1⟩ := A6.out
  go_wp2_with fail
  obtain ⟨W6, hW6, bx6, kb6, zz6⟩ := bx2s w6 (.slice g1 p.caps.length p.caps.length) (.slice g2 p.bods.length p.bods.length) 36
  rw [hW6]
  clear hW6
  have K7 : Hid (Below w.heap.size w W6) := K6.out.trans (kb6.mono K6.out.size)
  have A7 : Hid (Args w W6 (.slice p1 p.caps.length a1) (.slice p2 p.bods.length a2) (.slice s1 d.ths.length c1) (.slice s2 d.chs.length c2) (.slice s3 d.tr.length c3)) := A6.out.keep kb6 z1
  have P7 : Hid (ProgR W6 w5.heap.size w6.heap.size g1 g2 p) := P6.out.keep' (Keep.of_below kb6 (Nat.le_refl _))
  have B7 : Hid (B2s w6.heap.size W6 (.slice g1 p.caps.length p.caps.length) (.slice g2 p.bods.length p.bods.length)) := bx6
  clear x0 x1 y0 y1 y2 z0 z1 kb6 bx6 A6 P6
  obtain ⟨x0, x1, y0, y1, y2, z0, z1⟩ := A7.out
  refine (toSource_own s1 s2 s3 c1 c2 c3 0 w.heap.size d W6 (H'.out.keep (Keep.of_below K7.out (Nat.le_refl _))) (Nat.le_of_lt z0) FS.out).mono ?_
  rintro e w7 ⟨v1, v2, v3, L1, L2, rfl, ho7, hb7, hz7⟩
  obtain ⟨t3, e3, t4, e4, t5, e5, rfl, rfl, rfl, hs7⟩ := ho7.src
  have K8 : Hid (Below w.heap.size w w7) := K7.out.trans (hb7.mono K7.out.size)
  have A8 : Hid (Args w w7 (.slice p1 p.caps.length a1) (.slice p2 p.bods.length a2) (.slice s1 d.ths.length c1) (.slice s2 d.chs.length c2) (.slice s3 d.tr.length c3)) := A7.out.keep hb7 z1
  have P8 : Hid (ProgR w7 w5.heap.size w6.heap.size g1 g2 p) := P7.out.keep' (Keep.of_below hb7 (by omega))
  have B8 : Hid (B2s w6.heap.size w7 (.slice g1 p.caps.length p.caps.length) (.slice g2 p.bods.length p.bods.length)) := B7.out.keep hb7 B7.out.z
  have S8 : Hid (SrcR w7 W6.heap.size w7.heap.size t3 t4 t5 d) := hs7
  clear x0 x1 y0 y1 y2 z0 z1 hb7 hs7 ho7 A7 P7 B7
  obtain ⟨x0, x1, y0, y1, y2, z0, z1⟩ := A8.out
  obtain ⟨u0, u1, uz⟩ := B8.out
  go_wp2_with fail
  obtain ⟨W7, hW7, bx7, kb7, zz7⟩ := bx3s w7 (.slice t3 d.ths.length e3) (.slice t4 d.chs.length e4) (.slice t5 d.tr.length e5) 42
  rw [hW7]
  clear hW7
  have K9 : Hid (Below w.heap.size w W7) := K8.out.trans (kb7.mono K8.out.size)
  have A9 : Hid (Args w W7 (.slice p1 p.caps.length a1) (.slice p2 p.bods.length a2) (.slice s1 d.ths.length c1) (.slice s2 d.chs.length c2) (.slice s3 d.tr.length c3)) := A8.out.keep kb7 z1
  have P9 : Hid (ProgR W7 w5.heap.size w6.heap.size g1 g2 p) := P8.out.keep' (Keep.of_below kb7 (by omega))
  have B9 : Hid (B2s w6.heap.size W7 (.slice g1 p.caps.length p.caps.length) (.slice g2 p.bods.length p.bods.length)) := B8.out.keep kb7 B8.out.z
  have S9 : Hid (SrcR W7 W6.heap.size w7.heap.size t3 t4 t5 d) := S8.out.keep (Keep.of_below kb7 (by omega))
  have C9 : Hid (B3s w7.heap.size W7 (.slice t3 d.ths.length e3) (.slice t4 d.chs.length e4) (.slice t5 d.tr.length e5)) := bx7
  clear x0 x1 y0 y1 y2 z0 z1 u0 u1 uz kb7 bx7 A8 P8 B8 S8
  obtain ⟨x0, x1, y0, y1, y2, z0, z1⟩ := A9.out
  obtain ⟨u0, u1, uz⟩ := B9.out
  obtain ⟨q0, q1, q2, qz⟩ := C9.out
  refine (implSource_any g1 g2 t3 t4 t5 _ _ e3 e4 e5 w5.heap.size w6.heap.size W6.heap.size w7.heap.size p d W7 P9.out S9.out (by omega) (by omega) FP.out FS.out).mono ?_
  rintro e w8 ⟨rfl, hb8⟩
  rw [HBE.out]
  have KA : Hid (Below w.heap.size w w8) := K9.out.trans (hb8.mono K9.out.size)
  have AA : Hid (Args w w8 (.slice p1 p.caps.length a1) (.slice p2 p.bods.length a2) (.slice s1 d.ths.length c1) (.slice s2 d.chs.length c2) (.slice s3 d.tr.length c3)) := A9.out.keep hb8 z1
  have PA : Hid (ProgR w8 w5.heap.size w6.heap.size g1 g2 p) := P9.out.keep' (Keep.of_below hb8 (by omega))
  have BA : Hid (B2s w6.heap.size w8 (.slice g1 p.caps.length p.caps.length) (.slice g2 p.bods.length p.bods.length)) := B9.out.keep hb8 B9.out.z
  have SA : Hid (SrcR w8 W6.heap.size w7.heap.size t3 t4 t5 d) := S9.out.keep (Keep.of_below hb8 (by omega))
  have CA : Hid (B3s w7.heap.size w8 (.slice t3 d.ths.length e3) (.slice t4 d.chs.length e4) (.slice t5 d.tr.length e5)) := C9.out.keep hb8 C9.out.z
  have zA : W7.heap.size ≤ w8.heap.size := hb8.size
  clear x0 x1 y0 y1 y2 z0 z1 u0 u1 uz q0 q1 q2 qz hb8 A9 P9 B9 S9 C9
  obtain ⟨x0, x1, y0, y1, y2, z0, z1⟩ := AA.out
  obtain ⟨u0, u1, uz⟩ := BA.out
  obtain ⟨q0, q1, q2, qz⟩ := CA.out
  have l68 : w6.heap.size ≤ w8.heap.size := by omega
  have l78 : w7.heap.size ≤ w8.heap.size := by omega
  go_wp2_with fail
  go_region_held3 (fun w' => w'.cell? ⟨w.heap.size, 0, none⟩ = some (.slice p1 p.caps.length a1) ∧ w'.cell? ⟨w.heap.size, 1, none⟩ = some (.slice p2 p.bods.length a2) ∧ w'.cell? ⟨w6.heap.size, 0, none⟩ = some (.slice g1 p.caps.length p.caps.length) ∧ w'.cell? ⟨w6.heap.size, 1, none⟩ = some (.slice g2 p.bods.length p.bods.length)) (go_keep) (first | (go_at_call 8; refine (toProg_new p1 p2 a1 a2 0 w.heap.size p w8.drew (H.out.keep' (Keep.of_below KA.out.drew (Nat.le_refl _))) (Nat.le_of_lt z0) FP.out).mono ?_; rintro e w9 ⟨m1', m2', rfl, hb9, hz9, hp9⟩; have kx : Below w8.heap.size w8 w9 := (Below.drew (Below.refl _ _)).trans hb9; obtain ⟨k0, k1, k2, k3, k4, k5, k6⟩ := AA.out.keep kx z1; obtain ⟨n0, n1, nz⟩ := BA.out.keep kx BA.out.z) | (go_at_call 11; refine (eqProg_same g1 g2 m1' m2' _ _ _ _ w5.heap.size w6.heap.size w8.heap.size w9.heap.size p w9 (PA.out.keep' (Keep.of_below kx l68)) hp9 (Nat.le_trans l68 kx.size) (Nat.le_refl _) FP.out).mono ?_; rintro e w10 ⟨rfl, hb10⟩; have ky : Below w8.heap.size w8 w10 := kx.trans (hb10.mono kx.size); obtain ⟨j0, j1, j2, j3, j4, j5, j6⟩ := AA.out.keep ky z1; obtain ⟨o0, o1, oz⟩ := BA.out.keep ky BA.out.z))
  have KB : Hid (Below w.heap.size w w10) := KA.out.trans (ky.mono KA.out.size)
  have AB : Hid (Args w w10 (.slice p1 p.caps.length a1) (.slice p2 p.bods.length a2) (.slice s1 d.ths.length c1) (.slice s2 d.chs.length c2) (.slice s3 d.tr.length c3)) := AA.out.keep ky z1
  have SB : Hid (SrcR w10 W6.heap.size w7.heap.size t3 t4 t5 d) := SA.out.keep (Keep.of_below ky l78)
  have CB : Hid (B3s w7.heap.size w10 (.slice t3 d.ths.length e3) (.slice t4 d.chs.length e4) (.slice t5 d.tr.length e5)) := CA.out.keep ky CA.out.z
  have l710 : w7.heap.size ≤ w10.heap.size := Nat.le_trans l78 ky.size
  clear x0 x1 y0 y1 y2 z0 z1 u0 u1 uz q0 q1 q2 qz k0 k1 k2 k3 k4 k5 k6 n0 n1 nz j0 j1 j2 j3 j4 j5 j6 o0 o1 oz hb9 hz9 hp9 hb10 kx ky AA PA BA SA CA
  obtain ⟨x0, x1, y0, y1, y2, z0, z1⟩ := AB.out
  obtain ⟨q0, q1, q2, qz⟩ := CB.out
  go_wp2_with fail
  go_region_held3 (fun w' => w'.cell? ⟨w.heap.size + 1, 0, none⟩ = some (.slice s1 d.ths.length c1) ∧ w'.cell? ⟨w.heap.size + 1, 1, none⟩ = some (.slice s2 d.chs.length c2) ∧ w'.cell? ⟨w.heap.size + 1, 2, none⟩ = some (.slice s3 d.tr.length c3) ∧ w'.cell? ⟨w7.heap.size, 0, none⟩ = some (.slice t3 d.ths.length e3) ∧ w'.cell? ⟨w7.heap.size, 1, none⟩ = some (.slice t4 d.chs.length e4) ∧ w'.cell? ⟨w7.heap.size, 2, none⟩ = some (.slice t5 d.tr.length e5)) (go_keep) (first | (go_at_call 9; refine (toSource_own s1 s2 s3 c1 c2 c3 0 w.heap.size d w10.drew (H'.out.keep (Keep.of_below KB.out.drew (Nat.le_refl _))) (Nat.le_of_lt z0) FS.out).mono ?_; rintro e w11 ⟨v1, v2, v3, M1, M2, rfl, ho, hb11, hz11⟩; obtain ⟨f1, h1, f2, h2, f3, h3, rfl, rfl, rfl, hs11⟩ := ho.src; have kx : Below w10.heap.size w10 w11 := (Below.drew (Below.refl _ _)).trans hb11; obtain ⟨k0, k1, k2, k3, k4, k5, k6⟩ := AB.out.keep kx z1; obtain ⟨n0, n1, n2, nz⟩ := CB.out.keep kx CB.out.z) | (go_at_call 12; refine (eqSource_alike t3 t4 t5 f1 f2 f3 _ _ _ _ _ _ W6.heap.size w7.heap.size w10.heap.size w11.heap.size d w11 (SB.out.keep (Keep.of_below kx l710)) hs11 (Nat.le_trans l710 kx.size) (Nat.le_refl _) FS.out).mono ?_; rintro e w12 ⟨rfl, hb12⟩; have ky : Below w10.heap.size w10 w12 := kx.trans (hb12.mono kx.size); obtain ⟨j0, j1, j2, j3, j4, j5, j6⟩ := AB.out.keep ky z1; obtain ⟨o0, o1, o2, oz⟩ := CB.out.keep ky CB.out.z))
  have KC : Hid (Below w.heap.size w w12) := KB.out.trans (ky.mono KB.out.size)
  clear x0 x1 y0 y1 y2 z0 z1 q0 q1 q2 qz k0 k1 k2 k3 k4 k5 k6 n0 n1 n2 nz j0 j1 j2 j3 j4 j5 j6 o0 o1 o2 oz hb11 hz11 hs11 ho hb12 kx ky
  go_wp2
  go_ret
  exact ⟨rfl, KC.out⟩

set_option maxRecDepth 100000 in
theorem liftedSourceOk (os : Os) (started : os.Started) (H : Type) (enc : TypeId × Value → H) :
    ReturnsInHanded {} Try.checked os 3 .any (Rows.fnExactSourceOkSpec.pre6 enc Try.prog Try.f3 Rows.fnExactSourceOkRow.domain false) (Rows.fnExactSourceOkSpec.post enc Try.prog Try.f3 false true false false) := by
  refine returnsInHanded_of_change (C := Try.checked) ownP started (by kernel_rfl) Try.func3
    (ChangeSpec.witness6 (enc := enc) (C := Try.checked) false ⟨#[], #[.agg #[.slice none 0 0, .slice none 0 0], .agg #[.slice none 0 0, .slice none 0 0, .slice none 0 0]], []⟩ 8 (by kernel_rfl) (by kernel_rfl) (by kernel_rfl) (by kernel_rfl)) ?_
  intro W base args ds gs before hval0 hW hcnd _
  have hval : ∀ (j : Nat) t v, Try.f3.params[j]? = some t → args[j]? = some v → Value.okWide Try.prog W .any base t v := hval0
  have hW' := hW
  obtain ⟨p, q, hA0, hV, rfl, hfz, hnd⟩ := hW
  have hA : DataW.TrodAll enc Try.prog W 0 (fun _ => true) true Try.f3.params.toList args.toList ds p := hA0
  rw [Try.params3] at hA hval
  obtain ⟨v0, v1, d0, d1, p0, p1, hargs, rfl, rfl, h0, h1⟩ := trodAll_two hA
  obtain rfl : args = #[v0, v1] := by cases args; simp_all
  obtain ⟨rfl, rfl⟩ := trodVars_none hV
  have k0 := h0
  have k1 := h1
  have lt0 : ∀ x ∈ p0, x.block < W.heap.size := by obtain ⟨m, hm⟩ := k0; exact DataW.trod_lt m _ _ _ hm
  have lt1 : ∀ x ∈ p1, x.block < W.heap.size := by obtain ⟨m, hm⟩ := k1; exact DataW.trod_lt m _ _ _ hm
  obtain ⟨s, s', c, c', pd, rfl, m1, m2, m3, hP⟩ := open_prog (hval 0 25 v0 rfl rfl) h0
  obtain ⟨s1, s2, s3, c1, c2, c3, sd, rfl, hn, hS⟩ := open_source (hval 1 30 v1 rfl rfl) h1
  clear hA0 hval0
  refine (walkSourceOk s s' s1 s2 s3 c c' c1 c2 c3 pd sd W hP m1 m2 m3 hS hn).mono fun e W' ⟨he, bel⟩ => ?_
  subst he
  exact ⟨_, rfl, _, _, _, [], _, [], hW', trodAll_mk1 (shut_bool Try.underlying4 _), trodAll_mk2 (Below.trod laidOutP (by kernel_rfl) (of_decide_eq_true (by kernel_rfl)) k0 bel lt0) (Below.trod laidOutP (by kernel_rfl) (of_decide_eq_true (by kernel_rfl)) k1 bel lt1), rfl, bel.frame _, fun h => by cases h⟩

theorem fnExactSourceOk_holds : Rows.FnExactSourceOkSaid :=
  OpenClaim.holds_of_wide 3 Try.f3 rfl rfl rfl rfl rfl rfl rfl ⟨rfl, rfl, rfl, rfl, rfl⟩ rfl rfl rfl rfl rfl (by kernel_rfl) Try.func3 (by kernel_rfl)
    (of_decide_eq_true (by kernel_rfl)) (by unfold Func.isWrapper; first | (rw [if_pos (by decide +kernel)]; kernel_rfl) | (rw [if_neg (by decide +kernel)]; exact ⟨rfl, rfl⟩))
    (fun os started H enc _ => liftedSourceOk os started H enc)
#print axioms fnExactSourceOk_holds

end Go.Proofs.Ytajblippcnidiaa
