/- Machines that may be written, and how the laws copy one. Conditions: it is counted. -/
import Derived.Test.YtfdgjjahojkgfaaKCopy2
namespace Go.Proofs.Ytfdgjjahojkgfaa
set_option linter.unusedSimpArgs false
set_option linter.unusedVariables false
set_option maxRecDepth 100000
open Go.RowKit

structure MP where
  s1 : Option Addr
  c1 : Nat
  RC : List (List FS)
  s2 : Option Addr
  c2 : Nat
  RK : List (List FS)
  s3 : Option Addr
  c3 : Nat
  S : List RS
  s4 : Option Addr
  c4 : Nat
def MP.x4 (p : MP) (d : MD) : VS := (⟨p.s4, d.tr.length, p.c4⟩ : VS).wide 2
def MP.as (p : MP) (d : MD) : List Addr := gAs p.s1 TC.length p.RC 0 ++ (gAs p.s2 TK.length p.RK 0 ++ (mAs p.S ++ vAs (p.x4 d)))
structure MaO (w : World) (lo hi : Nat) (p : MP) (d : MD) : Prop where
  c : GO w lo hi p.s1 TC p.RC (d.codes.map codeV)
  k : GO w lo hi p.s2 TK p.RK (d.cores.map coreV)
  m : MO w lo hi p.s3 p.S d.mem
  t : VO w lo hi (p.x4 d) (fl2 d.tr)
  d : (p.as d).Nodup
theorem MaO.keep {w w' : World} {lo hi : Nat} {p : MP} {d : MD} (h : MaO w lo hi p d) (hb : Keep lo hi w w') : MaO w' lo hi p d := ⟨h.c.keep hb, h.k.keep hb, h.m.keep hb, h.t.keep hb, h.d⟩
theorem MaO.mono {w : World} {lo hi lo' hi' : Nat} {p : MP} {d : MD} (h : MaO w lo hi p d) (a : lo' ≤ lo) (b : hi ≤ hi') : MaO w lo' hi' p d := ⟨h.c.mono a b, h.k.mono a b, h.m.mono a b, h.t.mono a b, h.d⟩
theorem MaO.ma {w : World} {lo hi : Nat} {p : MP} {d : MD} (h : MaO w lo hi p d) : MaR w lo hi p.s1 p.s2 p.s3 p.s4 d := ⟨h.c.csR, h.k.ksR, h.m.mem, h.t.ntsR⟩
theorem MaO.of {w : World} {lo hi h1 h2 h3 : Nat} {p : MP} {d : MD} (hc : GO w lo h1 p.s1 TC p.RC (d.codes.map codeV)) (hk : GO w h1 h2 p.s2 TK p.RK (d.cores.map coreV)) (hm : MO w h2 h3 p.s3 p.S d.mem) (ht : VO w h3 hi (p.x4 d) (fl2 d.tr)) (l1 : lo ≤ h1) (l2 : h1 ≤ h2) (l3 : h2 ≤ h3) (l4 : h3 ≤ hi) (nt : (vAs (p.x4 d)).Nodup) : MaO w lo hi p d := by
  refine ⟨hc.mono (Nat.le_refl _) (by omega), hk.mono (by omega) (by omega), hm.mono (by omega) (by omega), ht.mono (by omega) (Nat.le_refl _), ?_⟩
  unfold MP.as
  refine List.nodup_append.2 ⟨hc.d, List.nodup_append.2 ⟨hk.d, List.nodup_append.2 ⟨hm.d, nt, fun a ha b hb e => ?_⟩, fun a ha b hb e => ?_⟩, fun a ha b hb e => ?_⟩
  · subst e
    have := (hm.blk ha).2
    have := (ht.blk hb).1
    omega
  · subst e
    have := (hk.blk ha).2
    rcases List.mem_append.1 hb with hb | hb
    · have := (hm.blk hb).1
      omega
    · have := (ht.blk hb).1
      omega
  · subst e
    have := (hc.blk ha).2
    rcases List.mem_append.1 hb with hb | hb
    · have := (hk.blk hb).1
      omega
    · rcases List.mem_append.1 hb with hb | hb
      · have := (hm.blk hb).1
        omega
      · have := (ht.blk hb).1
        omega

set_option maxHeartbeats 2000000 in
theorem toMachine_own (s1 s2 s3 s4 : Option Addr) (c1 c2 c3 c4 lo hi : Nat) (d : MD) (w : World) (h : MaR w lo hi s1 s2 s3 s4 d) (hB : hi ≤ w.heap.size) (hf : MaSz d ≤ 1048576) :
    Calls Try.prog 7 #[.agg #[.slice s1 d.codes.length c1, .slice s2 d.cores.length c2, .slice s3 d.mem.length c3, .slice s4 d.tr.length c4]] w fun e w' => ∃ p : MP, e = .returned (.agg #[.slice p.s1 d.codes.length p.c1, .slice p.s2 d.cores.length p.c2, .slice p.s3 d.mem.length p.c3, .slice p.s4 d.tr.length p.c4]) ∧ MaO w' w.heap.size w'.heap.size p d ∧ Below w.heap.size w w' ∧ w.heap.size < w'.heap.size := by
  have H : Hid (MaR w lo hi s1 s2 s3 s4 d) := h
  have F1 : d.codes.length + szC d.codes ≤ 1048576 := by unfold MaSz at hf; omega
  have F2 : d.cores.length + szK d.cores ≤ 1048576 := by unfold MaSz at hf; omega
  have F3 : MFits d.mem := by unfold MaSz at hf; unfold MFits; omega
  have F4 : d.tr.length ≤ 1048576 := by unfold MaSz at hf; omega
  clear h hf
  go_enter Try.func7, Try.ntmps7
  go_wp2_with fail
  obtain ⟨V0, hW⟩ : ∃ W, ((w.alloc (.cells #[.slice s1 d.codes.length c1, .slice s2 d.cores.length c2, .slice s3 d.mem.length c3, .slice s4 d.tr.length c4] 29)).alloc (.cells #[.slice none 0 0, .slice none 0 0, .slice none 0 0, .slice none 0 0] 39)).alloc (.cells #[.slice none 0 0, .slice none 0 0, .slice none 0 0, .slice none 0 0] 39) = W := ⟨_, rfl⟩
  obtain ⟨kv0, xa0, xb0, xc0, zw⟩ := three4 hW
  rw [hW]
  clear hW
  have zv0 : w.heap.size + 3 ≤ V0.heap.size := by omega
  clear zw
  refine (toStepSS_own s1 c1 lo hi d.codes V0 (H.out.keep (Keep.of_below kv0 hB)).1 (by omega) F1).mono ?_
  rintro e w1 ⟨RC, rfl, ho1, hb1, hz1⟩
  obtain ⟨G1, hG1, hAG1, hBG1⟩ : ∃ G, V0.heap.size = G ∧ V0.heap.size ≤ G ∧ G ≤ V0.heap.size := ⟨_, rfl, Nat.le_refl _, Nat.le_refl _⟩
  obtain ⟨H1, hH1, hAH1, hBH1⟩ : ∃ G, w1.heap.size = G ∧ w1.heap.size ≤ G ∧ G ≤ w1.heap.size := ⟨_, rfl, Nat.le_refl _, Nat.le_refl _⟩
  rw [hG1] at ho1 hz1 zv0 hb1
  rw [hH1] at ho1 hz1
  rw [hG1]
  have XA : Hid (X4 w1 w.heap.size (.slice s1 d.codes.length c1) (.slice s2 d.cores.length c2) (.slice s3 d.mem.length c3) (.slice s4 d.tr.length c4)) := xa0.keep hb1 (by omega)
  have XB : Hid (X4 w1 (w.heap.size + 1) (.slice none 0 0) (.slice none 0 0) (.slice none 0 0) (.slice none 0 0)) := xb0.keep hb1 (by omega)
  have XC : Hid (X4 w1 (w.heap.size + 1 + 1) (.slice none 0 0) (.slice none 0 0) (.slice none 0 0) (.slice none 0 0)) := xc0.keep hb1 (by omega)
  have o1 : GO w1 G1 H1 (some ⟨G1, 0, none⟩) TC RC (d.codes.map codeV) := ho1
  have kw : Below w.heap.size w w1 := kv0.trans (hb1.mono (by omega))
  clear hb1 xa0 xb0 xc0 kv0 ho1 hH1 hG1
  obtain ⟨za, ya0, ya1, ya2, ya3⟩ := XA.out.x
  obtain ⟨zb, yb0, yb1, yb2, yb3⟩ := XB.out.x
  obtain ⟨zc, yc0, yc1, yc2, yc3⟩ := XC.out.x
  have fb := XB.out.fz
  have fc := XC.out.fz
  have HO : Hid (GO w1 G1 H1 (some ⟨G1, 0, none⟩) TC RC (d.codes.map codeV) ∧ True) := ⟨o1, trivial⟩
  clear o1
  have HK : Hid (Below w.heap.size w w1) := kw
  clear kw
  go_wp2_with fail
  obtain ⟨V1, hV⟩ : ∃ V, w1.setCell ⟨w.heap.size + 1 + 1, 0, none⟩ (.slice (some ⟨G1, 0, none⟩) d.codes.length d.codes.length) = V := ⟨_, rfl⟩
  have kv1 : Below w.heap.size w V1 := by rw [← hV]; exact HK.out.setCell (p := ⟨w.heap.size + 1 + 1, 0, none⟩) (by simp; omega) _
  have xa1 : X4 V1 w.heap.size (.slice s1 d.codes.length c1) (.slice s2 d.cores.length c2) (.slice s3 d.mem.length c3) (.slice s4 d.tr.length c4) := by rw [← hV]; exact XA.out.off (by omega)
  have xb1 : X4 V1 (w.heap.size + 1) (.slice none 0 0) (.slice none 0 0) (.slice none 0 0) (.slice none 0 0) := by rw [← hV]; exact XB.out.off (by omega)
  have xc1 : X4 V1 (w.heap.size + 1 + 1) (.slice (some ⟨G1, 0, none⟩) d.codes.length d.codes.length) (.slice none 0 0) (.slice none 0 0) (.slice none 0 0) := by rw [← hV]; exact XC.out.set0
  have far : ∀ b, b ≠ w.heap.size + 1 + 1 → V1.heap[b]? = w1.heap[b]? := fun b hb => by rw [← hV]; exact Below.heap_setCell _ _ _ b hb
  have zv1 : H1 ≤ V1.heap.size := by rw [← hV]; simp; omega
  obtain ⟨o1, -⟩ := HO.out
  have o1 := o1.keep (w' := V1) (fun b h1 h2 => far b (by omega))
  rw [hV]
  clear hV XA XB XC ya0 ya1 ya2 ya3 yb0 yb1 yb2 yb3 yc0 yc1 yc2 yc3 fb fc za zb zc HO HK far
  refine (toCoreS_own s2 c2 lo hi d.cores V1 (H.out.keep (Keep.of_below kv1 hB)).2.1 (by omega) F2).mono ?_
  rintro e w2 ⟨RK, rfl, ho2, hb2, hz2⟩
  obtain ⟨G2, hG2, hAG2, hBG2⟩ : ∃ G, V1.heap.size = G ∧ V1.heap.size ≤ G ∧ G ≤ V1.heap.size := ⟨_, rfl, Nat.le_refl _, Nat.le_refl _⟩
  obtain ⟨H2, hH2, hAH2, hBH2⟩ : ∃ G, w2.heap.size = G ∧ w2.heap.size ≤ G ∧ G ≤ w2.heap.size := ⟨_, rfl, Nat.le_refl _, Nat.le_refl _⟩
  rw [hG2] at ho2 hz2 zv1 hb2
  rw [hH2] at ho2 hz2
  obtain ⟨L2, hL2⟩ : ∃ L, L = G2 := ⟨_, rfl⟩
  rw [hG2]
  rw [← hL2] at hz2 zv1 hb2
  have XA : Hid (X4 w2 w.heap.size (.slice s1 d.codes.length c1) (.slice s2 d.cores.length c2) (.slice s3 d.mem.length c3) (.slice s4 d.tr.length c4)) := xa1.keep hb2 (by omega)
  have XB : Hid (X4 w2 (w.heap.size + 1) (.slice none 0 0) (.slice none 0 0) (.slice none 0 0) (.slice none 0 0)) := xb1.keep hb2 (by omega)
  have XC : Hid (X4 w2 (w.heap.size + 1 + 1) (.slice (some ⟨G1, 0, none⟩) d.codes.length d.codes.length) (.slice none 0 0) (.slice none 0 0) (.slice none 0 0)) := xc1.keep hb2 (by omega)
  have o1 := o1.keep (Keep.of_below hb2 (by omega))
  have o2 : GO w2 L2 H2 (some ⟨G2, 0, none⟩) TK RK (d.cores.map coreV) := by
    have q := ho2
    rw [← hL2] at q ⊢
    exact q
  have kw : Below w.heap.size w w2 := kv1.trans (hb2.mono (by omega))
  clear hb2 xa1 xb1 xc1 kv1 ho2 hH2 hG2
  obtain ⟨za, ya0, ya1, ya2, ya3⟩ := XA.out.x
  obtain ⟨zb, yb0, yb1, yb2, yb3⟩ := XB.out.x
  obtain ⟨zc, yc0, yc1, yc2, yc3⟩ := XC.out.x
  have fb := XB.out.fz
  have fc := XC.out.fz
  have HO : Hid (GO w2 G1 H1 (some ⟨G1, 0, none⟩) TC RC (d.codes.map codeV) ∧ GO w2 L2 H2 (some ⟨G2, 0, none⟩) TK RK (d.cores.map coreV) ∧ True) := ⟨o1, o2, trivial⟩
  clear o1 o2
  have HK : Hid (Below w.heap.size w w2) := kw
  clear kw
  go_wp2_with fail
  obtain ⟨V2, hV⟩ : ∃ V, w2.setCell ⟨w.heap.size + 1 + 1, 1, none⟩ (.slice (some ⟨G2, 0, none⟩) d.cores.length d.cores.length) = V := ⟨_, rfl⟩
  have kv2 : Below w.heap.size w V2 := by rw [← hV]; exact HK.out.setCell (p := ⟨w.heap.size + 1 + 1, 1, none⟩) (by simp; omega) _
  have xa2 : X4 V2 w.heap.size (.slice s1 d.codes.length c1) (.slice s2 d.cores.length c2) (.slice s3 d.mem.length c3) (.slice s4 d.tr.length c4) := by rw [← hV]; exact XA.out.off (by omega)
  have xb2 : X4 V2 (w.heap.size + 1) (.slice none 0 0) (.slice none 0 0) (.slice none 0 0) (.slice none 0 0) := by rw [← hV]; exact XB.out.off (by omega)
  have xc2 : X4 V2 (w.heap.size + 1 + 1) (.slice (some ⟨G1, 0, none⟩) d.codes.length d.codes.length) (.slice (some ⟨G2, 0, none⟩) d.cores.length d.cores.length) (.slice none 0 0) (.slice none 0 0) := by rw [← hV]; exact XC.out.set1
  have far : ∀ b, b ≠ w.heap.size + 1 + 1 → V2.heap[b]? = w2.heap[b]? := fun b hb => by rw [← hV]; exact Below.heap_setCell _ _ _ b hb
  have zv2 : H2 ≤ V2.heap.size := by rw [← hV]; simp; omega
  obtain ⟨o1, o2, -⟩ := HO.out
  have o1 := o1.keep (w' := V2) (fun b h1 h2 => far b (by omega))
  have o2 := o2.keep (w' := V2) (fun b h1 h2 => far b (by omega))
  rw [hV]
  clear hV XA XB XC ya0 ya1 ya2 ya3 yb0 yb1 yb2 yb3 yc0 yc1 yc2 yc3 fb fc za zb zc HO HK far
  refine (toMemory_own s3 c3 lo hi d.mem V2 (H.out.keep (Keep.of_below kv2 hB)).2.2.1 (by omega) F3).mono ?_
  rintro e w3 ⟨G3, S, rfl, ho3, hb3, hz3⟩
  obtain ⟨L3, hL3, hAL3, hBL3⟩ : ∃ G, V2.heap.size = G ∧ V2.heap.size ≤ G ∧ G ≤ V2.heap.size := ⟨_, rfl, Nat.le_refl _, Nat.le_refl _⟩
  obtain ⟨H3, hH3, hAH3, hBH3⟩ : ∃ G, w3.heap.size = G ∧ w3.heap.size ≤ G ∧ G ≤ w3.heap.size := ⟨_, rfl, Nat.le_refl _, Nat.le_refl _⟩
  rw [hL3] at ho3 hz3 zv2 hb3
  rw [hH3] at ho3 hz3
  have XA : Hid (X4 w3 w.heap.size (.slice s1 d.codes.length c1) (.slice s2 d.cores.length c2) (.slice s3 d.mem.length c3) (.slice s4 d.tr.length c4)) := xa2.keep hb3 (by omega)
  have XB : Hid (X4 w3 (w.heap.size + 1) (.slice none 0 0) (.slice none 0 0) (.slice none 0 0) (.slice none 0 0)) := xb2.keep hb3 (by omega)
  have XC : Hid (X4 w3 (w.heap.size + 1 + 1) (.slice (some ⟨G1, 0, none⟩) d.codes.length d.codes.length) (.slice (some ⟨G2, 0, none⟩) d.cores.length d.cores.length) (.slice none 0 0) (.slice none 0 0)) := xc2.keep hb3 (by omega)
  have o1 := o1.keep (Keep.of_below hb3 (by omega))
  have o2 := o2.keep (Keep.of_below hb3 (by omega))
  have o3 : MO w3 L3 H3 (some ⟨G3, 0, none⟩) S d.mem := ho3
  have kw : Below w.heap.size w w3 := kv2.trans (hb3.mono (by omega))
  clear hb3 xa2 xb2 xc2 kv2 ho3 hH3 hL3
  obtain ⟨za, ya0, ya1, ya2, ya3⟩ := XA.out.x
  obtain ⟨zb, yb0, yb1, yb2, yb3⟩ := XB.out.x
  obtain ⟨zc, yc0, yc1, yc2, yc3⟩ := XC.out.x
  have fb := XB.out.fz
  have fc := XC.out.fz
  have HO : Hid (GO w3 G1 H1 (some ⟨G1, 0, none⟩) TC RC (d.codes.map codeV) ∧ GO w3 L2 H2 (some ⟨G2, 0, none⟩) TK RK (d.cores.map coreV) ∧ MO w3 L3 H3 (some ⟨G3, 0, none⟩) S d.mem ∧ True) := ⟨o1, o2, o3, trivial⟩
  clear o1 o2 o3
  have HK : Hid (Below w.heap.size w w3) := kw
  clear kw
  go_wp2_with fail
  obtain ⟨V3, hV⟩ : ∃ V, w3.setCell ⟨w.heap.size + 1 + 1, 2, none⟩ (.slice (some ⟨G3, 0, none⟩) d.mem.length d.mem.length) = V := ⟨_, rfl⟩
  have kv3 : Below w.heap.size w V3 := by rw [← hV]; exact HK.out.setCell (p := ⟨w.heap.size + 1 + 1, 2, none⟩) (by simp; omega) _
  have xa3 : X4 V3 w.heap.size (.slice s1 d.codes.length c1) (.slice s2 d.cores.length c2) (.slice s3 d.mem.length c3) (.slice s4 d.tr.length c4) := by rw [← hV]; exact XA.out.off (by omega)
  have xb3 : X4 V3 (w.heap.size + 1) (.slice none 0 0) (.slice none 0 0) (.slice none 0 0) (.slice none 0 0) := by rw [← hV]; exact XB.out.off (by omega)
  have xc3 : X4 V3 (w.heap.size + 1 + 1) (.slice (some ⟨G1, 0, none⟩) d.codes.length d.codes.length) (.slice (some ⟨G2, 0, none⟩) d.cores.length d.cores.length) (.slice (some ⟨G3, 0, none⟩) d.mem.length d.mem.length) (.slice none 0 0) := by rw [← hV]; exact XC.out.set2
  have far : ∀ b, b ≠ w.heap.size + 1 + 1 → V3.heap[b]? = w3.heap[b]? := fun b hb => by rw [← hV]; exact Below.heap_setCell _ _ _ b hb
  have zv3 : H3 ≤ V3.heap.size := by rw [← hV]; simp; omega
  obtain ⟨o1, o2, o3, -⟩ := HO.out
  have o1 := o1.keep (w' := V3) (fun b h1 h2 => far b (by omega))
  have o2 := o2.keep (w' := V3) (fun b h1 h2 => far b (by omega))
  have o3 := o3.keep (w' := V3) (fun b h1 h2 => far b (by omega))
  rw [hV]
  clear hV XA XB XC ya0 ya1 ya2 ya3 yb0 yb1 yb2 yb3 yc0 yc1 yc2 yc3 fb fc za zb zc HO HK far
  refine (toNoteS_own s4 c4 lo hi d.tr V3 (H.out.keep (Keep.of_below kv3 hB)).2.2.2 (by omega) F4).mono ?_
  rintro e w4 ⟨rfl, ho4, hb4, hz4⟩
  obtain ⟨G4, hG4, hAG4, hBG4⟩ : ∃ G, V3.heap.size = G ∧ V3.heap.size ≤ G ∧ G ≤ V3.heap.size := ⟨_, rfl, Nat.le_refl _, Nat.le_refl _⟩
  obtain ⟨H4, hH4, hAH4, hBH4⟩ : ∃ G, w4.heap.size = G ∧ w4.heap.size ≤ G ∧ G ≤ w4.heap.size := ⟨_, rfl, Nat.le_refl _, Nat.le_refl _⟩
  have ho4 := OwnD.vo ho4 rfl
  rw [hG4] at ho4 hz4 zv3 hb4
  rw [hH4] at ho4 hz4
  obtain ⟨L4, hL4⟩ : ∃ L, L = G4 := ⟨_, rfl⟩
  rw [hG4]
  rw [← hL4] at hz4 zv3 hb4
  have XA : Hid (X4 w4 w.heap.size (.slice s1 d.codes.length c1) (.slice s2 d.cores.length c2) (.slice s3 d.mem.length c3) (.slice s4 d.tr.length c4)) := xa3.keep hb4 (by omega)
  have XB : Hid (X4 w4 (w.heap.size + 1) (.slice none 0 0) (.slice none 0 0) (.slice none 0 0) (.slice none 0 0)) := xb3.keep hb4 (by omega)
  have XC : Hid (X4 w4 (w.heap.size + 1 + 1) (.slice (some ⟨G1, 0, none⟩) d.codes.length d.codes.length) (.slice (some ⟨G2, 0, none⟩) d.cores.length d.cores.length) (.slice (some ⟨G3, 0, none⟩) d.mem.length d.mem.length) (.slice none 0 0)) := xc3.keep hb4 (by omega)
  have o1 := o1.keep (Keep.of_below hb4 (by omega))
  have o2 := o2.keep (Keep.of_below hb4 (by omega))
  have o3 := o3.keep (Keep.of_below hb4 (by omega))
  have o4 : VO w4 L4 H4 ((⟨some ⟨G4, 0, none⟩, d.tr.length, d.tr.length⟩ : VS).wide 2) (fl2 d.tr) := by
    have q := ho4
    rw [← hL4] at q ⊢
    exact q
  have kw : Below w.heap.size w w4 := kv3.trans (hb4.mono (by omega))
  clear hb4 xa3 xb3 xc3 kv3 ho4 hH4 hG4
  obtain ⟨za, ya0, ya1, ya2, ya3⟩ := XA.out.x
  obtain ⟨zb, yb0, yb1, yb2, yb3⟩ := XB.out.x
  obtain ⟨zc, yc0, yc1, yc2, yc3⟩ := XC.out.x
  have fb := XB.out.fz
  have fc := XC.out.fz
  have HO : Hid (GO w4 G1 H1 (some ⟨G1, 0, none⟩) TC RC (d.codes.map codeV) ∧ GO w4 L2 H2 (some ⟨G2, 0, none⟩) TK RK (d.cores.map coreV) ∧ MO w4 L3 H3 (some ⟨G3, 0, none⟩) S d.mem ∧ VO w4 L4 H4 ((⟨some ⟨G4, 0, none⟩, d.tr.length, d.tr.length⟩ : VS).wide 2) (fl2 d.tr) ∧ True) := ⟨o1, o2, o3, o4, trivial⟩
  clear o1 o2 o3 o4
  have HK : Hid (Below w.heap.size w w4) := kw
  clear kw
  go_wp2
  obtain ⟨U, hU, fin, kz, sz⟩ : ∃ U, (((((w4.setCell ⟨w.heap.size + 1 + 1, 3, none⟩ (.slice (some ⟨G4, 0, none⟩) d.tr.length d.tr.length)).setCell ⟨w.heap.size + 1, 0, none⟩ (.slice (some ⟨G1, 0, none⟩) d.codes.length d.codes.length)).setCell ⟨w.heap.size + 1, 1, none⟩ (.slice (some ⟨G2, 0, none⟩) d.cores.length d.cores.length)).setCell ⟨w.heap.size + 1, 2, none⟩ (.slice (some ⟨G3, 0, none⟩) d.mem.length d.mem.length)).setCell ⟨w.heap.size + 1, 3, none⟩ (.slice (some ⟨G4, 0, none⟩) d.tr.length d.tr.length)) = U ∧ (∀ k, w.heap.size + 3 ≤ k → U.heap[k]? = w4.heap[k]?) ∧ Below w.heap.size w U ∧ U.heap.size = w4.heap.size := by
    refine ⟨_, rfl, fun k hk => ?_, ?_, ?_⟩
    · rw [Below.heap_setCell _ _ _ k (by simp; omega), Below.heap_setCell _ _ _ k (by simp; omega), Below.heap_setCell _ _ _ k (by simp; omega), Below.heap_setCell _ _ _ k (by simp; omega), Below.heap_setCell _ _ _ k (by simp; omega)]
    · refine Below.setCell (Below.setCell (Below.setCell (Below.setCell (Below.setCell HK.out ?_ _) ?_ _) ?_ _) ?_ _) ?_ _ <;> simp <;> omega
    · simp
  obtain ⟨o1, o2, o3, o4, -⟩ := HO.out
  have kp : ∀ {a b : Nat}, w.heap.size + 3 ≤ a → Keep a b w4 U := fun h k h1 h2 => fin k (by omega)
  have mo : MaO U w.heap.size U.heap.size ⟨some ⟨G1, 0, none⟩, d.codes.length, RC, some ⟨G2, 0, none⟩, d.cores.length, RK, some ⟨G3, 0, none⟩, d.mem.length, S, some ⟨G4, 0, none⟩, d.tr.length⟩ d :=
    MaO.of ((o1.keep (kp (by omega))).mono (lo' := w.heap.size) (hi' := L2) (by omega) (by omega)) ((o2.keep (kp (by omega))).mono (hi' := L3) (Nat.le_refl _) (by omega)) ((o3.keep (kp (by omega))).mono (hi' := L4) (Nat.le_refl _) (by omega)) ((o4.keep (kp (by omega))).mono (hi' := U.heap.size) (Nat.le_refl _) (by omega)) (by omega) (by omega) (by omega) (by omega) (vAs_nodup rfl)
  refine bodyPost_ret (v := .agg #[.slice (some ⟨G1, 0, none⟩) d.codes.length d.codes.length, .slice (some ⟨G2, 0, none⟩) d.cores.length d.cores.length, .slice (some ⟨G3, 0, none⟩) d.mem.length d.mem.length, .slice (some ⟨G4, 0, none⟩) d.tr.length d.tr.length]) (by simp [results, Try.results7, go_sem, yb0, yb1, yb2, yb3]) rfl ?_
  rw [hU]
  exact ⟨⟨some ⟨G1, 0, none⟩, d.codes.length, RC, some ⟨G2, 0, none⟩, d.cores.length, RK, some ⟨G3, 0, none⟩, d.mem.length, S, some ⟨G4, 0, none⟩, d.tr.length⟩, rfl, mo, kz, by omega⟩

end Go.Proofs.Ytfdgjjahojkgfaa
