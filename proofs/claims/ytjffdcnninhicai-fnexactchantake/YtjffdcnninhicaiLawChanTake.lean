/- The law FnExactChanTake of the given statements: at every argument the program answers as the specification, writes into no argument, its answer owns its memory. No condition. -/
import Derived.Test.YtjffdcnninhicaiChTake
import Derived.Test.YtjffdcnninhicaiChFrame
namespace Go.Proofs.Ytjffdcnninhicai
set_option linter.unusedSimpArgs false
set_option linter.unusedVariables false
set_option maxRecDepth 100000
open Go.ChangeShapes Go.WideShapes Go.ChangeAt Go.RowKit

set_option maxHeartbeats 8000000 in
theorem walkTake (cap : Int) (s : Option Addr) (l : List Int) (c : Nat) (cl : Bool) (w : World) (hr : RowI w w.heap.size s l) (hm : l.length ≤ maxLen) : Calls Try.prog 5 #[.agg #[.int .i64 cap, .slice s l.length c, .bool cl]] w fun e w' => e = .returned (.bool true) ∧ Below w.heap.size w w' := by
  by_cases hbig : (1048576 : Int) - (l.length : Int) < 0
  · have HL : Hid (leftI 1048576 l.length = -1) := leftI_neg hbig
    clear hbig
    go_enter Try.func5, Try.ntmps5
    go_wp2_with (go_at_call 8; refine (szChan_any cap s l.length c cl 1048576 _ hm (by omega) (by omega)).mono ?_; rintro e w1 ⟨rfl, hb1⟩; rw [HL.out]; have K1 := ((Below.refl w.heap.size w).alloc (Nat.le_refl _) (.cells #[.int .i64 cap, .slice s l.length c, .bool cl] 24)).trans (hb1.mono (by simp)); clear hb1)
    go_ret
    exact ⟨rfl, K1⟩
  have hp : 0 ≤ leftI 1048576 l.length := by rw [leftI_pos hbig]; omega
  have hl : l.length ≤ 1048576 := by omega
  clear hbig
  have S : Hid (∀ s c w, RowI w w.heap.size s l → l.length ≤ c → Calls Try.prog 17 #[.agg #[.int .i64 cap, .slice s l.length c, .bool cl]] w fun e w' => ∃ u, e = .returned (.tuple #[.agg #[.int .i64 cap, u, .bool cl], .int .i64 (takeV cap l), .int .i64 (takeK cap l cl)]) ∧ OwnN w' w.heap.size u (takeL cap l) ∧ Below w.heap.size w w' ∧ w.heap.size < w'.heap.size) := fun s c w h hc => specTake_any cap s l c cl w h (by omega) hc
  have I : Hid (∀ s c w, RowI w w.heap.size s l → l.length ≤ c → Calls Try.prog 18 #[.agg #[.int .i64 cap, .slice s l.length c, .bool cl]] w fun e w' => ∃ u, e = .returned (.tuple #[.agg #[.int .i64 cap, u, .bool cl], .int .i64 (takeV cap l), .int .i64 (takeK cap l cl)]) ∧ OwnN w' w.heap.size u (takeL cap l) ∧ Below w.heap.size w w' ∧ w.heap.size < w'.heap.size) := fun s c w h hc => implTake_any cap s l c cl w h (by omega)
  have hL : (takeL cap l).length ≤ 1048577 := by unfold takeL; split; (simp; omega); omega
  generalize (takeL cap l) = L at S I hL
  generalize ((takeV cap l)) = ka at S I
  have hka : (ka != ka) = false := by simp
  generalize ((takeK cap l cl)) = kb at S I
  have hkb : (kb != kb) = false := by simp
  have hq1 : ((1 : Int) + (L.length : Int) != 1 + (L.length : Int)) = false := by simp
  have hq2 : ¬ ((1 : Int) + (L.length : Int) < 0) := by omega
  have hq3 : ¬ ((1 : Int) + (l.length : Int) < 0) := by omega
  go_enter Try.func5, Try.ntmps5
  go_wp2_with fail
  obtain ⟨W0, hW0, bx0, kb0, sz0⟩ := box1 w (.int .i64 cap) (.slice s l.length c) (.bool cl) 24
  rw [hW0]
  clear hW0
  have HK : Hid (Below w.heap.size w W0) := kb0
  have HA : Hid (Box1 w.heap.size W0 (.int .i64 cap) (.slice s l.length c) (.bool cl)) := bx0
  have HR : Hid (RowI W0 w.heap.size s l) := hr.below kb0
  clear bx0 kb0
  refine (szChan_any cap s l.length c cl 1048576 W0 hm (by omega) (by omega)).mono ?_
  rintro e w1 ⟨rfl, hb1⟩
  have z1 := hb1.size
  have JK : Hid (Below w.heap.size w w1) := HK.out.trans (hb1.mono (by omega))
  have JA : Hid (Box1 w.heap.size w1 (.int .i64 cap) (.slice s l.length c) (.bool cl)) := HA.out.keep (hb1.block _ HA.out.z) hb1.size
  have JR : Hid (RowI w1 w.heap.size s l) := HR.out.keep (fun k hk => hb1.block k (by omega))
  clear HK
  have HK := JK
  clear JK
  clear HA
  have HA := JA
  clear JA
  clear HR
  have HR := JR
  clear JR
  clear hb1
  obtain ⟨A0, A1, A2, Af, Az⟩ := HA.out
  go_wp2_with fail
  refine (toChan_any cap s l c w.heap.size cl w1 HR.out (by omega) hl).mono ?_
  rintro e w2 ⟨s2, rfl, hb2, z2, n2⟩
  clear A0 A1 A2 Af Az
  have JK : Hid (Below w.heap.size w w2) := HK.out.trans (hb2.mono (by omega))
  have JA : Hid (Box1 w.heap.size w2 (.int .i64 cap) (.slice s l.length c) (.bool cl)) := HA.out.keep (hb2.block _ HA.out.z) hb2.size
  have JR : Hid (RowI w2 w.heap.size s l) := HR.out.keep (fun k hk => hb2.block k (by omega))
  clear HK
  have HK := JK
  clear JK
  clear HA
  have HA := JA
  clear JA
  clear HR
  have HR := JR
  clear JR
  have HT2 : Hid (NewI w2 w1.heap.size w2.heap.size s2 l) := n2
  clear hb2 n2
  obtain ⟨A0, A1, A2, Af, Az⟩ := HA.out
  go_wp2_with fail
  refine (S.out s2 l.length w2 HT2.out.row (Nat.le_refl _)).mono ?_
  rintro e w3 ⟨u3, rfl, o3, hb3, z3⟩
  obtain ⟨s3, c3, rfl⟩ := o3.sl
  clear HT2
  clear A0 A1 A2 Af Az
  have JK : Hid (Below w.heap.size w w3) := HK.out.trans (hb3.mono (by omega))
  have JA : Hid (Box1 w.heap.size w3 (.int .i64 cap) (.slice s l.length c) (.bool cl)) := HA.out.keep (hb3.block _ HA.out.z) hb3.size
  have JR : Hid (RowI w3 w.heap.size s l) := HR.out.keep (fun k hk => hb3.block k (by omega))
  clear HK
  have HK := JK
  clear JK
  clear HA
  have HA := JA
  clear JA
  clear HR
  have HR := JR
  clear JR
  have HQ : Hid (RowI w3 w3.heap.size s3 L) := o3.new.row
  clear hb3 o3
  obtain ⟨A0, A1, A2, Af, Az⟩ := HA.out
  go_wp2_with fail
  clear A0 A1 A2 Af Az
  obtain ⟨W3, hW3, bx3, kb3, sz3⟩ := box1 w3 (.int .i64 cap) (.slice s3 L.length c3) (.bool cl) 27
  rw [hW3]
  clear hW3
  have JK : Hid (Below w.heap.size w W3) := HK.out.trans (kb3.mono (by omega))
  have JA : Hid (Box1 w.heap.size W3 (.int .i64 cap) (.slice s l.length c) (.bool cl)) := HA.out.keep (kb3.block _ HA.out.z) kb3.size
  have JR : Hid (RowI W3 w.heap.size s l) := HR.out.keep (fun k hk => kb3.block k (by omega))
  have JQ : Hid (RowI W3 w3.heap.size s3 L) := HQ.out.keep (fun k hk => kb3.block k (by omega))
  clear HK
  have HK := JK
  clear JK
  clear HA
  have HA := JA
  clear JA
  clear HR
  have HR := JR
  clear JR
  clear HQ
  have HQ := JQ
  clear JQ
  have HF : Hid (Box1 w3.heap.size W3 (.int .i64 cap) (.slice s3 L.length c3) (.bool cl)) := bx3
  clear bx3 kb3
  obtain ⟨A0, A1, A2, Af, Az⟩ := HA.out
  obtain ⟨F0, F1, F2, Ff, Fz⟩ := HF.out
  refine (toChan_any cap s l c w.heap.size cl W3 HR.out (by omega) hl).mono ?_
  rintro e w4 ⟨s4, rfl, hb4, z4, n4⟩
  clear A0 A1 A2 Af Az
  clear F0 F1 F2 Ff Fz
  have JK : Hid (Below w.heap.size w w4) := HK.out.trans (hb4.mono (by omega))
  have JA : Hid (Box1 w.heap.size w4 (.int .i64 cap) (.slice s l.length c) (.bool cl)) := HA.out.keep (hb4.block _ HA.out.z) hb4.size
  have JR : Hid (RowI w4 w.heap.size s l) := HR.out.keep (fun k hk => hb4.block k (by omega))
  have JQ : Hid (RowI w4 w3.heap.size s3 L) := HQ.out.keep (fun k hk => hb4.block k (by omega))
  have JF : Hid (Box1 w3.heap.size w4 (.int .i64 cap) (.slice s3 L.length c3) (.bool cl)) := HF.out.keep (hb4.block _ HF.out.z) hb4.size
  clear HK
  have HK := JK
  clear JK
  clear HA
  have HA := JA
  clear JA
  clear HR
  have HR := JR
  clear JR
  clear HQ
  have HQ := JQ
  clear JQ
  clear HF
  have HF := JF
  clear JF
  have HN : Hid (NewI w4 W3.heap.size w4.heap.size s4 l) := n4
  clear hb4 n4
  obtain ⟨A0, A1, A2, Af, Az⟩ := HA.out
  obtain ⟨F0, F1, F2, Ff, Fz⟩ := HF.out
  go_wp2_with fail
  clear A0 A1 A2 Af Az
  clear F0 F1 F2 Ff Fz
  obtain ⟨W4, hW4, bx4, kb4, sz4⟩ := box1 w4 (.int .i64 cap) (.slice s4 l.length l.length) (.bool cl) 27
  rw [hW4]
  clear hW4
  have JK : Hid (Below w.heap.size w W4) := HK.out.trans (kb4.mono (by omega))
  have JA : Hid (Box1 w.heap.size W4 (.int .i64 cap) (.slice s l.length c) (.bool cl)) := HA.out.keep (kb4.block _ HA.out.z) kb4.size
  have JR : Hid (RowI W4 w.heap.size s l) := HR.out.keep (fun k hk => kb4.block k (by omega))
  have JQ : Hid (RowI W4 w3.heap.size s3 L) := HQ.out.keep (fun k hk => kb4.block k (by omega))
  have JF : Hid (Box1 w3.heap.size W4 (.int .i64 cap) (.slice s3 L.length c3) (.bool cl)) := HF.out.keep (kb4.block _ HF.out.z) kb4.size
  have JN : Hid (NewI W4 W3.heap.size w4.heap.size s4 l) := HN.out.keep (fun k h1 h2 => kb4.block k (by omega))
  clear HK
  have HK := JK
  clear JK
  clear HA
  have HA := JA
  clear JA
  clear HR
  have HR := JR
  clear JR
  clear HQ
  have HQ := JQ
  clear JQ
  clear HF
  have HF := JF
  clear JF
  clear HN
  have HN := JN
  clear JN
  have HX : Hid (Box1 w4.heap.size W4 (.int .i64 cap) (.slice s4 l.length l.length) (.bool cl)) := bx4
  clear bx4 kb4
  obtain ⟨A0, A1, A2, Af, Az⟩ := HA.out
  obtain ⟨F0, F1, F2, Ff, Fz⟩ := HF.out
  obtain ⟨X0, X1, X2, Xf, Xz⟩ := HX.out
  refine (I.out s4 l.length W4 (HN.out.row.mono (by omega)) (Nat.le_refl _)).mono ?_
  rintro e w5 ⟨u5, rfl, o5, hb5, z5⟩
  obtain ⟨s5, c5, rfl⟩ := o5.sl
  clear A0 A1 A2 Af Az
  clear F0 F1 F2 Ff Fz
  clear X0 X1 X2 Xf Xz
  have JK : Hid (Below w.heap.size w w5) := HK.out.trans (hb5.mono (by omega))
  have JA : Hid (Box1 w.heap.size w5 (.int .i64 cap) (.slice s l.length c) (.bool cl)) := HA.out.keep (hb5.block _ HA.out.z) hb5.size
  have JR : Hid (RowI w5 w.heap.size s l) := HR.out.keep (fun k hk => hb5.block k (by omega))
  have JQ : Hid (RowI w5 w3.heap.size s3 L) := HQ.out.keep (fun k hk => hb5.block k (by omega))
  have JF : Hid (Box1 w3.heap.size w5 (.int .i64 cap) (.slice s3 L.length c3) (.bool cl)) := HF.out.keep (hb5.block _ HF.out.z) hb5.size
  have JN : Hid (NewI w5 W3.heap.size w4.heap.size s4 l) := HN.out.keep (fun k h1 h2 => hb5.block k (by omega))
  have JX : Hid (Box1 w4.heap.size w5 (.int .i64 cap) (.slice s4 l.length l.length) (.bool cl)) := HX.out.keep (hb5.block _ HX.out.z) hb5.size
  clear HK
  have HK := JK
  clear JK
  clear HA
  have HA := JA
  clear JA
  clear HR
  have HR := JR
  clear JR
  clear HQ
  have HQ := JQ
  clear JQ
  clear HF
  have HF := JF
  clear JF
  clear HN
  have HN := JN
  clear JN
  clear HX
  have HX := JX
  clear JX
  have HM : Hid (NewI w5 W4.heap.size w5.heap.size s5 L) := o5.new
  clear hb5 o5
  obtain ⟨A0, A1, A2, Af, Az⟩ := HA.out
  obtain ⟨F0, F1, F2, Ff, Fz⟩ := HF.out
  obtain ⟨X0, X1, X2, Xf, Xz⟩ := HX.out
  go_wp2_with fail
  clear A0 A1 A2 Af Az
  clear F0 F1 F2 Ff Fz
  clear X0 X1 X2 Xf Xz
  obtain ⟨W5, hW5, bx5, kb5, sz5⟩ := box1 w5 (.int .i64 cap) (.slice s5 L.length c5) (.bool cl) 27
  rw [hW5]
  clear hW5
  have JK : Hid (Below w.heap.size w W5) := HK.out.trans (kb5.mono (by omega))
  have JA : Hid (Box1 w.heap.size W5 (.int .i64 cap) (.slice s l.length c) (.bool cl)) := HA.out.keep (kb5.block _ HA.out.z) kb5.size
  have JR : Hid (RowI W5 w.heap.size s l) := HR.out.keep (fun k hk => kb5.block k (by omega))
  have JQ : Hid (RowI W5 w3.heap.size s3 L) := HQ.out.keep (fun k hk => kb5.block k (by omega))
  have JF : Hid (Box1 w3.heap.size W5 (.int .i64 cap) (.slice s3 L.length c3) (.bool cl)) := HF.out.keep (kb5.block _ HF.out.z) kb5.size
  have JN : Hid (NewI W5 W3.heap.size w4.heap.size s4 l) := HN.out.keep (fun k h1 h2 => kb5.block k (by omega))
  have JX : Hid (Box1 w4.heap.size W5 (.int .i64 cap) (.slice s4 l.length l.length) (.bool cl)) := HX.out.keep (kb5.block _ HX.out.z) kb5.size
  have JM : Hid (NewI W5 W4.heap.size w5.heap.size s5 L) := HM.out.keep (fun k h1 h2 => kb5.block k (by omega))
  clear HK
  have HK := JK
  clear JK
  clear HA
  have HA := JA
  clear JA
  clear HR
  have HR := JR
  clear JR
  clear HQ
  have HQ := JQ
  clear JQ
  clear HF
  have HF := JF
  clear JF
  clear HN
  have HN := JN
  clear JN
  clear HX
  have HX := JX
  clear JX
  clear HM
  have HM := JM
  clear JM
  have HY : Hid (Box1 w5.heap.size W5 (.int .i64 cap) (.slice s5 L.length c5) (.bool cl)) := bx5
  clear bx5 kb5
  obtain ⟨A0, A1, A2, Af, Az⟩ := HA.out
  obtain ⟨F0, F1, F2, Ff, Fz⟩ := HF.out
  obtain ⟨X0, X1, X2, Xf, Xz⟩ := HX.out
  obtain ⟨Y0, Y1, Y2, Yf, Yz⟩ := HY.out
  refine (eqChan_same cap s5 s3 L c5 c3 w5.heap.size w3.heap.size cl W5 HM.out.row HQ.out (by omega) (by omega) (by omega)).mono ?_
  rintro e w6 ⟨rfl, hb6, z6⟩
  clear A0 A1 A2 Af Az
  clear F0 F1 F2 Ff Fz
  clear X0 X1 X2 Xf Xz
  clear Y0 Y1 Y2 Yf Yz
  have JK : Hid (Below w.heap.size w w6) := HK.out.trans (hb6.mono (by omega))
  have JA : Hid (Box1 w.heap.size w6 (.int .i64 cap) (.slice s l.length c) (.bool cl)) := HA.out.keep (hb6.block _ HA.out.z) hb6.size
  have JR : Hid (RowI w6 w.heap.size s l) := HR.out.keep (fun k hk => hb6.block k (by omega))
  have JQ : Hid (RowI w6 w3.heap.size s3 L) := HQ.out.keep (fun k hk => hb6.block k (by omega))
  have JF : Hid (Box1 w3.heap.size w6 (.int .i64 cap) (.slice s3 L.length c3) (.bool cl)) := HF.out.keep (hb6.block _ HF.out.z) hb6.size
  have JN : Hid (NewI w6 W3.heap.size w4.heap.size s4 l) := HN.out.keep (fun k h1 h2 => hb6.block k (by omega))
  have JX : Hid (Box1 w4.heap.size w6 (.int .i64 cap) (.slice s4 l.length l.length) (.bool cl)) := HX.out.keep (hb6.block _ HX.out.z) hb6.size
  have JM : Hid (NewI w6 W4.heap.size w5.heap.size s5 L) := HM.out.keep (fun k h1 h2 => hb6.block k (by omega))
  have JY : Hid (Box1 w5.heap.size w6 (.int .i64 cap) (.slice s5 L.length c5) (.bool cl)) := HY.out.keep (hb6.block _ HY.out.z) hb6.size
  clear HK
  have HK := JK
  clear JK
  clear HA
  have HA := JA
  clear JA
  clear HR
  have HR := JR
  clear JR
  clear HQ
  have HQ := JQ
  clear JQ
  clear HF
  have HF := JF
  clear JF
  clear HN
  have HN := JN
  clear JN
  clear HX
  have HX := JX
  clear JX
  clear HM
  have HM := JM
  clear JM
  clear HY
  have HY := JY
  clear JY
  clear hb6
  obtain ⟨A0, A1, A2, Af, Az⟩ := HA.out
  obtain ⟨F0, F1, F2, Ff, Fz⟩ := HF.out
  obtain ⟨X0, X1, X2, Xf, Xz⟩ := HX.out
  obtain ⟨Y0, Y1, Y2, Yf, Yz⟩ := HY.out
  go_wp2_with fail
  go_region_held3 (fun w' => w'.cell? ⟨w4.heap.size, 0, none⟩ = some (.int .i64 cap) ∧ w'.cell? ⟨w4.heap.size, 1, none⟩ = some (.slice s4 l.length l.length) ∧ w'.cell? ⟨w4.heap.size, 2, none⟩ = some (.bool cl) ∧ w'.cell? ⟨w.heap.size, 0, none⟩ = some (.int .i64 cap) ∧ w'.cell? ⟨w.heap.size, 1, none⟩ = some (.slice s l.length c) ∧ w'.cell? ⟨w.heap.size, 2, none⟩ = some (.bool cl)) (go_keep) (first | (go_at_call 10; refine (toChan_any cap s l c w.heap.size cl w6.drew (HR.out.keep (w' := w6.drew) (fun _ _ => rfl)) (by show _ ≤ w6.heap.size; omega) hl).mono ?_; rintro e w7 ⟨s7, rfl, hb7, z7, n7⟩; have kx : Below w6.heap.size w6 w7 := (Below.drew (Below.refl _ _)).trans hb7; have XX := HX.out.keep (kx.block _ HX.out.z) kx.size; have AA := HA.out.keep (kx.block _ HA.out.z) kx.size; have x0' := XX.c0; have x1' := XX.c1; have x2' := XX.c2; have y0' := AA.c0; have y1' := AA.c1; have y2' := AA.c2) | (go_at_call 12; refine (eqChan_same cap s4 s7 l l.length l.length w4.heap.size w7.heap.size cl w7 (HN.out.row.keep (fun k hk => kx.block k (by omega))) n7.row (by have := kx.size; omega) (Nat.le_refl _) (by omega)).mono ?_; rintro e w8 ⟨rfl, hb8, z8⟩; have XY := XX.keep (hb8.block _ XX.z) hb8.size; have AY := AA.keep (hb8.block _ AA.z) hb8.size; have x0'' := XY.c0; have x1'' := XY.c1; have x2'' := XY.c2; have y0'' := AY.c0; have y1'' := AY.c1; have y2'' := AY.c2))
  have zk := kx.size
  have hq : Below w6.heap.size w6 w8 := kx.trans (hb8.mono (by omega))
  have zq := hq.size
  clear x0' x1' x2' y0' y1' y2' x0'' x1'' x2'' y0'' y1'' y2'' XX AA XY AY kx n7 hb7 hb8
  clear A0 A1 A2 Af Az
  clear F0 F1 F2 Ff Fz
  clear X0 X1 X2 Xf Xz
  clear Y0 Y1 Y2 Yf Yz
  have JK : Hid (Below w.heap.size w w8) := HK.out.trans (hq.mono (by omega))
  have JA : Hid (Box1 w.heap.size w8 (.int .i64 cap) (.slice s l.length c) (.bool cl)) := HA.out.keep (hq.block _ HA.out.z) hq.size
  have JR : Hid (RowI w8 w.heap.size s l) := HR.out.keep (fun k hk => hq.block k (by omega))
  have JQ : Hid (RowI w8 w3.heap.size s3 L) := HQ.out.keep (fun k hk => hq.block k (by omega))
  have JF : Hid (Box1 w3.heap.size w8 (.int .i64 cap) (.slice s3 L.length c3) (.bool cl)) := HF.out.keep (hq.block _ HF.out.z) hq.size
  have JN : Hid (NewI w8 W3.heap.size w4.heap.size s4 l) := HN.out.keep (fun k h1 h2 => hq.block k (by omega))
  have JX : Hid (Box1 w4.heap.size w8 (.int .i64 cap) (.slice s4 l.length l.length) (.bool cl)) := HX.out.keep (hq.block _ HX.out.z) hq.size
  have JM : Hid (NewI w8 W4.heap.size w5.heap.size s5 L) := HM.out.keep (fun k h1 h2 => hq.block k (by omega))
  have JY : Hid (Box1 w5.heap.size w8 (.int .i64 cap) (.slice s5 L.length c5) (.bool cl)) := HY.out.keep (hq.block _ HY.out.z) hq.size
  clear HK
  have HK := JK
  clear JK
  clear HA
  have HA := JA
  clear JA
  clear HR
  have HR := JR
  clear JR
  clear HQ
  have HQ := JQ
  clear JQ
  clear HF
  have HF := JF
  clear JF
  clear HN
  have HN := JN
  clear JN
  clear HX
  have HX := JX
  clear JX
  clear HM
  have HM := JM
  clear JM
  clear HY
  have HY := JY
  clear JY
  clear hq
  obtain ⟨A0, A1, A2, Af, Az⟩ := HA.out
  obtain ⟨F0, F1, F2, Ff, Fz⟩ := HF.out
  obtain ⟨X0, X1, X2, Xf, Xz⟩ := HX.out
  obtain ⟨Y0, Y1, Y2, Yf, Yz⟩ := HY.out
  go_wp2_with fail
  refine (markChan_any cap s4 l l.length W3.heap.size w4.heap.size cl 1 w8 HN.out (by omega) (by omega) (by omega) (by omega) (by omega)).mono ?_
  rintro e w9 ⟨rfl, m9, ex9, z9⟩
  clear A0 A1 A2 Af Az
  clear F0 F1 F2 Ff Fz
  clear X0 X1 X2 Xf Xz
  clear Y0 Y1 Y2 Yf Yz
  have JK : Hid (Below w.heap.size w w9) := HK.out.trans (ex9.below (by omega) (by omega))
  have JA : Hid (Box1 w.heap.size w9 (.int .i64 cap) (.slice s l.length c) (.bool cl)) := HA.out.keep (ex9.block _ HA.out.z (by omega)) ex9.size
  have JR : Hid (RowI w9 w.heap.size s l) := HR.out.keep (fun k hk => ex9.block k (by omega) (by omega))
  have JQ : Hid (RowI w9 w3.heap.size s3 L) := HQ.out.keep (fun k hk => ex9.block k (by omega) (by omega))
  have JF : Hid (Box1 w3.heap.size w9 (.int .i64 cap) (.slice s3 L.length c3) (.bool cl)) := HF.out.keep (ex9.block _ HF.out.z (by omega)) ex9.size
  have JX : Hid (Box1 w4.heap.size w9 (.int .i64 cap) (.slice s4 l.length l.length) (.bool cl)) := HX.out.keep (ex9.block _ HX.out.z (by omega)) ex9.size
  have JM : Hid (NewI w9 W4.heap.size w5.heap.size s5 L) := HM.out.keep (fun k h1 h2 => ex9.block k (by omega) (by omega))
  have JY : Hid (Box1 w5.heap.size w9 (.int .i64 cap) (.slice s5 L.length c5) (.bool cl)) := HY.out.keep (ex9.block _ HY.out.z (by omega)) ex9.size
  clear HK
  have HK := JK
  clear JK
  clear HA
  have HA := JA
  clear JA
  clear HR
  have HR := JR
  clear JR
  clear HQ
  have HQ := JQ
  clear JQ
  clear HF
  have HF := JF
  clear JF
  clear HX
  have HX := JX
  clear JX
  clear HM
  have HM := JM
  clear JM
  clear HY
  have HY := JY
  clear JY
  clear ex9 m9 HN
  obtain ⟨A0, A1, A2, Af, Az⟩ := HA.out
  obtain ⟨F0, F1, F2, Ff, Fz⟩ := HF.out
  obtain ⟨X0, X1, X2, Xf, Xz⟩ := HX.out
  obtain ⟨Y0, Y1, Y2, Yf, Yz⟩ := HY.out
  go_wp2_with fail
  refine (eqChan_same cap s5 s3 L c5 c3 w5.heap.size w3.heap.size cl w9 HM.out.row HQ.out (by omega) (by omega) (by omega)).mono ?_
  rintro e w10 ⟨rfl, hb10, z10⟩
  clear A0 A1 A2 Af Az
  clear F0 F1 F2 Ff Fz
  clear X0 X1 X2 Xf Xz
  clear Y0 Y1 Y2 Yf Yz
  have JK : Hid (Below w.heap.size w w10) := HK.out.trans (hb10.mono (by omega))
  have JA : Hid (Box1 w.heap.size w10 (.int .i64 cap) (.slice s l.length c) (.bool cl)) := HA.out.keep (hb10.block _ HA.out.z) hb10.size
  have JR : Hid (RowI w10 w.heap.size s l) := HR.out.keep (fun k hk => hb10.block k (by omega))
  have JQ : Hid (RowI w10 w3.heap.size s3 L) := HQ.out.keep (fun k hk => hb10.block k (by omega))
  have JF : Hid (Box1 w3.heap.size w10 (.int .i64 cap) (.slice s3 L.length c3) (.bool cl)) := HF.out.keep (hb10.block _ HF.out.z) hb10.size
  have JX : Hid (Box1 w4.heap.size w10 (.int .i64 cap) (.slice s4 l.length l.length) (.bool cl)) := HX.out.keep (hb10.block _ HX.out.z) hb10.size
  have JM : Hid (NewI w10 W4.heap.size w5.heap.size s5 L) := HM.out.keep (fun k h1 h2 => hb10.block k (by omega))
  have JY : Hid (Box1 w5.heap.size w10 (.int .i64 cap) (.slice s5 L.length c5) (.bool cl)) := HY.out.keep (hb10.block _ HY.out.z) hb10.size
  clear HK
  have HK := JK
  clear JK
  clear HA
  have HA := JA
  clear JA
  clear HR
  have HR := JR
  clear JR
  clear HQ
  have HQ := JQ
  clear JQ
  clear HF
  have HF := JF
  clear JF
  clear HX
  have HX := JX
  clear JX
  clear HM
  have HM := JM
  clear JM
  clear HY
  have HY := JY
  clear JY
  clear hb10
  obtain ⟨A0, A1, A2, Af, Az⟩ := HA.out
  obtain ⟨F0, F1, F2, Ff, Fz⟩ := HF.out
  obtain ⟨X0, X1, X2, Xf, Xz⟩ := HX.out
  obtain ⟨Y0, Y1, Y2, Yf, Yz⟩ := HY.out
  go_wp2_with fail
  refine (markChan_any cap s5 L c5 W4.heap.size w5.heap.size cl 1 w10 HM.out (by omega) (by omega) (by omega) (by omega) (by omega)).mono ?_
  rintro e w11 ⟨rfl, m11, ex11, z11⟩
  clear A0 A1 A2 Af Az
  clear F0 F1 F2 Ff Fz
  clear X0 X1 X2 Xf Xz
  clear Y0 Y1 Y2 Yf Yz
  have JK : Hid (Below w.heap.size w w11) := HK.out.trans (ex11.below (by omega) (by omega))
  have JA : Hid (Box1 w.heap.size w11 (.int .i64 cap) (.slice s l.length c) (.bool cl)) := HA.out.keep (ex11.block _ HA.out.z (by omega)) ex11.size
  have JR : Hid (RowI w11 w.heap.size s l) := HR.out.keep (fun k hk => ex11.block k (by omega) (by omega))
  have JQ : Hid (RowI w11 w3.heap.size s3 L) := HQ.out.keep (fun k hk => ex11.block k (by omega) (by omega))
  have JF : Hid (Box1 w3.heap.size w11 (.int .i64 cap) (.slice s3 L.length c3) (.bool cl)) := HF.out.keep (ex11.block _ HF.out.z (by omega)) ex11.size
  have JX : Hid (Box1 w4.heap.size w11 (.int .i64 cap) (.slice s4 l.length l.length) (.bool cl)) := HX.out.keep (ex11.block _ HX.out.z (by omega)) ex11.size
  have JY : Hid (Box1 w5.heap.size w11 (.int .i64 cap) (.slice s5 L.length c5) (.bool cl)) := HY.out.keep (ex11.block _ HY.out.z (by omega)) ex11.size
  clear HK
  have HK := JK
  clear JK
  clear HA
  have HA := JA
  clear JA
  clear HR
  have HR := JR
  clear JR
  clear HQ
  have HQ := JQ
  clear JQ
  clear HF
  have HF := JF
  clear JF
  clear HX
  have HX := JX
  clear JX
  clear HY
  have HY := JY
  clear JY
  clear HM
  have HD : Hid (MarkI w11 W4.heap.size w5.heap.size s5 L.length 1) := m11
  clear ex11 m11
  obtain ⟨A0, A1, A2, Af, Az⟩ := HA.out
  obtain ⟨F0, F1, F2, Ff, Fz⟩ := HF.out
  obtain ⟨X0, X1, X2, Xf, Xz⟩ := HX.out
  obtain ⟨Y0, Y1, Y2, Yf, Yz⟩ := HY.out
  go_wp2_with fail
  refine (heldChan_any cap s5 L.length c5 W4.heap.size w5.heap.size cl 1 w11 HD.out (by omega) (by omega) (by omega) (by omega)).mono ?_
  rintro e w12 ⟨rfl, hb12, z12⟩
  clear A0 A1 A2 Af Az
  clear F0 F1 F2 Ff Fz
  clear X0 X1 X2 Xf Xz
  clear Y0 Y1 Y2 Yf Yz
  have JK : Hid (Below w.heap.size w w12) := HK.out.trans (hb12.mono (by omega))
  have JA : Hid (Box1 w.heap.size w12 (.int .i64 cap) (.slice s l.length c) (.bool cl)) := HA.out.keep (hb12.block _ HA.out.z) hb12.size
  have JR : Hid (RowI w12 w.heap.size s l) := HR.out.keep (fun k hk => hb12.block k (by omega))
  have JQ : Hid (RowI w12 w3.heap.size s3 L) := HQ.out.keep (fun k hk => hb12.block k (by omega))
  have JF : Hid (Box1 w3.heap.size w12 (.int .i64 cap) (.slice s3 L.length c3) (.bool cl)) := HF.out.keep (hb12.block _ HF.out.z) hb12.size
  have JX : Hid (Box1 w4.heap.size w12 (.int .i64 cap) (.slice s4 l.length l.length) (.bool cl)) := HX.out.keep (hb12.block _ HX.out.z) hb12.size
  have JY : Hid (Box1 w5.heap.size w12 (.int .i64 cap) (.slice s5 L.length c5) (.bool cl)) := HY.out.keep (hb12.block _ HY.out.z) hb12.size
  have JD : Hid (MarkI w12 W4.heap.size w5.heap.size s5 L.length 1) := HD.out.keep (fun k h1 h2 => hb12.block k (by omega))
  clear HK
  have HK := JK
  clear JK
  clear HA
  have HA := JA
  clear JA
  clear HR
  have HR := JR
  clear JR
  clear HQ
  have HQ := JQ
  clear JQ
  clear HF
  have HF := JF
  clear JF
  clear HX
  have HX := JX
  clear JX
  clear HY
  have HY := JY
  clear JY
  clear HD
  have HD := JD
  clear JD
  clear hb12
  obtain ⟨A0, A1, A2, Af, Az⟩ := HA.out
  obtain ⟨F0, F1, F2, Ff, Fz⟩ := HF.out
  obtain ⟨X0, X1, X2, Xf, Xz⟩ := HX.out
  obtain ⟨Y0, Y1, Y2, Yf, Yz⟩ := HY.out
  go_wp2_with fail
  refine (toChan_any cap s l c w.heap.size cl w12 HR.out (by omega) hl).mono ?_
  rintro e w13 ⟨s13, rfl, hb13, z13, n13⟩
  clear A0 A1 A2 Af Az
  clear F0 F1 F2 Ff Fz
  clear X0 X1 X2 Xf Xz
  clear Y0 Y1 Y2 Yf Yz
  have JK : Hid (Below w.heap.size w w13) := HK.out.trans (hb13.mono (by omega))
  have JA : Hid (Box1 w.heap.size w13 (.int .i64 cap) (.slice s l.length c) (.bool cl)) := HA.out.keep (hb13.block _ HA.out.z) hb13.size
  have JR : Hid (RowI w13 w.heap.size s l) := HR.out.keep (fun k hk => hb13.block k (by omega))
  have JQ : Hid (RowI w13 w3.heap.size s3 L) := HQ.out.keep (fun k hk => hb13.block k (by omega))
  have JF : Hid (Box1 w3.heap.size w13 (.int .i64 cap) (.slice s3 L.length c3) (.bool cl)) := HF.out.keep (hb13.block _ HF.out.z) hb13.size
  have JX : Hid (Box1 w4.heap.size w13 (.int .i64 cap) (.slice s4 l.length l.length) (.bool cl)) := HX.out.keep (hb13.block _ HX.out.z) hb13.size
  have JY : Hid (Box1 w5.heap.size w13 (.int .i64 cap) (.slice s5 L.length c5) (.bool cl)) := HY.out.keep (hb13.block _ HY.out.z) hb13.size
  have JD : Hid (MarkI w13 W4.heap.size w5.heap.size s5 L.length 1) := HD.out.keep (fun k h1 h2 => hb13.block k (by omega))
  clear HK
  have HK := JK
  clear JK
  clear HA
  have HA := JA
  clear JA
  clear HR
  have HR := JR
  clear JR
  clear HQ
  have HQ := JQ
  clear JQ
  clear HF
  have HF := JF
  clear JF
  clear HX
  have HX := JX
  clear JX
  clear HY
  have HY := JY
  clear JY
  clear HD
  have HD := JD
  clear JD
  have HU : Hid (NewI w13 w12.heap.size w13.heap.size s13 l) := n13
  clear hb13 n13
  obtain ⟨A0, A1, A2, Af, Az⟩ := HA.out
  obtain ⟨F0, F1, F2, Ff, Fz⟩ := HF.out
  obtain ⟨X0, X1, X2, Xf, Xz⟩ := HX.out
  obtain ⟨Y0, Y1, Y2, Yf, Yz⟩ := HY.out
  go_wp2_with fail
  refine (I.out s13 l.length w13 HU.out.row (Nat.le_refl _)).mono ?_
  rintro e w14 ⟨u14, rfl, o14, hb14, z14⟩
  obtain ⟨s14, c14, rfl⟩ := o14.sl
  clear HU
  clear A0 A1 A2 Af Az
  clear F0 F1 F2 Ff Fz
  clear X0 X1 X2 Xf Xz
  clear Y0 Y1 Y2 Yf Yz
  have JK : Hid (Below w.heap.size w w14) := HK.out.trans (hb14.mono (by omega))
  have JA : Hid (Box1 w.heap.size w14 (.int .i64 cap) (.slice s l.length c) (.bool cl)) := HA.out.keep (hb14.block _ HA.out.z) hb14.size
  have JR : Hid (RowI w14 w.heap.size s l) := HR.out.keep (fun k hk => hb14.block k (by omega))
  have JQ : Hid (RowI w14 w3.heap.size s3 L) := HQ.out.keep (fun k hk => hb14.block k (by omega))
  have JF : Hid (Box1 w3.heap.size w14 (.int .i64 cap) (.slice s3 L.length c3) (.bool cl)) := HF.out.keep (hb14.block _ HF.out.z) hb14.size
  have JX : Hid (Box1 w4.heap.size w14 (.int .i64 cap) (.slice s4 l.length l.length) (.bool cl)) := HX.out.keep (hb14.block _ HX.out.z) hb14.size
  have JY : Hid (Box1 w5.heap.size w14 (.int .i64 cap) (.slice s5 L.length c5) (.bool cl)) := HY.out.keep (hb14.block _ HY.out.z) hb14.size
  have JD : Hid (MarkI w14 W4.heap.size w5.heap.size s5 L.length 1) := HD.out.keep (fun k h1 h2 => hb14.block k (by omega))
  clear HK
  have HK := JK
  clear JK
  clear HA
  have HA := JA
  clear JA
  clear HR
  have HR := JR
  clear JR
  clear HQ
  have HQ := JQ
  clear JQ
  clear HF
  have HF := JF
  clear JF
  clear HX
  have HX := JX
  clear JX
  clear HY
  have HY := JY
  clear JY
  clear HD
  have HD := JD
  clear JD
  have HE : Hid (RowI w14 w14.heap.size s14 L) := o14.new.row
  clear hb14 o14
  obtain ⟨A0, A1, A2, Af, Az⟩ := HA.out
  obtain ⟨F0, F1, F2, Ff, Fz⟩ := HF.out
  obtain ⟨X0, X1, X2, Xf, Xz⟩ := HX.out
  obtain ⟨Y0, Y1, Y2, Yf, Yz⟩ := HY.out
  go_wp2_with fail
  clear A0 A1 A2 Af Az
  clear F0 F1 F2 Ff Fz
  clear X0 X1 X2 Xf Xz
  clear Y0 Y1 Y2 Yf Yz
  obtain ⟨W14, hW14, bx14, kb14, sz14⟩ := box1 w14 (.int .i64 cap) (.slice s14 L.length c14) (.bool cl) 27
  rw [hW14]
  clear hW14
  have JK : Hid (Below w.heap.size w W14) := HK.out.trans (kb14.mono (by omega))
  have JA : Hid (Box1 w.heap.size W14 (.int .i64 cap) (.slice s l.length c) (.bool cl)) := HA.out.keep (kb14.block _ HA.out.z) kb14.size
  have JR : Hid (RowI W14 w.heap.size s l) := HR.out.keep (fun k hk => kb14.block k (by omega))
  have JQ : Hid (RowI W14 w3.heap.size s3 L) := HQ.out.keep (fun k hk => kb14.block k (by omega))
  have JF : Hid (Box1 w3.heap.size W14 (.int .i64 cap) (.slice s3 L.length c3) (.bool cl)) := HF.out.keep (kb14.block _ HF.out.z) kb14.size
  have JX : Hid (Box1 w4.heap.size W14 (.int .i64 cap) (.slice s4 l.length l.length) (.bool cl)) := HX.out.keep (kb14.block _ HX.out.z) kb14.size
  have JY : Hid (Box1 w5.heap.size W14 (.int .i64 cap) (.slice s5 L.length c5) (.bool cl)) := HY.out.keep (kb14.block _ HY.out.z) kb14.size
  have JD : Hid (MarkI W14 W4.heap.size w5.heap.size s5 L.length 1) := HD.out.keep (fun k h1 h2 => kb14.block k (by omega))
  have JE : Hid (RowI W14 w14.heap.size s14 L) := HE.out.keep (fun k hk => kb14.block k (by omega))
  clear HK
  have HK := JK
  clear JK
  clear HA
  have HA := JA
  clear JA
  clear HR
  have HR := JR
  clear JR
  clear HQ
  have HQ := JQ
  clear JQ
  clear HF
  have HF := JF
  clear JF
  clear HX
  have HX := JX
  clear JX
  clear HY
  have HY := JY
  clear JY
  clear HD
  have HD := JD
  clear JD
  clear HE
  have HE := JE
  clear JE
  have HG : Hid (Box1 w14.heap.size W14 (.int .i64 cap) (.slice s14 L.length c14) (.bool cl)) := bx14
  clear bx14 kb14
  obtain ⟨A0, A1, A2, Af, Az⟩ := HA.out
  obtain ⟨F0, F1, F2, Ff, Fz⟩ := HF.out
  obtain ⟨X0, X1, X2, Xf, Xz⟩ := HX.out
  obtain ⟨Y0, Y1, Y2, Yf, Yz⟩ := HY.out
  obtain ⟨G0, G1, G2, Gf, Gz⟩ := HG.out
  refine (eqChan_same cap s14 s3 L c14 c3 w14.heap.size w3.heap.size cl W14 HE.out HQ.out (by omega) (by omega) (by omega)).mono ?_
  rintro e w15 ⟨rfl, hb15, z15⟩
  clear A0 A1 A2 Af Az
  clear F0 F1 F2 Ff Fz
  clear X0 X1 X2 Xf Xz
  clear Y0 Y1 Y2 Yf Yz
  clear G0 G1 G2 Gf Gz
  have JK : Hid (Below w.heap.size w w15) := HK.out.trans (hb15.mono (by omega))
  have JA : Hid (Box1 w.heap.size w15 (.int .i64 cap) (.slice s l.length c) (.bool cl)) := HA.out.keep (hb15.block _ HA.out.z) hb15.size
  have JR : Hid (RowI w15 w.heap.size s l) := HR.out.keep (fun k hk => hb15.block k (by omega))
  have JQ : Hid (RowI w15 w3.heap.size s3 L) := HQ.out.keep (fun k hk => hb15.block k (by omega))
  have JF : Hid (Box1 w3.heap.size w15 (.int .i64 cap) (.slice s3 L.length c3) (.bool cl)) := HF.out.keep (hb15.block _ HF.out.z) hb15.size
  have JX : Hid (Box1 w4.heap.size w15 (.int .i64 cap) (.slice s4 l.length l.length) (.bool cl)) := HX.out.keep (hb15.block _ HX.out.z) hb15.size
  have JY : Hid (Box1 w5.heap.size w15 (.int .i64 cap) (.slice s5 L.length c5) (.bool cl)) := HY.out.keep (hb15.block _ HY.out.z) hb15.size
  have JD : Hid (MarkI w15 W4.heap.size w5.heap.size s5 L.length 1) := HD.out.keep (fun k h1 h2 => hb15.block k (by omega))
  have JE : Hid (RowI w15 w14.heap.size s14 L) := HE.out.keep (fun k hk => hb15.block k (by omega))
  have JG : Hid (Box1 w14.heap.size w15 (.int .i64 cap) (.slice s14 L.length c14) (.bool cl)) := HG.out.keep (hb15.block _ HG.out.z) hb15.size
  clear HK
  have HK := JK
  clear JK
  clear HA
  have HA := JA
  clear JA
  clear HR
  have HR := JR
  clear JR
  clear HQ
  have HQ := JQ
  clear JQ
  clear HF
  have HF := JF
  clear JF
  clear HX
  have HX := JX
  clear JX
  clear HY
  have HY := JY
  clear JY
  clear HD
  have HD := JD
  clear JD
  clear HE
  have HE := JE
  clear JE
  clear HG
  have HG := JG
  clear JG
  clear hb15
  obtain ⟨A0, A1, A2, Af, Az⟩ := HA.out
  obtain ⟨F0, F1, F2, Ff, Fz⟩ := HF.out
  obtain ⟨X0, X1, X2, Xf, Xz⟩ := HX.out
  obtain ⟨Y0, Y1, Y2, Yf, Yz⟩ := HY.out
  obtain ⟨G0, G1, G2, Gf, Gz⟩ := HG.out
  go_wp2_with fail
  refine (heldChan_any cap s5 L.length c5 W4.heap.size w5.heap.size cl 1 w15 HD.out (by omega) (by omega) (by omega) (by omega)).mono ?_
  rintro e w16 ⟨rfl, hb16, z16⟩
  clear A0 A1 A2 Af Az
  clear F0 F1 F2 Ff Fz
  clear X0 X1 X2 Xf Xz
  clear Y0 Y1 Y2 Yf Yz
  clear G0 G1 G2 Gf Gz
  have JK : Hid (Below w.heap.size w w16) := HK.out.trans (hb16.mono (by omega))
  have JA : Hid (Box1 w.heap.size w16 (.int .i64 cap) (.slice s l.length c) (.bool cl)) := HA.out.keep (hb16.block _ HA.out.z) hb16.size
  have JR : Hid (RowI w16 w.heap.size s l) := HR.out.keep (fun k hk => hb16.block k (by omega))
  have JQ : Hid (RowI w16 w3.heap.size s3 L) := HQ.out.keep (fun k hk => hb16.block k (by omega))
  have JF : Hid (Box1 w3.heap.size w16 (.int .i64 cap) (.slice s3 L.length c3) (.bool cl)) := HF.out.keep (hb16.block _ HF.out.z) hb16.size
  have JX : Hid (Box1 w4.heap.size w16 (.int .i64 cap) (.slice s4 l.length l.length) (.bool cl)) := HX.out.keep (hb16.block _ HX.out.z) hb16.size
  have JY : Hid (Box1 w5.heap.size w16 (.int .i64 cap) (.slice s5 L.length c5) (.bool cl)) := HY.out.keep (hb16.block _ HY.out.z) hb16.size
  have JD : Hid (MarkI w16 W4.heap.size w5.heap.size s5 L.length 1) := HD.out.keep (fun k h1 h2 => hb16.block k (by omega))
  have JE : Hid (RowI w16 w14.heap.size s14 L) := HE.out.keep (fun k hk => hb16.block k (by omega))
  have JG : Hid (Box1 w14.heap.size w16 (.int .i64 cap) (.slice s14 L.length c14) (.bool cl)) := HG.out.keep (hb16.block _ HG.out.z) hb16.size
  clear HK
  have HK := JK
  clear JK
  clear HA
  have HA := JA
  clear JA
  clear HR
  have HR := JR
  clear JR
  clear HQ
  have HQ := JQ
  clear JQ
  clear HF
  have HF := JF
  clear JF
  clear HX
  have HX := JX
  clear JX
  clear HY
  have HY := JY
  clear JY
  clear HD
  have HD := JD
  clear JD
  clear HE
  have HE := JE
  clear JE
  clear HG
  have HG := JG
  clear JG
  clear hb16
  obtain ⟨A0, A1, A2, Af, Az⟩ := HA.out
  obtain ⟨F0, F1, F2, Ff, Fz⟩ := HF.out
  obtain ⟨X0, X1, X2, Xf, Xz⟩ := HX.out
  obtain ⟨Y0, Y1, Y2, Yf, Yz⟩ := HY.out
  obtain ⟨G0, G1, G2, Gf, Gz⟩ := HG.out
  go_wp2
  go_ret
  exact ⟨rfl, HK.out⟩

set_option maxRecDepth 100000 in
theorem liftedTake (os : Os) (started : os.Started) (H : Type) (enc : TypeId × Value → H) :
    ReturnsInHanded {} Try.checked os 5 .any (Rows.fnExactChanTakeSpec.pre6 enc Try.prog Try.f5 Rows.fnExactChanTakeRow.domain false) (Rows.fnExactChanTakeSpec.post enc Try.prog Try.f5 false true false false) := by
  refine returnsInHanded_of_change (C := Try.checked) ownC started (by kernel_rfl) Try.func5
    (ChangeSpec.witness6 (enc := enc) (C := Try.checked) false ⟨#[], #[.agg #[.int .i64 0, .slice none 0 0, .bool false]], []⟩ 8 (by kernel_rfl) (by kernel_rfl) (by kernel_rfl) (by kernel_rfl)) ?_
  intro W base args ds gs before hval0 hW hcnd _
  have hval : ∀ (j : Nat) t v, Try.f5.params[j]? = some t → args[j]? = some v → Value.okWide Try.prog W .any base t v := hval0
  have hW' := hW
  obtain ⟨p, q, hA0, hV, rfl, hfz, hnd⟩ := hW
  have hA : DataW.TrodAll enc Try.prog W 0 (fun _ => true) true Try.f5.params.toList args.toList ds p := hA0
  rw [Try.params5] at hA hval
  obtain ⟨v0, d0, hargs, rfl, h0⟩ := trodAll_one hA
  obtain rfl : args = #[v0] := by cases args; simp_all
  obtain ⟨rfl, rfl⟩ := trodVars_none hV
  have k0 := h0
  have lt0 : ∀ x ∈ p, x.block < W.heap.size := by obtain ⟨m, hm⟩ := k0; exact DataW.trod_lt m _ _ _ hm
  obtain ⟨cap, s, l, c, cl, rfl, hm, hr⟩ := open_chan (hval 0 24 v0 rfl rfl) h0
  clear hA0 hval0
  refine (walkTake cap s l c cl W hr hm).mono fun e W' ⟨he, bel⟩ => ?_
  subst he
  exact ⟨_, rfl, _, _, _, [], _, [], hW', trodAll_mk1 (shut_bool Try.underlying4 _), trodAll_mk1 (Below.trod laidOutC (by kernel_rfl) (of_decide_eq_true (by kernel_rfl)) k0 bel lt0), rfl, bel.frame _, fun h => by cases h⟩

theorem fnExactChanTake_holds : Rows.FnExactChanTakeSaid :=
  OpenClaim.holds_of_wide 5 Try.f5 rfl rfl rfl rfl rfl rfl rfl ⟨rfl, rfl, rfl, rfl, rfl⟩ rfl rfl rfl rfl rfl (by kernel_rfl) Try.func5 (by kernel_rfl)
    (of_decide_eq_true (by kernel_rfl)) (by unfold Func.isWrapper; first | (rw [if_pos (by decide +kernel)]; kernel_rfl) | (rw [if_neg (by decide +kernel)]; exact ⟨rfl, rfl⟩))
    (fun os started H enc _ => liftedTake os started H enc)
#print axioms fnExactChanTake_holds

end Go.Proofs.Ytjffdcnninhicai
