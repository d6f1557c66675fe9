/- The law FnClosed of the given statements: of a drawn channel that is closed what it has is taken, and then it is over; closed twice it faults. No condition. -/
import Derived.Test.YtjffdcnninhicacRows
import Derived.Test.YtjffdcnninhicacChDraw2
import Derived.Test.YtjffdcnninhicacChTake
import Derived.Test.YtjffdcnninhicacChClose
import Derived.Test.YtjffdcnninhicacSameInts
import Derived.Test.YtjffdcnninhicacFnFrame
import Derived.ProofKit
import Derived.OpenShut
import Derived.ShutString
import Derived.ChangeOld
import Derived.ChangeSlices
namespace Go.Proofs.Ytjffdcnninhicac
set_option linter.unusedSimpArgs false
set_option linter.unusedVariables false
set_option maxRecDepth 100000
open Go.ChangeShapes Go.WideShapes Go.ChangeAt Go.RowKit

theorem drop_at (l : List Int) (k : Nat) (h : k < l.length) : l.drop k = l.getD k 0 :: l.drop (k + 1) := by
  rw [List.drop_eq_getElem_cons h]
  simp [List.getD_eq_getElem?_getD, h]
theorem take_split (cap : Int) (l : List Int) (cl : Bool) : ∃ (L : List Int) (v k : Int), (takeL cap l = L ∧ takeV cap l = v ∧ takeK cap l cl = k) ∧ L.length ≤ l.length ∧ (k = 0 ∨ (l = L ∧ (k != 0) = true)) := by
  cases hok : okC cap l.length with
  | false => exact ⟨l, 0, 2, take_bad hok, Nat.le_refl _, .inr ⟨rfl, by decide⟩⟩
  | true =>
    cases l with
    | nil => exact ⟨[], 0, if cl = true then 3 else 1, take_empty hok, Nat.le_refl _, .inr ⟨rfl, by cases cl <;> decide⟩⟩
    | cons x t => exact ⟨t, x, 0, take_cons hok, by simp, .inl rfl⟩

set_option maxHeartbeats 16000000 in
theorem walkFnClosed (s : Option Addr) (n c : Nat) (w : World) (hb : Bytes w w.heap.size s n) (hn : n ≤ maxLen) :
    Calls Try.prog 4 #[.slice s n c] w fun e w' => e = .returned (.bool true) ∧ Below w.heap.size w w' := by
  have HB : Hid (Bytes w w.heap.size s n) := hb
  have HN : Hid (n ≤ maxLen) := hn
  clear hb hn
  by_cases hbig : 1048576 < n
  · go_enter Try.func4, Try.ntmps4
    go_wp2_with (go_at_call 5; refine (big_any _ _ _ _).mono ?_; rintro e w' ⟨rfl, hw⟩; have hw' := hw.symm; clear hw; subst hw'; rw [decide_eq_true hbig])
    go_ret
    exact ⟨rfl, Below.refl _ _⟩
  go_enter Try.func4, Try.ntmps4
  go_wp2_with (go_at_call 5; refine (big_any _ _ _ _).mono ?_; rintro e w' ⟨rfl, hw⟩; have hw' := hw.symm; clear hw; subst hw'; rw [decide_eq_false hbig])
  refine (drawClose_new s n c w HB.out HN.out).mono ?_
  rintro e w1 ⟨cap, u, l, b, rfl, ho, hl8, hb1⟩
  have z1 := hb1.size
  obtain ⟨su, cu, rfl⟩ := ho.sl
  have R1 : Hid (RowI w1 w1.heap.size su l) := ho.rowI
  have K1 : Hid (Below w.heap.size w w1) := hb1
  clear ho hb1 hbig
  by_cases hd : okC cap l.length = true ∧ b = false
  · obtain ⟨hok1, rfl⟩ := hd
    have hh := close_done (l := l) hok1
    obtain ⟨q1, q4, qn⟩ := okC_range hok1
    clear hok1
    have HK : Hid (Below w.heap.size w w1) := K1.out
    have HL : Hid (RowI w1 w1.heap.size su l) := R1.out
    clear K1 R1
    go_wp2_with fail
    obtain ⟨W1, hW1, bx1, kb1, sz1⟩ := box1 w1 (.int .i64 cap) (.slice su l.length cu) (.bool false) 26
    rw [hW1]
    have zw1 : w1.heap.size < W1.heap.size := by omega
    clear hW1 sz1
    have JK : Hid (Below w.heap.size w W1) := HK.out.trans (kb1.mono (by omega))
    have JL : Hid (RowI W1 w1.heap.size su l) := HL.out.keep (fun k hk => kb1.block k (by omega))
    clear HK
    have HK := JK
    clear JK
    clear HL
    have HL := JL
    clear JL
    have HC : Hid (Box1 w1.heap.size W1 (.int .i64 cap) (.slice su l.length cu) (.bool false)) := bx1
    clear bx1 kb1
    obtain ⟨C0, C1, C2, Cf, Cz⟩ := HC.out
    refine (implClose_any cap su l cu false W1 (HL.out.mono (by omega)) (by omega)).mono ?_
    rintro e w2 ⟨u2, rfl, o2, hb2, z2⟩
    rw [hh.1, hh.2]
    obtain ⟨s2, c2, rfl⟩ := o2.sl
    clear C0 C1 C2 Cf Cz
    have JK : Hid (Below w.heap.size w w2) := HK.out.trans (hb2.mono (by omega))
    have JL : Hid (RowI w2 w1.heap.size su l) := HL.out.keep (fun k hk => hb2.block k (by omega))
    have JC : Hid (Box1 w1.heap.size w2 (.int .i64 cap) (.slice su l.length cu) (.bool false)) := HC.out.keep (hb2.block _ HC.out.z) hb2.size
    clear HK
    have HK := JK
    clear JK
    clear HL
    have HL := JL
    clear JL
    clear HC
    have HC := JC
    clear JC
    have HM : Hid (RowI w2 w2.heap.size s2 l) := o2.rowI
    clear hb2 o2
    obtain ⟨C0, C1, C2, Cf, Cz⟩ := HC.out
    go_wp2_with fail
    clear C0 C1 C2 Cf Cz
    obtain ⟨W2, hW2, bx2, kb2, sz2⟩ := box1 w2 (.int .i64 cap) (.slice s2 l.length c2) (.bool true) 26
    rw [hW2]
    have zw2 : w2.heap.size < W2.heap.size := by omega
    clear hW2 sz2
    have JK : Hid (Below w.heap.size w W2) := HK.out.trans (kb2.mono (by omega))
    have JL : Hid (RowI W2 w1.heap.size su l) := HL.out.keep (fun k hk => kb2.block k (by omega))
    have JC : Hid (Box1 w1.heap.size W2 (.int .i64 cap) (.slice su l.length cu) (.bool false)) := HC.out.keep (kb2.block _ HC.out.z) kb2.size
    have JM : Hid (RowI W2 w2.heap.size s2 l) := HM.out.keep (fun k hk => kb2.block k (by omega))
    clear HK
    have HK := JK
    clear JK
    clear HL
    have HL := JL
    clear JL
    clear HC
    have HC := JC
    clear JC
    clear HM
    have HM := JM
    clear JM
    have HD : Hid (Box1 w2.heap.size W2 (.int .i64 cap) (.slice s2 l.length c2) (.bool true)) := bx2
    clear bx2 kb2
    obtain ⟨C0, C1, C2, Cf, Cz⟩ := HC.out
    obtain ⟨D0, D1, D2, Df, Dz⟩ := HD.out
    refine (specClose_any cap su l cu false W2 (HL.out.mono (by omega)) (by omega)).mono ?_
    rintro e w3 ⟨u3, rfl, o3, hb3, z3⟩
    rw [hh.1, hh.2]
    obtain ⟨s3, c3, rfl⟩ := o3.sl
    clear C0 C1 C2 Cf Cz
    clear D0 D1 D2 Df Dz
    have JK : Hid (Below w.heap.size w w3) := HK.out.trans (hb3.mono (by omega))
    have JL : Hid (RowI w3 w1.heap.size su l) := HL.out.keep (fun k hk => hb3.block k (by omega))
    have JC : Hid (Box1 w1.heap.size w3 (.int .i64 cap) (.slice su l.length cu) (.bool false)) := HC.out.keep (hb3.block _ HC.out.z) hb3.size
    have JM : Hid (RowI w3 w2.heap.size s2 l) := HM.out.keep (fun k hk => hb3.block k (by omega))
    have JD : Hid (Box1 w2.heap.size w3 (.int .i64 cap) (.slice s2 l.length c2) (.bool true)) := HD.out.keep (hb3.block _ HD.out.z) hb3.size
    clear HK
    have HK := JK
    clear JK
    clear HL
    have HL := JL
    clear JL
    clear HC
    have HC := JC
    clear JC
    clear HM
    have HM := JM
    clear JM
    clear HD
    have HD := JD
    clear JD
    clear hb3 o3
    obtain ⟨C0, C1, C2, Cf, Cz⟩ := HC.out
    obtain ⟨D0, D1, D2, Df, Dz⟩ := HD.out
    go_wp2_with fail
    clear C0 C1 C2 Cf Cz
    clear D0 D1 D2 Df Dz
    obtain ⟨W3, hW3, bx3, kb3, sz3⟩ := box1 w3 (.int .i64 cap) (.slice s3 l.length c3) (.bool true) 26
    rw [hW3]
    have zw3 : w3.heap.size < W3.heap.size := by omega
    clear hW3 sz3
    have JK : Hid (Below w.heap.size w W3) := HK.out.trans (kb3.mono (by omega))
    have JL : Hid (RowI W3 w1.heap.size su l) := HL.out.keep (fun k hk => kb3.block k (by omega))
    have JC : Hid (Box1 w1.heap.size W3 (.int .i64 cap) (.slice su l.length cu) (.bool false)) := HC.out.keep (kb3.block _ HC.out.z) kb3.size
    have JM : Hid (RowI W3 w2.heap.size s2 l) := HM.out.keep (fun k hk => kb3.block k (by omega))
    have JD : Hid (Box1 w2.heap.size W3 (.int .i64 cap) (.slice s2 l.length c2) (.bool true)) := HD.out.keep (kb3.block _ HD.out.z) kb3.size
    clear HK
    have HK := JK
    clear JK
    clear HL
    have HL := JL
    clear JL
    clear HC
    have HC := JC
    clear JC
    clear HM
    have HM := JM
    clear JM
    clear HD
    have HD := JD
    clear JD
    have HE : Hid (Box1 w3.heap.size W3 (.int .i64 cap) (.slice s3 l.length c3) (.bool true)) := bx3
    clear bx3 kb3
    clear HE
    obtain ⟨C0, C1, C2, Cf, Cz⟩ := HC.out
    obtain ⟨D0, D1, D2, Df, Dz⟩ := HD.out
    refine (drawTake_new s n c W3 ((HB.out.below HK.out (Nat.le_refl _)).up (by omega)) HN.out).mono ?_
    rintro e w4 ⟨cp, u4, lt, bt, rfl, o4, hl4, hb4⟩
    have z4 := hb4.size
    obtain ⟨s4, c4, rfl⟩ := o4.sl
    have hc4 := OwnN.capI o4
    clear C0 C1 C2 Cf Cz
    clear D0 D1 D2 Df Dz
    have JK : Hid (Below w.heap.size w w4) := HK.out.trans (hb4.mono (by omega))
    have JL : Hid (RowI w4 w1.heap.size su l) := HL.out.keep (fun k hk => hb4.block k (by omega))
    have JC : Hid (Box1 w1.heap.size w4 (.int .i64 cap) (.slice su l.length cu) (.bool false)) := HC.out.keep (hb4.block _ HC.out.z) hb4.size
    have JM : Hid (RowI w4 w2.heap.size s2 l) := HM.out.keep (fun k hk => hb4.block k (by omega))
    have JD : Hid (Box1 w2.heap.size w4 (.int .i64 cap) (.slice s2 l.length c2) (.bool true)) := HD.out.keep (hb4.block _ HD.out.z) hb4.size
    clear HK
    have HK := JK
    clear JK
    clear HL
    have HL := JL
    clear JL
    clear HC
    have HC := JC
    clear JC
    clear HM
    have HM := JM
    clear JM
    clear HD
    have HD := JD
    clear JD
    have HX : Hid (RowI w4 w4.heap.size s4 lt) := o4.rowI
    clear hb4 o4
    obtain ⟨C0, C1, C2, Cf, Cz⟩ := HC.out
    obtain ⟨D0, D1, D2, Df, Dz⟩ := HD.out
    go_wp2_with fail
    clear C0 C1 C2 Cf Cz
    clear D0 D1 D2 Df Dz
    obtain ⟨W4, hW4, bx4, kb4, sz4⟩ := box1 w4 (.int .i64 cp) (.slice s4 lt.length c4) (.bool bt) 26
    rw [hW4]
    have zw4 : w4.heap.size < W4.heap.size := by omega
    clear hW4 sz4
    have JK : Hid (Below w.heap.size w W4) := HK.out.trans (kb4.mono (by omega))
    have JL : Hid (RowI W4 w1.heap.size su l) := HL.out.keep (fun k hk => kb4.block k (by omega))
    have JC : Hid (Box1 w1.heap.size W4 (.int .i64 cap) (.slice su l.length cu) (.bool false)) := HC.out.keep (kb4.block _ HC.out.z) kb4.size
    have JM : Hid (RowI W4 w2.heap.size s2 l) := HM.out.keep (fun k hk => kb4.block k (by omega))
    have JD : Hid (Box1 w2.heap.size W4 (.int .i64 cap) (.slice s2 l.length c2) (.bool true)) := HD.out.keep (kb4.block _ HD.out.z) kb4.size
    have JX : Hid (RowI W4 w4.heap.size s4 lt) := HX.out.keep (fun k hk => kb4.block k (by omega))
    clear HK
    have HK := JK
    clear JK
    clear HL
    have HL := JL
    clear JL
    clear HC
    have HC := JC
    clear JC
    clear HM
    have HM := JM
    clear JM
    clear HD
    have HD := JD
    clear JD
    clear HX
    have HX := JX
    clear JX
    have HF : Hid (Box1 w4.heap.size W4 (.int .i64 cp) (.slice s4 lt.length c4) (.bool bt)) := bx4
    clear bx4 kb4
    obtain ⟨C0, C1, C2, Cf, Cz⟩ := HC.out
    obtain ⟨D0, D1, D2, Df, Dz⟩ := HD.out
    obtain ⟨F0, F1, F2, Ff, Fz⟩ := HF.out
    obtain ⟨Lt, vt, kt, ht, hLL, hLt⟩ := take_split cp lt bt
    have hv1 : (vt != vt) = false := by simp
    have hv2 : (kt != kt) = false := by simp
    rcases hLt with rfl | ⟨rfl, hkt⟩
    · refine (implTake_any cp s4 lt c4 bt W4 (HX.out.mono (by omega)) (by omega)).mono ?_
      rintro e w5 ⟨u5, rfl, o5, hb5, z5⟩
      rw [ht.1] at o5
      rw [ht.2.1, ht.2.2]
      obtain ⟨s5, c5, rfl⟩ := o5.sl
      clear C0 C1 C2 Cf Cz
      clear D0 D1 D2 Df Dz
      clear F0 F1 F2 Ff Fz
      have JK : Hid (Below w.heap.size w w5) := HK.out.trans (hb5.mono (by omega))
      have JL : Hid (RowI w5 w1.heap.size su l) := HL.out.keep (fun k hk => hb5.block k (by omega))
      have JC : Hid (Box1 w1.heap.size w5 (.int .i64 cap) (.slice su l.length cu) (.bool false)) := HC.out.keep (hb5.block _ HC.out.z) hb5.size
      have JM : Hid (RowI w5 w2.heap.size s2 l) := HM.out.keep (fun k hk => hb5.block k (by omega))
      have JD : Hid (Box1 w2.heap.size w5 (.int .i64 cap) (.slice s2 l.length c2) (.bool true)) := HD.out.keep (hb5.block _ HD.out.z) hb5.size
      have JX : Hid (RowI w5 w4.heap.size s4 lt) := HX.out.keep (fun k hk => hb5.block k (by omega))
      have JF : Hid (Box1 w4.heap.size w5 (.int .i64 cp) (.slice s4 lt.length c4) (.bool bt)) := HF.out.keep (hb5.block _ HF.out.z) hb5.size
      clear HK
      have HK := JK
      clear JK
      clear HL
      have HL := JL
      clear JL
      clear HC
      have HC := JC
      clear JC
      clear HM
      have HM := JM
      clear JM
      clear HD
      have HD := JD
      clear JD
      clear HX
      have HX := JX
      clear JX
      clear HF
      have HF := JF
      clear JF
      have HY : Hid (RowI w5 w5.heap.size s5 Lt) := o5.rowI
      clear hb5 o5
      obtain ⟨C0, C1, C2, Cf, Cz⟩ := HC.out
      obtain ⟨D0, D1, D2, Df, Dz⟩ := HD.out
      obtain ⟨F0, F1, F2, Ff, Fz⟩ := HF.out
      go_wp2_with fail
      clear C0 C1 C2 Cf Cz
      clear D0 D1 D2 Df Dz
      clear F0 F1 F2 Ff Fz
      obtain ⟨W5, hW5, bx5, kb5, sz5⟩ := box1 w5 (.int .i64 cp) (.slice s5 Lt.length c5) (.bool bt) 26
      rw [hW5]
      have zw5 : w5.heap.size < W5.heap.size := by omega
      clear hW5 sz5
      have JK : Hid (Below w.heap.size w W5) := HK.out.trans (kb5.mono (by omega))
      have JL : Hid (RowI W5 w1.heap.size su l) := HL.out.keep (fun k hk => kb5.block k (by omega))
      have JC : Hid (Box1 w1.heap.size W5 (.int .i64 cap) (.slice su l.length cu) (.bool false)) := HC.out.keep (kb5.block _ HC.out.z) kb5.size
      have JM : Hid (RowI W5 w2.heap.size s2 l) := HM.out.keep (fun k hk => kb5.block k (by omega))
      have JD : Hid (Box1 w2.heap.size W5 (.int .i64 cap) (.slice s2 l.length c2) (.bool true)) := HD.out.keep (kb5.block _ HD.out.z) kb5.size
      have JX : Hid (RowI W5 w4.heap.size s4 lt) := HX.out.keep (fun k hk => kb5.block k (by omega))
      have JF : Hid (Box1 w4.heap.size W5 (.int .i64 cp) (.slice s4 lt.length c4) (.bool bt)) := HF.out.keep (kb5.block _ HF.out.z) kb5.size
      have JY : Hid (RowI W5 w5.heap.size s5 Lt) := HY.out.keep (fun k hk => kb5.block k (by omega))
      clear HK
      have HK := JK
      clear JK
      clear HL
      have HL := JL
      clear JL
      clear HC
      have HC := JC
      clear JC
      clear HM
      have HM := JM
      clear JM
      clear HD
      have HD := JD
      clear JD
      clear HX
      have HX := JX
      clear JX
      clear HF
      have HF := JF
      clear JF
      clear HY
      have HY := JY
      clear JY
      have HG : Hid (Box1 w5.heap.size W5 (.int .i64 cp) (.slice s5 Lt.length c5) (.bool bt)) := bx5
      clear bx5 kb5
      obtain ⟨C0, C1, C2, Cf, Cz⟩ := HC.out
      obtain ⟨D0, D1, D2, Df, Dz⟩ := HD.out
      obtain ⟨F0, F1, F2, Ff, Fz⟩ := HF.out
      obtain ⟨G0, G1, G2, Gf, Gz⟩ := HG.out
      refine (specTake_any cp s4 lt c4 bt W5 (HX.out.mono (by omega)) (by omega) hc4).mono ?_
      rintro e w6 ⟨u6, rfl, o6, hb6, z6⟩
      rw [ht.1] at o6
      rw [ht.2.1, ht.2.2]
      obtain ⟨s6, c6, rfl⟩ := o6.sl
      clear C0 C1 C2 Cf Cz
      clear D0 D1 D2 Df Dz
      clear F0 F1 F2 Ff Fz
      clear G0 G1 G2 Gf Gz
      have JK : Hid (Below w.heap.size w w6) := HK.out.trans (hb6.mono (by omega))
      have JL : Hid (RowI w6 w1.heap.size su l) := HL.out.keep (fun k hk => hb6.block k (by omega))
      have JC : Hid (Box1 w1.heap.size w6 (.int .i64 cap) (.slice su l.length cu) (.bool false)) := HC.out.keep (hb6.block _ HC.out.z) hb6.size
      have JM : Hid (RowI w6 w2.heap.size s2 l) := HM.out.keep (fun k hk => hb6.block k (by omega))
      have JD : Hid (Box1 w2.heap.size w6 (.int .i64 cap) (.slice s2 l.length c2) (.bool true)) := HD.out.keep (hb6.block _ HD.out.z) hb6.size
      have JX : Hid (RowI w6 w4.heap.size s4 lt) := HX.out.keep (fun k hk => hb6.block k (by omega))
      have JF : Hid (Box1 w4.heap.size w6 (.int .i64 cp) (.slice s4 lt.length c4) (.bool bt)) := HF.out.keep (hb6.block _ HF.out.z) hb6.size
      have JY : Hid (RowI w6 w5.heap.size s5 Lt) := HY.out.keep (fun k hk => hb6.block k (by omega))
      have JG : Hid (Box1 w5.heap.size w6 (.int .i64 cp) (.slice s5 Lt.length c5) (.bool bt)) := HG.out.keep (hb6.block _ HG.out.z) hb6.size
      clear HK
      have HK := JK
      clear JK
      clear HL
      have HL := JL
      clear JL
      clear HC
      have HC := JC
      clear JC
      clear HM
      have HM := JM
      clear JM
      clear HD
      have HD := JD
      clear JD
      clear HX
      have HX := JX
      clear JX
      clear HF
      have HF := JF
      clear JF
      clear HY
      have HY := JY
      clear JY
      clear HG
      have HG := JG
      clear JG
      clear hb6 o6 ht
      obtain ⟨C0, C1, C2, Cf, Cz⟩ := HC.out
      obtain ⟨D0, D1, D2, Df, Dz⟩ := HD.out
      obtain ⟨F0, F1, F2, Ff, Fz⟩ := HF.out
      obtain ⟨G0, G1, G2, Gf, Gz⟩ := HG.out
      go_wp2_with fail
      clear C0 C1 C2 Cf Cz
      clear D0 D1 D2 Df Dz
      clear F0 F1 F2 Ff Fz
      clear G0 G1 G2 Gf Gz
      obtain ⟨W6, hW6, bx6, kb6, sz6⟩ := box1 w6 (.int .i64 cp) (.slice s6 Lt.length c6) (.bool bt) 26
      rw [hW6]
      have zw6 : w6.heap.size < W6.heap.size := by omega
      clear hW6 sz6
      have JK : Hid (Below w.heap.size w W6) := HK.out.trans (kb6.mono (by omega))
      have JL : Hid (RowI W6 w1.heap.size su l) := HL.out.keep (fun k hk => kb6.block k (by omega))
      have JC : Hid (Box1 w1.heap.size W6 (.int .i64 cap) (.slice su l.length cu) (.bool false)) := HC.out.keep (kb6.block _ HC.out.z) kb6.size
      have JM : Hid (RowI W6 w2.heap.size s2 l) := HM.out.keep (fun k hk => kb6.block k (by omega))
      have JD : Hid (Box1 w2.heap.size W6 (.int .i64 cap) (.slice s2 l.length c2) (.bool true)) := HD.out.keep (kb6.block _ HD.out.z) kb6.size
      have JX : Hid (RowI W6 w4.heap.size s4 lt) := HX.out.keep (fun k hk => kb6.block k (by omega))
      have JF : Hid (Box1 w4.heap.size W6 (.int .i64 cp) (.slice s4 lt.length c4) (.bool bt)) := HF.out.keep (kb6.block _ HF.out.z) kb6.size
      have JY : Hid (RowI W6 w5.heap.size s5 Lt) := HY.out.keep (fun k hk => kb6.block k (by omega))
      have JG : Hid (Box1 w5.heap.size W6 (.int .i64 cp) (.slice s5 Lt.length c5) (.bool bt)) := HG.out.keep (kb6.block _ HG.out.z) kb6.size
      clear HK
      have HK := JK
      clear JK
      clear HL
      have HL := JL
      clear JL
      clear HC
      have HC := JC
      clear JC
      clear HM
      have HM := JM
      clear JM
      clear HD
      have HD := JD
      clear JD
      clear HX
      have HX := JX
      clear JX
      clear HF
      have HF := JF
      clear JF
      clear HY
      have HY := JY
      clear JY
      clear HG
      have HG := JG
      clear JG
      have HH : Hid (Box1 w6.heap.size W6 (.int .i64 cp) (.slice s6 Lt.length c6) (.bool bt)) := bx6
      clear bx6 kb6
      clear HH
      obtain ⟨C0, C1, C2, Cf, Cz⟩ := HC.out
      obtain ⟨D0, D1, D2, Df, Dz⟩ := HD.out
      obtain ⟨F0, F1, F2, Ff, Fz⟩ := HF.out
      obtain ⟨G0, G1, G2, Gf, Gz⟩ := HG.out
      clear HX
      clear HY
      clear F0 F1 F2 Ff Fz
      clear HF
      clear G0 G1 G2 Gf Gz
      clear HG
      have tw := close_twice (cap := cap) (l := l)
      refine (implClose_any cap s2 l c2 true W6 (HM.out.mono (by omega)) (by omega)).mono ?_
      rintro e w8 ⟨u8, rfl, o8, hb8, z8⟩
      rw [tw.1, tw.2]
      obtain ⟨s8, c8, rfl⟩ := o8.sl
      clear C0 C1 C2 Cf Cz
      clear D0 D1 D2 Df Dz
      have JK : Hid (Below w.heap.size w w8) := HK.out.trans (hb8.mono (by omega))
      have JL : Hid (RowI w8 w1.heap.size su l) := HL.out.keep (fun k hk => hb8.block k (by omega))
      have JC : Hid (Box1 w1.heap.size w8 (.int .i64 cap) (.slice su l.length cu) (.bool false)) := HC.out.keep (hb8.block _ HC.out.z) hb8.size
      have JM : Hid (RowI w8 w2.heap.size s2 l) := HM.out.keep (fun k hk => hb8.block k (by omega))
      have JD : Hid (Box1 w2.heap.size w8 (.int .i64 cap) (.slice s2 l.length c2) (.bool true)) := HD.out.keep (hb8.block _ HD.out.z) hb8.size
      clear HK
      have HK := JK
      clear JK
      clear HL
      have HL := JL
      clear JL
      clear HC
      have HC := JC
      clear JC
      clear HM
      have HM := JM
      clear JM
      clear HD
      have HD := JD
      clear JD
      clear hb8 o8 tw
      obtain ⟨C0, C1, C2, Cf, Cz⟩ := HC.out
      obtain ⟨D0, D1, D2, Df, Dz⟩ := HD.out
      go_wp2_with fail
      clear C0 C1 C2 Cf Cz
      clear D0 D1 D2 Df Dz
      obtain ⟨W8, hW8, bx8, kb8, sz8⟩ := box1 w8 (.int .i64 cap) (.slice s8 l.length c8) (.bool true) 26
      rw [hW8]
      have zw8 : w8.heap.size < W8.heap.size := by omega
      clear hW8 sz8
      have JK : Hid (Below w.heap.size w W8) := HK.out.trans (kb8.mono (by omega))
      have JL : Hid (RowI W8 w1.heap.size su l) := HL.out.keep (fun k hk => kb8.block k (by omega))
      have JC : Hid (Box1 w1.heap.size W8 (.int .i64 cap) (.slice su l.length cu) (.bool false)) := HC.out.keep (kb8.block _ HC.out.z) kb8.size
      have JM : Hid (RowI W8 w2.heap.size s2 l) := HM.out.keep (fun k hk => kb8.block k (by omega))
      have JD : Hid (Box1 w2.heap.size W8 (.int .i64 cap) (.slice s2 l.length c2) (.bool true)) := HD.out.keep (kb8.block _ HD.out.z) kb8.size
      clear HK
      have HK := JK
      clear JK
      clear HL
      have HL := JL
      clear JL
      clear HC
      have HC := JC
      clear JC
      clear HM
      have HM := JM
      clear JM
      clear HD
      have HD := JD
      clear JD
      have HP : Hid (Box1 w8.heap.size W8 (.int .i64 cap) (.slice s8 l.length c8) (.bool true)) := bx8
      clear bx8 kb8
      clear HP
      obtain ⟨C0, C1, C2, Cf, Cz⟩ := HC.out
      obtain ⟨D0, D1, D2, Df, Dz⟩ := HD.out
      have sn := send_no (cap := cap) (l := l) (cl := true) (v := 1) (fun h => by cases h.2)
      refine (implSend_any cap s2 l c2 true 1 W8 (HM.out.mono (by omega)) (by omega)).mono ?_
      rintro e w9 ⟨u9, rfl, o9, hb9, z9⟩
      rw [sn.1] at o9
      rw [sn.2]
      obtain ⟨s9, c9, rfl⟩ := o9.sl
      clear C0 C1 C2 Cf Cz
      clear D0 D1 D2 Df Dz
      have JK : Hid (Below w.heap.size w w9) := HK.out.trans (hb9.mono (by omega))
      have JL : Hid (RowI w9 w1.heap.size su l) := HL.out.keep (fun k hk => hb9.block k (by omega))
      have JC : Hid (Box1 w1.heap.size w9 (.int .i64 cap) (.slice su l.length cu) (.bool false)) := HC.out.keep (hb9.block _ HC.out.z) hb9.size
      have JM : Hid (RowI w9 w2.heap.size s2 l) := HM.out.keep (fun k hk => hb9.block k (by omega))
      have JD : Hid (Box1 w2.heap.size w9 (.int .i64 cap) (.slice s2 l.length c2) (.bool true)) := HD.out.keep (hb9.block _ HD.out.z) hb9.size
      clear HK
      have HK := JK
      clear JK
      clear HL
      have HL := JL
      clear JL
      clear HC
      have HC := JC
      clear JC
      clear HM
      have HM := JM
      clear JM
      clear HD
      have HD := JD
      clear JD
      clear hb9 o9 sn
      obtain ⟨C0, C1, C2, Cf, Cz⟩ := HC.out
      obtain ⟨D0, D1, D2, Df, Dz⟩ := HD.out
      go_wp2
      clear C0 C1 C2 Cf Cz
      clear D0 D1 D2 Df Dz
      obtain ⟨W9, hW9, bx9, kb9, sz9⟩ := box1 w9 (.int .i64 cap) (.slice s9 l.length c9) (.bool true) 26
      rw [hW9]
      have zw9 : w9.heap.size < W9.heap.size := by omega
      clear hW9 sz9
      have JK : Hid (Below w.heap.size w W9) := HK.out.trans (kb9.mono (by omega))
      have JL : Hid (RowI W9 w1.heap.size su l) := HL.out.keep (fun k hk => kb9.block k (by omega))
      have JC : Hid (Box1 w1.heap.size W9 (.int .i64 cap) (.slice su l.length cu) (.bool false)) := HC.out.keep (kb9.block _ HC.out.z) kb9.size
      have JM : Hid (RowI W9 w2.heap.size s2 l) := HM.out.keep (fun k hk => kb9.block k (by omega))
      have JD : Hid (Box1 w2.heap.size W9 (.int .i64 cap) (.slice s2 l.length c2) (.bool true)) := HD.out.keep (kb9.block _ HD.out.z) kb9.size
      clear HK
      have HK := JK
      clear JK
      clear HL
      have HL := JL
      clear JL
      clear HC
      have HC := JC
      clear JC
      clear HM
      have HM := JM
      clear JM
      clear HD
      have HD := JD
      clear JD
      have HQ : Hid (Box1 w9.heap.size W9 (.int .i64 cap) (.slice s9 l.length c9) (.bool true)) := bx9
      clear bx9 kb9
      clear HQ
      have HZ : Hid (w2.heap.size < W9.heap.size ∧ w1.heap.size < w2.heap.size ∧ w1.heap.size ≤ w1.heap.size ∧ w.heap.size ≤ w1.heap.size) := ⟨HD.out.z, by omega, by omega, by omega⟩
      go_loopw [19] (fun i wr => ∃ (k : Nat) (m : List Int) (sd : Option Addr) (cd : Nat), k ≤ l.length ∧ i = .int .i64 k ∧ Hid (m = l.drop k) ∧ Below w.heap.size w wr ∧ Box1 w1.heap.size wr (.int .i64 cap) (.slice su l.length cu) (.bool false) ∧ Box1 w2.heap.size wr (.int .i64 cap) (.slice sd m.length cd) (.bool true) ∧ RowI wr wr.heap.size sd m) (fun i _ => l.length - (intOf i).toNat)
      case atStart => exact ⟨0, l, s2, c2, by omega, rfl, rfl, HK.out, HC.out, HD.out, HM.out.mono (by omega)⟩
      case round =>
        obtain ⟨k, m, sd, cd, hk, rfl, HMM, hkb, hbc, hbd, hrd⟩ := hrel
        clear HK HC HL HD HM
        have HK : Hid (Below w.heap.size w wr) := hkb
        have HM : Hid (RowI wr wr.heap.size sd m) := hrd
        have HC : Hid (Box1 w1.heap.size wr (.int .i64 cap) (.slice su l.length cu) (.bool false)) := hbc
        have HD : Hid (Box1 w2.heap.size wr (.int .i64 cap) (.slice sd m.length cd) (.bool true)) := hbd
        clear hkb hrd hbc hbd
        obtain ⟨zz1, zz2, zz3, zz4⟩ := HZ.out
        have zD := HD.out.z
        by_cases hlk : k < l.length
        · obtain ⟨x, t, rfl, ht⟩ : ∃ x t, m = x :: t ∧ t = l.drop (k + 1) := ⟨l.getD k 0, l.drop (k + 1), by rw [HMM.out, drop_at l k hlk], rfl⟩
          have HT : Hid (t = l.drop (k + 1)) := ht
          have tl : t.length + k + 1 = l.length := by rw [ht]; simp; omega
          have hok2 : okC cap (x :: t).length = true := by simp [okC]; omega
          have hh := take_cons (cl := true) hok2
          clear HMM ht
          have HTL : Hid (t.length + k + 1 = l.length) := tl
          clear tl
          obtain ⟨C0, C1, C2, Cf, Cz⟩ := HC.out
          obtain ⟨D0, D1, D2, Df, Dz⟩ := HD.out
          go_wp2_with fail
          refine (implTake_any cap sd (x :: t) cd true wr HM.out (by have := HTL.out; simp; omega)).mono ?_
          rintro e w10 ⟨u10, rfl, o10, hb10, z10⟩
          rw [hh.1] at o10
          rw [hh.2.1, hh.2.2]
          obtain ⟨s10, c10, rfl⟩ := o10.sl
          clear C0 C1 C2 Cf Cz
          clear D0 D1 D2 Df Dz
          have JK : Hid (Below w.heap.size w w10) := HK.out.trans (hb10.mono (by omega))
          have JC : Hid (Box1 w1.heap.size w10 (.int .i64 cap) (.slice su l.length cu) (.bool false)) := HC.out.keep (hb10.block _ HC.out.z) hb10.size
          have JD : Hid (Box1 w2.heap.size w10 (.int .i64 cap) (.slice sd (x :: t).length cd) (.bool true)) := HD.out.keep (hb10.block _ HD.out.z) hb10.size
          clear HK
          have HK := JK
          clear JK
          clear HC
          have HC := JC
          clear JC
          clear HD
          have HD := JD
          clear JD
          have HO6 : Hid (OwnN w10 wr.heap.size (.slice s10 t.length c10) t) := o10
          clear hb10 o10 HM
          obtain ⟨C0, C1, C2, Cf, Cz⟩ := HC.out
          obtain ⟨D0, D1, D2, Df, Dz⟩ := HD.out
          have nd1 : ¬ w2.heap.size = w10.heap.size := by have := HD.out.z; omega
          have nd2 : ¬ w10.heap.size = w2.heap.size := by have := HD.out.z; omega
          go_wp2
          go_roundw
          case rel =>
            have fx := far_set (a := .int .i64 cap) (b := .slice s10 t.length c10) (c := .bool true) (o := .cells #[.int .i64 cap, .slice s10 t.length c10, .bool true] 26) (w := w10) (G := w2.heap.size)
            refine ⟨k + 1, t, s10, c10, by omega, by go_num, HT.out, ?_, ?_, ?_, ?_⟩
            · exact (((HK.out.setCell (p := ⟨w2.heap.size, 0, none⟩) (by simp; omega) _).setCell (p := ⟨w2.heap.size, 1, none⟩) (by simp; omega) _).setCell (p := ⟨w2.heap.size, 2, none⟩) (by simp; omega) _).alloc (by simp; omega) _
            · exact HC.out.keep (fx.1 _ HC.out.z (by omega)) fx.2
            · exact (box_set HD.out _ _ _).keep (Below.heap_alloc _ _ _ (by simpa using HD.out.z)) (by simp)
            · exact ((((HO6.out.set (a := ⟨w2.heap.size, 0, none⟩) (by simp; omega) _).set (a := ⟨w2.heap.size, 1, none⟩) (by simp; omega) _).set (a := ⟨w2.heap.size, 2, none⟩) (by simp; omega) _).alloc _).rowI
          case measure => simp [intOf]; omega
        · have hm : m = [] := by rw [HMM.out]; exact List.drop_eq_nil_of_le (by omega)
          obtain ⟨C0, C1, C2, Cf, Cz⟩ := HC.out
          obtain ⟨D0, D1, D2, Df, Dz⟩ := HD.out
          clear HMM HC HD
          subst hm
          have hok3 : okC cap 0 = true := by unfold okC; rw [decide_eq_true_iff]; omega
          have hh3 := take_empty (cl := true) hok3
          go_wp2_with fail
          refine (implTake_any cap sd [] cd true wr HM.out (by simp)).mono ?_
          rintro e w10 ⟨u10, rfl, o10, hb10, z10⟩
          rw [hh3.1] at o10
          rw [hh3.2.1, hh3.2.2]
          obtain ⟨s10, c10, rfl⟩ := o10.sl
          rw [if_pos trivial]
          clear C0 C1 C2 Cf Cz D0 D1 D2 Df Dz
          have JK : Hid (Below w.heap.size w w10) := HK.out.trans (hb10.mono (by omega))
          clear HK
          have HK := JK
          clear JK
          clear hb10 o10 HM
          go_wp2
          go_ret
          exact ⟨rfl, HK.out.alloc (by omega) _⟩
    · refine (implTake_any cp s4 lt c4 bt W4 (HX.out.mono (by omega)) (by omega)).mono ?_
      rintro e w5 ⟨u5, rfl, o5, hb5, z5⟩
      rw [ht.1] at o5
      rw [ht.2.1, ht.2.2]
      obtain ⟨s5, c5, rfl⟩ := o5.sl
      clear C0 C1 C2 Cf Cz
      clear D0 D1 D2 Df Dz
      clear F0 F1 F2 Ff Fz
      have JK : Hid (Below w.heap.size w w5) := HK.out.trans (hb5.mono (by omega))
      have JL : Hid (RowI w5 w1.heap.size su l) := HL.out.keep (fun k hk => hb5.block k (by omega))
      have JC : Hid (Box1 w1.heap.size w5 (.int .i64 cap) (.slice su l.length cu) (.bool false)) := HC.out.keep (hb5.block _ HC.out.z) hb5.size
      have JM : Hid (RowI w5 w2.heap.size s2 l) := HM.out.keep (fun k hk => hb5.block k (by omega))
      have JD : Hid (Box1 w2.heap.size w5 (.int .i64 cap) (.slice s2 l.length c2) (.bool true)) := HD.out.keep (hb5.block _ HD.out.z) hb5.size
      have JX : Hid (RowI w5 w4.heap.size s4 lt) := HX.out.keep (fun k hk => hb5.block k (by omega))
      have JF : Hid (Box1 w4.heap.size w5 (.int .i64 cp) (.slice s4 lt.length c4) (.bool bt)) := HF.out.keep (hb5.block _ HF.out.z) hb5.size
      clear HK
      have HK := JK
      clear JK
      clear HL
      have HL := JL
      clear JL
      clear HC
      have HC := JC
      clear JC
      clear HM
      have HM := JM
      clear JM
      clear HD
      have HD := JD
      clear JD
      clear HX
      have HX := JX
      clear JX
      clear HF
      have HF := JF
      clear JF
      have HY : Hid (RowI w5 w5.heap.size s5 lt) := o5.rowI
      clear hb5 o5
      obtain ⟨C0, C1, C2, Cf, Cz⟩ := HC.out
      obtain ⟨D0, D1, D2, Df, Dz⟩ := HD.out
      obtain ⟨F0, F1, F2, Ff, Fz⟩ := HF.out
      go_wp2_with fail
      clear C0 C1 C2 Cf Cz
      clear D0 D1 D2 Df Dz
      clear F0 F1 F2 Ff Fz
      obtain ⟨W5, hW5, bx5, kb5, sz5⟩ := box1 w5 (.int .i64 cp) (.slice s5 lt.length c5) (.bool bt) 26
      rw [hW5]
      have zw5 : w5.heap.size < W5.heap.size := by omega
      clear hW5 sz5
      have JK : Hid (Below w.heap.size w W5) := HK.out.trans (kb5.mono (by omega))
      have JL : Hid (RowI W5 w1.heap.size su l) := HL.out.keep (fun k hk => kb5.block k (by omega))
      have JC : Hid (Box1 w1.heap.size W5 (.int .i64 cap) (.slice su l.length cu) (.bool false)) := HC.out.keep (kb5.block _ HC.out.z) kb5.size
      have JM : Hid (RowI W5 w2.heap.size s2 l) := HM.out.keep (fun k hk => kb5.block k (by omega))
      have JD : Hid (Box1 w2.heap.size W5 (.int .i64 cap) (.slice s2 l.length c2) (.bool true)) := HD.out.keep (kb5.block _ HD.out.z) kb5.size
      have JX : Hid (RowI W5 w4.heap.size s4 lt) := HX.out.keep (fun k hk => kb5.block k (by omega))
      have JF : Hid (Box1 w4.heap.size W5 (.int .i64 cp) (.slice s4 lt.length c4) (.bool bt)) := HF.out.keep (kb5.block _ HF.out.z) kb5.size
      have JY : Hid (RowI W5 w5.heap.size s5 lt) := HY.out.keep (fun k hk => kb5.block k (by omega))
      clear HK
      have HK := JK
      clear JK
      clear HL
      have HL := JL
      clear JL
      clear HC
      have HC := JC
      clear JC
      clear HM
      have HM := JM
      clear JM
      clear HD
      have HD := JD
      clear JD
      clear HX
      have HX := JX
      clear JX
      clear HF
      have HF := JF
      clear JF
      clear HY
      have HY := JY
      clear JY
      have HG : Hid (Box1 w5.heap.size W5 (.int .i64 cp) (.slice s5 lt.length c5) (.bool bt)) := bx5
      clear bx5 kb5
      obtain ⟨C0, C1, C2, Cf, Cz⟩ := HC.out
      obtain ⟨D0, D1, D2, Df, Dz⟩ := HD.out
      obtain ⟨F0, F1, F2, Ff, Fz⟩ := HF.out
      obtain ⟨G0, G1, G2, Gf, Gz⟩ := HG.out
      refine (specTake_any cp s4 lt c4 bt W5 (HX.out.mono (by omega)) (by omega) hc4).mono ?_
      rintro e w6 ⟨u6, rfl, o6, hb6, z6⟩
      rw [ht.1] at o6
      rw [ht.2.1, ht.2.2]
      obtain ⟨s6, c6, rfl⟩ := o6.sl
      clear C0 C1 C2 Cf Cz
      clear D0 D1 D2 Df Dz
      clear F0 F1 F2 Ff Fz
      clear G0 G1 G2 Gf Gz
      have JK : Hid (Below w.heap.size w w6) := HK.out.trans (hb6.mono (by omega))
      have JL : Hid (RowI w6 w1.heap.size su l) := HL.out.keep (fun k hk => hb6.block k (by omega))
      have JC : Hid (Box1 w1.heap.size w6 (.int .i64 cap) (.slice su l.length cu) (.bool false)) := HC.out.keep (hb6.block _ HC.out.z) hb6.size
      have JM : Hid (RowI w6 w2.heap.size s2 l) := HM.out.keep (fun k hk => hb6.block k (by omega))
      have JD : Hid (Box1 w2.heap.size w6 (.int .i64 cap) (.slice s2 l.length c2) (.bool true)) := HD.out.keep (hb6.block _ HD.out.z) hb6.size
      have JX : Hid (RowI w6 w4.heap.size s4 lt) := HX.out.keep (fun k hk => hb6.block k (by omega))
      have JF : Hid (Box1 w4.heap.size w6 (.int .i64 cp) (.slice s4 lt.length c4) (.bool bt)) := HF.out.keep (hb6.block _ HF.out.z) hb6.size
      have JY : Hid (RowI w6 w5.heap.size s5 lt) := HY.out.keep (fun k hk => hb6.block k (by omega))
      have JG : Hid (Box1 w5.heap.size w6 (.int .i64 cp) (.slice s5 lt.length c5) (.bool bt)) := HG.out.keep (hb6.block _ HG.out.z) hb6.size
      clear HK
      have HK := JK
      clear JK
      clear HL
      have HL := JL
      clear JL
      clear HC
      have HC := JC
      clear JC
      clear HM
      have HM := JM
      clear JM
      clear HD
      have HD := JD
      clear JD
      clear HX
      have HX := JX
      clear JX
      clear HF
      have HF := JF
      clear JF
      clear HY
      have HY := JY
      clear JY
      clear HG
      have HG := JG
      clear JG
      clear hb6 o6 ht
      obtain ⟨C0, C1, C2, Cf, Cz⟩ := HC.out
      obtain ⟨D0, D1, D2, Df, Dz⟩ := HD.out
      obtain ⟨F0, F1, F2, Ff, Fz⟩ := HF.out
      obtain ⟨G0, G1, G2, Gf, Gz⟩ := HG.out
      go_wp2_with fail
      clear C0 C1 C2 Cf Cz
      clear D0 D1 D2 Df Dz
      clear F0 F1 F2 Ff Fz
      clear G0 G1 G2 Gf Gz
      obtain ⟨W6, hW6, bx6, kb6, sz6⟩ := box1 w6 (.int .i64 cp) (.slice s6 lt.length c6) (.bool bt) 26
      rw [hW6]
      have zw6 : w6.heap.size < W6.heap.size := by omega
      clear hW6 sz6
      have JK : Hid (Below w.heap.size w W6) := HK.out.trans (kb6.mono (by omega))
      have JL : Hid (RowI W6 w1.heap.size su l) := HL.out.keep (fun k hk => kb6.block k (by omega))
      have JC : Hid (Box1 w1.heap.size W6 (.int .i64 cap) (.slice su l.length cu) (.bool false)) := HC.out.keep (kb6.block _ HC.out.z) kb6.size
      have JM : Hid (RowI W6 w2.heap.size s2 l) := HM.out.keep (fun k hk => kb6.block k (by omega))
      have JD : Hid (Box1 w2.heap.size W6 (.int .i64 cap) (.slice s2 l.length c2) (.bool true)) := HD.out.keep (kb6.block _ HD.out.z) kb6.size
      have JX : Hid (RowI W6 w4.heap.size s4 lt) := HX.out.keep (fun k hk => kb6.block k (by omega))
      have JF : Hid (Box1 w4.heap.size W6 (.int .i64 cp) (.slice s4 lt.length c4) (.bool bt)) := HF.out.keep (kb6.block _ HF.out.z) kb6.size
      have JY : Hid (RowI W6 w5.heap.size s5 lt) := HY.out.keep (fun k hk => kb6.block k (by omega))
      have JG : Hid (Box1 w5.heap.size W6 (.int .i64 cp) (.slice s5 lt.length c5) (.bool bt)) := HG.out.keep (kb6.block _ HG.out.z) kb6.size
      clear HK
      have HK := JK
      clear JK
      clear HL
      have HL := JL
      clear JL
      clear HC
      have HC := JC
      clear JC
      clear HM
      have HM := JM
      clear JM
      clear HD
      have HD := JD
      clear JD
      clear HX
      have HX := JX
      clear JX
      clear HF
      have HF := JF
      clear JF
      clear HY
      have HY := JY
      clear JY
      clear HG
      have HG := JG
      clear JG
      have HH : Hid (Box1 w6.heap.size W6 (.int .i64 cp) (.slice s6 lt.length c6) (.bool bt)) := bx6
      clear bx6 kb6
      clear HH
      obtain ⟨C0, C1, C2, Cf, Cz⟩ := HC.out
      obtain ⟨D0, D1, D2, Df, Dz⟩ := HD.out
      obtain ⟨F0, F1, F2, Ff, Fz⟩ := HF.out
      obtain ⟨G0, G1, G2, Gf, Gz⟩ := HG.out
      refine (sameInts_any s5 s4 lt lt c5 c4 W6 (HY.out.ints (by omega)) (HX.out.ints (by omega)) (by omega)).mono ?_
      rintro e w7 ⟨rfl, m7, rfl⟩
      rw [decide_eq_true (rfl : lt = lt)]
      have hq7 : Below W6.heap.size W6 (W6.drewN m7) := ⟨rfl, rfl, rfl, Nat.le_refl _, fun _ _ => rfl⟩
      generalize W6.drewN m7 = w7 at hq7
      have z7 := hq7.size
      clear C0 C1 C2 Cf Cz
      clear D0 D1 D2 Df Dz
      clear F0 F1 F2 Ff Fz
      clear G0 G1 G2 Gf Gz
      have JK : Hid (Below w.heap.size w w7) := HK.out.trans (hq7.mono (by omega))
      have JL : Hid (RowI w7 w1.heap.size su l) := HL.out.keep (fun k hk => hq7.block k (by omega))
      have JC : Hid (Box1 w1.heap.size w7 (.int .i64 cap) (.slice su l.length cu) (.bool false)) := HC.out.keep (hq7.block _ HC.out.z) hq7.size
      have JM : Hid (RowI w7 w2.heap.size s2 l) := HM.out.keep (fun k hk => hq7.block k (by omega))
      have JD : Hid (Box1 w2.heap.size w7 (.int .i64 cap) (.slice s2 l.length c2) (.bool true)) := HD.out.keep (hq7.block _ HD.out.z) hq7.size
      have JX : Hid (RowI w7 w4.heap.size s4 lt) := HX.out.keep (fun k hk => hq7.block k (by omega))
      have JF : Hid (Box1 w4.heap.size w7 (.int .i64 cp) (.slice s4 lt.length c4) (.bool bt)) := HF.out.keep (hq7.block _ HF.out.z) hq7.size
      have JY : Hid (RowI w7 w5.heap.size s5 lt) := HY.out.keep (fun k hk => hq7.block k (by omega))
      have JG : Hid (Box1 w5.heap.size w7 (.int .i64 cp) (.slice s5 lt.length c5) (.bool bt)) := HG.out.keep (hq7.block _ HG.out.z) hq7.size
      clear HK
      have HK := JK
      clear JK
      clear HL
      have HL := JL
      clear JL
      clear HC
      have HC := JC
      clear JC
      clear HM
      have HM := JM
      clear JM
      clear HD
      have HD := JD
      clear JD
      clear HX
      have HX := JX
      clear JX
      clear HF
      have HF := JF
      clear JF
      clear HY
      have HY := JY
      clear JY
      clear HG
      have HG := JG
      clear JG
      clear hq7
      obtain ⟨C0, C1, C2, Cf, Cz⟩ := HC.out
      obtain ⟨D0, D1, D2, Df, Dz⟩ := HD.out
      obtain ⟨F0, F1, F2, Ff, Fz⟩ := HF.out
      obtain ⟨G0, G1, G2, Gf, Gz⟩ := HG.out
      go_wp2_with fail
      clear HX
      clear HY
      clear F0 F1 F2 Ff Fz
      clear HF
      clear G0 G1 G2 Gf Gz
      clear HG
      have tw := close_twice (cap := cap) (l := l)
      refine (implClose_any cap s2 l c2 true w7 (HM.out.mono (by omega)) (by omega)).mono ?_
      rintro e w8 ⟨u8, rfl, o8, hb8, z8⟩
      rw [tw.1, tw.2]
      obtain ⟨s8, c8, rfl⟩ := o8.sl
      clear C0 C1 C2 Cf Cz
      clear D0 D1 D2 Df Dz
      have JK : Hid (Below w.heap.size w w8) := HK.out.trans (hb8.mono (by omega))
      have JL : Hid (RowI w8 w1.heap.size su l) := HL.out.keep (fun k hk => hb8.block k (by omega))
      have JC : Hid (Box1 w1.heap.size w8 (.int .i64 cap) (.slice su l.length cu) (.bool false)) := HC.out.keep (hb8.block _ HC.out.z) hb8.size
      have JM : Hid (RowI w8 w2.heap.size s2 l) := HM.out.keep (fun k hk => hb8.block k (by omega))
      have JD : Hid (Box1 w2.heap.size w8 (.int .i64 cap) (.slice s2 l.length c2) (.bool true)) := HD.out.keep (hb8.block _ HD.out.z) hb8.size
      clear HK
      have HK := JK
      clear JK
      clear HL
      have HL := JL
      clear JL
      clear HC
      have HC := JC
      clear JC
      clear HM
      have HM := JM
      clear JM
      clear HD
      have HD := JD
      clear JD
      clear hb8 o8 tw
      obtain ⟨C0, C1, C2, Cf, Cz⟩ := HC.out
      obtain ⟨D0, D1, D2, Df, Dz⟩ := HD.out
      go_wp2_with fail
      clear C0 C1 C2 Cf Cz
      clear D0 D1 D2 Df Dz
      obtain ⟨W8, hW8, bx8, kb8, sz8⟩ := box1 w8 (.int .i64 cap) (.slice s8 l.length c8) (.bool true) 26
      rw [hW8]
      have zw8 : w8.heap.size < W8.heap.size := by omega
      clear hW8 sz8
      have JK : Hid (Below w.heap.size w W8) := HK.out.trans (kb8.mono (by omega))
      have JL : Hid (RowI W8 w1.heap.size su l) := HL.out.keep (fun k hk => kb8.block k (by omega))
      have JC : Hid (Box1 w1.heap.size W8 (.int .i64 cap) (.slice su l.length cu) (.bool false)) := HC.out.keep (kb8.block _ HC.out.z) kb8.size
      have JM : Hid (RowI W8 w2.heap.size s2 l) := HM.out.keep (fun k hk => kb8.block k (by omega))
      have JD : Hid (Box1 w2.heap.size W8 (.int .i64 cap) (.slice s2 l.length c2) (.bool true)) := HD.out.keep (kb8.block _ HD.out.z) kb8.size
      clear HK
      have HK := JK
      clear JK
      clear HL
      have HL := JL
      clear JL
      clear HC
      have HC := JC
      clear JC
      clear HM
      have HM := JM
      clear JM
      clear HD
      have HD := JD
      clear JD
      have HP : Hid (Box1 w8.heap.size W8 (.int .i64 cap) (.slice s8 l.length c8) (.bool true)) := bx8
      clear bx8 kb8
      clear HP
      obtain ⟨C0, C1, C2, Cf, Cz⟩ := HC.out
      obtain ⟨D0, D1, D2, Df, Dz⟩ := HD.out
      have sn := send_no (cap := cap) (l := l) (cl := true) (v := 1) (fun h => by cases h.2)
      refine (implSend_any cap s2 l c2 true 1 W8 (HM.out.mono (by omega)) (by omega)).mono ?_
      rintro e w9 ⟨u9, rfl, o9, hb9, z9⟩
      rw [sn.1] at o9
      rw [sn.2]
      obtain ⟨s9, c9, rfl⟩ := o9.sl
      clear C0 C1 C2 Cf Cz
      clear D0 D1 D2 Df Dz
      have JK : Hid (Below w.heap.size w w9) := HK.out.trans (hb9.mono (by omega))
      have JL : Hid (RowI w9 w1.heap.size su l) := HL.out.keep (fun k hk => hb9.block k (by omega))
      have JC : Hid (Box1 w1.heap.size w9 (.int .i64 cap) (.slice su l.length cu) (.bool false)) := HC.out.keep (hb9.block _ HC.out.z) hb9.size
      have JM : Hid (RowI w9 w2.heap.size s2 l) := HM.out.keep (fun k hk => hb9.block k (by omega))
      have JD : Hid (Box1 w2.heap.size w9 (.int .i64 cap) (.slice s2 l.length c2) (.bool true)) := HD.out.keep (hb9.block _ HD.out.z) hb9.size
      clear HK
      have HK := JK
      clear JK
      clear HL
      have HL := JL
      clear JL
      clear HC
      have HC := JC
      clear JC
      clear HM
      have HM := JM
      clear JM
      clear HD
      have HD := JD
      clear JD
      clear hb9 o9 sn
      obtain ⟨C0, C1, C2, Cf, Cz⟩ := HC.out
      obtain ⟨D0, D1, D2, Df, Dz⟩ := HD.out
      go_wp2
      clear C0 C1 C2 Cf Cz
      clear D0 D1 D2 Df Dz
      obtain ⟨W9, hW9, bx9, kb9, sz9⟩ := box1 w9 (.int .i64 cap) (.slice s9 l.length c9) (.bool true) 26
      rw [hW9]
      have zw9 : w9.heap.size < W9.heap.size := by omega
      clear hW9 sz9
      have JK : Hid (Below w.heap.size w W9) := HK.out.trans (kb9.mono (by omega))
      have JL : Hid (RowI W9 w1.heap.size su l) := HL.out.keep (fun k hk => kb9.block k (by omega))
      have JC : Hid (Box1 w1.heap.size W9 (.int .i64 cap) (.slice su l.length cu) (.bool false)) := HC.out.keep (kb9.block _ HC.out.z) kb9.size
      have JM : Hid (RowI W9 w2.heap.size s2 l) := HM.out.keep (fun k hk => kb9.block k (by omega))
      have JD : Hid (Box1 w2.heap.size W9 (.int .i64 cap) (.slice s2 l.length c2) (.bool true)) := HD.out.keep (kb9.block _ HD.out.z) kb9.size
      clear HK
      have HK := JK
      clear JK
      clear HL
      have HL := JL
      clear JL
      clear HC
      have HC := JC
      clear JC
      clear HM
      have HM := JM
      clear JM
      clear HD
      have HD := JD
      clear JD
      have HQ : Hid (Box1 w9.heap.size W9 (.int .i64 cap) (.slice s9 l.length c9) (.bool true)) := bx9
      clear bx9 kb9
      clear HQ
      have HZ : Hid (w2.heap.size < W9.heap.size ∧ w1.heap.size < w2.heap.size ∧ w1.heap.size ≤ w1.heap.size ∧ w.heap.size ≤ w1.heap.size) := ⟨HD.out.z, by omega, by omega, by omega⟩
      go_loopw [19] (fun i wr => ∃ (k : Nat) (m : List Int) (sd : Option Addr) (cd : Nat), k ≤ l.length ∧ i = .int .i64 k ∧ Hid (m = l.drop k) ∧ Below w.heap.size w wr ∧ Box1 w1.heap.size wr (.int .i64 cap) (.slice su l.length cu) (.bool false) ∧ Box1 w2.heap.size wr (.int .i64 cap) (.slice sd m.length cd) (.bool true) ∧ RowI wr wr.heap.size sd m) (fun i _ => l.length - (intOf i).toNat)
      case atStart => exact ⟨0, l, s2, c2, by omega, rfl, rfl, HK.out, HC.out, HD.out, HM.out.mono (by omega)⟩
      case round =>
        obtain ⟨k, m, sd, cd, hk, rfl, HMM, hkb, hbc, hbd, hrd⟩ := hrel
        clear HK HC HL HD HM
        have HK : Hid (Below w.heap.size w wr) := hkb
        have HM : Hid (RowI wr wr.heap.size sd m) := hrd
        have HC : Hid (Box1 w1.heap.size wr (.int .i64 cap) (.slice su l.length cu) (.bool false)) := hbc
        have HD : Hid (Box1 w2.heap.size wr (.int .i64 cap) (.slice sd m.length cd) (.bool true)) := hbd
        clear hkb hrd hbc hbd
        obtain ⟨zz1, zz2, zz3, zz4⟩ := HZ.out
        have zD := HD.out.z
        by_cases hlk : k < l.length
        · obtain ⟨x, t, rfl, ht⟩ : ∃ x t, m = x :: t ∧ t = l.drop (k + 1) := ⟨l.getD k 0, l.drop (k + 1), by rw [HMM.out, drop_at l k hlk], rfl⟩
          have HT : Hid (t = l.drop (k + 1)) := ht
          have tl : t.length + k + 1 = l.length := by rw [ht]; simp; omega
          have hok2 : okC cap (x :: t).length = true := by simp [okC]; omega
          have hh := take_cons (cl := true) hok2
          clear HMM ht
          have HTL : Hid (t.length + k + 1 = l.length) := tl
          clear tl
          obtain ⟨C0, C1, C2, Cf, Cz⟩ := HC.out
          obtain ⟨D0, D1, D2, Df, Dz⟩ := HD.out
          go_wp2_with fail
          refine (implTake_any cap sd (x :: t) cd true wr HM.out (by have := HTL.out; simp; omega)).mono ?_
          rintro e w10 ⟨u10, rfl, o10, hb10, z10⟩
          rw [hh.1] at o10
          rw [hh.2.1, hh.2.2]
          obtain ⟨s10, c10, rfl⟩ := o10.sl
          clear C0 C1 C2 Cf Cz
          clear D0 D1 D2 Df Dz
          have JK : Hid (Below w.heap.size w w10) := HK.out.trans (hb10.mono (by omega))
          have JC : Hid (Box1 w1.heap.size w10 (.int .i64 cap) (.slice su l.length cu) (.bool false)) := HC.out.keep (hb10.block _ HC.out.z) hb10.size
          have JD : Hid (Box1 w2.heap.size w10 (.int .i64 cap) (.slice sd (x :: t).length cd) (.bool true)) := HD.out.keep (hb10.block _ HD.out.z) hb10.size
          clear HK
          have HK := JK
          clear JK
          clear HC
          have HC := JC
          clear JC
          clear HD
          have HD := JD
          clear JD
          have HO6 : Hid (OwnN w10 wr.heap.size (.slice s10 t.length c10) t) := o10
          clear hb10 o10 HM
          obtain ⟨C0, C1, C2, Cf, Cz⟩ := HC.out
          obtain ⟨D0, D1, D2, Df, Dz⟩ := HD.out
          have nd1 : ¬ w2.heap.size = w10.heap.size := by have := HD.out.z; omega
          have nd2 : ¬ w10.heap.size = w2.heap.size := by have := HD.out.z; omega
          go_wp2
          go_roundw
          case rel =>
            have fx := far_set (a := .int .i64 cap) (b := .slice s10 t.length c10) (c := .bool true) (o := .cells #[.int .i64 cap, .slice s10 t.length c10, .bool true] 26) (w := w10) (G := w2.heap.size)
            refine ⟨k + 1, t, s10, c10, by omega, by go_num, HT.out, ?_, ?_, ?_, ?_⟩
            · exact (((HK.out.setCell (p := ⟨w2.heap.size, 0, none⟩) (by simp; omega) _).setCell (p := ⟨w2.heap.size, 1, none⟩) (by simp; omega) _).setCell (p := ⟨w2.heap.size, 2, none⟩) (by simp; omega) _).alloc (by simp; omega) _
            · exact HC.out.keep (fx.1 _ HC.out.z (by omega)) fx.2
            · exact (box_set HD.out _ _ _).keep (Below.heap_alloc _ _ _ (by simpa using HD.out.z)) (by simp)
            · exact ((((HO6.out.set (a := ⟨w2.heap.size, 0, none⟩) (by simp; omega) _).set (a := ⟨w2.heap.size, 1, none⟩) (by simp; omega) _).set (a := ⟨w2.heap.size, 2, none⟩) (by simp; omega) _).alloc _).rowI
          case measure => simp [intOf]; omega
        · have hm : m = [] := by rw [HMM.out]; exact List.drop_eq_nil_of_le (by omega)
          obtain ⟨C0, C1, C2, Cf, Cz⟩ := HC.out
          obtain ⟨D0, D1, D2, Df, Dz⟩ := HD.out
          clear HMM HC HD
          subst hm
          have hok3 : okC cap 0 = true := by unfold okC; rw [decide_eq_true_iff]; omega
          have hh3 := take_empty (cl := true) hok3
          go_wp2_with fail
          refine (implTake_any cap sd [] cd true wr HM.out (by simp)).mono ?_
          rintro e w10 ⟨u10, rfl, o10, hb10, z10⟩
          rw [hh3.1] at o10
          rw [hh3.2.1, hh3.2.2]
          obtain ⟨s10, c10, rfl⟩ := o10.sl
          rw [if_pos trivial]
          clear C0 C1 C2 Cf Cz D0 D1 D2 Df Dz
          have JK : Hid (Below w.heap.size w w10) := HK.out.trans (hb10.mono (by omega))
          clear HK
          have HK := JK
          clear JK
          clear hb10 o10 HM
          go_wp2
          go_ret
          exact ⟨rfl, HK.out.alloc (by omega) _⟩
  · have hh : closeB cap l b = b ∧ closeK cap l b = 2 := by
      cases h1 : okC cap l.length with
      | false => exact close_bad h1
      | true =>
        cases b with
        | true => exact close_twice
        | false => exact absurd ⟨h1, rfl⟩ hd
    clear hd
    have HK : Hid (Below w.heap.size w w1) := K1.out
    have HL : Hid (RowI w1 w1.heap.size su l) := R1.out
    clear K1 R1
    go_wp2_with fail
    obtain ⟨W1, hW1, bx1, kb1, sz1⟩ := box1 w1 (.int .i64 cap) (.slice su l.length cu) (.bool b) 26
    rw [hW1]
    have zw1 : w1.heap.size < W1.heap.size := by omega
    clear hW1 sz1
    have JK : Hid (Below w.heap.size w W1) := HK.out.trans (kb1.mono (by omega))
    have JL : Hid (RowI W1 w1.heap.size su l) := HL.out.keep (fun k hk => kb1.block k (by omega))
    clear HK
    have HK := JK
    clear JK
    clear HL
    have HL := JL
    clear JL
    have HC : Hid (Box1 w1.heap.size W1 (.int .i64 cap) (.slice su l.length cu) (.bool b)) := bx1
    clear bx1 kb1
    obtain ⟨C0, C1, C2, Cf, Cz⟩ := HC.out
    refine (implClose_any cap su l cu b W1 (HL.out.mono (by omega)) (by omega)).mono ?_
    rintro e w2 ⟨u2, rfl, o2, hb2, z2⟩
    rw [hh.1, hh.2]
    obtain ⟨s2, c2, rfl⟩ := o2.sl
    clear C0 C1 C2 Cf Cz
    have JK : Hid (Below w.heap.size w w2) := HK.out.trans (hb2.mono (by omega))
    have JL : Hid (RowI w2 w1.heap.size su l) := HL.out.keep (fun k hk => hb2.block k (by omega))
    have JC : Hid (Box1 w1.heap.size w2 (.int .i64 cap) (.slice su l.length cu) (.bool b)) := HC.out.keep (hb2.block _ HC.out.z) hb2.size
    clear HK
    have HK := JK
    clear JK
    clear HL
    have HL := JL
    clear JL
    clear HC
    have HC := JC
    clear JC
    have HM : Hid (RowI w2 w2.heap.size s2 l) := o2.rowI
    clear hb2 o2
    obtain ⟨C0, C1, C2, Cf, Cz⟩ := HC.out
    go_wp2_with fail
    clear C0 C1 C2 Cf Cz
    obtain ⟨W2, hW2, bx2, kb2, sz2⟩ := box1 w2 (.int .i64 cap) (.slice s2 l.length c2) (.bool b) 26
    rw [hW2]
    have zw2 : w2.heap.size < W2.heap.size := by omega
    clear hW2 sz2
    have JK : Hid (Below w.heap.size w W2) := HK.out.trans (kb2.mono (by omega))
    have JL : Hid (RowI W2 w1.heap.size su l) := HL.out.keep (fun k hk => kb2.block k (by omega))
    have JC : Hid (Box1 w1.heap.size W2 (.int .i64 cap) (.slice su l.length cu) (.bool b)) := HC.out.keep (kb2.block _ HC.out.z) kb2.size
    have JM : Hid (RowI W2 w2.heap.size s2 l) := HM.out.keep (fun k hk => kb2.block k (by omega))
    clear HK
    have HK := JK
    clear JK
    clear HL
    have HL := JL
    clear JL
    clear HC
    have HC := JC
    clear JC
    clear HM
    have HM := JM
    clear JM
    have HD : Hid (Box1 w2.heap.size W2 (.int .i64 cap) (.slice s2 l.length c2) (.bool b)) := bx2
    clear bx2 kb2
    obtain ⟨C0, C1, C2, Cf, Cz⟩ := HC.out
    obtain ⟨D0, D1, D2, Df, Dz⟩ := HD.out
    refine (specClose_any cap su l cu b W2 (HL.out.mono (by omega)) (by omega)).mono ?_
    rintro e w3 ⟨u3, rfl, o3, hb3, z3⟩
    rw [hh.1, hh.2]
    obtain ⟨s3, c3, rfl⟩ := o3.sl
    clear C0 C1 C2 Cf Cz
    clear D0 D1 D2 Df Dz
    have JK : Hid (Below w.heap.size w w3) := HK.out.trans (hb3.mono (by omega))
    have JL : Hid (RowI w3 w1.heap.size su l) := HL.out.keep (fun k hk => hb3.block k (by omega))
    have JC : Hid (Box1 w1.heap.size w3 (.int .i64 cap) (.slice su l.length cu) (.bool b)) := HC.out.keep (hb3.block _ HC.out.z) hb3.size
    have JM : Hid (RowI w3 w2.heap.size s2 l) := HM.out.keep (fun k hk => hb3.block k (by omega))
    have JD : Hid (Box1 w2.heap.size w3 (.int .i64 cap) (.slice s2 l.length c2) (.bool b)) := HD.out.keep (hb3.block _ HD.out.z) hb3.size
    clear HK
    have HK := JK
    clear JK
    clear HL
    have HL := JL
    clear JL
    clear HC
    have HC := JC
    clear JC
    clear HM
    have HM := JM
    clear JM
    clear HD
    have HD := JD
    clear JD
    clear hb3 o3
    obtain ⟨C0, C1, C2, Cf, Cz⟩ := HC.out
    obtain ⟨D0, D1, D2, Df, Dz⟩ := HD.out
    go_wp2_with fail
    clear C0 C1 C2 Cf Cz
    clear D0 D1 D2 Df Dz
    obtain ⟨W3, hW3, bx3, kb3, sz3⟩ := box1 w3 (.int .i64 cap) (.slice s3 l.length c3) (.bool b) 26
    rw [hW3]
    have zw3 : w3.heap.size < W3.heap.size := by omega
    clear hW3 sz3
    have JK : Hid (Below w.heap.size w W3) := HK.out.trans (kb3.mono (by omega))
    have JL : Hid (RowI W3 w1.heap.size su l) := HL.out.keep (fun k hk => kb3.block k (by omega))
    have JC : Hid (Box1 w1.heap.size W3 (.int .i64 cap) (.slice su l.length cu) (.bool b)) := HC.out.keep (kb3.block _ HC.out.z) kb3.size
    have JM : Hid (RowI W3 w2.heap.size s2 l) := HM.out.keep (fun k hk => kb3.block k (by omega))
    have JD : Hid (Box1 w2.heap.size W3 (.int .i64 cap) (.slice s2 l.length c2) (.bool b)) := HD.out.keep (kb3.block _ HD.out.z) kb3.size
    clear HK
    have HK := JK
    clear JK
    clear HL
    have HL := JL
    clear JL
    clear HC
    have HC := JC
    clear JC
    clear HM
    have HM := JM
    clear JM
    clear HD
    have HD := JD
    clear JD
    have HE : Hid (Box1 w3.heap.size W3 (.int .i64 cap) (.slice s3 l.length c3) (.bool b)) := bx3
    clear bx3 kb3
    clear HE
    obtain ⟨C0, C1, C2, Cf, Cz⟩ := HC.out
    obtain ⟨D0, D1, D2, Df, Dz⟩ := HD.out
    refine (drawTake_new s n c W3 ((HB.out.below HK.out (Nat.le_refl _)).up (by omega)) HN.out).mono ?_
    rintro e w4 ⟨cp, u4, lt, bt, rfl, o4, hl4, hb4⟩
    have z4 := hb4.size
    obtain ⟨s4, c4, rfl⟩ := o4.sl
    have hc4 := OwnN.capI o4
    clear C0 C1 C2 Cf Cz
    clear D0 D1 D2 Df Dz
    have JK : Hid (Below w.heap.size w w4) := HK.out.trans (hb4.mono (by omega))
    have JL : Hid (RowI w4 w1.heap.size su l) := HL.out.keep (fun k hk => hb4.block k (by omega))
    have JC : Hid (Box1 w1.heap.size w4 (.int .i64 cap) (.slice su l.length cu) (.bool b)) := HC.out.keep (hb4.block _ HC.out.z) hb4.size
    have JM : Hid (RowI w4 w2.heap.size s2 l) := HM.out.keep (fun k hk => hb4.block k (by omega))
    have JD : Hid (Box1 w2.heap.size w4 (.int .i64 cap) (.slice s2 l.length c2) (.bool b)) := HD.out.keep (hb4.block _ HD.out.z) hb4.size
    clear HK
    have HK := JK
    clear JK
    clear HL
    have HL := JL
    clear JL
    clear HC
    have HC := JC
    clear JC
    clear HM
    have HM := JM
    clear JM
    clear HD
    have HD := JD
    clear JD
    have HX : Hid (RowI w4 w4.heap.size s4 lt) := o4.rowI
    clear hb4 o4
    obtain ⟨C0, C1, C2, Cf, Cz⟩ := HC.out
    obtain ⟨D0, D1, D2, Df, Dz⟩ := HD.out
    go_wp2_with fail
    clear C0 C1 C2 Cf Cz
    clear D0 D1 D2 Df Dz
    obtain ⟨W4, hW4, bx4, kb4, sz4⟩ := box1 w4 (.int .i64 cp) (.slice s4 lt.length c4) (.bool bt) 26
    rw [hW4]
    have zw4 : w4.heap.size < W4.heap.size := by omega
    clear hW4 sz4
    have JK : Hid (Below w.heap.size w W4) := HK.out.trans (kb4.mono (by omega))
    have JL : Hid (RowI W4 w1.heap.size su l) := HL.out.keep (fun k hk => kb4.block k (by omega))
    have JC : Hid (Box1 w1.heap.size W4 (.int .i64 cap) (.slice su l.length cu) (.bool b)) := HC.out.keep (kb4.block _ HC.out.z) kb4.size
    have JM : Hid (RowI W4 w2.heap.size s2 l) := HM.out.keep (fun k hk => kb4.block k (by omega))
    have JD : Hid (Box1 w2.heap.size W4 (.int .i64 cap) (.slice s2 l.length c2) (.bool b)) := HD.out.keep (kb4.block _ HD.out.z) kb4.size
    have JX : Hid (RowI W4 w4.heap.size s4 lt) := HX.out.keep (fun k hk => kb4.block k (by omega))
    clear HK
    have HK := JK
    clear JK
    clear HL
    have HL := JL
    clear JL
    clear HC
    have HC := JC
    clear JC
    clear HM
    have HM := JM
    clear JM
    clear HD
    have HD := JD
    clear JD
    clear HX
    have HX := JX
    clear JX
    have HF : Hid (Box1 w4.heap.size W4 (.int .i64 cp) (.slice s4 lt.length c4) (.bool bt)) := bx4
    clear bx4 kb4
    obtain ⟨C0, C1, C2, Cf, Cz⟩ := HC.out
    obtain ⟨D0, D1, D2, Df, Dz⟩ := HD.out
    obtain ⟨F0, F1, F2, Ff, Fz⟩ := HF.out
    obtain ⟨Lt, vt, kt, ht, hLL, hLt⟩ := take_split cp lt bt
    have hv1 : (vt != vt) = false := by simp
    have hv2 : (kt != kt) = false := by simp
    have hbb : (b == b) = true := by simp
    rcases hLt with rfl | ⟨rfl, hkt⟩
    · refine (implTake_any cp s4 lt c4 bt W4 (HX.out.mono (by omega)) (by omega)).mono ?_
      rintro e w5 ⟨u5, rfl, o5, hb5, z5⟩
      rw [ht.1] at o5
      rw [ht.2.1, ht.2.2]
      obtain ⟨s5, c5, rfl⟩ := o5.sl
      clear C0 C1 C2 Cf Cz
      clear D0 D1 D2 Df Dz
      clear F0 F1 F2 Ff Fz
      have JK : Hid (Below w.heap.size w w5) := HK.out.trans (hb5.mono (by omega))
      have JL : Hid (RowI w5 w1.heap.size su l) := HL.out.keep (fun k hk => hb5.block k (by omega))
      have JC : Hid (Box1 w1.heap.size w5 (.int .i64 cap) (.slice su l.length cu) (.bool b)) := HC.out.keep (hb5.block _ HC.out.z) hb5.size
      have JM : Hid (RowI w5 w2.heap.size s2 l) := HM.out.keep (fun k hk => hb5.block k (by omega))
      have JD : Hid (Box1 w2.heap.size w5 (.int .i64 cap) (.slice s2 l.length c2) (.bool b)) := HD.out.keep (hb5.block _ HD.out.z) hb5.size
      have JX : Hid (RowI w5 w4.heap.size s4 lt) := HX.out.keep (fun k hk => hb5.block k (by omega))
      have JF : Hid (Box1 w4.heap.size w5 (.int .i64 cp) (.slice s4 lt.length c4) (.bool bt)) := HF.out.keep (hb5.block _ HF.out.z) hb5.size
      clear HK
      have HK := JK
      clear JK
      clear HL
      have HL := JL
      clear JL
      clear HC
      have HC := JC
      clear JC
      clear HM
      have HM := JM
      clear JM
      clear HD
      have HD := JD
      clear JD
      clear HX
      have HX := JX
      clear JX
      clear HF
      have HF := JF
      clear JF
      have HY : Hid (RowI w5 w5.heap.size s5 Lt) := o5.rowI
      clear hb5 o5
      obtain ⟨C0, C1, C2, Cf, Cz⟩ := HC.out
      obtain ⟨D0, D1, D2, Df, Dz⟩ := HD.out
      obtain ⟨F0, F1, F2, Ff, Fz⟩ := HF.out
      go_wp2_with fail
      clear C0 C1 C2 Cf Cz
      clear D0 D1 D2 Df Dz
      clear F0 F1 F2 Ff Fz
      obtain ⟨W5, hW5, bx5, kb5, sz5⟩ := box1 w5 (.int .i64 cp) (.slice s5 Lt.length c5) (.bool bt) 26
      rw [hW5]
      have zw5 : w5.heap.size < W5.heap.size := by omega
      clear hW5 sz5
      have JK : Hid (Below w.heap.size w W5) := HK.out.trans (kb5.mono (by omega))
      have JL : Hid (RowI W5 w1.heap.size su l) := HL.out.keep (fun k hk => kb5.block k (by omega))
      have JC : Hid (Box1 w1.heap.size W5 (.int .i64 cap) (.slice su l.length cu) (.bool b)) := HC.out.keep (kb5.block _ HC.out.z) kb5.size
      have JM : Hid (RowI W5 w2.heap.size s2 l) := HM.out.keep (fun k hk => kb5.block k (by omega))
      have JD : Hid (Box1 w2.heap.size W5 (.int .i64 cap) (.slice s2 l.length c2) (.bool b)) := HD.out.keep (kb5.block _ HD.out.z) kb5.size
      have JX : Hid (RowI W5 w4.heap.size s4 lt) := HX.out.keep (fun k hk => kb5.block k (by omega))
      have JF : Hid (Box1 w4.heap.size W5 (.int .i64 cp) (.slice s4 lt.length c4) (.bool bt)) := HF.out.keep (kb5.block _ HF.out.z) kb5.size
      have JY : Hid (RowI W5 w5.heap.size s5 Lt) := HY.out.keep (fun k hk => kb5.block k (by omega))
      clear HK
      have HK := JK
      clear JK
      clear HL
      have HL := JL
      clear JL
      clear HC
      have HC := JC
      clear JC
      clear HM
      have HM := JM
      clear JM
      clear HD
      have HD := JD
      clear JD
      clear HX
      have HX := JX
      clear JX
      clear HF
      have HF := JF
      clear JF
      clear HY
      have HY := JY
      clear JY
      have HG : Hid (Box1 w5.heap.size W5 (.int .i64 cp) (.slice s5 Lt.length c5) (.bool bt)) := bx5
      clear bx5 kb5
      obtain ⟨C0, C1, C2, Cf, Cz⟩ := HC.out
      obtain ⟨D0, D1, D2, Df, Dz⟩ := HD.out
      obtain ⟨F0, F1, F2, Ff, Fz⟩ := HF.out
      obtain ⟨G0, G1, G2, Gf, Gz⟩ := HG.out
      refine (specTake_any cp s4 lt c4 bt W5 (HX.out.mono (by omega)) (by omega) hc4).mono ?_
      rintro e w6 ⟨u6, rfl, o6, hb6, z6⟩
      rw [ht.1] at o6
      rw [ht.2.1, ht.2.2]
      obtain ⟨s6, c6, rfl⟩ := o6.sl
      clear C0 C1 C2 Cf Cz
      clear D0 D1 D2 Df Dz
      clear F0 F1 F2 Ff Fz
      clear G0 G1 G2 Gf Gz
      have JK : Hid (Below w.heap.size w w6) := HK.out.trans (hb6.mono (by omega))
      have JL : Hid (RowI w6 w1.heap.size su l) := HL.out.keep (fun k hk => hb6.block k (by omega))
      have JC : Hid (Box1 w1.heap.size w6 (.int .i64 cap) (.slice su l.length cu) (.bool b)) := HC.out.keep (hb6.block _ HC.out.z) hb6.size
      have JM : Hid (RowI w6 w2.heap.size s2 l) := HM.out.keep (fun k hk => hb6.block k (by omega))
      have JD : Hid (Box1 w2.heap.size w6 (.int .i64 cap) (.slice s2 l.length c2) (.bool b)) := HD.out.keep (hb6.block _ HD.out.z) hb6.size
      have JX : Hid (RowI w6 w4.heap.size s4 lt) := HX.out.keep (fun k hk => hb6.block k (by omega))
      have JF : Hid (Box1 w4.heap.size w6 (.int .i64 cp) (.slice s4 lt.length c4) (.bool bt)) := HF.out.keep (hb6.block _ HF.out.z) hb6.size
      have JY : Hid (RowI w6 w5.heap.size s5 Lt) := HY.out.keep (fun k hk => hb6.block k (by omega))
      have JG : Hid (Box1 w5.heap.size w6 (.int .i64 cp) (.slice s5 Lt.length c5) (.bool bt)) := HG.out.keep (hb6.block _ HG.out.z) hb6.size
      clear HK
      have HK := JK
      clear JK
      clear HL
      have HL := JL
      clear JL
      clear HC
      have HC := JC
      clear JC
      clear HM
      have HM := JM
      clear JM
      clear HD
      have HD := JD
      clear JD
      clear HX
      have HX := JX
      clear JX
      clear HF
      have HF := JF
      clear JF
      clear HY
      have HY := JY
      clear JY
      clear HG
      have HG := JG
      clear JG
      clear hb6 o6 ht
      obtain ⟨C0, C1, C2, Cf, Cz⟩ := HC.out
      obtain ⟨D0, D1, D2, Df, Dz⟩ := HD.out
      obtain ⟨F0, F1, F2, Ff, Fz⟩ := HF.out
      obtain ⟨G0, G1, G2, Gf, Gz⟩ := HG.out
      go_wp2_with fail
      clear C0 C1 C2 Cf Cz
      clear D0 D1 D2 Df Dz
      clear F0 F1 F2 Ff Fz
      clear G0 G1 G2 Gf Gz
      obtain ⟨W6, hW6, bx6, kb6, sz6⟩ := box1 w6 (.int .i64 cp) (.slice s6 Lt.length c6) (.bool bt) 26
      rw [hW6]
      have zw6 : w6.heap.size < W6.heap.size := by omega
      clear hW6 sz6
      have JK : Hid (Below w.heap.size w W6) := HK.out.trans (kb6.mono (by omega))
      have JL : Hid (RowI W6 w1.heap.size su l) := HL.out.keep (fun k hk => kb6.block k (by omega))
      have JC : Hid (Box1 w1.heap.size W6 (.int .i64 cap) (.slice su l.length cu) (.bool b)) := HC.out.keep (kb6.block _ HC.out.z) kb6.size
      have JM : Hid (RowI W6 w2.heap.size s2 l) := HM.out.keep (fun k hk => kb6.block k (by omega))
      have JD : Hid (Box1 w2.heap.size W6 (.int .i64 cap) (.slice s2 l.length c2) (.bool b)) := HD.out.keep (kb6.block _ HD.out.z) kb6.size
      have JX : Hid (RowI W6 w4.heap.size s4 lt) := HX.out.keep (fun k hk => kb6.block k (by omega))
      have JF : Hid (Box1 w4.heap.size W6 (.int .i64 cp) (.slice s4 lt.length c4) (.bool bt)) := HF.out.keep (kb6.block _ HF.out.z) kb6.size
      have JY : Hid (RowI W6 w5.heap.size s5 Lt) := HY.out.keep (fun k hk => kb6.block k (by omega))
      have JG : Hid (Box1 w5.heap.size W6 (.int .i64 cp) (.slice s5 Lt.length c5) (.bool bt)) := HG.out.keep (kb6.block _ HG.out.z) kb6.size
      clear HK
      have HK := JK
      clear JK
      clear HL
      have HL := JL
      clear JL
      clear HC
      have HC := JC
      clear JC
      clear HM
      have HM := JM
      clear JM
      clear HD
      have HD := JD
      clear JD
      clear HX
      have HX := JX
      clear JX
      clear HF
      have HF := JF
      clear JF
      clear HY
      have HY := JY
      clear JY
      clear HG
      have HG := JG
      clear JG
      have HH : Hid (Box1 w6.heap.size W6 (.int .i64 cp) (.slice s6 Lt.length c6) (.bool bt)) := bx6
      clear bx6 kb6
      clear HH
      obtain ⟨C0, C1, C2, Cf, Cz⟩ := HC.out
      obtain ⟨D0, D1, D2, Df, Dz⟩ := HD.out
      obtain ⟨F0, F1, F2, Ff, Fz⟩ := HF.out
      obtain ⟨G0, G1, G2, Gf, Gz⟩ := HG.out
      clear HX
      clear HY
      clear F0 F1 F2 Ff Fz
      clear HF
      clear G0 G1 G2 Gf Gz
      clear HG
      refine (sameInts_any s2 su l l c2 cu W6 (HM.out.ints (by omega)) (HL.out.ints (by omega)) (by omega)).mono ?_
      rintro e w8 ⟨rfl, m8, rfl⟩
      rw [decide_eq_true (rfl : l = l)]
      go_wp2
      go_ret
      exact ⟨rfl, HK.out.trans ⟨rfl, rfl, rfl, Nat.le_refl _, fun _ _ => rfl⟩⟩
    · refine (implTake_any cp s4 lt c4 bt W4 (HX.out.mono (by omega)) (by omega)).mono ?_
      rintro e w5 ⟨u5, rfl, o5, hb5, z5⟩
      rw [ht.1] at o5
      rw [ht.2.1, ht.2.2]
      obtain ⟨s5, c5, rfl⟩ := o5.sl
      clear C0 C1 C2 Cf Cz
      clear D0 D1 D2 Df Dz
      clear F0 F1 F2 Ff Fz
      have JK : Hid (Below w.heap.size w w5) := HK.out.trans (hb5.mono (by omega))
      have JL : Hid (RowI w5 w1.heap.size su l) := HL.out.keep (fun k hk => hb5.block k (by omega))
      have JC : Hid (Box1 w1.heap.size w5 (.int .i64 cap) (.slice su l.length cu) (.bool b)) := HC.out.keep (hb5.block _ HC.out.z) hb5.size
      have JM : Hid (RowI w5 w2.heap.size s2 l) := HM.out.keep (fun k hk => hb5.block k (by omega))
      have JD : Hid (Box1 w2.heap.size w5 (.int .i64 cap) (.slice s2 l.length c2) (.bool b)) := HD.out.keep (hb5.block _ HD.out.z) hb5.size
      have JX : Hid (RowI w5 w4.heap.size s4 lt) := HX.out.keep (fun k hk => hb5.block k (by omega))
      have JF : Hid (Box1 w4.heap.size w5 (.int .i64 cp) (.slice s4 lt.length c4) (.bool bt)) := HF.out.keep (hb5.block _ HF.out.z) hb5.size
      clear HK
      have HK := JK
      clear JK
      clear HL
      have HL := JL
      clear JL
      clear HC
      have HC := JC
      clear JC
      clear HM
      have HM := JM
      clear JM
      clear HD
      have HD := JD
      clear JD
      clear HX
      have HX := JX
      clear JX
      clear HF
      have HF := JF
      clear JF
      have HY : Hid (RowI w5 w5.heap.size s5 lt) := o5.rowI
      clear hb5 o5
      obtain ⟨C0, C1, C2, Cf, Cz⟩ := HC.out
      obtain ⟨D0, D1, D2, Df, Dz⟩ := HD.out
      obtain ⟨F0, F1, F2, Ff, Fz⟩ := HF.out
      go_wp2_with fail
      clear C0 C1 C2 Cf Cz
      clear D0 D1 D2 Df Dz
      clear F0 F1 F2 Ff Fz
      obtain ⟨W5, hW5, bx5, kb5, sz5⟩ := box1 w5 (.int .i64 cp) (.slice s5 lt.length c5) (.bool bt) 26
      rw [hW5]
      have zw5 : w5.heap.size < W5.heap.size := by omega
      clear hW5 sz5
      have JK : Hid (Below w.heap.size w W5) := HK.out.trans (kb5.mono (by omega))
      have JL : Hid (RowI W5 w1.heap.size su l) := HL.out.keep (fun k hk => kb5.block k (by omega))
      have JC : Hid (Box1 w1.heap.size W5 (.int .i64 cap) (.slice su l.length cu) (.bool b)) := HC.out.keep (kb5.block _ HC.out.z) kb5.size
      have JM : Hid (RowI W5 w2.heap.size s2 l) := HM.out.keep (fun k hk => kb5.block k (by omega))
      have JD : Hid (Box1 w2.heap.size W5 (.int .i64 cap) (.slice s2 l.length c2) (.bool b)) := HD.out.keep (kb5.block _ HD.out.z) kb5.size
      have JX : Hid (RowI W5 w4.heap.size s4 lt) := HX.out.keep (fun k hk => kb5.block k (by omega))
      have JF : Hid (Box1 w4.heap.size W5 (.int .i64 cp) (.slice s4 lt.length c4) (.bool bt)) := HF.out.keep (kb5.block _ HF.out.z) kb5.size
      have JY : Hid (RowI W5 w5.heap.size s5 lt) := HY.out.keep (fun k hk => kb5.block k (by omega))
      clear HK
      have HK := JK
      clear JK
      clear HL
      have HL := JL
      clear JL
      clear HC
      have HC := JC
      clear JC
      clear HM
      have HM := JM
      clear JM
      clear HD
      have HD := JD
      clear JD
      clear HX
      have HX := JX
      clear JX
      clear HF
      have HF := JF
      clear JF
      clear HY
      have HY := JY
      clear JY
      have HG : Hid (Box1 w5.heap.size W5 (.int .i64 cp) (.slice s5 lt.length c5) (.bool bt)) := bx5
      clear bx5 kb5
      obtain ⟨C0, C1, C2, Cf, Cz⟩ := HC.out
      obtain ⟨D0, D1, D2, Df, Dz⟩ := HD.out
      obtain ⟨F0, F1, F2, Ff, Fz⟩ := HF.out
      obtain ⟨G0, G1, G2, Gf, Gz⟩ := HG.out
      refine (specTake_any cp s4 lt c4 bt W5 (HX.out.mono (by omega)) (by omega) hc4).mono ?_
      rintro e w6 ⟨u6, rfl, o6, hb6, z6⟩
      rw [ht.1] at o6
      rw [ht.2.1, ht.2.2]
      obtain ⟨s6, c6, rfl⟩ := o6.sl
      clear C0 C1 C2 Cf Cz
      clear D0 D1 D2 Df Dz
      clear F0 F1 F2 Ff Fz
      clear G0 G1 G2 Gf Gz
      have JK : Hid (Below w.heap.size w w6) := HK.out.trans (hb6.mono (by omega))
      have JL : Hid (RowI w6 w1.heap.size su l) := HL.out.keep (fun k hk => hb6.block k (by omega))
      have JC : Hid (Box1 w1.heap.size w6 (.int .i64 cap) (.slice su l.length cu) (.bool b)) := HC.out.keep (hb6.block _ HC.out.z) hb6.size
      have JM : Hid (RowI w6 w2.heap.size s2 l) := HM.out.keep (fun k hk => hb6.block k (by omega))
      have JD : Hid (Box1 w2.heap.size w6 (.int .i64 cap) (.slice s2 l.length c2) (.bool b)) := HD.out.keep (hb6.block _ HD.out.z) hb6.size
      have JX : Hid (RowI w6 w4.heap.size s4 lt) := HX.out.keep (fun k hk => hb6.block k (by omega))
      have JF : Hid (Box1 w4.heap.size w6 (.int .i64 cp) (.slice s4 lt.length c4) (.bool bt)) := HF.out.keep (hb6.block _ HF.out.z) hb6.size
      have JY : Hid (RowI w6 w5.heap.size s5 lt) := HY.out.keep (fun k hk => hb6.block k (by omega))
      have JG : Hid (Box1 w5.heap.size w6 (.int .i64 cp) (.slice s5 lt.length c5) (.bool bt)) := HG.out.keep (hb6.block _ HG.out.z) hb6.size
      clear HK
      have HK := JK
      clear JK
      clear HL
      have HL := JL
      clear JL
      clear HC
      have HC := JC
      clear JC
      clear HM
      have HM := JM
      clear JM
      clear HD
      have HD := JD
      clear JD
      clear HX
      have HX := JX
      clear JX
      clear HF
      have HF := JF
      clear JF
      clear HY
      have HY := JY
      clear JY
      clear HG
      have HG := JG
      clear JG
      clear hb6 o6 ht
      obtain ⟨C0, C1, C2, Cf, Cz⟩ := HC.out
      obtain ⟨D0, D1, D2, Df, Dz⟩ := HD.out
      obtain ⟨F0, F1, F2, Ff, Fz⟩ := HF.out
      obtain ⟨G0, G1, G2, Gf, Gz⟩ := HG.out
      go_wp2_with fail
      clear C0 C1 C2 Cf Cz
      clear D0 D1 D2 Df Dz
      clear F0 F1 F2 Ff Fz
      clear G0 G1 G2 Gf Gz
      obtain ⟨W6, hW6, bx6, kb6, sz6⟩ := box1 w6 (.int .i64 cp) (.slice s6 lt.length c6) (.bool bt) 26
      rw [hW6]
      have zw6 : w6.heap.size < W6.heap.size := by omega
      clear hW6 sz6
      have JK : Hid (Below w.heap.size w W6) := HK.out.trans (kb6.mono (by omega))
      have JL : Hid (RowI W6 w1.heap.size su l) := HL.out.keep (fun k hk => kb6.block k (by omega))
      have JC : Hid (Box1 w1.heap.size W6 (.int .i64 cap) (.slice su l.length cu) (.bool b)) := HC.out.keep (kb6.block _ HC.out.z) kb6.size
      have JM : Hid (RowI W6 w2.heap.size s2 l) := HM.out.keep (fun k hk => kb6.block k (by omega))
      have JD : Hid (Box1 w2.heap.size W6 (.int .i64 cap) (.slice s2 l.length c2) (.bool b)) := HD.out.keep (kb6.block _ HD.out.z) kb6.size
      have JX : Hid (RowI W6 w4.heap.size s4 lt) := HX.out.keep (fun k hk => kb6.block k (by omega))
      have JF : Hid (Box1 w4.heap.size W6 (.int .i64 cp) (.slice s4 lt.length c4) (.bool bt)) := HF.out.keep (kb6.block _ HF.out.z) kb6.size
      have JY : Hid (RowI W6 w5.heap.size s5 lt) := HY.out.keep (fun k hk => kb6.block k (by omega))
      have JG : Hid (Box1 w5.heap.size W6 (.int .i64 cp) (.slice s5 lt.length c5) (.bool bt)) := HG.out.keep (kb6.block _ HG.out.z) kb6.size
      clear HK
      have HK := JK
      clear JK
      clear HL
      have HL := JL
      clear JL
      clear HC
      have HC := JC
      clear JC
      clear HM
      have HM := JM
      clear JM
      clear HD
      have HD := JD
      clear JD
      clear HX
      have HX := JX
      clear JX
      clear HF
      have HF := JF
      clear JF
      clear HY
      have HY := JY
      clear JY
      clear HG
      have HG := JG
      clear JG
      have HH : Hid (Box1 w6.heap.size W6 (.int .i64 cp) (.slice s6 lt.length c6) (.bool bt)) := bx6
      clear bx6 kb6
      clear HH
      obtain ⟨C0, C1, C2, Cf, Cz⟩ := HC.out
      obtain ⟨D0, D1, D2, Df, Dz⟩ := HD.out
      obtain ⟨F0, F1, F2, Ff, Fz⟩ := HF.out
      obtain ⟨G0, G1, G2, Gf, Gz⟩ := HG.out
      refine (sameInts_any s5 s4 lt lt c5 c4 W6 (HY.out.ints (by omega)) (HX.out.ints (by omega)) (by omega)).mono ?_
      rintro e w7 ⟨rfl, m7, rfl⟩
      rw [decide_eq_true (rfl : lt = lt)]
      have hq7 : Below W6.heap.size W6 (W6.drewN m7) := ⟨rfl, rfl, rfl, Nat.le_refl _, fun _ _ => rfl⟩
      generalize W6.drewN m7 = w7 at hq7
      have z7 := hq7.size
      clear C0 C1 C2 Cf Cz
      clear D0 D1 D2 Df Dz
      clear F0 F1 F2 Ff Fz
      clear G0 G1 G2 Gf Gz
      have JK : Hid (Below w.heap.size w w7) := HK.out.trans (hq7.mono (by omega))
      have JL : Hid (RowI w7 w1.heap.size su l) := HL.out.keep (fun k hk => hq7.block k (by omega))
      have JC : Hid (Box1 w1.heap.size w7 (.int .i64 cap) (.slice su l.length cu) (.bool b)) := HC.out.keep (hq7.block _ HC.out.z) hq7.size
      have JM : Hid (RowI w7 w2.heap.size s2 l) := HM.out.keep (fun k hk => hq7.block k (by omega))
      have JD : Hid (Box1 w2.heap.size w7 (.int .i64 cap) (.slice s2 l.length c2) (.bool b)) := HD.out.keep (hq7.block _ HD.out.z) hq7.size
      have JX : Hid (RowI w7 w4.heap.size s4 lt) := HX.out.keep (fun k hk => hq7.block k (by omega))
      have JF : Hid (Box1 w4.heap.size w7 (.int .i64 cp) (.slice s4 lt.length c4) (.bool bt)) := HF.out.keep (hq7.block _ HF.out.z) hq7.size
      have JY : Hid (RowI w7 w5.heap.size s5 lt) := HY.out.keep (fun k hk => hq7.block k (by omega))
      have JG : Hid (Box1 w5.heap.size w7 (.int .i64 cp) (.slice s5 lt.length c5) (.bool bt)) := HG.out.keep (hq7.block _ HG.out.z) hq7.size
      clear HK
      have HK := JK
      clear JK
      clear HL
      have HL := JL
      clear JL
      clear HC
      have HC := JC
      clear JC
      clear HM
      have HM := JM
      clear JM
      clear HD
      have HD := JD
      clear JD
      clear HX
      have HX := JX
      clear JX
      clear HF
      have HF := JF
      clear JF
      clear HY
      have HY := JY
      clear JY
      clear HG
      have HG := JG
      clear JG
      clear hq7
      obtain ⟨C0, C1, C2, Cf, Cz⟩ := HC.out
      obtain ⟨D0, D1, D2, Df, Dz⟩ := HD.out
      obtain ⟨F0, F1, F2, Ff, Fz⟩ := HF.out
      obtain ⟨G0, G1, G2, Gf, Gz⟩ := HG.out
      go_wp2_with fail
      clear HX
      clear HY
      clear F0 F1 F2 Ff Fz
      clear HF
      clear G0 G1 G2 Gf Gz
      clear HG
      refine (sameInts_any s2 su l l c2 cu w7 (HM.out.ints (by omega)) (HL.out.ints (by omega)) (by omega)).mono ?_
      rintro e w8 ⟨rfl, m8, rfl⟩
      rw [decide_eq_true (rfl : l = l)]
      go_wp2
      go_ret
      exact ⟨rfl, HK.out.trans ⟨rfl, rfl, rfl, Nat.le_refl _, fun _ _ => rfl⟩⟩

set_option maxRecDepth 100000 in
theorem liftedFnClosed (os : Os) (started : os.Started) (H : Type) (enc : TypeId × Value → H) :
    ReturnsInHanded {} Try.checked os 4 .any (Rows.fnClosedSpec.pre6 enc Try.prog Try.f4 Rows.fnClosedRow.domain false) (Rows.fnClosedSpec.post enc Try.prog Try.f4 false true false false) := by
  refine returnsInHanded_of_change (C := Try.checked) ownS started (by kernel_rfl) Try.func4
    (ChangeSpec.witness6 (enc := enc) (C := Try.checked) false ⟨#[], #[.slice none 0 0], []⟩ 8 (by kernel_rfl) (by kernel_rfl) (by kernel_rfl) (by kernel_rfl)) ?_
  intro W base args ds gs before hval0 hW hcnd _
  have hval : ∀ (j : Nat) t v, Try.f4.params[j]? = some t → args[j]? = some v → Value.okWide Try.prog W .any base t v := hval0
  have hW' := hW
  obtain ⟨p, q, hA0, hV, rfl, hfz, hnd⟩ := hW
  have hA : DataW.TrodAll enc Try.prog W 0 (fun _ => true) true Try.f4.params.toList args.toList ds p := hA0
  rw [Try.params4] at hA hval
  obtain ⟨v0, d0, hargs, rfl, h0⟩ := trodAll_one hA
  obtain rfl : args = #[v0] := by cases args; simp_all
  obtain ⟨rfl, rfl⟩ := trodVars_none hV
  have k0 := h0
  have lt0 : ∀ x ∈ p, x.block < W.heap.size := by obtain ⟨m, hm⟩ := k0; exact DataW.trod_lt m _ _ _ hm
  obtain ⟨s, n, c, rfl, hn, hB⟩ := bytes_read (hval 0 22 v0 rfl rfl) h0
  clear hA0 hval0
  refine (walkFnClosed s n c W hB hn).mono fun e W' ⟨he, bel⟩ => ?_
  subst he
  exact ⟨_, rfl, _, _, _, [], _, [], hW', trodAll_mk1 (shut_bool Try.underlying4 _), trodAll_mk1 (Below.trod laidOutS (by kernel_rfl) (of_decide_eq_true (by kernel_rfl)) k0 bel lt0), rfl, bel.frame _, fun h => by cases h⟩

theorem fnClosed_holds : Rows.FnClosedSaid :=
  OpenClaim.holds_of_wide 4 Try.f4 rfl rfl rfl rfl rfl rfl rfl ⟨rfl, rfl, rfl, rfl, rfl⟩ rfl rfl rfl rfl rfl (by kernel_rfl) Try.func4 (by kernel_rfl)
    (of_decide_eq_true (by kernel_rfl)) (by unfold Func.isWrapper; first | (rw [if_pos (by decide +kernel)]; kernel_rfl) | (rw [if_neg (by decide +kernel)]; exact ⟨rfl, rfl⟩))
    (fun os started H enc _ => liftedFnClosed os started H enc)
#print axioms fnClosed_holds

end Go.Proofs.Ytjffdcnninhicac
