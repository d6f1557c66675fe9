/- The law FnChan of the given statements: numbers come out of a drawn channel as they went in; what waits or faults turns nothing. No condition. -/
import Derived.Test.YtjffdcnninhicacRows
import Derived.Test.YtjffdcnninhicacChDraw2
import Derived.Test.YtjffdcnninhicacChTake
import Derived.Test.YtjffdcnninhicacChClose
import Derived.Test.YtjffdcnninhicacSameInts
import Derived.Test.YtjffdcnninhicacFnFrame
import Derived.ProofKit
import Derived.OpenShut
import Derived.ShutString
import Derived.ChangeOld
import Derived.ChangeSlices
namespace Go.Proofs.Ytjffdcnninhicac
set_option linter.unusedSimpArgs false
set_option linter.unusedVariables false
set_option maxRecDepth 100000
open Go.ChangeShapes Go.WideShapes Go.ChangeAt Go.RowKit

theorem drop_at (l : List Int) (k : Nat) (h : k < l.length) : l.drop k = l.getD k 0 :: l.drop (k + 1) := by
  rw [List.drop_eq_getElem_cons h]
  simp [List.getD_eq_getElem?_getD, h]

set_option maxHeartbeats 8000000 in
theorem walkFnChan (s : Option Addr) (n c : Nat) (w : World) (hb : Bytes w w.heap.size s n) (hn : n ≤ maxLen) :
    Calls Try.prog 3 #[.slice s n c] w fun e w' => e = .returned (.bool true) ∧ Below w.heap.size w w' := by
  have HB : Hid (Bytes w w.heap.size s n) := hb
  have HN : Hid (n ≤ maxLen) := hn
  clear hb hn
  by_cases hbig : 1048576 < n
  · go_enter Try.func3, Try.ntmps3
    go_wp2_with (go_at_call 5; refine (big_any _ _ _ _).mono ?_; rintro e w' ⟨rfl, hw⟩; have hw' := hw.symm; clear hw; subst hw'; rw [decide_eq_true hbig])
    go_ret
    exact ⟨rfl, Below.refl _ _⟩
  go_enter Try.func3, Try.ntmps3
  go_wp2_with (go_at_call 5; refine (big_any _ _ _ _).mono ?_; rintro e w' ⟨rfl, hw⟩; have hw' := hw.symm; clear hw; subst hw'; rw [decide_eq_false hbig])
  refine (drawSend_new s n c w HB.out HN.out).mono ?_
  rintro e w1 ⟨cap, u, l, b, v, rfl, ho, hl8, hb1⟩
  have z1 := hb1.size
  obtain ⟨su, cu, rfl⟩ := ho.sl
  have R1 : Hid (RowI w1 w1.heap.size su l) := ho.rowI
  have K1 : Hid (Below w.heap.size w w1) := hb1
  clear ho hb1 HB HN hbig
  by_cases hd : okC cap l.length = true ∧ b = false ∧ (l.length : Int) < cap
  · obtain ⟨hok1, rfl, hlt⟩ := hd
    have hh := send_more (v := v) (cl := false) ⟨hok1, rfl⟩ hlt
    obtain ⟨q1, q4, qn⟩ := okC_range hok1
    have hok : (okC cap l.length != okC cap l.length) = false := by simp
    have HK : Hid (Below w.heap.size w w1) := K1.out
    have HL : Hid (RowI w1 w1.heap.size su l) := R1.out
    clear K1 R1
    go_wp2_with fail
    obtain ⟨W1, hW1, bx1, kb1, sz1⟩ := box1 w1 (.int .i64 cap) (.slice su l.length cu) (.bool false) 26
    rw [hW1]
    have zw1 : w1.heap.size < W1.heap.size := by omega
    clear hW1 sz1
    have JK : Hid (Below w.heap.size w W1) := HK.out.trans (kb1.mono (by omega))
    have JL : Hid (RowI W1 w1.heap.size su l) := HL.out.keep (fun k hk => kb1.block k (by omega))
    clear HK
    have HK := JK
    clear JK
    clear HL
    have HL := JL
    clear JL
    have HC : Hid (Box1 w1.heap.size W1 (.int .i64 cap) (.slice su l.length cu) (.bool false)) := bx1
    clear bx1 kb1
    obtain ⟨C0, C1, C2, Cf, Cz⟩ := HC.out
    refine (implSend_any cap su l cu false v W1 (HL.out.mono (by omega)) (by omega)).mono ?_
    rintro e w2 ⟨u2, rfl, o2, hb2, z2⟩
    rw [hh.1] at o2
    rw [hh.2]
    obtain ⟨s2, c2, rfl⟩ := o2.sl
    clear C0 C1 C2 Cf Cz
    have JK : Hid (Below w.heap.size w w2) := HK.out.trans (hb2.mono (by omega))
    have JL : Hid (RowI w2 w1.heap.size su l) := HL.out.keep (fun k hk => hb2.block k (by omega))
    have JC : Hid (Box1 w1.heap.size w2 (.int .i64 cap) (.slice su l.length cu) (.bool false)) := HC.out.keep (hb2.block _ HC.out.z) hb2.size
    clear HK
    have HK := JK
    clear JK
    clear HL
    have HL := JL
    clear JL
    clear HC
    have HC := JC
    clear JC
    have HM : Hid (RowI w2 w2.heap.size s2 (l ++ [v])) := o2.rowI
    clear hb2 o2
    obtain ⟨C0, C1, C2, Cf, Cz⟩ := HC.out
    rw [List.length_append, List.length_singleton]
    go_wp2_with fail
    clear C0 C1 C2 Cf Cz
    obtain ⟨W2, hW2, bx2, kb2, sz2⟩ := box1 w2 (.int .i64 cap) (.slice s2 (l.length + 1) c2) (.bool false) 26
    rw [hW2]
    have zw2 : w2.heap.size < W2.heap.size := by omega
    clear hW2 sz2
    have JK : Hid (Below w.heap.size w W2) := HK.out.trans (kb2.mono (by omega))
    have JL : Hid (RowI W2 w1.heap.size su l) := HL.out.keep (fun k hk => kb2.block k (by omega))
    have JC : Hid (Box1 w1.heap.size W2 (.int .i64 cap) (.slice su l.length cu) (.bool false)) := HC.out.keep (kb2.block _ HC.out.z) kb2.size
    have JM : Hid (RowI W2 w2.heap.size s2 (l ++ [v])) := HM.out.keep (fun k hk => kb2.block k (by omega))
    clear HK
    have HK := JK
    clear JK
    clear HL
    have HL := JL
    clear JL
    clear HC
    have HC := JC
    clear JC
    clear HM
    have HM := JM
    clear JM
    have HD : Hid (Box1 w2.heap.size W2 (.int .i64 cap) (.slice s2 (l.length + 1) c2) (.bool false)) := bx2
    clear bx2 kb2
    obtain ⟨C0, C1, C2, Cf, Cz⟩ := HC.out
    obtain ⟨D0, D1, D2, Df, Dz⟩ := HD.out
    refine (specSend_any cap su l cu false v W2 (HL.out.mono (by omega)) (by omega)).mono ?_
    rintro e w3 ⟨u3, rfl, o3, hb3, z3⟩
    rw [hh.1] at o3
    rw [hh.2]
    obtain ⟨s3, c3, rfl⟩ := o3.sl
    clear C0 C1 C2 Cf Cz
    clear D0 D1 D2 Df Dz
    have JK : Hid (Below w.heap.size w w3) := HK.out.trans (hb3.mono (by omega))
    have JL : Hid (RowI w3 w1.heap.size su l) := HL.out.keep (fun k hk => hb3.block k (by omega))
    have JC : Hid (Box1 w1.heap.size w3 (.int .i64 cap) (.slice su l.length cu) (.bool false)) := HC.out.keep (hb3.block _ HC.out.z) hb3.size
    have JM : Hid (RowI w3 w2.heap.size s2 (l ++ [v])) := HM.out.keep (fun k hk => hb3.block k (by omega))
    have JD : Hid (Box1 w2.heap.size w3 (.int .i64 cap) (.slice s2 (l.length + 1) c2) (.bool false)) := HD.out.keep (hb3.block _ HD.out.z) hb3.size
    clear HK
    have HK := JK
    clear JK
    clear HL
    have HL := JL
    clear JL
    clear HC
    have HC := JC
    clear JC
    clear HM
    have HM := JM
    clear JM
    clear HD
    have HD := JD
    clear JD
    clear hb3 o3
    obtain ⟨C0, C1, C2, Cf, Cz⟩ := HC.out
    obtain ⟨D0, D1, D2, Df, Dz⟩ := HD.out
    rw [List.length_append, List.length_singleton]
    go_wp2_with fail
    clear C0 C1 C2 Cf Cz
    clear D0 D1 D2 Df Dz
    obtain ⟨W3, hW3, bx3, kb3, sz3⟩ := box1 w3 (.int .i64 cap) (.slice s3 (l.length + 1) c3) (.bool false) 26
    rw [hW3]
    have zw3 : w3.heap.size < W3.heap.size := by omega
    clear hW3 sz3
    have JK : Hid (Below w.heap.size w W3) := HK.out.trans (kb3.mono (by omega))
    have JL : Hid (RowI W3 w1.heap.size su l) := HL.out.keep (fun k hk => kb3.block k (by omega))
    have JC : Hid (Box1 w1.heap.size W3 (.int .i64 cap) (.slice su l.length cu) (.bool false)) := HC.out.keep (kb3.block _ HC.out.z) kb3.size
    have JM : Hid (RowI W3 w2.heap.size s2 (l ++ [v])) := HM.out.keep (fun k hk => kb3.block k (by omega))
    have JD : Hid (Box1 w2.heap.size W3 (.int .i64 cap) (.slice s2 (l.length + 1) c2) (.bool false)) := HD.out.keep (kb3.block _ HD.out.z) kb3.size
    clear HK
    have HK := JK
    clear JK
    clear HL
    have HL := JL
    clear JL
    clear HC
    have HC := JC
    clear JC
    clear HM
    have HM := JM
    clear JM
    clear HD
    have HD := JD
    clear JD
    have HE : Hid (Box1 w3.heap.size W3 (.int .i64 cap) (.slice s3 (l.length + 1) c3) (.bool false)) := bx3
    clear bx3 kb3
    clear HE
    obtain ⟨C0, C1, C2, Cf, Cz⟩ := HC.out
    obtain ⟨D0, D1, D2, Df, Dz⟩ := HD.out
    go_region_held3 (fun w' => w'.cell? ⟨w1.heap.size, 0, none⟩ = some (.int .i64 cap) ∧ w'.cell? ⟨w1.heap.size, 1, none⟩ = some (.slice su l.length cu) ∧ w'.cell? ⟨w1.heap.size, 2, none⟩ = some (.bool false)) (go_keep) (first | (go_at_call 9; refine (implOk_any cap su l.length cu false W3.drew (by omega)).mono ?_; rintro e w4 ⟨rfl, hb4⟩; have ka : Below W3.heap.size W3 w4 := (Below.drew (Below.refl _ _)).trans hb4; have CA := HC.out.keep (ka.block _ HC.out.z) ka.size; have q0 := CA.c0; have q1 := CA.c1; have q2 := CA.c2) | (go_at_call 10; refine (specOk_any cap su l.length cu false w4 (by omega)).mono ?_; rintro e w5 ⟨rfl, hb5⟩; have kb : Below W3.heap.size W3 w5 := ka.trans (hb5.mono ka.size); have CB' := HC.out.keep (kb.block _ HC.out.z) kb.size; have r0 := CB'.c0; have r1 := CB'.c1; have r2 := CB'.c2))
    have zk4 := kb.size
    clear q0 q1 q2 r0 r1 r2 CA CB' ka hb4 hb5
    clear C0 C1 C2 Cf Cz
    clear D0 D1 D2 Df Dz
    have JK : Hid (Below w.heap.size w w5) := HK.out.trans (kb.mono (by omega))
    have JL : Hid (RowI w5 w1.heap.size su l) := HL.out.keep (fun k hk => kb.block k (by omega))
    have JC : Hid (Box1 w1.heap.size w5 (.int .i64 cap) (.slice su l.length cu) (.bool false)) := HC.out.keep (kb.block _ HC.out.z) kb.size
    have JM : Hid (RowI w5 w2.heap.size s2 (l ++ [v])) := HM.out.keep (fun k hk => kb.block k (by omega))
    have JD : Hid (Box1 w2.heap.size w5 (.int .i64 cap) (.slice s2 (l.length + 1) c2) (.bool false)) := HD.out.keep (kb.block _ HD.out.z) kb.size
    clear HK
    have HK := JK
    clear JK
    clear HL
    have HL := JL
    clear JL
    clear HC
    have HC := JC
    clear JC
    clear HM
    have HM := JM
    clear JM
    clear HD
    have HD := JD
    clear JD
    clear kb
    obtain ⟨C0, C1, C2, Cf, Cz⟩ := HC.out
    obtain ⟨D0, D1, D2, Df, Dz⟩ := HD.out
    go_wp2
    clear C0 C1 C2 Cf Cz D0 D1 D2 Df Dz hok hh hok1
    have HZ : Hid (w2.heap.size < w5.heap.size ∧ w1.heap.size < w2.heap.size ∧ w1.heap.size ≤ w1.heap.size ∧ w.heap.size ≤ w1.heap.size) := ⟨HD.out.z, by omega, by omega, by omega⟩
    go_loopw [9] (fun i wr => ∃ (k : Nat) (m : List Int) (sd : Option Addr) (cd : Nat), k ≤ l.length ∧ i = .int .i64 k ∧ Hid (m = l.drop k ++ [v]) ∧ Below w.heap.size w wr ∧ Box1 w1.heap.size wr (.int .i64 cap) (.slice su l.length cu) (.bool false) ∧ RowI wr w1.heap.size su l ∧ Box1 w2.heap.size wr (.int .i64 cap) (.slice sd m.length cd) (.bool false) ∧ RowI wr wr.heap.size sd m) (fun i _ => l.length - (intOf i).toNat)
    case atStart => exact ⟨0, l ++ [v], s2, c2, by omega, rfl, rfl, HK.out, HC.out, HL.out, by simpa using HD.out, HM.out.mono (by omega)⟩
    case round =>
      obtain ⟨k, m, sd, cd, hk, rfl, HMM, hkb, hbc, hrl, hbd, hrd⟩ := hrel
      clear HK HC HL HD HM
      have HK : Hid (Below w.heap.size w wr) := hkb
      have HL : Hid (RowI wr w1.heap.size su l) := hrl
      have HM : Hid (RowI wr wr.heap.size sd m) := hrd
      have HC : Hid (Box1 w1.heap.size wr (.int .i64 cap) (.slice su l.length cu) (.bool false)) := hbc
      have HD : Hid (Box1 w2.heap.size wr (.int .i64 cap) (.slice sd m.length cd) (.bool false)) := hbd
      clear hkb hrl hrd hbc hbd
      obtain ⟨zz1, zz2, zz3, zz4⟩ := HZ.out
      have zD := HD.out.z
      by_cases hlk : k < l.length
      · obtain ⟨x, t, rfl, hx, ht⟩ : ∃ x t, m = x :: t ∧ x = l.getD k 0 ∧ t = l.drop (k + 1) ++ [v] := ⟨l.getD k 0, l.drop (k + 1) ++ [v], by rw [HMM.out, drop_at l k hlk]; rfl, rfl, rfl⟩
        have HT : Hid (t = l.drop (k + 1) ++ [v]) := ht
        have tl : t.length + k = l.length := by rw [ht]; simp; omega
        have hok2 : okC cap (x :: t).length = true := by simp [okC]; omega
        have hh := take_cons (cl := false) hok2
        clear HMM ht
        have ck : ∃ gl ol, su = some ⟨gl, ol, none⟩ ∧ gl < w1.heap.size ∧ wr.cell? ⟨gl, ol + k, none⟩ = some (.int .i64 x) := by
          rcases HL.out with h | ⟨gl, ol, h1, h2, h3⟩
          · rw [h] at hlk; simp at hlk
          · exact ⟨gl, ol, h1, h2, by rw [h3 k hlk, hx]⟩
        clear hx
        obtain ⟨gl, ol, rfl, hgl, ck⟩ := ck
        obtain ⟨C0, C1, C2, Cf, Cz⟩ := HC.out
        obtain ⟨D0, D1, D2, Df, Dz⟩ := HD.out
        go_wp2_with fail
        refine (implTake_any cap sd (x :: t) cd false wr HM.out (by simp; omega)).mono ?_
        rintro e w6 ⟨u6, rfl, o6, hb6, z6⟩
        rw [hh.1] at o6
        rw [hh.2.1, hh.2.2]
        obtain ⟨s6, c6, rfl⟩ := o6.sl
        clear C0 C1 C2 Cf Cz
        clear D0 D1 D2 Df Dz
        have ck6 := (hb6.cell (p := ⟨gl, ol + k, none⟩) (by simp; omega)).trans ck
        have JK : Hid (Below w.heap.size w w6) := HK.out.trans (hb6.mono (by omega))
        have JL : Hid (RowI w6 w1.heap.size (some ⟨gl, ol, none⟩) l) := HL.out.keep (fun k hk => hb6.block k (by omega))
        have JC : Hid (Box1 w1.heap.size w6 (.int .i64 cap) (.slice (some ⟨gl, ol, none⟩) l.length cu) (.bool false)) := HC.out.keep (hb6.block _ HC.out.z) hb6.size
        have JD : Hid (Box1 w2.heap.size w6 (.int .i64 cap) (.slice sd (x :: t).length cd) (.bool false)) := HD.out.keep (hb6.block _ HD.out.z) hb6.size
        clear HK
        have HK := JK
        clear JK
        clear HL
        have HL := JL
        clear JL
        clear HC
        have HC := JC
        clear JC
        clear HD
        have HD := JD
        clear JD
        have HO6 : Hid (OwnN w6 wr.heap.size (.slice s6 t.length c6) t) := o6
        clear hb6 o6 ck HM
        obtain ⟨C0, C1, C2, Cf, Cz⟩ := HC.out
        obtain ⟨D0, D1, D2, Df, Dz⟩ := HD.out
        have tlh : t.length ≤ l.length := by omega
        have HTL : Hid (t.length + k = l.length) := tl
        clear tl
        have b0 : (0 : Int) ≤ (k : Int) := by omega
        have b1 : (k : Int) < (l.length : Int) := by omega
        have hgl6 : gl < w6.heap.size := by omega
        have hxx : (x != x) = false := by simp
        have nd1 : ¬ w2.heap.size = w6.heap.size := by have := HD.out.z; omega
        have nd2 : ¬ w6.heap.size = w2.heap.size := by have := HD.out.z; omega
        go_wp2
        go_roundw
        case rel =>
          have fx := far_set (a := .int .i64 cap) (b := .slice s6 t.length c6) (c := .bool false) (o := .cells #[.int .i64 cap, .slice s6 t.length c6, .bool false] 26) (w := w6) (G := w2.heap.size)
          refine ⟨k + 1, t, s6, c6, by omega, by go_num, HT.out, ?_, ?_, ?_, ?_, ?_⟩
          · exact (((HK.out.setCell (p := ⟨w2.heap.size, 0, none⟩) (by simp; omega) _).setCell (p := ⟨w2.heap.size, 1, none⟩) (by simp; omega) _).setCell (p := ⟨w2.heap.size, 2, none⟩) (by simp; omega) _).alloc (by simp; omega) _
          · exact HC.out.keep (fx.1 _ HC.out.z (by omega)) fx.2
          · exact HL.out.keep (fun k hk => fx.1 _ (by omega) (by omega))
          · exact (box_set HD.out _ _ _).keep (Below.heap_alloc _ _ _ (by simpa using HD.out.z)) (by simp)
          · exact ((((HO6.out.set (a := ⟨w2.heap.size, 0, none⟩) (by simp; omega) _).set (a := ⟨w2.heap.size, 1, none⟩) (by simp; omega) _).set (a := ⟨w2.heap.size, 2, none⟩) (by simp; omega) _).alloc _).rowI
        case measure => simp [intOf]; omega
      · have hkl : k = l.length := by omega
        have hm : m = [v] := by rw [HMM.out, hkl]; simp
        have LC := HC.out
        obtain ⟨C0, C1, C2, Cf, Cz⟩ := LC
        clear HMM HL
        subst hm
        have hok2 : okC cap (List.length [v]) = true := by simp [okC, q1, q4]
        have hh := take_cons (cl := false) hok2
        have hok3 : okC cap 0 = true := by unfold okC; rw [decide_eq_true_iff]; omega
        have hh3 := take_empty (cl := false) hok3
        clear hok2
        obtain ⟨D0, D1, D2, Df, Dz⟩ := HD.out
        go_wp2_with fail
        refine (implTake_any cap sd [v] cd false wr HM.out (by simp)).mono ?_
        rintro e w6 ⟨u6, rfl, o6, hb6, z6⟩
        rw [hh.1] at o6
        rw [hh.2.1, hh.2.2]
        obtain ⟨s6, c6, rfl⟩ := o6.sl
        clear C0 C1 C2 Cf Cz HC
        clear D0 D1 D2 Df Dz
        have JK : Hid (Below w.heap.size w w6) := HK.out.trans (hb6.mono (by omega))
        have JD : Hid (Box1 w2.heap.size w6 (.int .i64 cap) (.slice sd (List.length [v]) cd) (.bool false)) := HD.out.keep (hb6.block _ HD.out.z) hb6.size
        clear HK
        have HK := JK
        clear JK
        clear HD
        have HD := JD
        clear JD
        have HO6 : Hid (RowI w6 w6.heap.size s6 []) := .inl rfl
        clear hb6 o6 HM HD
        go_wp2_with fail
        obtain ⟨W6, hW6, bx6, kb6, sz6⟩ := box1 w6 (.int .i64 cap) (.slice s6 0 c6) (.bool false) 26
        rw [hW6]
        have zw6 : w6.heap.size < W6.heap.size := by omega
        clear hW6 sz6
        have JK : Hid (Below w.heap.size w W6) := HK.out.trans (kb6.mono (by omega))
        clear HK
        have HK := JK
        clear JK
        have HP : Hid (Box1 w6.heap.size W6 (.int .i64 cap) (.slice s6 0 c6) (.bool false)) := bx6
        clear bx6 kb6
        obtain ⟨P0, P1, P2, Pf, Pz⟩ := HP.out
        refine (implTake_any cap s6 [] c6 false W6 (.inl rfl) (by simp)).mono ?_
        rintro e w7 ⟨u7, rfl, o7, hb7, z7⟩
        rw [hh3.1] at o7
        rw [hh3.2.1, hh3.2.2]
        obtain ⟨s7, c7, rfl⟩ := o7.sl
        clear P0 P1 P2 Pf Pz
        have JK : Hid (Below w.heap.size w w7) := HK.out.trans (hb7.mono (by omega))
        have JP : Hid (Box1 w6.heap.size w7 (.int .i64 cap) (.slice s6 0 c6) (.bool false)) := HP.out.keep (hb7.block _ HP.out.z) hb7.size
        clear HK
        have HK := JK
        clear JK
        clear HP
        have HP := JP
        clear JP
        clear hb7 o7
        obtain ⟨P0, P1, P2, Pf, Pz⟩ := HP.out
        rw [if_neg (by decide)]
        have hvv : (v == v) = true := by simp
        go_wp2_with fail
        obtain ⟨W7, hW7, bx7, kb7, sz7⟩ := box1 w7 (.int .i64 cap) (.slice s7 0 c7) (.bool false) 26
        rw [hW7]
        have zw7 : w7.heap.size < W7.heap.size := by omega
        clear hW7 sz7
        have JK : Hid (Below w.heap.size w W7) := HK.out.trans (kb7.mono (by omega))
        have JP : Hid (Box1 w6.heap.size W7 (.int .i64 cap) (.slice s6 0 c6) (.bool false)) := HP.out.keep (kb7.block _ HP.out.z) kb7.size
        clear HK
        have HK := JK
        clear JK
        clear HP
        have HP := JP
        clear JP
        have HQ : Hid (Box1 w7.heap.size W7 (.int .i64 cap) (.slice s7 0 c7) (.bool false)) := bx7
        clear bx7 kb7
        obtain ⟨P0, P1, P2, Pf, Pz⟩ := HP.out
        obtain ⟨Q0, Q1, Q2, Qf, Qz⟩ := HQ.out
        refine (implOk_any cap s6 0 c6 false W7 (by omega)).mono ?_
        rintro e w8 ⟨rfl, hb8⟩
        rw [hok3]
        clear P0 P1 P2 Pf Pz
        clear Q0 Q1 Q2 Qf Qz
        have JK : Hid (Below w.heap.size w w8) := HK.out.trans (hb8.mono (by omega))
        have JP : Hid (Box1 w6.heap.size w8 (.int .i64 cap) (.slice s6 0 c6) (.bool false)) := HP.out.keep (hb8.block _ HP.out.z) hb8.size
        have JQ : Hid (Box1 w7.heap.size w8 (.int .i64 cap) (.slice s7 0 c7) (.bool false)) := HQ.out.keep (hb8.block _ HQ.out.z) hb8.size
        clear HK
        have HK := JK
        clear JK
        clear HP
        have HP := JP
        clear JP
        clear HQ
        have HQ := JQ
        clear JQ
        clear hb8
        go_wp2
        go_ret
        exact ⟨rfl, HK.out⟩
  · obtain ⟨kk, hh, hk0⟩ : ∃ kk : Int, (sendL cap l b v = l ∧ sendK cap l b = kk) ∧ (kk != 0) = true := by
      by_cases h1 : okC cap l.length = true ∧ b = false
      · exact ⟨1, send_full h1 (fun h => hd ⟨h1.1, h1.2, h⟩), by decide⟩
      · exact ⟨2, send_no h1, by decide⟩
    have hkk : (kk != kk) = false := by simp
    have hok : (okC cap l.length != okC cap l.length) = false := by simp
    have hbb : (b == b) = true := by simp
    clear hd
    have HK : Hid (Below w.heap.size w w1) := K1.out
    have HL : Hid (RowI w1 w1.heap.size su l) := R1.out
    clear K1 R1
    go_wp2_with fail
    obtain ⟨W1, hW1, bx1, kb1, sz1⟩ := box1 w1 (.int .i64 cap) (.slice su l.length cu) (.bool b) 26
    rw [hW1]
    have zw1 : w1.heap.size < W1.heap.size := by omega
    clear hW1 sz1
    have JK : Hid (Below w.heap.size w W1) := HK.out.trans (kb1.mono (by omega))
    have JL : Hid (RowI W1 w1.heap.size su l) := HL.out.keep (fun k hk => kb1.block k (by omega))
    clear HK
    have HK := JK
    clear JK
    clear HL
    have HL := JL
    clear JL
    have HC : Hid (Box1 w1.heap.size W1 (.int .i64 cap) (.slice su l.length cu) (.bool b)) := bx1
    clear bx1 kb1
    obtain ⟨C0, C1, C2, Cf, Cz⟩ := HC.out
    refine (implSend_any cap su l cu b v W1 (HL.out.mono (by omega)) (by omega)).mono ?_
    rintro e w2 ⟨u2, rfl, o2, hb2, z2⟩
    rw [hh.1] at o2
    rw [hh.2]
    obtain ⟨s2, c2, rfl⟩ := o2.sl
    clear C0 C1 C2 Cf Cz
    have JK : Hid (Below w.heap.size w w2) := HK.out.trans (hb2.mono (by omega))
    have JL : Hid (RowI w2 w1.heap.size su l) := HL.out.keep (fun k hk => hb2.block k (by omega))
    have JC : Hid (Box1 w1.heap.size w2 (.int .i64 cap) (.slice su l.length cu) (.bool b)) := HC.out.keep (hb2.block _ HC.out.z) hb2.size
    clear HK
    have HK := JK
    clear JK
    clear HL
    have HL := JL
    clear JL
    clear HC
    have HC := JC
    clear JC
    have HM : Hid (RowI w2 w2.heap.size s2 l) := o2.rowI
    clear hb2 o2
    obtain ⟨C0, C1, C2, Cf, Cz⟩ := HC.out
    go_wp2_with fail
    clear C0 C1 C2 Cf Cz
    obtain ⟨W2, hW2, bx2, kb2, sz2⟩ := box1 w2 (.int .i64 cap) (.slice s2 l.length c2) (.bool b) 26
    rw [hW2]
    have zw2 : w2.heap.size < W2.heap.size := by omega
    clear hW2 sz2
    have JK : Hid (Below w.heap.size w W2) := HK.out.trans (kb2.mono (by omega))
    have JL : Hid (RowI W2 w1.heap.size su l) := HL.out.keep (fun k hk => kb2.block k (by omega))
    have JC : Hid (Box1 w1.heap.size W2 (.int .i64 cap) (.slice su l.length cu) (.bool b)) := HC.out.keep (kb2.block _ HC.out.z) kb2.size
    have JM : Hid (RowI W2 w2.heap.size s2 l) := HM.out.keep (fun k hk => kb2.block k (by omega))
    clear HK
    have HK := JK
    clear JK
    clear HL
    have HL := JL
    clear JL
    clear HC
    have HC := JC
    clear JC
    clear HM
    have HM := JM
    clear JM
    have HD : Hid (Box1 w2.heap.size W2 (.int .i64 cap) (.slice s2 l.length c2) (.bool b)) := bx2
    clear bx2 kb2
    obtain ⟨C0, C1, C2, Cf, Cz⟩ := HC.out
    obtain ⟨D0, D1, D2, Df, Dz⟩ := HD.out
    refine (specSend_any cap su l cu b v W2 (HL.out.mono (by omega)) (by omega)).mono ?_
    rintro e w3 ⟨u3, rfl, o3, hb3, z3⟩
    rw [hh.1] at o3
    rw [hh.2]
    obtain ⟨s3, c3, rfl⟩ := o3.sl
    clear C0 C1 C2 Cf Cz
    clear D0 D1 D2 Df Dz
    have JK : Hid (Below w.heap.size w w3) := HK.out.trans (hb3.mono (by omega))
    have JL : Hid (RowI w3 w1.heap.size su l) := HL.out.keep (fun k hk => hb3.block k (by omega))
    have JC : Hid (Box1 w1.heap.size w3 (.int .i64 cap) (.slice su l.length cu) (.bool b)) := HC.out.keep (hb3.block _ HC.out.z) hb3.size
    have JM : Hid (RowI w3 w2.heap.size s2 l) := HM.out.keep (fun k hk => hb3.block k (by omega))
    have JD : Hid (Box1 w2.heap.size w3 (.int .i64 cap) (.slice s2 l.length c2) (.bool b)) := HD.out.keep (hb3.block _ HD.out.z) hb3.size
    clear HK
    have HK := JK
    clear JK
    clear HL
    have HL := JL
    clear JL
    clear HC
    have HC := JC
    clear JC
    clear HM
    have HM := JM
    clear JM
    clear HD
    have HD := JD
    clear JD
    clear hb3 o3
    obtain ⟨C0, C1, C2, Cf, Cz⟩ := HC.out
    obtain ⟨D0, D1, D2, Df, Dz⟩ := HD.out
    go_wp2_with fail
    clear C0 C1 C2 Cf Cz
    clear D0 D1 D2 Df Dz
    obtain ⟨W3, hW3, bx3, kb3, sz3⟩ := box1 w3 (.int .i64 cap) (.slice s3 l.length c3) (.bool b) 26
    rw [hW3]
    have zw3 : w3.heap.size < W3.heap.size := by omega
    clear hW3 sz3
    have JK : Hid (Below w.heap.size w W3) := HK.out.trans (kb3.mono (by omega))
    have JL : Hid (RowI W3 w1.heap.size su l) := HL.out.keep (fun k hk => kb3.block k (by omega))
    have JC : Hid (Box1 w1.heap.size W3 (.int .i64 cap) (.slice su l.length cu) (.bool b)) := HC.out.keep (kb3.block _ HC.out.z) kb3.size
    have JM : Hid (RowI W3 w2.heap.size s2 l) := HM.out.keep (fun k hk => kb3.block k (by omega))
    have JD : Hid (Box1 w2.heap.size W3 (.int .i64 cap) (.slice s2 l.length c2) (.bool b)) := HD.out.keep (kb3.block _ HD.out.z) kb3.size
    clear HK
    have HK := JK
    clear JK
    clear HL
    have HL := JL
    clear JL
    clear HC
    have HC := JC
    clear JC
    clear HM
    have HM := JM
    clear JM
    clear HD
    have HD := JD
    clear JD
    have HE : Hid (Box1 w3.heap.size W3 (.int .i64 cap) (.slice s3 l.length c3) (.bool b)) := bx3
    clear bx3 kb3
    clear HE
    obtain ⟨C0, C1, C2, Cf, Cz⟩ := HC.out
    obtain ⟨D0, D1, D2, Df, Dz⟩ := HD.out
    go_region_held3 (fun w' => w'.cell? ⟨w1.heap.size, 0, none⟩ = some (.int .i64 cap) ∧ w'.cell? ⟨w1.heap.size, 1, none⟩ = some (.slice su l.length cu) ∧ w'.cell? ⟨w1.heap.size, 2, none⟩ = some (.bool b)) (go_keep) (first | (go_at_call 9; refine (implOk_any cap su l.length cu b W3.drew (by omega)).mono ?_; rintro e w4 ⟨rfl, hb4⟩; have ka : Below W3.heap.size W3 w4 := (Below.drew (Below.refl _ _)).trans hb4; have CA := HC.out.keep (ka.block _ HC.out.z) ka.size; have q0 := CA.c0; have q1 := CA.c1; have q2 := CA.c2) | (go_at_call 10; refine (specOk_any cap su l.length cu b w4 (by omega)).mono ?_; rintro e w5 ⟨rfl, hb5⟩; have kb : Below W3.heap.size W3 w5 := ka.trans (hb5.mono ka.size); have CB' := HC.out.keep (kb.block _ HC.out.z) kb.size; have r0 := CB'.c0; have r1 := CB'.c1; have r2 := CB'.c2))
    have zk4 := kb.size
    clear q0 q1 q2 r0 r1 r2 CA CB' ka hb4 hb5
    clear C0 C1 C2 Cf Cz
    clear D0 D1 D2 Df Dz
    have JK : Hid (Below w.heap.size w w5) := HK.out.trans (kb.mono (by omega))
    have JL : Hid (RowI w5 w1.heap.size su l) := HL.out.keep (fun k hk => kb.block k (by omega))
    have JC : Hid (Box1 w1.heap.size w5 (.int .i64 cap) (.slice su l.length cu) (.bool b)) := HC.out.keep (kb.block _ HC.out.z) kb.size
    have JM : Hid (RowI w5 w2.heap.size s2 l) := HM.out.keep (fun k hk => kb.block k (by omega))
    have JD : Hid (Box1 w2.heap.size w5 (.int .i64 cap) (.slice s2 l.length c2) (.bool b)) := HD.out.keep (kb.block _ HD.out.z) kb.size
    clear HK
    have HK := JK
    clear JK
    clear HL
    have HL := JL
    clear JL
    clear HC
    have HC := JC
    clear JC
    clear HM
    have HM := JM
    clear JM
    clear HD
    have HD := JD
    clear JD
    clear kb
    obtain ⟨C0, C1, C2, Cf, Cz⟩ := HC.out
    obtain ⟨D0, D1, D2, Df, Dz⟩ := HD.out
    go_wp2_with fail
    refine (sameInts_any s2 su l l c2 cu w5 (HM.out.ints (by omega)) (HL.out.ints (by omega)) (by omega)).mono ?_
    rintro e w6 ⟨rfl, m6, rfl⟩
    rw [decide_eq_true (rfl : l = l)]
    go_wp2
    go_ret
    exact ⟨rfl, HK.out.trans ⟨rfl, rfl, rfl, Nat.le_refl _, fun _ _ => rfl⟩⟩

set_option maxRecDepth 100000 in
theorem liftedFnChan (os : Os) (started : os.Started) (H : Type) (enc : TypeId × Value → H) :
    ReturnsInHanded {} Try.checked os 3 .any (Rows.fnChanSpec.pre6 enc Try.prog Try.f3 Rows.fnChanRow.domain false) (Rows.fnChanSpec.post enc Try.prog Try.f3 false true false false) := by
  refine returnsInHanded_of_change (C := Try.checked) ownS started (by kernel_rfl) Try.func3
    (ChangeSpec.witness6 (enc := enc) (C := Try.checked) false ⟨#[], #[.slice none 0 0], []⟩ 8 (by kernel_rfl) (by kernel_rfl) (by kernel_rfl) (by kernel_rfl)) ?_
  intro W base args ds gs before hval0 hW hcnd _
  have hval : ∀ (j : Nat) t v, Try.f3.params[j]? = some t → args[j]? = some v → Value.okWide Try.prog W .any base t v := hval0
  have hW' := hW
  obtain ⟨p, q, hA0, hV, rfl, hfz, hnd⟩ := hW
  have hA : DataW.TrodAll enc Try.prog W 0 (fun _ => true) true Try.f3.params.toList args.toList ds p := hA0
  rw [Try.params3] at hA hval
  obtain ⟨v0, d0, hargs, rfl, h0⟩ := trodAll_one hA
  obtain rfl : args = #[v0] := by cases args; simp_all
  obtain ⟨rfl, rfl⟩ := trodVars_none hV
  have k0 := h0
  have lt0 : ∀ x ∈ p, x.block < W.heap.size := by obtain ⟨m, hm⟩ := k0; exact DataW.trod_lt m _ _ _ hm
  obtain ⟨s, n, c, rfl, hn, hB⟩ := bytes_read (hval 0 22 v0 rfl rfl) h0
  clear hA0 hval0
  refine (walkFnChan s n c W hB hn).mono fun e W' ⟨he, bel⟩ => ?_
  subst he
  exact ⟨_, rfl, _, _, _, [], _, [], hW', trodAll_mk1 (shut_bool Try.underlying4 _), trodAll_mk1 (Below.trod laidOutS (by kernel_rfl) (of_decide_eq_true (by kernel_rfl)) k0 bel lt0), rfl, bel.frame _, fun h => by cases h⟩

theorem fnChan_holds : Rows.FnChanSaid :=
  OpenClaim.holds_of_wide 3 Try.f3 rfl rfl rfl rfl rfl rfl rfl ⟨rfl, rfl, rfl, rfl, rfl⟩ rfl rfl rfl rfl rfl (by kernel_rfl) Try.func3 (by kernel_rfl)
    (of_decide_eq_true (by kernel_rfl)) (by unfold Func.isWrapper; first | (rw [if_pos (by decide +kernel)]; kernel_rfl) | (rw [if_neg (by decide +kernel)]; exact ⟨rfl, rfl⟩))
    (fun os started H enc _ => liftedFnChan os started H enc)
#print axioms fnChan_holds

end Go.Proofs.Ytjffdcnninhicac
