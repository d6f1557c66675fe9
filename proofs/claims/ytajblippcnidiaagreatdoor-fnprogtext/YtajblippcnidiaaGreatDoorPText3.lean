/- ProgText of the program, whole: at every program of lists of at most 1048576 entries it answers the program's text. Condition: the tables hold what their initialisers lay (Env). -/
import Derived.Test.YtajblippcnidiaaGreatDoorPText2
namespace Go.Proofs.YtajblippcnidiaaGreatDoor
set_option linter.unusedSimpArgs false
set_option linter.unusedVariables false
set_option maxRecDepth 100000
open Go.RowKit

theorem lines_len {ls : List (List UInt8)} (h : ∀ l ∈ ls, l.length ≤ 46) : (Lib.join ls [10]).length ≤ 47 * ls.length := by
  by_cases h0 : ls = []
  · subst h0; simp [Lib.join]
  · have e := congrArg List.length (join_ends ls h0)
    have h2 : (endsL ls).length ≤ 47 * ls.length := by
      clear e h0
      induction ls with
      | nil => simp [endsL]
      | cons l r ih =>
        have h1 := h l (by simp)
        have h2 := ih fun u hu => h u (by simp [hu])
        simp [endsL] at h2 ⊢
        omega
    simp at e
    omega
theorem caps_short {l : List Int} (hl : l.length ≤ 3) (hv : ∀ v ∈ l, -1000000000 ≤ v ∧ v ≤ 1000000000) : (capsL l).length ≤ 43 := by
  have := numText_le hv
  simp [capsL]; omega
theorem caps_46 {p : PD} (h : progB p = true) : (capsL p.caps).length ≤ 46 := by
  obtain ⟨n1, n2, -⟩ := prog_parts h
  have := caps_short n1 n2
  omega
theorem linesB_each (l : List (List I5)) : ∀ x ∈ linesB l, x.length ≤ 46 := by
  intro x hx
  obtain ⟨b, -, hb⟩ := List.mem_flatMap.1 hx
  rcases List.mem_cons.1 hb with h | h
  · subst h; simp
  · obtain ⟨y, -, rfl⟩ := List.mem_map.1 h
    exact textL_le _ _ _ _ _

theorem bods_long {p : PD} (h : progB p = true) : ∀ i, i < p.bods.length → 1 ≤ (p.bods.getD i []).length := by
  unfold progB at h
  rw [Bool.and_eq_true, Bool.and_eq_true, Bool.and_eq_true] at h
  intro i hi
  have := of_decide_eq_true h.2.1 i hi
  unfold bodyB at this
  rw [Bool.and_eq_true, Bool.and_eq_true] at this
  have := of_decide_eq_true this.2.1
  omega
theorem bytes_map : ∀ ls : List (List UInt8), (ls.map (fun l => (⟨l.toArray⟩ : ByteArray))).map (·.data.toList) = ls
  | [] => rfl
  | l :: r => by rw [List.map_cons, List.map_cons, bytes_map r]
theorem bods_lt {w : World} {lo hi : Nat} {s : Option Addr} {l : List (List I5)} (h : BodsR w lo hi s l) {k : Nat} (hk : k < l.length) : ∃ g off sb cb, s = some ⟨g, off, none⟩ ∧ g < hi ∧ w.cell? ⟨g, off + k, none⟩ = some (.slice sb (l.getD k []).length cb) ∧ InsR w lo hi sb (l.getD k []) := by
  rcases h with h | ⟨g, off, a, b, d, e⟩
  · rw [h] at hk; simp at hk
  · obtain ⟨sb, cb, h1, h2⟩ := e k hk
    exact ⟨g, off, sb, cb, a, d, h1, h2⟩

set_option maxHeartbeats 4000000 in
theorem implProgText_any (s s' : Option Addr) (c c' lo hi : Nat) (p : PD) (w : World) (h : ProgR w lo hi s s' p) (hB : hi ≤ w.heap.size) (hf : Fits p) (hE : Env w w.heap.size) :
    Calls Tryz.prog 6 #[.agg #[.slice s p.caps.length c, .slice s' p.bods.length c']] w fun e w' => e = .returned (.string ⟨(progT p).toArray⟩) ∧ Below w.heap.size w w' := by
  have HP : Hid (ProgR w lo hi s s' p) := h
  have HF : Hid (Fits p) := hf
  have HE : Hid (Env w w.heap.size) := hE
  have KA : Hid (Below w.heap.size w (w.alloc (.cells #[.slice s p.caps.length c, .slice s' p.bods.length c'] 27))) := (Below.refl _ _).alloc (Nat.le_refl _) _
  have HK : Hid (hi ≤ (w.alloc (.cells #[.slice s p.caps.length c, .slice s' p.bods.length c'] 27)).heap.size) := by show _ ≤ _; simp; omega
  clear h hf hE
  cases hv : progB p
  · have T : Hid (progT p = []) := by show _ = _; unfold progT; rw [hv]; rfl
    have V : Hid (progB p = false) := hv
    clear hv
    go_enter Tryz.func6, Tryz.ntmps6
    go_wp2_with fail
    refine (implProg_any s s' c c' lo hi p _ (HP.out.keep (Keep.of_below KA.out hB)) HK.out HF.out).mono ?_
    rintro e w1 ⟨rfl, hb1⟩
    rw [V.out]
    go_wp2
    go_ret
    exact ⟨by rw [T.out]; rfl, KA.out.trans (hb1.mono (by simp))⟩
  · have T : Hid (endsL (capsL p.caps :: linesB p.bods) = progT p) := prog_lines hv
    have V : Hid (progB p = true) := hv
    have H46 := caps_46 hv
    obtain ⟨n1, n2, n3, n4, n5⟩ := prog_parts hv
    have N2 : Hid (∀ v ∈ p.caps, -1000000000 ≤ v ∧ v ≤ 1000000000) := n2
    have N5 : Hid (∀ i, i < p.bods.length → (p.bods.getD i []).length ≤ 24) := n5
    have N6 : Hid (∀ b ∈ p.bods, b.length ≤ 24) := bods_short n5
    have N7 : Hid (∀ i, i < p.bods.length → 1 ≤ (p.bods.getD i []).length) := bods_long hv
    clear hv n2 n5
    go_enter Tryz.func6, Tryz.ntmps6
    go_wp2_with fail
    refine (implProg_any s s' c c' lo hi p _ (HP.out.keep (Keep.of_below KA.out hB)) HK.out HF.out).mono ?_
    rintro e w1 ⟨rfl, hb1⟩
    rw [V.out]
    obtain ⟨x0, x1, z1⟩ := boxed2 hb1
    have K1 : Hid (Below w.heap.size w w1) := KA.out.trans (hb1.mono (by simp))
    have X0 : Hid (w1.cell? ⟨w.heap.size, 0, none⟩ = some (.slice s p.caps.length c)) := x0
    have X1 : Hid (w1.cell? ⟨w.heap.size, 1, none⟩ = some (.slice s' p.bods.length c')) := x1
    clear hb1
    go_wp2_with fail
    refine (capsText_any s c lo hi p.caps w1 (HP.out.keep (Keep.of_below K1.out hB)).1 (by omega) n1 N2.out ((HE.out.keep K1.out).mono (by omega))).mono ?_
    rintro e w2 ⟨rfl, hb2⟩
    have K2 : Hid (Below w1.heap.size w1 w2) := hb2
    have hs2 := hb2.size
    obtain ⟨y0, y1⟩ := carry2 hb2 z1 X0.out X1.out
    clear hb2 x0 x1
    have z2 : w.heap.size < w2.heap.size := by omega
    have E2 : Hid (Env w2 w.heap.size) := (HE.out.keep K1.out).keep (K2.out.mono (by omega))
    have P2 : Hid (ProgR w2 lo hi s s' p) := (HP.out.keep (Keep.of_below K1.out hB)).keep (Keep.of_below K2.out (by omega))
    generalize hT0 : capsL p.caps = t0 at H46
    have HT0 : Hid (capsL p.caps = t0) := hT0
    clear hT0
    have O2 : Hid (OwnT (w2.alloc (.cells #[.string ⟨t0.toArray⟩] 9)) w2.heap.size (.slice (some ⟨w2.heap.size, 0, none⟩) 1 1) [t0]) := ownT_lit t0 (Nat.le_refl _)
    have B2 : Hid (Below w2.heap.size w2 (w2.alloc (.cells #[.string ⟨t0.toArray⟩] 9))) := (Below.refl _ _).alloc (Nat.le_refl _) _
    go_wp2_with fail
    go_loopw [3, 18] (fun v i wr => ∃ k : Nat, k ≤ p.bods.length ∧ i = .int .i64 k ∧ OwnT wr w2.heap.size v (t0 :: linesB (p.bods.take k)) ∧ Below w2.heap.size w2 wr ∧ w2.heap.size < wr.heap.size) (fun _ i _ => p.bods.length - (intOf i).toNat)
    case atStart => exact ⟨0, Nat.zero_le _, rfl, O2.out, B2.out, by simp⟩
    case round =>
      rename World => wx
      obtain ⟨j, hj, rfl, hox, hbx, hlx⟩ := hrel
      obtain ⟨g, cap, rfl, hgB, hgl⟩ := hox.form (by simp)
      have OX : Hid (OwnT wx w2.heap.size (.slice (some ⟨g, 0, none⟩) (t0 :: linesB (p.bods.take j)).length cap) (t0 :: linesB (p.bods.take j))) := hox
      have KX : Hid (Below w2.heap.size w2 wx) := hbx
      clear hox hbx y0 y1
      have hlen : (t0 :: linesB (p.bods.take j)).length ≤ 101 := by
        have h1 := linesB_le (l := p.bods.take j) fun b hb => N6.out b (List.mem_of_mem_take hb)
        have h2 := take_le p.bods j
        simp only [List.length_cons]; omega
      by_cases hjt : j < p.bods.length
      · have HY' : Hid (t0 :: linesB (p.bods.take (j + 1)) = (t0 :: linesB (p.bods.take j)) ++ ([98, 111, 100, 121] :: (p.bods.getD j []).map lineX)) := by show _ = _; rw [linesB_take hjt]; rfl
        generalize t0 :: linesB (p.bods.take j) = tx at hlen HY' OX
        have i0 : (0 : Int) ≤ (j : Int) := by omega
        have i1 : (j : Int) < (p.bods.length : Int) := by omega
        obtain ⟨gb, ob, sb, cb, hs, hgb, fb2, hin⟩ := bods_lt P2.out.2 hjt
        subst hs
        have fb := (KX.out.cell (p := ⟨gb, ob + j, none⟩) (by show gb < _; omega)).trans fb2
        have h24 := N5.out j hjt
        have h01 := N7.out j hjt
        generalize p.bods.getD j [] = bd at fb fb2 hin h24 h01 HY'
        have HI : Hid (InsR w2 lo hi sb bd) := hin
        obtain ⟨gi, oi, hs, -⟩ := ins_at hin (k := 0) (by omega)
        subst hs
        clear hin fb2
        go_wp2_with (first
          | (at_builtin; refine app_str rfl _ _ rfl wx [98, 111, 100, 121] w2.heap.size (.slice (some ⟨g, 0, none⟩) tx.length cap) tx rfl OX.out rfl (by omega) (by omega) ?_; intro g1 cap1 w3 ho3 hb3 hs3 hg3; have O3 := (show Hid _ from ho3); have B3 := (show Hid _ from hb3); clear ho3 hb3))
        have K3 : Hid (Below w2.heap.size w2 w3) := KX.out.trans B3.out
        clear OX B3 fb
        generalize htx : tx ++ [[98, 111, 100, 121]] = t1 at O3
        have hl1 : 1 ≤ t1.length ∧ t1.length ≤ 102 := by rw [← htx]; simp; omega
        have HTX : Hid (tx ++ [[98, 111, 100, 121]] = t1) := htx
        clear htx
        go_loopw [3, 27] (fun v i wr => ∃ k : Nat, k ≤ bd.length ∧ i = .int .i64 k ∧ OwnT wr w2.heap.size v (t1 ++ (bd.take k).map lineX) ∧ Below w2.heap.size w2 wr ∧ w2.heap.size < wr.heap.size) (fun _ i _ => bd.length - (intOf i).toNat)
        case atStart =>
          refine ⟨0, Nat.zero_le _, rfl, ?_, K3.out, by omega⟩
          simp only [List.take_zero, List.map_nil, List.append_nil]
          exact O3.out
        case round =>
          rename World => wy
          obtain ⟨k, hk, rfl, hoy, hby, hly⟩ := hrel
          obtain ⟨g2, cap2, rfl, hgB2, hgl2⟩ := hoy.form (by simp; omega)
          have OY : Hid (OwnT wy w2.heap.size (.slice (some ⟨g2, 0, none⟩) (t1 ++ (bd.take k).map lineX).length cap2) (t1 ++ (bd.take k).map lineX)) := hoy
          have KY : Hid (Below w2.heap.size w2 wy) := hby
          clear hoy hby
          have hlen2 : (t1 ++ (bd.take k).map lineX).length ≤ 130 := by
            have h2 := take_le bd k
            simp only [List.length_append, List.length_map]; omega
          by_cases hkt : k < bd.length
          · have HZ' : Hid (t1 ++ (bd.take (k + 1)).map lineX = t1 ++ (bd.take k).map lineX ++ [lineX (bd.getD k z5)]) := by show _ = _; rw [map_take hkt]; simp
            generalize t1 ++ (bd.take k).map lineX = ty at hlen2 HZ' OY
            have j0 : (0 : Int) ≤ (k : Int) := by omega
            have j1 : (k : Int) < (bd.length : Int) := by omega
            obtain ⟨gi', oi', hs, c0, c1, c2, c3, c4⟩ := ins_at (HI.out.keep (Keep.of_below KY.out (by omega))) hkt
            cases hs
            generalize bd.getD k z5 = x at c0 c1 c2 c3 c4 HZ'
            obtain ⟨xo, xr, xa, xb, xn⟩ := x
            have HZ2 : Hid (t1 ++ (bd.take (k + 1)).map lineX = ty ++ [textL xo xr xa xb xn]) := HZ'.out
            clear HZ'
            have kz : Below w2.heap.size w2 (wy.alloc (.cells #[.int .i64 xo, .int .i64 xr, .int .i64 xa, .int .i64 xb, .int .i64 xn] 42)) := KY.out.alloc (by omega) _
            have EZ : Hid (Env (wy.alloc (.cells #[.int .i64 xo, .int .i64 xr, .int .i64 xa, .int .i64 xb, .int .i64 xn] 42)) (wy.alloc (.cells #[.int .i64 xo, .int .i64 xr, .int .i64 xa, .int .i64 xb, .int .i64 xn] 42)).heap.size) := (E2.out.keep (kz.mono (by omega))).mono (by simp; omega)
            have OZ : Hid (OwnT (wy.alloc (.cells #[.int .i64 xo, .int .i64 xr, .int .i64 xa, .int .i64 xb, .int .i64 xn] 42)) w2.heap.size (.slice (some ⟨g2, 0, none⟩) ty.length cap2) ty) := OY.out.alloc _
            have KZ : Hid (Below w2.heap.size w2 (wy.alloc (.cells #[.int .i64 xo, .int .i64 xr, .int .i64 xa, .int .i64 xb, .int .i64 xn] 42))) := kz
            clear kz
            go_wp2_with fail
            refine (implInsText_any xo xr xa xb xn _ EZ.out).mono ?_
            rintro e w4 ⟨rfl, hb4⟩
            have hs4 : wy.heap.size < w4.heap.size := by have := hb4.size; simp at this; omega
            have O4 : Hid (OwnT w4 w2.heap.size (.slice (some ⟨g2, 0, none⟩) ty.length cap2) ty) := OZ.out.below hb4
            have K4 : Hid (Below w2.heap.size w2 w4) := KZ.out.trans (hb4.mono (by simp; omega))
            clear hb4 EZ OZ KZ c0 c1 c2 c3 c4
            generalize textL xo xr xa xb xn = tl at HZ2
            go_wp2_with (at_builtin; refine app_str rfl _ _ rfl w4 tl w2.heap.size (.slice (some ⟨g2, 0, none⟩) ty.length cap2) ty rfl O4.out rfl (by omega) (by omega) ?_; intro g5 cap5 w5 ho5 hb5 hs5 hg5; have O5 := (show Hid _ from ho5); have B5 := (show Hid _ from hb5); clear ho5 hb5)
            go_roundw
            case rel => exact ⟨k + 1, by omega, by go_num, by rw [HZ2.out]; exact O5.out, K4.out.trans B5.out, by omega⟩
            case measure => simp [intOf]; omega
          · have j1 : ¬ (k : Int) < (bd.length : Int) := by omega
            have e : bd.take k = bd := List.take_of_length_le (by omega)
            have HZ3 : Hid (t1 ++ (bd.take k).map lineX = t0 :: linesB (p.bods.take (j + 1))) := by show _ = _; rw [HY'.out, e, ← HTX.out]; simp
            clear e
            go_wp2
            go_roundw
            case rel => exact ⟨j + 1, by omega, by go_num, by rw [← HZ3.out]; exact OY.out, KY.out, hly⟩
            case measure => simp [intOf]; omega
      · have i1 : ¬ (j : Int) < (p.bods.length : Int) := by omega
        have e : p.bods.take j = p.bods := List.take_of_length_le (by omega)
        rw [e] at hlen OX ⊢
        have HL : Hid (Lib.join (t0 :: linesB p.bods) [10] ++ [10] = progT p) := by show _ = _; rw [join_ends _ (by simp), ← HT0.out]; exact T.out
        have HJ : (Lib.join (t0 :: linesB p.bods) [10]).length ≤ 5000 := by
          have := lines_len (ls := t0 :: linesB p.bods) (fun l hl => by
            rcases List.mem_cons.1 hl with h | h
            · subst h; exact H46
            · exact linesB_each _ l h)
          omega
        clear e
        generalize t0 :: linesB p.bods = ls at hlen OX HL HJ
        have a1 := addL (Lib.join ls [10]) [10] (by omega) (by simp)
        have hcap := OX.out.cap
        have hmm : (ls.map (fun l => (⟨l.toArray⟩ : ByteArray))).map (·.data.toList) = ls := bytes_map ls
        have hml : (ls.map (fun l => (⟨l.toArray⟩ : ByteArray))).length = ls.length := by simp
        have HCL : Hid (∀ (j : Nat) x, (ls.map (fun l => (⟨l.toArray⟩ : ByteArray)))[j]? = some x → wx.cell? ⟨g, 0 + j, none⟩ = some (.string x)) := by
          intro j x hx
          have hj' : j < ls.length := by have := (List.getElem?_eq_some_iff.1 hx).1; simpa using this
          rw [Nat.zero_add, OX.out.cell hj']
          simp [List.getElem?_eq_getElem hj'] at hx
          simp [List.getD_eq_getElem?_getD, List.getElem?_eq_getElem hj', hx]
        have J : Calls Tryz.prog 17 #[.slice (some ⟨g, 0, none⟩) ls.length cap, .string ⟨#[10]⟩] wx fun e w' => e = .returned (.string ⟨(Lib.join ls [10]).toArray⟩) ∧ Below wx.heap.size wx w' := by
          have J := Tryz.strings_Join g 0 cap (ls.map (fun l => (⟨l.toArray⟩ : ByteArray))) ⟨#[10]⟩ wx HCL.out hgl (by rw [hml]; omega) (by rw [hml]; exact hcap) (by rw [hmm]; show (Lib.join ls [10]).length ≤ _; omega)
          rw [hmm, hml] at J
          exact J
        have HJ2 : Hid (Calls Tryz.prog 17 #[.slice (some ⟨g, 0, none⟩) ls.length cap, .string ⟨#[10]⟩] wx fun e w' => e = .returned (.string ⟨(Lib.join ls [10]).toArray⟩) ∧ Below wx.heap.size wx w') := J
        clear J hmm hml
        go_wp2_with (go_at_call 17; refine (Hid.out HJ2).mono ?_; rintro e w4 ⟨rfl, hb4⟩; have K4 : Hid (Below wx.heap.size wx w4) := hb4; clear hb4)
        go_ret
        refine ⟨?_, K1.out.trans ((K2.out.trans ((KX.out.trans (K4.out.mono (by omega))).mono hs2)).mono (by omega))⟩
        rw [← HL.out]
        rfl

end Go.Proofs.YtajblippcnidiaaGreatDoor
