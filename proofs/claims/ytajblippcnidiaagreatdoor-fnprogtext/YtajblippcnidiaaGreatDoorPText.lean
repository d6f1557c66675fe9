/- Texts of programs: the plain part; ProgText of the specification, at every program of lists of at most 1048576 entries. -/
import Derived.Test.YtajblippcnidiaaGreatDoorText2
import Derived.Test.YtajblippcnidiaaGreatDoorProgOka
namespace Go.Proofs.YtajblippcnidiaaGreatDoor
set_option linter.unusedSimpArgs false
set_option linter.unusedVariables false
set_option maxRecDepth 100000
open Go.RowKit

def lineX (x : I5) : List UInt8 := textL x.o x.r x.a x.b x.n
def lineE (x : I5) : List UInt8 := lineX x ++ [10]
def insT (l : List I5) : List UInt8 := l.flatMap lineE
def bodyT (l : List I5) : List UInt8 := [98, 111, 100, 121, 10] ++ insT l
def bodsT (l : List (List I5)) : List UInt8 := l.flatMap bodyT
def capsL (l : List Int) : List UInt8 := [99, 97, 112, 115] ++ numText l
def progT (p : PD) : List UInt8 := if progB p = true then capsL p.caps ++ [10] ++ bodsT p.bods else []

theorem prog_parts {p : PD} (h : progB p = true) : p.caps.length ≤ 3 ∧ (∀ v ∈ p.caps, -1000000000 ≤ v ∧ v ≤ 1000000000) ∧ p.bods.length ≤ 4 ∧ (1 ≤ p.bods.length) ∧ ∀ i, i < p.bods.length → (p.bods.getD i []).length ≤ 24 := by
  unfold progB at h
  rw [Bool.and_eq_true, Bool.and_eq_true, Bool.and_eq_true] at h
  obtain ⟨h1, h2, h3, h4⟩ := h
  have e1 := of_decide_eq_true h1
  have e2 := of_decide_eq_true h2
  have e3 := of_decide_eq_true h3
  simp [Plain.inB] at h4
  refine ⟨e3, ?_, by omega, by omega, ?_⟩
  · intro v hv
    obtain ⟨i, hi, rfl⟩ := List.getElem_of_mem hv
    have := e1 i hi
    rw [List.getD_eq_getElem?_getD, List.getElem?_eq_getElem hi] at this
    simp [Plain.inB] at this
    omega
  · intro i hi
    have := e2 i hi
    unfold bodyB at this
    rw [Bool.and_eq_true, Bool.and_eq_true] at this
    have := of_decide_eq_true this.2.1
    omega

theorem lineE_le (x : I5) : (lineE x).length ≤ 47 := by
  have := textL_le x.o x.r x.a x.b x.n
  simp [lineE, lineX]; omega
theorem insT_le (l : List I5) : (insT l).length ≤ 47 * l.length := by
  induction l with
  | nil => simp [insT]
  | cons x l ih =>
    have := lineE_le x
    simp [insT] at ih ⊢
    omega
theorem bodyT_le {l : List I5} (h : l.length ≤ 24) : (bodyT l).length ≤ 1200 := by
  have := insT_le l
  simp [bodyT]; omega
theorem bodsT_le {l : List (List I5)} (h : ∀ b ∈ l, b.length ≤ 24) : (bodsT l).length ≤ 1200 * l.length := by
  induction l with
  | nil => simp [bodsT]
  | cons b l ih =>
    have h1 := bodyT_le (h b (by simp))
    have h2 := ih fun u hu => h u (by simp [hu])
    simp [bodsT] at h2 ⊢
    omega
theorem take_le {α : Type} (l : List α) (k : Nat) : (l.take k).length ≤ l.length := by simp; omega
theorem insT_take {l : List I5} {k : Nat} (h : k < l.length) : insT (l.take (k + 1)) = insT (l.take k) ++ lineE (l.getD k z5) := by
  have e : l.take (k + 1) = l.take k ++ [l.getD k z5] := by
    rw [List.take_add_one, List.getD_eq_getElem?_getD, List.getElem?_eq_getElem h]
    rfl
  rw [e]
  simp only [insT, List.flatMap_append, List.flatMap_cons, List.flatMap_nil, List.append_nil]
theorem bodsT_take {l : List (List I5)} {k : Nat} (h : k < l.length) : bodsT (l.take (k + 1)) = bodsT (l.take k) ++ bodyT (l.getD k []) := by
  have e : l.take (k + 1) = l.take k ++ [l.getD k []] := by
    rw [List.take_add_one, List.getD_eq_getElem?_getD, List.getElem?_eq_getElem h]
    rfl
  rw [e]
  simp only [bodsT, List.flatMap_append, List.flatMap_cons, List.flatMap_nil, List.append_nil]
theorem getD_memB {l : List (List I5)} {k : Nat} (h : k < l.length) : l.getD k [] ∈ l := by
  rw [List.getD_eq_getElem?_getD, List.getElem?_eq_getElem h]
  exact List.getElem_mem h
theorem bods_short {p : PD} (h : ∀ i, i < p.bods.length → (p.bods.getD i []).length ≤ 24) : ∀ b ∈ p.bods, b.length ≤ 24 := by
  intro b hb
  obtain ⟨i, hi, rfl⟩ := List.getElem_of_mem hb
  have := h i hi
  rw [List.getD_eq_getElem?_getD, List.getElem?_eq_getElem hi] at this
  exact this

theorem carry2 {w1 w2 : World} {B K : Nat} {v0 v1 : Value} (hb : Below K w1 w2) (hz : B < K) (c0 : w1.cell? ⟨B, 0, none⟩ = some v0) (c1 : w1.cell? ⟨B, 1, none⟩ = some v1) : w2.cell? ⟨B, 0, none⟩ = some v0 ∧ w2.cell? ⟨B, 1, none⟩ = some v1 :=
  ⟨(hb.cell hz).trans c0, (hb.cell hz).trans c1⟩
theorem ProgR.keep {w w' : World} {lo hi : Nat} {s s' : Option Addr} {p : PD} (h : ProgR w lo hi s s' p) (hb : Keep lo hi w w') : ProgR w' lo hi s s' p := ⟨h.1.keep hb, h.2.keep hb⟩
theorem boxed2 {w w1 : World} {v0 v1 : Value} {T : TypeId} (hb : Below (w.alloc (.cells #[v0, v1] T)).heap.size (w.alloc (.cells #[v0, v1] T)) w1) :
    w1.cell? ⟨w.heap.size, 0, none⟩ = some v0 ∧ w1.cell? ⟨w.heap.size, 1, none⟩ = some v1 ∧ w.heap.size < w1.heap.size := by
  refine ⟨?_, ?_, ?_⟩
  iterate 2 (· rw [hb.cell (by simp)]; simp [go_sem])
  · have := hb.size; simp at this; omega
theorem ints_at {w : World} {lo hi : Nat} {s : Option Addr} {l : List Int} (h : IntsR w lo hi s l) {k : Nat} (hk : k < l.length) : ∃ g off, s = some ⟨g, off, none⟩ ∧ w.cell? ⟨g, off + k, none⟩ = some (.int .i64 (l.getD k 0)) := by
  rcases h with h | ⟨g, off, a, b, d, e⟩
  · rw [h] at hk; simp at hk
  · exact ⟨g, off, a, e k hk⟩
theorem bods_at {w : World} {lo hi : Nat} {s : Option Addr} {l : List (List I5)} (h : BodsR w lo hi s l) {k : Nat} (hk : k < l.length) : ∃ g off, s = some ⟨g, off, none⟩ ∧ BodR w lo hi g (off + k) (l.getD k []) := by
  rcases h with h | ⟨g, off, a, b, d, e⟩
  · rw [h] at hk; simp at hk
  · exact ⟨g, off, a, e k hk⟩
theorem ins_at {w : World} {lo hi : Nat} {s : Option Addr} {l : List I5} (h : InsR w lo hi s l) {k : Nat} (hk : k < l.length) : ∃ g off, s = some ⟨g, off, none⟩ ∧ At5 w g (off + k * 5) (l.getD k z5) := by
  rcases h with h | ⟨g, off, a, b, d, e⟩
  · rw [h] at hk; simp at hk
  · exact ⟨g, off, a, e k hk⟩

set_option maxHeartbeats 4000000 in
theorem specProgText_any (s s' : Option Addr) (c c' lo hi : Nat) (p : PD) (w : World) (h : ProgR w lo hi s s' p) (hB : hi ≤ w.heap.size) (hf : Fits p) :
    Calls Tryz.prog 7 #[.agg #[.slice s p.caps.length c, .slice s' p.bods.length c']] w fun e w' => e = .returned (.string ⟨(progT p).toArray⟩) ∧ Below w.heap.size w w' := by
  have HP : Hid (ProgR w lo hi s s' p) := h
  have HF : Hid (Fits p) := hf
  have KA : Hid (Below w.heap.size w (w.alloc (.cells #[.slice s p.caps.length c, .slice s' p.bods.length c'] 27))) := (Below.refl _ _).alloc (Nat.le_refl _) _
  have HK : Hid (hi ≤ (w.alloc (.cells #[.slice s p.caps.length c, .slice s' p.bods.length c'] 27)).heap.size) := by show _ ≤ _; simp; omega
  clear h hf
  cases hv : progB p
  · have T : Hid (progT p = []) := by show _ = _; unfold progT; rw [hv]; rfl
    have V : Hid (progB p = false) := hv
    clear hv
    go_enter Tryz.func7, Tryz.ntmps7
    go_wp2_with fail
    refine (specProg_any s s' c c' lo hi p _ (HP.out.keep (Keep.of_below KA.out hB)) HK.out HF.out).mono ?_
    rintro e w1 ⟨rfl, hb1⟩
    rw [V.out]
    go_wp2
    go_ret
    exact ⟨by rw [T.out]; rfl, KA.out.trans (hb1.mono (by simp))⟩
  · have T : Hid (progT p = capsL p.caps ++ [10] ++ bodsT p.bods) := by show _ = _; unfold progT; rw [if_pos hv]
    have V : Hid (progB p = true) := hv
    obtain ⟨n1, n2, n3, n4, n5⟩ := prog_parts hv
    have N2 : Hid (∀ v ∈ p.caps, -1000000000 ≤ v ∧ v ≤ 1000000000) := n2
    have N5 : Hid (∀ i, i < p.bods.length → (p.bods.getD i []).length ≤ 24) := n5
    have N6 : Hid (∀ b ∈ p.bods, b.length ≤ 24) := bods_short n5
    clear hv n2 n5
    go_enter Tryz.func7, Tryz.ntmps7
    go_wp2_with fail
    refine (specProg_any s s' c c' lo hi p _ (HP.out.keep (Keep.of_below KA.out hB)) HK.out HF.out).mono ?_
    rintro e w1 ⟨rfl, hb1⟩
    rw [V.out]
    obtain ⟨x0, x1, z1⟩ := boxed2 hb1
    have K1 : Hid (Below w.heap.size w w1) := KA.out.trans (hb1.mono (by simp))
    have X0 : Hid (w1.cell? ⟨w.heap.size, 0, none⟩ = some (.slice s p.caps.length c)) := x0
    have X1 : Hid (w1.cell? ⟨w.heap.size, 1, none⟩ = some (.slice s' p.bods.length c')) := x1
    clear hb1 x0 x1
    go_wp2_with fail
    go_loopw [3, 4] (fun t i wr => ∃ k : Nat, k ≤ p.caps.length ∧ i = .int .i64 k ∧ t = .string ⟨(capsL (p.caps.take k)).toArray⟩ ∧ Below w1.heap.size w1 wr) (fun _ i _ => p.caps.length - (intOf i).toNat)
    case atStart => exact ⟨0, Nat.zero_le _, rfl, by simp [capsL, numText], Below.refl _ _⟩
    case round =>
      obtain ⟨k, hk, rfl, rfl, hbr⟩ := hrel
      have KR : Hid (Below w1.heap.size w1 wr) := hbr
      have hsr := hbr.size
      obtain ⟨y0, y1⟩ := carry2 hbr z1 X0.out X1.out
      clear hbr
      have ht : (capsL (p.caps.take k)).length ≤ 43 := by
        have := numText_take_le N2.out n1 k
        simp [capsL]; omega
      have HX : Hid (∀ h : k < p.caps.length, capsL (p.caps.take (k + 1)) = capsL (p.caps.take k) ++ (32 :: Lib.itoa (p.caps.getD k 0))) := fun h => by unfold capsL; rw [numText_take h, List.append_assoc]
      by_cases hlt : k < p.caps.length
      · have HX' := (show Hid _ from HX.out hlt)
        generalize capsL (p.caps.take k) = tx at ht HX'
        have i0 : (0 : Int) ≤ (k : Int) := by omega
        have i1 : (k : Int) < (p.caps.length : Int) := by omega
        obtain ⟨g, off, hs, f0⟩ := ints_at ((HP.out.keep (Keep.of_below K1.out hB)).keep (Keep.of_below KR.out (by omega))).1 hlt
        subst hs
        have hx := N2.out _ (getD_mem hlt)
        generalize p.caps.getD k 0 = x at f0 hx HX'
        have a1 := addL tx [32] (by omega) (by simp)
        have a2 := addL (tx ++ [32]) (Lib.itoa x) (by simp; omega) (by have := itoa_le hx.1 hx.2; omega)
        go_wp2_with (go_at_call 19; refine (l2Digits_any x (by omega) (by omega) _).mono ?_; rintro e w4 ⟨rfl, hb4⟩; have K4 : Hid (Below wr.heap.size wr w4) := hb4; clear hb4)
        go_roundw
        case rel => exact ⟨k + 1, by omega, by go_num, by rw [HX'.out], KR.out.trans (K4.out.mono hsr)⟩
        case measure => simp [intOf]; omega
      · have i1 : ¬ (k : Int) < (p.caps.length : Int) := by omega
        have e : p.caps.take k = p.caps := List.take_of_length_le (by omega)
        rw [e] at ht ⊢
        clear HX e
        obtain ⟨t0, ht0⟩ : ∃ t0, t0 = capsL p.caps := ⟨_, rfl⟩
        rw [← ht0] at ht ⊢
        have HT0 : Hid (t0 = capsL p.caps) := ht0
        clear ht0
        have a1 := addL t0 [10] (by omega) (by simp)
        go_wp2_with fail
        rename World => w2
        have K2 : Hid (Below w1.heap.size w1 w2) := KR.out
        have hs2 : w1.heap.size ≤ w2.heap.size := hsr
        clear KR hsr y0 y1 a1 hlt i1
        go_loopw [3, 5] (fun t i wx => ∃ k : Nat, k ≤ p.bods.length ∧ i = .int .i64 k ∧ t = .string ⟨(t0 ++ [10] ++ bodsT (p.bods.take k)).toArray⟩ ∧ Below w2.heap.size w2 wx) (fun _ i _ => p.bods.length - (intOf i).toNat)
        case atStart => exact ⟨0, Nat.zero_le _, rfl, by simp [bodsT], Below.refl _ _⟩
        case round =>
          rename World => wx
          obtain ⟨j, hj, rfl, rfl, hbx⟩ := hrel
          have KX : Hid (Below w2.heap.size w2 wx) := hbx
          have hsx := hbx.size
          obtain ⟨y0, y1⟩ := carry2 (K2.out.trans (hbx.mono hs2)) z1 X0.out X1.out
          clear hbx
          have hu : (t0 ++ [10] ++ bodsT (p.bods.take j)).length ≤ 4900 := by
            have h1 := bodsT_le (l := p.bods.take j) fun b hb => N6.out b (List.mem_of_mem_take hb)
            have h2 := take_le p.bods j
            simp only [List.length_append, List.length_cons, List.length_nil]; omega
          have HY : Hid (∀ h : j < p.bods.length, t0 ++ [10] ++ bodsT (p.bods.take (j + 1)) = t0 ++ [10] ++ bodsT (p.bods.take j) ++ bodyT (p.bods.getD j [])) := fun h => by rw [bodsT_take h]; simp
          by_cases hjt : j < p.bods.length
          · have HY' := (show Hid _ from HY.out hjt)
            generalize t0 ++ [10] ++ bodsT (p.bods.take j) = tx at hu HY'
            clear HY
            have i0 : (0 : Int) ≤ (j : Int) := by omega
            have i1 : (j : Int) < (p.bods.length : Int) := by omega
            obtain ⟨g, off, hs, hR⟩ := bods_at (((HP.out.keep (Keep.of_below K1.out hB)).keep (Keep.of_below K2.out (by omega))).keep (Keep.of_below KX.out (by omega))).2 hjt
            subst hs
            obtain ⟨sb, cb, fb, hin⟩ := hR
            have h24 := N5.out j hjt
            generalize p.bods.getD j [] = bd at fb hin h24 HY'
            have HI : Hid (InsR wx lo hi sb bd) := hin
            have FB : Hid (wx.cell? ⟨g, off + j, none⟩ = some (.slice sb bd.length cb)) := fb
            have hgx : g < wx.heap.size := by
              apply Classical.byContradiction
              intro hn
              have : wx.heap[g]? = none := by simp; omega
              simp [World.cell?, this] at fb
            clear hin
            have a1 := addL tx [98, 111, 100, 121, 10] (by omega) (by simp)
            go_wp2_with fail
            clear a1 y0 y1 fb
            go_loopw [3, 6] (fun t i wy => ∃ k : Nat, k ≤ bd.length ∧ i = .int .i64 k ∧ t = .string ⟨(tx ++ [98, 111, 100, 121, 10] ++ insT (bd.take k)).toArray⟩ ∧ Below wx.heap.size wx wy) (fun _ i _ => bd.length - (intOf i).toNat)
            case atStart => exact ⟨0, Nat.zero_le _, rfl, by simp [insT], Below.refl _ _⟩
            case round =>
              rename World => wy
              obtain ⟨k, hk, rfl, rfl, hby⟩ := hrel
              have KY : Hid (Below wx.heap.size wx wy) := hby
              have hsy := hby.size
              obtain ⟨y0, y1⟩ := carry2 ((K2.out.trans (KX.out.mono hs2)).trans (hby.mono (by omega))) z1 X0.out X1.out
              have fb := (hby.cell (p := ⟨g, off + j, none⟩) hgx).trans FB.out
              clear hby
              have hv2 : (tx ++ [98, 111, 100, 121, 10] ++ insT (bd.take k)).length ≤ 6100 := by
                have h1 := insT_le (bd.take k)
                have h2 := take_le bd k
                simp only [List.length_append, List.length_cons, List.length_nil]; omega
              have HZ : Hid (∀ h : k < bd.length, tx ++ [98, 111, 100, 121, 10] ++ insT (bd.take (k + 1)) = tx ++ [98, 111, 100, 121, 10] ++ insT (bd.take k) ++ lineE (bd.getD k z5)) := fun h => by rw [insT_take h]; simp
              by_cases hkt : k < bd.length
              · have HZ' := (show Hid _ from HZ.out hkt)
                generalize tx ++ [98, 111, 100, 121, 10] ++ insT (bd.take k) = ty at hv2 HZ'
                clear HZ
                have j0 : (0 : Int) ≤ (k : Int) := by omega
                have j1 : (k : Int) < (bd.length : Int) := by omega
                obtain ⟨gi, oi, hs, c0, c1, c2, c3, c4⟩ := ins_at (HI.out.keep (Keep.of_below KY.out (by omega))) hkt
                subst hs
                generalize bd.getD k z5 = x at c0 c1 c2 c3 c4 HZ'
                obtain ⟨xo, xr, xa, xb, xn⟩ := x
                have hl := textL_le xo xr xa xb xn
                have HZ2 : Hid (tx ++ [98, 111, 100, 121, 10] ++ insT (bd.take (k + 1)) = ty ++ (textL xo xr xa xb xn ++ [10])) := HZ'.out
                clear HZ'
                have a1 := addL ty (textL xo xr xa xb xn) (by omega) (by omega)
                have a2 := addL (ty ++ textL xo xr xa xb xn) [10] (by simp; omega) (by simp)
                go_wp2_with (go_at_call 20; refine (specInsText_any _ _ _ _ _ _).mono ?_; rintro e w4 ⟨rfl, hb4⟩; have K4 : Hid (Below wy.heap.size wy w4) := hb4; clear hb4)
                go_roundw
                case rel => exact ⟨k + 1, by omega, by go_num, by rw [HZ2.out], KY.out.trans (K4.out.mono hsy)⟩
                case measure => simp [intOf]; omega
              · have j1 : ¬ (k : Int) < (bd.length : Int) := by omega
                have e : bd.take k = bd := List.take_of_length_le (by omega)
                have HZ3 : Hid (tx ++ [98, 111, 100, 121, 10] ++ insT (bd.take k) = t0 ++ [10] ++ bodsT (p.bods.take (j + 1))) := by show _ = _; rw [HY'.out, e]; simp [bodyT]
                clear HZ
                go_wp2
                go_roundw
                case rel => exact ⟨j + 1, by omega, by go_num, by rw [HZ3.out], KX.out.trans (KY.out.mono hsx)⟩
                case measure => simp [intOf]; omega
          · have i1 : ¬ (j : Int) < (p.bods.length : Int) := by omega
            have e : p.bods.take j = p.bods := List.take_of_length_le (by omega)
            have HY3 : Hid (t0 ++ [10] ++ bodsT (p.bods.take j) = progT p) := by show _ = _; rw [T.out, e, HT0.out]
            clear HY e
            go_wp2
            go_ret
            refine ⟨?_, K1.out.trans ((K2.out.trans (KX.out.mono hs2)).mono (by omega))⟩
            have e2 : t0 ++ (10 :: bodsT (p.bods.take j)) = progT p := by rw [← HY3.out]; simp
            rw [← e2]
            rfl

end Go.Proofs.YtajblippcnidiaaGreatDoor
