/- Code and cores held against their rules by the program. Conditions: they are counted. -/
import Derived.Test.YtfdgjjahojkgfaaKDefs
import Derived.Test.YtfdgjjahojkgfaaCodeI
import Derived.Test.YtfdgjjahojkgfaaMemOk
namespace Go.Proofs.Ytfdgjjahojkgfaa
set_option linter.unusedSimpArgs false
set_option linter.unusedVariables false
set_option maxRecDepth 100000
open Go.RowKit

theorem isState_any (n : Int) (w : World) : Calls Try.prog 77 #[.int .i64 n] w fun e w' => e = .returned (.bool (Plain.inB n 0 2)) ∧ w' = w := by
  by_cases h0 : n = 0
  · subst h0
    go_enter Try.func77, Try.ntmps77
    go_wp2
    go_ret
    exact ⟨rfl, rfl⟩
  by_cases h1 : n = 1
  · subst h1
    go_enter Try.func77, Try.ntmps77
    go_wp2
    go_ret
    exact ⟨rfl, rfl⟩
  by_cases h2 : n = 2
  · subst h2
    go_enter Try.func77, Try.ntmps77
    go_wp2
    go_ret
    exact ⟨rfl, rfl⟩
  · have e0 : (n == 0) = false := by simpa using h0
    have e1 : (n == 1) = false := by simpa using h1
    have e2 : (n == 2) = false := by simpa using h2
    have F : Hid (Plain.inB n 0 2 = false) := by show _ = _; simp [Plain.inB]; omega
    clear h0 h1 h2
    go_enter Try.func77, Try.ntmps77
    go_wp2
    go_ret
    exact ⟨by rw [F.out]; rfl, rfl⟩

def codesB (l : List (List I5)) : Bool := decide (1 ≤ l.length ∧ l.length ≤ 4) && l.all codeB
def coreB (m : List (List WD)) (k : KD) (n : Nat) : Bool := decide (k.regs.length = 8) && (Plain.inB k.st 0 2 && (Plain.oneB k.pc n && viewB m k.vw))
def coresB (m : List (List WD)) (cs : List KD) (l : List (List I5)) : Bool := decide (cs.length = l.length) && (cs.zip l).all (fun x => coreB m x.1 x.2.length)
def trB (l : List ND) (n : Nat) : Bool := decide (l.length ≤ 4000) && l.all (fun t => Plain.oneB t.who n)
theorem all_yes {α : Type} {p : α → Bool} {l : List α} (h : ∀ (i : Nat) (t : α), l[i]? = some t → p t = true) : l.all p = true := by
  rw [List.all_eq_true]
  intro x hx
  obtain ⟨i, hi, e⟩ := List.getElem_of_mem hx
  exact h i x (by rw [List.getElem?_eq_getElem hi, e])
def machB (d : MD) : Bool := codesB d.codes && (coresB d.mem d.cores d.codes && (trB d.tr d.cores.length && memB d.mem))
set_option maxHeartbeats 2000000 in
theorem coreOk_any (k : KD) (s1 s2 s3 s4 : Option Addr) (c1 c2 c3 c4 n lo hi lo' hi' : Nat) (m : List (List WD)) (w : World) (h : MemR w lo hi s4 m) (h' : IntsR w lo' hi' s2 k.vw) (hB : hi ≤ w.heap.size) (hB' : hi' ≤ w.heap.size) (hr : k.regs.length ≤ 1048676) (hl : k.vw.length ≤ 1048676) (hn : n ≤ 1048676) :
    Calls Try.prog 57 #[.agg #[.int .i64 k.pc, .slice s1 k.regs.length c1, .slice s2 k.vw.length c2, .int .i64 k.st], .slice s3 n c3, .agg #[.slice s4 m.length c4]] w fun e w' => e = .returned (.bool (coreB m k n)) ∧ Below w.heap.size w w' := by
  have H : Hid (MemR w lo hi s4 m) := h
  have H' : Hid (IntsR w lo' hi' s2 k.vw) := h'
  clear h h'
  by_cases h8 : k.regs.length = 8
  · have e8 : ((k.regs.length : Int) == 8) = true := by simp; omega
    have E : Hid (coreB m k n = (Plain.inB k.st 0 2 && (Plain.oneB k.pc n && viewB m k.vw))) := by show _ = _; unfold coreB; rw [decide_eq_true h8]; rfl
    clear h8
    cases hs : Plain.inB k.st 0 2
    · have HS : Hid (Plain.inB k.st 0 2 = false) := hs
      clear hs
      go_enter Try.func57, Try.ntmps57
      go_wp2_with (go_at_call 77; refine (isState_any _ _).mono ?_; rintro e w' ⟨rfl, rfl⟩; rw [HS.out])
      go_ret
      exact ⟨by rw [E.out, HS.out]; rfl, ((Below.refl _ _).alloc (Nat.le_refl _) _).alloc (by simp) _⟩
    · have HS : Hid (Plain.inB k.st 0 2 = true) := hs
      clear hs
      cases ho : Plain.oneB k.pc n
      · have HO : Hid (Plain.oneB k.pc n = false) := ho
        clear ho
        go_enter Try.func57, Try.ntmps57
        go_wp2_with (first | (go_at_call 77; refine (isState_any _ _).mono ?_; rintro e w' ⟨rfl, rfl⟩; rw [HS.out]) | (go_at_call 58; refine (isOneOf_any _ _ _).mono ?_; rintro e w' ⟨rfl, rfl⟩; rw [HO.out]))
        go_ret
        exact ⟨by rw [E.out, HS.out, HO.out]; rfl, ((Below.refl _ _).alloc (Nat.le_refl _) _).alloc (by simp) _⟩
      · have HO : Hid (Plain.oneB k.pc n = true) := ho
        clear ho
        have k0 : Below w.heap.size w ((w.alloc (.cells #[.int .i64 k.pc, .slice s1 k.regs.length c1, .slice s2 k.vw.length c2, .int .i64 k.st] 58)).alloc (.cells #[.slice s4 m.length c4] 36)) := ((Below.refl _ _).alloc (Nat.le_refl _) _).alloc (by simp) _
        have V := implViewOk_any s4 s2 c4 c2 lo hi lo' hi' m k.vw _ (H.out.keep (Keep.of_below k0 hB)) (H'.out.keep (Keep.of_below k0 hB')) (by simp; omega) (by simp; omega) hl
        have HK : Hid (Below w.heap.size w ((w.alloc (.cells #[.int .i64 k.pc, .slice s1 k.regs.length c1, .slice s2 k.vw.length c2, .int .i64 k.st] 58)).alloc (.cells #[.slice s4 m.length c4] 36))) := k0
        clear k0
        go_enter Try.func57, Try.ntmps57
        go_wp2_with (first | (go_at_call 77; refine (isState_any _ _).mono ?_; rintro e w' ⟨rfl, rfl⟩; rw [HS.out]) | (go_at_call 58; refine (isOneOf_any _ _ _).mono ?_; rintro e w' ⟨rfl, rfl⟩; rw [HO.out]) | (go_at_call 78; refine V.mono ?_; rintro e w1 ⟨rfl, hb1⟩; have HB1 := (show Hid _ from hb1); clear hb1))
        go_ret
        exact ⟨by rw [E.out, HS.out, HO.out]; rfl, HK.out.trans (HB1.out.mono (by simp; omega))⟩
  · have e8 : ((k.regs.length : Int) == 8) = false := by simp; omega
    have E : Hid (coreB m k n = false) := by show _ = _; unfold coreB; rw [decide_eq_false h8]; rfl
    clear h8
    go_enter Try.func57, Try.ntmps57
    go_wp2
    go_ret
    exact ⟨by rw [E.out]; rfl, ((Below.refl _ _).alloc (Nat.le_refl _) _).alloc (by simp) _⟩

set_option maxHeartbeats 1000000 in
theorem codesOk_any (s : Option Addr) (c lo hi : Nat) (l : List (List I5)) (w : World) (h : CsR w lo hi s l) (hB : hi ≤ w.heap.size) (hl : l.length + szC l ≤ 1048576) :
    Calls Try.prog 28 #[.slice s l.length c] w fun e w' => e = .returned (.bool (codesB l)) ∧ Below w.heap.size w w' := by
  have H : Hid (CsR w lo hi s l) := h
  have HV : Hid (∀ (i : Nat) (x : List I5), l[i]? = some x → x.length ≤ 1048576) := fun i x hx => by have := szC_at l i x hx; omega
  clear h
  by_cases h1 : (l.length : Int) < 1
  · have HR : Hid (codesB l = false) := by show codesB l = false; unfold codesB; rw [decide_eq_false (by omega)]; rfl
    go_enter Try.func28, Try.ntmps28
    go_wp2
    go_ret
    exact ⟨ret_bool' HR.out.symm, Below.refl _ _⟩
  by_cases h2 : (l.length : Int) > 4
  · have HR : Hid (codesB l = false) := by show codesB l = false; unfold codesB; rw [decide_eq_false (by omega)]; rfl
    go_enter Try.func28, Try.ntmps28
    go_wp2
    go_ret
    exact ⟨ret_bool' HR.out.symm, Below.refl _ _⟩
  have HR : Hid (codesB l = l.all codeB) := by show codesB l = _; unfold codesB; rw [decide_eq_true (by omega)]; rfl
  go_enter Try.func28, Try.ntmps28
  go_wp2
  go_loopw [15] (fun i wr => ∃ k : Nat, k ≤ l.length ∧ i = .int .i64 k ∧ Hid ((l.take k).all codeB = true) ∧ Below w.heap.size w wr) (fun i _ => l.length - (intOf i).toNat)
  case atStart => exact ⟨0, Nat.zero_le _, rfl, show _ = _ by simp, Below.refl _ _⟩
  case round =>
    obtain ⟨k, hk, rfl, HJ, hbw⟩ := hrel
    have HBW : Hid (Below w.heap.size w wr) := hbw
    have z1 := hbw.size
    clear hbw
    by_cases hlt : k < l.length
    · obtain ⟨x, hx⟩ : ∃ x, l[k]? = some x := ⟨_, List.getElem?_eq_getElem hlt⟩
      obtain ⟨g, o, s1, c1, e1, q1, q2, q3, q5⟩ := (H.out.keep (Keep.of_below HBW.out hB)).at hx
      subst e1
      have hv := HV.out k x hx
      have HI : Hid (InsB wr wr.heap.size s1 x) := q5.insB.mono (by omega)
      have HT : Hid ((l.take (k + 1)).all codeB = ((l.take k).all codeB && codeB x)) := all_take hx
      have HF : Hid (codeB x = false → l.all codeB = false) := fun h => all_no hx h
      clear q5 hx
      have b0 : (0 : Int) ≤ (k : Int) := by omega
      have b1 : (k : Int) < (l.length : Int) := by omega
      go_wp2_with fail
      refine (implCode_any s1 c1 wr.heap.size x wr HI.out (Nat.le_refl _) hv).mono ?_
      rintro e w2 ⟨rfl, hb2⟩
      have HB2 : Hid (Below w.heap.size w w2) := HBW.out.trans (hb2.mono z1)
      clear hb2
      generalize codeB x = b at HT HF
      cases b
      · go_wp2
        go_ret
        exact ⟨ret_bool' (HR.out.trans (by first | exact HF.out rfl | exact HF.out trivial)).symm, HB2.out⟩
      · go_wp2
        go_roundw
        case rel => exact ⟨k + 1, by omega, by go_num, show _ = _ by rw [HT.out, HJ.out]; rfl, HB2.out⟩
        case measure => simp [intOf]; omega
    · go_wp2
      go_ret
      have : k = l.length := by omega
      subst this
      have hj := HJ.out
      rw [List.take_length] at hj
      exact ⟨ret_bool' (by rw [HR.out, hj]), HBW.out⟩


end Go.Proofs.Ytfdgjjahojkgfaa
