/- The law FnExactProgOk of the given statements: at every argument ProgOk of the program answers as the specification's, and writes into none. No condition. -/
import Derived.Test.YtkmobmnbdapjkahFrameInsS
import Derived.Test.YtkmobmnbdapjkahProgOk2
namespace Go.Proofs.Ytkmobmnbdapjkah
set_option linter.unusedSimpArgs false
set_option linter.unusedVariables false
open Go.ChangeShapes Go.WideShapes Go.ChangeAt Go.RowKit Go.Deep

theorem carry2 {w1 w2 : World} {B K : Nat} {v0 v1 : Value} (hb : Below K w1 w2) (hz : B < K) (c0 : w1.cell? ⟨B, 0, none⟩ = some v0) (c1 : w1.cell? ⟨B, 1, none⟩ = some v1) : w2.cell? ⟨B, 0, none⟩ = some v0 ∧ w2.cell? ⟨B, 1, none⟩ = some v1 :=
  ⟨(hb.cell hz).trans c0, (hb.cell hz).trans c1⟩
theorem ProgR.keep {w w' : World} {lo hi : Nat} {s s' : Option Addr} {p : PD} (h : ProgR w lo hi s s' p) (hb : Keep lo hi w w') : ProgR w' lo hi s s' p := ⟨h.1.keep hb, h.2.keep hb⟩
theorem boxed2 {w w1 : World} {v0 v1 : Value} {T : TypeId} (hb : Below (w.alloc (.cells #[v0, v1] T)).heap.size (w.alloc (.cells #[v0, v1] T)) w1) :
    w1.cell? ⟨w.heap.size, 0, none⟩ = some v0 ∧ w1.cell? ⟨w.heap.size, 1, none⟩ = some v1 ∧ w.heap.size < w1.heap.size := by
  refine ⟨?_, ?_, ?_⟩
  iterate 2 (· rw [hb.cell (by simp)]; simp [go_sem])
  · have := hb.size; simp at this; omega

set_option maxHeartbeats 1000000 in
theorem walkProg (s s' : Option Addr) (c c' : Nat) (p : PD) (w : World) (h : ProgR w 0 w.heap.size s s' p) (hn : p.caps.length ≤ maxLen) (hn' : p.bods.length ≤ maxLen) (hls : ∀ i, i < p.bods.length → (p.bods.getD i []).length ≤ maxLen) :
    Calls Try.prog 3 #[.agg #[.slice s p.caps.length c, .slice s' p.bods.length c']] w fun e w' => e = .returned (.bool true) ∧ Below w.heap.size w w' := by
  have HP : Hid (ProgR w 0 w.heap.size s s' p) := h
  have HLS : Hid (∀ i, i < p.bods.length → (p.bods.getD i []).length ≤ maxLen) := hls
  clear h hls
  have ka : Below w.heap.size w (w.alloc (.cells #[.slice s p.caps.length c, .slice s' p.bods.length c'] 25)) := (Below.refl _ _).alloc (Nat.le_refl _) _
  have KA : Hid (Below w.heap.size w (w.alloc (.cells #[.slice s p.caps.length c, .slice s' p.bods.length c'] 25))) := ka
  clear ka
  go_enter Try.func3, Try.ntmps3
  go_wp2_with fail
  refine (szProg_any s s' c c' 0 w.heap.size p _ (HP.out.keep (Keep.of_below KA.out (Nat.le_refl _))) (by simp) hn hn' HLS.out).mono ?_
  rintro e w1 ⟨⟨v, rfl, hv⟩, hb1⟩
  obtain ⟨a0, a1, hz1⟩ := boxed2 hb1
  have K1 : Hid (Below w.heap.size w w1) := KA.out.trans (hb1.mono (by simp))
  clear hb1
  rcases hv with hv | ⟨hv, hf⟩
  · go_wp2
    go_ret
    exact ⟨rfl, K1.out⟩
  · have hv' : ¬ v < 0 := by omega
    have HF : Hid (Fits p) := hf
    clear hf
    go_wp2_with fail
    refine (toProg_new s s' c c' 0 w.heap.size p w1 (HP.out.keep (Keep.of_below K1.out (Nat.le_refl _))) (by omega) HF.out).mono ?_
    rintro e w2 ⟨t, t', rfl, hb2, hz2, hp2⟩
    go_wp2_with fail
    refine (specProg_any t t' _ _ _ _ p w2 hp2 (Nat.le_refl _) HF.out).mono ?_
    rintro e w3 ⟨rfl, hb3⟩
    have hz3 := hb3.size
    have K3 : Hid (Below w.heap.size w w3) := (K1.out.trans (hb2.mono (by omega))).trans (hb3.mono (by omega))
    obtain ⟨b0, b1⟩ := carry2 (hb2.trans (hb3.mono (by omega))) hz1 a0 a1
    clear a0 a1 hp2 hb2 hb3
    go_wp2_with fail
    refine (toProg_new s s' c c' 0 w.heap.size p w3 (HP.out.keep (Keep.of_below K3.out (Nat.le_refl _))) (by omega) HF.out).mono ?_
    rintro e w4 ⟨u, u', rfl, hb4, hz4, hp4⟩
    have HP4 : Hid (ProgR w4 w3.heap.size w4.heap.size u u' p) := hp4
    have K4 : Hid (Below w.heap.size w w4) := K3.out.trans (hb4.mono (by omega))
    obtain ⟨a0, a1⟩ := carry2 hb4 (by omega) b0 b1
    clear b0 b1 hb4 hp4
    have kx : Below w4.heap.size w4 (w4.alloc (.cells #[.slice u p.caps.length p.caps.length, .slice u' p.bods.length p.bods.length] 30)) := (Below.refl _ _).alloc (Nat.le_refl _) _
    have KX : Hid (Below w4.heap.size w4 (w4.alloc (.cells #[.slice u p.caps.length p.caps.length, .slice u' p.bods.length p.bods.length] 30))) := kx
    clear kx
    go_wp2_with fail
    refine (implProg_any u u' _ _ w3.heap.size w4.heap.size p _ (HP4.out.keep (Keep.of_below KX.out (Nat.le_refl _))) (by simp) HF.out).mono ?_
    rintro e w5 ⟨rfl, hb5⟩
    obtain ⟨x0, x1, hz5⟩ := boxed2 hb5
    have K45 : Hid (Below w4.heap.size w4 w5) := KX.out.trans (hb5.mono (by simp))
    obtain ⟨b0, b1⟩ := carry2 K45.out (by omega) a0 a1
    clear a0 a1 hb5
    have K5 : Hid (Below w.heap.size w w5) := K4.out.trans (K45.out.mono (by omega))
    go_wp2_with fail
    first | go_region_with (first | (go_at_call 9; refine (toProg_new s s' c c' 0 w.heap.size p w5.drew (HP.out.keep (Keep.of_below (Below.drew K5.out) (Nat.le_refl _))) (by simp; omega) HF.out).mono ?_; rintro e w6 ⟨y, y', rfl, hb6, hz6, hp6⟩; obtain ⟨z0, z1⟩ := carry2 (w1 := w5.drew) hb6 (by simp; omega) x0 x1) | (go_at_call 11; refine (eqProg_same u u' y y' _ _ _ _ w3.heap.size w4.heap.size w5.heap.size w6.heap.size p w6 ((HP4.out.keep (Keep.of_below (Below.drew K45.out) (Nat.le_refl _))).keep (Keep.of_below hb6 (by simp; omega))) hp6 (by simp at hz6; omega) (Nat.le_refl _) HF.out).mono ?_; rintro e w7 ⟨rfl, hb7⟩)) | fail
    all_goals
      have hz6' : w5.heap.size < w6.heap.size := by simpa using hz6
      have K7 : Hid (Below w.heap.size w w7) := ((Below.drew K5.out).trans (hb6.mono (by simp; omega))).trans (hb7.mono (by omega))
      clear hb6 hb7 hp6
      go_wp2
      go_ret
      exact ⟨rfl, K7.out⟩

/- how the argument reads -/
theorem cellsSl : Try.prog.cellsOf 66 = 1 := by kernel_rfl
theorem cellsSi : Try.prog.cellsOf 22 = 1 := by kernel_rfl
theorem cellsSS : Try.prog.cellsOf 23 = 1 := by kernel_rfl
theorem cellsPr : Try.prog.cellsOf 25 = 2 := by kernel_rfl

theorem list2 {α : Type} {cs : List α} (h : cs.length = 2) : ∃ c0 c1, cs = [c0, c1] := by
  match cs, h with
  | [c0, c1], _ => exact ⟨c0, c1, rfl⟩

theorem ints_read {H : Type} {enc : TypeId × Value → H} {w : World} {base : Nat} {held : Bool} {fuel : Nat} {v : Value} {x : DataW H × List MemPlace}
    (hf : DataW.trod enc Try.prog w base (fun _ => true) held fuel 22 [v] = some x) :
    ∃ (s : Option Addr) (c : Nat) (l : List Int), v = .slice s l.length c ∧ l.length ≤ maxLen ∧ IntsR w 0 w.heap.size s l := by
  rcases open_ints Try.underlying22 Try.underlying3 cellsInt hf with ⟨hcs, _⟩ | ⟨a, len, cap, zs, hcs, _, hl, hm, hz, _, hcell, _⟩
  · simp at hcs
    exact ⟨none, 0, [], hcs, Nat.zero_le _, .inl rfl⟩
  · simp at hcs hz
    by_cases h0 : len = 0
    · subst h0
      exact ⟨some a, cap, [], hcs, Nat.zero_le _, .inl rfl⟩
    · have c0 := hcell 0 (by omega)
      have c0' : w.cell? a = some (.int .i64 (zs.getD 0 0)) := by simpa [Addr.add] using c0
      have hs := World.cell?_spot c0'
      have hg := cell_lt c0'
      obtain ⟨g, off, spot⟩ := a
      simp at hs
      subst hs
      refine ⟨some ⟨g, off, none⟩, cap, zs.take len, ?_, ?_, .inr ⟨g, off, rfl, Nat.zero_le _, hg, ?_⟩⟩
      · rw [hcs]
        congr 1
        simp
        omega
      · simp
        omega
      · intro i hi
        have hi' : i < len := by simp at hi; omega
        have := hcell i (by omega)
        rw [add_plain] at this
        rw [this]
        simp [List.getD_eq_getElem?_getD, List.getElem?_take, hi']

theorem insS_read {H : Type} {enc : TypeId × Value → H} {w : World} {base : Nat} {held : Bool} {fuel : Nat} {v : Value} {x : DataW H × List MemPlace}
    (hf : DataW.trod enc Try.prog w base (fun _ => true) held fuel 66 [v] = some x) :
    ∃ (s : Option Addr) (c : Nat) (l : List I5), v = .slice s l.length c ∧ l.length ≤ maxLen ∧ InsR w 0 w.heap.size s l := by
  rcases open_slice Try.underlying66 hf with ⟨hcs, -⟩ | ⟨a, len, cap, m, n, D, Pl, hcs, -, hl, hm, hmm, -, hel⟩
  · simp at hcs
    exact ⟨none, 0, [], hcs, Nat.zero_le _, .inl rfl⟩
  · simp at hcs
    rw [cellsIns] at hel
    have hle : len ≤ m := by rw [hmm]; split <;> omega
    by_cases h0 : len = 0
    · subst h0
      exact ⟨some a, cap, [], hcs, Nat.zero_le _, .inl rfl⟩
    · obtain ⟨cs0, h1, h2⟩ := hel 0 (by omega)
      obtain ⟨hs, hg⟩ := insS_spot h1 h2
      obtain ⟨g, off, spot⟩ := a
      simp at hs
      subst hs
      obtain ⟨V, hV⟩ := @choose_lt I5 ⟨z5⟩ len (fun i y => At5 w g (off + i * 5) y) (fun i hi => by
        obtain ⟨cs', h1, h2⟩ := hel i (by omega)
        exact insS_at h1 h2)
      refine ⟨some ⟨g, off, none⟩, cap, (List.range len).map V, by simp [hcs], by simp; omega, .inr ⟨g, off, rfl, Nat.zero_le _, hg, ?_⟩⟩
      intro i hi
      simp at hi
      have e : ((List.range len).map V).getD i z5 = V i := by simp [hi]
      rw [e]
      exact hV i hi

theorem bods_read {H : Type} {enc : TypeId × Value → H} {w : World} {base : Nat} {held : Bool} {fuel : Nat} {v : Value} {x : DataW H × List MemPlace}
    (hf : DataW.trod enc Try.prog w base (fun _ => true) held fuel 23 [v] = some x) :
    ∃ (s : Option Addr) (c : Nat) (l : List (List I5)), v = .slice s l.length c ∧ l.length ≤ maxLen ∧ (∀ i, i < l.length → (l.getD i []).length ≤ maxLen) ∧ BodsR w 0 w.heap.size s l := by
  rcases open_slice1 Try.underlying23 cellsSl hf with ⟨hcs, -⟩ | ⟨a, len, cap, m, n, V, D, Pl, hcs, -, hl, hm, hmm, -, hel⟩
  · simp at hcs
    exact ⟨none, 0, [], hcs, Nat.zero_le _, fun i hi => absurd hi (Nat.not_lt_zero _), .inl rfl⟩
  · simp at hcs
    have hle : len ≤ m := by rw [hmm]; split <;> omega
    by_cases h0 : len = 0
    · subst h0
      exact ⟨some a, cap, [], hcs, Nat.zero_le _, fun i hi => absurd hi (Nat.not_lt_zero _), .inl rfl⟩
    · obtain ⟨c0, -⟩ := hel 0 (by omega)
      have c0' : w.cell? a = some (V 0) := by simpa [Addr.add] using c0
      have hs := World.cell?_spot c0'
      have hg := cell_lt c0'
      obtain ⟨g, off, spot⟩ := a
      simp at hs
      subst hs
      obtain ⟨L, hL⟩ := @choose_lt (List I5) ⟨[]⟩ len (fun i l => BodR w 0 w.heap.size g (off + i) l ∧ l.length ≤ maxLen) (fun i hi => by
        obtain ⟨h1, h2⟩ := hel i (by omega)
        obtain ⟨s, c, l, hv, hlm, hin⟩ := insS_read h2
        rw [add_plain, hv] at h1
        exact ⟨l, ⟨s, c, h1, hin⟩, hlm⟩)
      have e : ∀ i, i < len → ((List.range len).map L).getD i [] = L i := fun i hi => by simp [hi]
      refine ⟨some ⟨g, off, none⟩, cap, (List.range len).map L, by simp [hcs], by simp; omega, ?_, .inr ⟨g, off, rfl, Nat.zero_le _, hg, ?_⟩⟩
      · intro i hi
        simp at hi
        rw [e i hi]
        exact (hL i hi).2
      · intro i hi
        simp at hi
        rw [e i hi]
        exact (hL i hi).1

theorem open_prog {H : Type} {enc : TypeId × Value → H} {w : World} {base b0 : Nat} {held : Bool} {k : Reach} {v : Value} {d : DataW H} {q : List MemPlace}
    (hv : Value.okWide Try.prog w k b0 25 v) (h : DataW.Trod enc Try.prog w base (fun _ => true) held 25 v d q) :
    ∃ (s s' : Option Addr) (c c' : Nat) (p : PD), v = .agg #[.slice s p.caps.length c, .slice s' p.bods.length c'] ∧ p.caps.length ≤ maxLen ∧ p.bods.length ≤ maxLen ∧ (∀ i, i < p.bods.length → (p.bods.getD i []).length ≤ maxLen) ∧ ProgR w 0 w.heap.size s s' p := by
  obtain ⟨cs, rfl, hsz⟩ := okWide_struct Try.underlying25 hv
  obtain ⟨fuel, hf⟩ := h
  obtain ⟨xs, n, _, _, hl, hlen, hfs⟩ := DataW.trod_struct Try.underlying25 hf
  rw [cellsPr] at hl
  obtain ⟨l⟩ := cs
  have hl' : l.length = 2 := by simpa [Value.cells] using hl
  obtain ⟨c0, c1, rfl⟩ := list2 hl'
  obtain ⟨y0, y1, rfl⟩ := list2 (hlen.trans rfl)
  have g0 := hfs 0 _ rfl
  have g1 := hfs 1 _ rfl
  simp [cellsSi, cellsSS, Value.cells] at g0 g1
  obtain ⟨s, c, a, rfl, ha, hA⟩ := ints_read g0
  obtain ⟨s', c', b, rfl, hb, hb', hB⟩ := bods_read g1
  exact ⟨s, s', c, c', ⟨a, b⟩, rfl, ha, hb, hb', hA, hB⟩

theorem ownP : ownKnob Try.prog.godebug = none := by kernel_rfl
theorem laidOutP : laidOutB Try.prog = true := by kernel_rfl

set_option maxRecDepth 100000 in
theorem liftedProg (os : Os) (started : os.Started) (H : Type) (enc : TypeId × Value → H) :
    ReturnsInHanded {} Try.checked os 3 .any (Rows.fnExactProgOkSpec.pre6 enc Try.prog Try.f3 Rows.fnExactProgOkRow.domain false) (Rows.fnExactProgOkSpec.post enc Try.prog Try.f3 false true false false) := by
  refine returnsInHanded_of_change (C := Try.checked) ownP started (by kernel_rfl) Try.func3
    (ChangeSpec.witness6 (enc := enc) (C := Try.checked) false ⟨#[], #[.agg #[.slice none 0 0, .slice none 0 0]], []⟩ 8 (by kernel_rfl) (by kernel_rfl) (by kernel_rfl) (by kernel_rfl)) ?_
  intro W base args ds gs before hval0 hW hcnd _
  have hval : ∀ (j : Nat) t v, Try.f3.params[j]? = some t → args[j]? = some v → Value.okWide Try.prog W .any base t v := hval0
  have hW' := hW
  obtain ⟨p, q, hA0, hV, rfl, hfz, hnd⟩ := hW
  have hA : DataW.TrodAll enc Try.prog W 0 (fun _ => true) true Try.f3.params.toList args.toList ds p := hA0
  rw [Try.params3] at hA hval
  obtain ⟨v0, d0, hargs, rfl, h0⟩ := trodAll_one hA
  obtain rfl : args = #[v0] := by cases args; simp_all
  obtain ⟨rfl, rfl⟩ := trodVars_none hV
  have k0 := h0
  have lt0 : ∀ x ∈ p, x.block < W.heap.size := by obtain ⟨m, hm⟩ := k0; exact DataW.trod_lt m _ _ _ hm
  obtain ⟨s, s', c, c', pd, rfl, m1, m2, m3, hP⟩ := open_prog (hval 0 25 v0 rfl rfl) h0
  clear hA0 hval0
  refine (walkProg s s' c c' pd W hP m1 m2 m3).mono fun e W' ⟨he, bel⟩ => ?_
  subst he
  exact ⟨_, rfl, _, _, _, [], _, [], hW', trodAll_mk1 (shut_bool Try.underlying4 _), trodAll_mk1 (Below.trod laidOutP (by kernel_rfl) (of_decide_eq_true (by kernel_rfl)) k0 bel lt0), rfl, bel.frame _, fun h => by cases h⟩

theorem fnExactProgOk_holds : Rows.FnExactProgOkSaid :=
  OpenClaim.holds_of_wide 3 Try.f3 rfl rfl rfl rfl rfl rfl rfl ⟨rfl, rfl, rfl, rfl, rfl⟩ rfl rfl rfl rfl rfl (by kernel_rfl) Try.func3 (by kernel_rfl)
    (of_decide_eq_true (by kernel_rfl)) (by unfold Func.isWrapper; first | (rw [if_pos (by decide +kernel)]; kernel_rfl) | (rw [if_neg (by decide +kernel)]; exact ⟨rfl, rfl⟩))
    (fun os started H enc _ => liftedProg os started H enc)
#print axioms fnExactProgOk_holds
end Go.Proofs.Ytkmobmnbdapjkah
