/- Parts put together: their jumps go where the parts begin. Conditions: at most a hundred parts, of at most nine hundred steps. -/
import Derived.Test.YthkpkdehicoikaaGreatJ19
namespace Go.Proofs.YthkpkdehicoikaaGreat
set_option linter.unusedSimpArgs false
set_option linter.unusedVariables false
set_option maxRecDepth 100000
open Go.RowKit

theorem ad_ad (f a b : Int) : ad (ad f a) b = ad f (a + b) := by unfold ad wrap64; omega
theorem app5n {ops : Array Oper} {rest : List Oper} {o : Oper} {a : Act} {Q : Exit → Act → World → Prop} (hgd : o.guard = none) (s x : Operand) (ho : o.op = .call { callee := .builtin .append, args := #[s, x], argTypes := #[44, 44] })
    (w : World) (C : Array Value) (base : Nat) (v : Value) (L1 : List I5) (hs : a.eval s = v) (hown : OwnT5 w base v L1) (n2 : Nat) (L2 : List I5) (hx : a.eval x = .slice (some ⟨w.heap.size, 0, none⟩) n2 n2) (hC : C.toList = (fl5 L2).map (Value.int .i64)) (hl2 : L2.length = n2)
    (hl : 0 < n2) (hn : L1.length + n2 ≤ 1000) (N : Nat) (hN : L1.length + n2 = N) (hbase : base ≤ w.heap.size)
    (h : ∀ g c w', OwnT5 w' base (.slice (some ⟨g, 0, none⟩) N c) (L1 ++ L2) → Below base w w' → wpList Tryz.prog ops Q rest (a.put o.dst (.slice (some ⟨g, 0, none⟩) N c)) w') : wpList Tryz.prog ops Q (o :: rest) a (w.alloc (.cells C 64)) := by
  have kk : Below w.heap.size w (w.alloc (.cells C 64)) := (Below.refl _ _).alloc (Nat.le_refl _) _
  have hn5 := own5_new (w := w) (base := w.heap.size) L2 C hC (Nat.le_refl _) (by omega)
  rw [hl2] at hn5
  refine app5 hgd s x ho (w.alloc (.cells C 64)) base v L1 hs (hown.keep kk) w.heap.size w.heap.size n2 n2 L2 hx hn5 hl2 hl hn N hN (by simp; omega) ?_
  intro g c w' h1 h2
  exact h g c w' h1 ((kk.mono hbase).trans h2)
theorem step5n {ops : Array Oper} {o : Oper} {a : Act} {K : Act → World → Prop} {Q : Exit → Act → World → Prop} {E : Prop} (hgd : o.guard = none) (s x : Operand) (ho : o.op = .call { callee := .builtin .append, args := #[s, x], argTypes := #[44, 44] })
    (w : World) (C : Array Value) (base : Nat) (v : Value) (L1 : List I5) (hs : a.eval s = v) (hown : OwnT5 w base v L1) (n2 : Nat) (L2 : List I5) (hx : a.eval x = .slice (some ⟨w.heap.size, 0, none⟩) n2 n2) (hC : C.toList = (fl5 L2).map (Value.int .i64)) (hl2 : L2.length = n2)
    (hl : 0 < n2) (hn : L1.length + n2 ≤ 1000) (N : Nat) (hN : L1.length + n2 = N) (hbase : base ≤ w.heap.size)
    (h : ∀ g c w', OwnT5 w' base (.slice (some ⟨g, 0, none⟩) N c) (L1 ++ L2) → Below base w w' → K (a.put o.dst (.slice (some ⟨g, 0, none⟩) N c)) w') : if Region.wanted o (yielded ops a.tmps) = true then Oper.wp Tryz.prog o a (w.alloc (.cells C 64)) K Q else E := by
  have kk : Below w.heap.size w (w.alloc (.cells C 64)) := (Below.refl _ _).alloc (Nat.le_refl _) _
  have hn5 := own5_new (w := w) (base := w.heap.size) L2 C hC (Nat.le_refl _) (by omega)
  rw [hl2] at hn5
  refine step5 hgd s x ho (w.alloc (.cells C 64)) base v L1 hs (hown.keep kk) w.heap.size w.heap.size n2 n2 L2 hx hn5 hl2 hl hn N hN (by simp; omega) ?_
  intro g c w' h1 h2
  exact h g c w' h1 ((kk.mono hbase).trans h2)
theorem OwnT5.far {w : World} {base : Nat} {v : Value} {L : List I5} (h : OwnT5 w base v L) {p : Addr} (hp : ∀ k, v.ownBlock = some k → p.block ≠ k) (u : Value) : OwnT5 (w.setCell p u) base v L :=
  ownKeep' h (fun k hk => Below.heap_setCell _ _ _ k (fun e => hp k hk e.symm))
def fixJ (f : Int) (Ls : List (List I5)) (s : I5) : I5 := if isJ s.o = true then ⟨s.o, s.r, s.a, s.b, firstV f (Ls.take (toN s.n Ls.length))⟩ else s
def togL (f : Int) (Ls : List (List I5)) : List (List I5) → List I5
  | [] => []
  | l :: r => l.map (fixJ f Ls) ++ togL f Ls r
theorem togL_app (f : Int) (Ls : List (List I5)) (b : List (List I5)) : ∀ a, togL f Ls (a ++ b) = togL f Ls a ++ togL f Ls b
  | [] => rfl
  | x :: r => by simp [togL, togL_app f Ls b r]
theorem togL_take {D : List RD} {f : Int} {Ls : List (List I5)} {i : Nat} {x : RD} (h : D[i]? = some x) : togL f Ls ((D.map RD.l).take (i + 1)) = togL f Ls ((D.map RD.l).take i) ++ x.l.map (fixJ f Ls) := by
  have e : (D.map RD.l)[i]? = some x.l := by rw [List.getElem?_map, h]; rfl
  rw [List.take_add_one, e, Option.toList_some, togL_app]
  simp [togL]
def lens (Ls : List (List I5)) : Nat := (Ls.map List.length).sum
theorem togL_len (f : Int) (Ls : List (List I5)) : ∀ a : List (List I5), (togL f Ls a).length = lens a
  | [] => rfl
  | x :: r => by
    have := togL_len f Ls r
    simp only [togL, List.length_append, List.length_map, this]
    simp [lens]
theorem lens_app (a b : List (List I5)) : lens (a ++ b) = lens a + lens b := by simp [lens]
theorem lens_le : ∀ (a : List (List I5)) (i : Nat), lens (a.take i) ≤ lens a
  | [], i => by simp
  | x :: r, 0 => by simp [lens]
  | x :: r, i + 1 => by
    have := lens_le r i
    simp [lens] at this ⊢
    omega
theorem lens_at {D : List RD} {i : Nat} {x : RD} (h : D[i]? = some x) : lens ((D.map RD.l).take i) + x.l.length ≤ lens (D.map RD.l) := by
  have e : (D.map RD.l)[i]? = some x.l := by rw [List.getElem?_map, h]; rfl
  have h1 := lens_le (D.map RD.l) (i + 1)
  rw [List.take_add_one, e, Option.toList_some, lens_app] at h1
  simpa [lens] using h1
structure B5 (w : World) (g : Nat) (x : I5) : Prop where
  c0 : w.cell? ⟨g, 0, none⟩ = some (.int .i64 x.o)
  c1 : w.cell? ⟨g, 1, none⟩ = some (.int .i64 x.r)
  c2 : w.cell? ⟨g, 2, none⟩ = some (.int .i64 x.a)
  c3 : w.cell? ⟨g, 3, none⟩ = some (.int .i64 x.b)
  c4 : w.cell? ⟨g, 4, none⟩ = some (.int .i64 x.n)
  fz : ∀ j, w.frozen? ⟨g, j, none⟩ = false
theorem B5.new (w : World) (x : I5) (T : TypeId) {w1 : World} (hb : Below (w.heap.size + 1) (w.alloc (.cells #[.int .i64 x.o, .int .i64 x.r, .int .i64 x.a, .int .i64 x.b, .int .i64 x.n] T)) w1) : B5 w1 w.heap.size x :=
  ⟨(hb.cell (p := ⟨w.heap.size, 0, none⟩) (Nat.lt_succ_self _)).trans (by simp [go_sem]), (hb.cell (p := ⟨w.heap.size, 1, none⟩) (Nat.lt_succ_self _)).trans (by simp [go_sem]), (hb.cell (p := ⟨w.heap.size, 2, none⟩) (Nat.lt_succ_self _)).trans (by simp [go_sem]), (hb.cell (p := ⟨w.heap.size, 3, none⟩) (Nat.lt_succ_self _)).trans (by simp [go_sem]), (hb.cell (p := ⟨w.heap.size, 4, none⟩) (Nat.lt_succ_self _)).trans (by simp [go_sem]), fun j => (hb.frozen (p := ⟨w.heap.size, j, none⟩) (Nat.lt_succ_self _)).trans (by simp [go_sem])⟩
set_option maxHeartbeats 8000000 in
theorem together_is (fr : Int) (G C : Nat) (D : List RD) (w : World) (h : PartsR w w.heap.size G D) (hC : D.length ≤ C) (hn : D.length ≤ 100) (ht : lens (D.map RD.l) ≤ 900) (h1 : 0 < lens (D.map RD.l)) (hj : ∀ (i : Nat) (x : RD), D[i]? = some x → ∀ (j : Nat) (s : I5), x.l[j]? = some s → isJ s.o = true → -1 ≤ s.n ∧ s.n ≤ D.length) (N : Nat) (hN : lens (D.map RD.l) = N) :
    Calls Tryz.prog 145 #[.int .i64 fr, .slice (some ⟨G, 0, none⟩) D.length C] w fun e w' => ∃ g c, e = .returned (.slice (some ⟨g, 0, none⟩) N c) ∧ OwnT5 w' w.heap.size (.slice (some ⟨g, 0, none⟩) N c) (togL fr (D.map RD.l) (D.map RD.l)) ∧ Below w.heap.size w w' := by
  have H := hid_of h
  have HJ := hid_of hj
  clear h hj
  have HN := hid_of hN
  have HT := hid_of ht
  have H1 := hid_of h1
  clear hN ht h1
  go_enter Tryz.func145, Tryz.ntmps145
  go_wp2
  go_loopw [5, 12] (fun v i wr => ∃ (k : Nat), k ≤ D.length ∧ i = .int .i64 k ∧ OwnT5 wr w.heap.size v (togL fr (D.map RD.l) ((D.map RD.l).take k)) ∧ Below w.heap.size w wr) (fun _ i _ => D.length - (intOf i).toNat)
  case atStart => exact ⟨0, Nat.zero_le _, rfl, World.ownsRow_nil _ _ _ _, Below.refl _ _⟩
  case round =>
    obtain ⟨k, hk, rfl, ho, hb⟩ := hrel
    have HO := hid_of ho
    have HB := hid_of hb
    clear ho hb
    by_cases hlt : k < D.length
    · obtain ⟨x, hx⟩ : ∃ x, D[k]? = some x := ⟨_, List.getElem?_eq_getElem hlt⟩
      have HX := hid_of hx
      have PX := hid_of (H.out.r k x hx)
      have p := ((PX.out.keep H.out.lt HB.out)).c
      clear hx
      have b0 : (0 : Int) ≤ (k : Int) := by omega
      have b1 : (k : Int) < (D.length : Int) := by omega
      have hxl : x.l.length ≤ 900 := by have := lens_at HX.out; have := HT.out; omega
      go_wp2
      rename World => w2
      go_loopw [5, 18] (fun v i wr => ∃ (m : Nat), m ≤ x.l.length ∧ i = .int .i64 m ∧ OwnT5 wr w.heap.size v (togL fr (D.map RD.l) ((D.map RD.l).take k) ++ (x.l.take m).map (fixJ fr (D.map RD.l))) ∧ Below w.heap.size w wr) (fun _ i _ => x.l.length - (intOf i).toNat)
      case atStart => exact ⟨0, Nat.zero_le _, rfl, by simpa using HO.out, HB.out⟩
      case round =>
        obtain ⟨m, hm, rfl, ho, hb⟩ := hrel
        have HO2 := hid_of ho
        have HB2 := hid_of hb
        clear ho hb HO HB p
        by_cases hlm : m < x.l.length
        · obtain ⟨f0, f1, f2, f3, f4⟩ := (PX.out.keep H.out.lt HB2.out).at' m hlm
          have hxg : x.g < wr.heap.size := by have := PX.out.lt; have := HB2.out.size; omega
          have hms : x.l[m]? = some (x.l.getD m z5) := by rw [List.getD_eq_getElem?_getD, List.getElem?_eq_getElem hlm]; rfl
          have HJS := hid_of (HJ.out k x HX.out m _ hms)
          have HTK := hid_of (show (x.l.take (m + 1)).map (fixJ fr (D.map RD.l)) = (x.l.take m).map (fixJ fr (D.map RD.l)) ++ [fixJ fr (D.map RD.l) (x.l.getD m z5)] by rw [List.take_add_one, hms, Option.toList_some, List.map_append]; rfl)
          clear hms
          generalize x.l.getD m z5 = s at f0 f1 f2 f3 f4 HJS HTK
          obtain ⟨so, sr, sa, sb, sn⟩ := s
          simp only at f0 f1 f2 f3 f4
          have c0 : (0 : Int) ≤ (m : Int) := by omega
          have c1 : (m : Int) < (x.l.length : Int) := by omega
          have HLN : Hid ((togL fr (D.map RD.l) ((D.map RD.l).take k) ++ (x.l.take m).map (fixJ fr (D.map RD.l))).length + 1 ≤ 1000) := by
            show _ + 1 ≤ 1000
            have := lens_at HX.out
            have := HT.out
            rw [List.length_append, togL_len, List.length_map, List.length_take]
            omega
          have hwr := HB2.out.size
          obtain ⟨q, hqq⟩ : ∃ q, (togL fr (D.map RD.l) ((D.map RD.l).take k) ++ (x.l.take m).map (fixJ fr (D.map RD.l))).length + 1 = q := ⟨_, rfl⟩
          have HQN := hid_of hqq
          clear hqq
          cases hq : isJ so
          · have HF : Hid (fixJ fr (D.map RD.l) ⟨so, sr, sa, sb, sn⟩ = ⟨so, sr, sa, sb, sn⟩) := by show _ = _; unfold fixJ; rw [if_neg (by rw [hq]; simp)]
            have HQ := hid_of hq
            clear hq HJS
            go_wp2_with (first | (go_at_call 147; refine (isJump_is so sr sa sb sn false _ HQ.out).mono ?_; rintro e w3 ⟨rfl, hb3⟩; have hb3' : Below (wr.heap.size + 1) _ w3 := (by simpa using hb3); obtain ⟨d0, d1, d2, d3, d4, dz⟩ := B5.new wr ⟨so, sr, sa, sb, sn⟩ _ hb3'; simp only at d0 d1 d2 d3 d4; have k3 : Below wr.heap.size wr w3 := ((Below.refl _ _).alloc (Nat.le_refl _) _).trans (hb3'.mono (Nat.le_succ _)); have HO3 := hid_of (HO2.out.keep k3); have K3 := hid_of k3; have z3 : wr.heap.size < w3.heap.size := (by have := hb3.size; simp at this; omega); clear hb3 hb3' k3) | (at_builtin; refine app5n rfl _ _ rfl w3 _ w.heap.size u5 _ rfl HO3.out 1 [⟨so, sr, sa, sb, sn⟩] rfl rfl rfl (by omega) HLN.out q HQN.out (by omega) ?_; intro g4 c4 w4 ho4 hb4; have HO4 := hid_of ho4; have HB4 := hid_of hb4; clear ho4 hb4))
            go_roundw
            case rel => exact ⟨m + 1, by omega, by go_num, by rw [HTK.out, HF.out, ← List.append_assoc]; exact HO4.out, (HB2.out.trans (K3.out.mono hwr)).trans HB4.out⟩
            case measure => simp [intOf]; omega
          · obtain ⟨j0, j1⟩ := HJS.out hq
            have HF : Hid (fixJ fr (D.map RD.l) ⟨so, sr, sa, sb, sn⟩ = ⟨so, sr, sa, sb, firstV fr ((D.map RD.l).take (toN sn D.length))⟩) := by show _ = _; unfold fixJ; rw [if_pos hq, List.length_map]
            have HQ := hid_of hq
            clear hq HJS
            generalize hz : firstV fr ((D.map RD.l).take (toN sn D.length)) = zz at HF
            have HZ := hid_of hz
            clear hz
            go_wp2_with (first | (go_at_call 147; refine (isJump_is so sr sa sb sn true _ HQ.out).mono ?_; rintro e w3 ⟨rfl, hb3⟩; have hb3' : Below (wr.heap.size + 1) _ w3 := (by simpa using hb3); obtain ⟨d0, d1, d2, d3, d4, dz⟩ := B5.new wr ⟨so, sr, sa, sb, sn⟩ _ hb3'; simp only at d0 d1 d2 d3 d4; have k3 : Below wr.heap.size wr w3 := ((Below.refl _ _).alloc (Nat.le_refl _) _).trans (hb3'.mono (Nat.le_succ _)); have HO3 := hid_of (OwnT5.far (HO2.out.keep k3) (p := ⟨wr.heap.size, 4, none⟩) (fun k hk e => by have := (World.ownsRow.lt HO2.out _ hk).2; have e' : wr.heap.size = k := e; omega) (.int .i64 zz)); have K3 := hid_of k3; have z3 : wr.heap.size < w3.heap.size := (by have := hb3.size; simp at this; omega); clear hb3 hb3' k3) | (go_at_call 148; refine (firstOf_is fr sn G C D w3 w.heap.size (H.out.keep (HB2.out.trans (K3.out.mono hwr))) hC hn j0 j1).mono ?_; rintro e w9 ⟨rfl, hw9⟩; subst w9; rw [HZ.out]) | (at_builtin; refine app5n rfl _ _ rfl (w3.setCell ⟨wr.heap.size, 4, none⟩ (.int .i64 zz)) _ w.heap.size u5 _ rfl HO3.out 1 [⟨so, sr, sa, sb, zz⟩] (by show Value.slice (some ⟨w3.heap.size, 0, none⟩) 1 1 = _; simp) rfl rfl (by omega) HLN.out q HQN.out (by simp; omega) ?_; intro g4 c4 w4 ho4 hb4; have HO4 := hid_of ho4; have HB4 := hid_of hb4; clear ho4 hb4))
            go_roundw
            case rel => exact ⟨m + 1, by omega, by go_num, by rw [HTK.out, HF.out, ← List.append_assoc]; exact HO4.out, ((HB2.out.trans (K3.out.mono hwr)).setCell (p := ⟨wr.heap.size, 4, none⟩) hwr _).trans HB4.out⟩
            case measure => simp [intOf]; omega
        · have e : m = x.l.length := by omega
          subst e
          have ho := HO2.out
          rw [List.take_length, ← togL_take HX.out] at ho
          have HO3 := hid_of ho
          clear ho
          go_wp2
          go_roundw
          case rel => exact ⟨k + 1, by omega, by go_num, HO3.out, HB2.out⟩
          case measure => simp [intOf]; omega
    · have e : k = D.length := by omega
      subst e
      have ho := HO.out
      rw [show D.length = (D.map RD.l).length by simp, List.take_length] at ho
      have hlen : (togL fr (D.map RD.l) (D.map RD.l)).length = N := by rw [togL_len]; exact HN.out
      have hpos : 0 < N := by rw [← HN.out]; exact H1.out
      obtain ⟨g, cap, e, -, -⟩ := World.ownsRow.form ho (by rw [hlen]; exact hpos)
      rw [hlen] at e
      subst e
      have HO3 := hid_of ho
      clear ho HO
      go_wp2
      go_ret
      exact ⟨_, _, rfl, HO3.out, HB.out⟩

end Go.Proofs.YthkpkdehicoikaaGreat
