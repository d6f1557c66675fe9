/- Parts put together: their jumps go where the parts begin. Conditions: at most a hundred parts, of at most nine hundred steps. Parts put together behind the lock. Conditions: the channel lies in memory; at most ninety parts. Rows that lie somewhere, and a row of them. Conditions: at most a thousand steps. -/
import Derived.Test.YtehjbpjjegajjaaGreatJG00
import Derived.Test.YtehjbpjjegajjaaGreatJG02
import Derived.Test.YtehjbpjjegajjaaGreatJG01
import Derived.Test.YtehjbpjjegajjaaGreatJE10Site
import Derived.Test.YtehjbpjjegajjaaGreatJG07
import Derived.Test.YtehjbpjjegajjaaGreatJG08
namespace Go.Proofs.YtehjbpjjegajjaaGreat
section
set_option linter.unusedSimpArgs false
set_option linter.unusedVariables false
set_option maxRecDepth 100000
open Go.RowKit
theorem ad_ad (f a b : Int) : ad (ad f a) b = ad f (a + b) := by unfold ad wrap64; omega
theorem app5n {ops : Array Oper} {rest : List Oper} {o : Oper} {a : Act} {Q : Exit → Act → World → Prop} (hgd : o.guard = none) (s x : Operand) (ho : o.op = .call { callee := .builtin .append, args := #[s, x], argTypes := #[69, 69] })
  (w : World) (C : Array Value) (base : Nat) (v : Value) (L1 : List I5) (hs : a.eval s = v) (hown : OwnT5 w base v L1) (n2 : Nat) (L2 : List I5) (hx : a.eval x = .slice (some ⟨w.heap.size, 0, none⟩) n2 n2) (hC : C.toList = (fl5 L2).map (Value.int .i64)) (hl2 : L2.length = n2)
  (hl : 0 < n2) (hn : L1.length + n2 ≤ 1000) (N : Nat) (hN : L1.length + n2 = N) (hbase : base ≤ w.heap.size)
  (h : ∀ g c w', OwnT5 w' base (.slice (some ⟨g, 0, none⟩) N c) (L1 ++ L2) → Below base w w' → wpList Tryz.prog ops Q rest (a.put o.dst (.slice (some ⟨g, 0, none⟩) N c)) w') : wpList Tryz.prog ops Q (o :: rest) a (w.alloc (.cells C 97)) := by
 have kk : Below w.heap.size w (w.alloc (.cells C 97)) := (Below.refl _ _).alloc (Nat.le_refl _) _
 have hn5 := own5_new (w := w) (base := w.heap.size) L2 C hC (Nat.le_refl _) (by omega)
 rw [hl2] at hn5
 refine app5 hgd s x ho (w.alloc (.cells C 97)) base v L1 hs (hown.keep kk) w.heap.size w.heap.size n2 n2 L2 hx hn5 hl2 hl hn N hN (by simp; omega) ?_
 intro g c w' h1 h2
 exact h g c w' h1 ((kk.mono hbase).trans h2)
theorem step5n {ops : Array Oper} {o : Oper} {a : Act} {K : Act → World → Prop} {Q : Exit → Act → World → Prop} {E : Prop} (hgd : o.guard = none) (s x : Operand) (ho : o.op = .call { callee := .builtin .append, args := #[s, x], argTypes := #[69, 69] })
  (w : World) (C : Array Value) (base : Nat) (v : Value) (L1 : List I5) (hs : a.eval s = v) (hown : OwnT5 w base v L1) (n2 : Nat) (L2 : List I5) (hx : a.eval x = .slice (some ⟨w.heap.size, 0, none⟩) n2 n2) (hC : C.toList = (fl5 L2).map (Value.int .i64)) (hl2 : L2.length = n2)
  (hl : 0 < n2) (hn : L1.length + n2 ≤ 1000) (N : Nat) (hN : L1.length + n2 = N) (hbase : base ≤ w.heap.size)
  (h : ∀ g c w', OwnT5 w' base (.slice (some ⟨g, 0, none⟩) N c) (L1 ++ L2) → Below base w w' → K (a.put o.dst (.slice (some ⟨g, 0, none⟩) N c)) w') : if Region.wanted o (yielded ops a.tmps) = true then Oper.wp Tryz.prog o a (w.alloc (.cells C 97)) K Q else E := by
 have kk : Below w.heap.size w (w.alloc (.cells C 97)) := (Below.refl _ _).alloc (Nat.le_refl _) _
 have hn5 := own5_new (w := w) (base := w.heap.size) L2 C hC (Nat.le_refl _) (by omega)
 rw [hl2] at hn5
 refine step5 hgd s x ho (w.alloc (.cells C 97)) base v L1 hs (hown.keep kk) w.heap.size w.heap.size n2 n2 L2 hx hn5 hl2 hl hn N hN (by simp; omega) ?_
 intro g c w' h1 h2
 exact h g c w' h1 ((kk.mono hbase).trans h2)
theorem OwnT5.far {w : World} {base : Nat} {v : Value} {L : List I5} (h : OwnT5 w base v L) {p : Addr} (hp : ∀ k, v.ownBlock = some k → p.block ≠ k) (u : Value) : OwnT5 (w.setCell p u) base v L :=
 ownKeep' h (fun k hk => Below.heap_setCell _ _ _ k (fun e => hp k hk e.symm))
def fixJ (f : Int) (Ls : List (List I5)) (s : I5) : I5 := if isJ s.o = true then ⟨s.o, s.r, s.a, s.b, firstV f (Ls.take (toN s.n Ls.length))⟩ else s
def togL (f : Int) (Ls : List (List I5)) : List (List I5) → List I5
 | [] => []
 | l :: r => l.map (fixJ f Ls) ++ togL f Ls r
theorem togL_app (f : Int) (Ls : List (List I5)) (b : List (List I5)) : ∀ a, togL f Ls (a ++ b) = togL f Ls a ++ togL f Ls b
 | [] => rfl
 | x :: r => by simp [togL, togL_app f Ls b r]
theorem togL_take {D : List RD} {f : Int} {Ls : List (List I5)} {i : Nat} {x : RD} (h : D[i]? = some x) : togL f Ls ((D.map RD.l).take (i + 1)) = togL f Ls ((D.map RD.l).take i) ++ x.l.map (fixJ f Ls) := by
 have e : (D.map RD.l)[i]? = some x.l := by rw [List.getElem?_map, h]; rfl
 rw [List.take_add_one, e, Option.toList_some, togL_app]
 simp [togL]
def lens (Ls : List (List I5)) : Nat := (Ls.map List.length).sum
theorem togL_len (f : Int) (Ls : List (List I5)) : ∀ a : List (List I5), (togL f Ls a).length = lens a
 | [] => rfl
 | x :: r => by
  have := togL_len f Ls r
  simp only [togL, List.length_append, List.length_map, this]
  simp [lens]
theorem lens_app (a b : List (List I5)) : lens (a ++ b) = lens a + lens b := by simp [lens]
theorem lens_le : ∀ (a : List (List I5)) (i : Nat), lens (a.take i) ≤ lens a
 | [], i => by simp
 | x :: r, 0 => by simp [lens]
 | x :: r, i + 1 => by
  have := lens_le r i
  simp [lens] at this ⊢
  omega
theorem lens_at {D : List RD} {i : Nat} {x : RD} (h : D[i]? = some x) : lens ((D.map RD.l).take i) + x.l.length ≤ lens (D.map RD.l) := by
 have e : (D.map RD.l)[i]? = some x.l := by rw [List.getElem?_map, h]; rfl
 have h1 := lens_le (D.map RD.l) (i + 1)
 rw [List.take_add_one, e, Option.toList_some, lens_app] at h1
 simpa [lens] using h1
structure B5 (w : World) (g : Nat) (x : I5) : Prop where
 c0 : w.cell? ⟨g, 0, none⟩ = some (.int .i64 x.o)
 c1 : w.cell? ⟨g, 1, none⟩ = some (.int .i64 x.r)
 c2 : w.cell? ⟨g, 2, none⟩ = some (.int .i64 x.a)
 c3 : w.cell? ⟨g, 3, none⟩ = some (.int .i64 x.b)
 c4 : w.cell? ⟨g, 4, none⟩ = some (.int .i64 x.n)
 fz : ∀ j, w.frozen? ⟨g, j, none⟩ = false
theorem B5.new (w : World) (x : I5) (T : TypeId) {w1 : World} (hb : Below (w.heap.size + 1) (w.alloc (.cells #[.int .i64 x.o, .int .i64 x.r, .int .i64 x.a, .int .i64 x.b, .int .i64 x.n] T)) w1) : B5 w1 w.heap.size x :=
 ⟨(hb.cell (p := ⟨w.heap.size, 0, none⟩) (Nat.lt_succ_self _)).trans (by simp [go_sem]), (hb.cell (p := ⟨w.heap.size, 1, none⟩) (Nat.lt_succ_self _)).trans (by simp [go_sem]), (hb.cell (p := ⟨w.heap.size, 2, none⟩) (Nat.lt_succ_self _)).trans (by simp [go_sem]), (hb.cell (p := ⟨w.heap.size, 3, none⟩) (Nat.lt_succ_self _)).trans (by simp [go_sem]), (hb.cell (p := ⟨w.heap.size, 4, none⟩) (Nat.lt_succ_self _)).trans (by simp [go_sem]), fun j => (hb.frozen (p := ⟨w.heap.size, j, none⟩) (Nat.lt_succ_self _)).trans (by simp [go_sem])⟩
set_option maxHeartbeats 8000000 in
theorem together_is (fr : Int) (G C : Nat) (D : List RD) (w : World) (h : PartsR w w.heap.size G D) (hC : D.length ≤ C) (hn : D.length ≤ 100) (ht : lens (D.map RD.l) ≤ 900) (h1 : 0 < lens (D.map RD.l)) (hj : ∀ (i : Nat) (x : RD), D[i]? = some x → ∀ (j : Nat) (s : I5), x.l[j]? = some s → isJ s.o = true → -1 ≤ s.n ∧ s.n ≤ D.length) (N : Nat) (hN : lens (D.map RD.l) = N) :
  Calls Tryz.prog 179 #[.int .i64 fr, .slice (some ⟨G, 0, none⟩) D.length C] w fun e w' => ∃ g c, e = .returned (.slice (some ⟨g, 0, none⟩) N c) ∧ OwnT5 w' w.heap.size (.slice (some ⟨g, 0, none⟩) N c) (togL fr (D.map RD.l) (D.map RD.l)) ∧ Below w.heap.size w w' := by
 have H := hid_of h
 have HJ := hid_of hj
 clear h hj
 have HN := hid_of hN
 have HT := hid_of ht
 have H1 := hid_of h1
 clear hN ht h1
 go_enter Tryz.func179, Tryz.ntmps179
 go_wp2
 go_loopw [5, 12] (fun v i wr => ∃ (k : Nat), k ≤ D.length ∧ i = .int .i64 k ∧ OwnT5 wr w.heap.size v (togL fr (D.map RD.l) ((D.map RD.l).take k)) ∧ Below w.heap.size w wr) (fun _ i _ => D.length - (intOf i).toNat)
 case atStart => exact ⟨0, Nat.zero_le _, rfl, World.ownsRow_nil _ _ _ _, Below.refl _ _⟩
 case round =>
  obtain ⟨k, hk, rfl, ho, hb⟩ := hrel
  have HO := hid_of ho
  have HB := hid_of hb
  clear ho hb
  by_cases hlt : k < D.length
  ·obtain ⟨x, hx⟩ : ∃ x, D[k]? = some x := ⟨_, List.getElem?_eq_getElem hlt⟩
   have HX := hid_of hx
   have PX := hid_of (H.out.r k x hx)
   have p := ((PX.out.keep H.out.lt HB.out)).c
   clear hx
   have b0 : (0 : Int) ≤ (k : Int) := by omega
   have b1 : (k : Int) < (D.length : Int) := by omega
   have hxl : x.l.length ≤ 900 := by have := lens_at HX.out; have := HT.out; omega
   go_wp2
   rename World => w2
   go_loopw [5, 18] (fun v i wr => ∃ (m : Nat), m ≤ x.l.length ∧ i = .int .i64 m ∧ OwnT5 wr w.heap.size v (togL fr (D.map RD.l) ((D.map RD.l).take k) ++ (x.l.take m).map (fixJ fr (D.map RD.l))) ∧ Below w.heap.size w wr) (fun _ i _ => x.l.length - (intOf i).toNat)
   case atStart => exact ⟨0, Nat.zero_le _, rfl, by simpa using HO.out, HB.out⟩
   case round =>
    obtain ⟨m, hm, rfl, ho, hb⟩ := hrel
    have HO2 := hid_of ho
    have HB2 := hid_of hb
    clear ho hb HO HB p
    by_cases hlm : m < x.l.length
    ·obtain ⟨f0, f1, f2, f3, f4⟩ := (PX.out.keep H.out.lt HB2.out).at' m hlm
     have hxg : x.g < wr.heap.size := by have := PX.out.lt; have := HB2.out.size; omega
     have hms : x.l[m]? = some (x.l.getD m z5) := by rw [List.getD_eq_getElem?_getD, List.getElem?_eq_getElem hlm]; rfl
     have HJS := hid_of (HJ.out k x HX.out m _ hms)
     have HTK := hid_of (show (x.l.take (m + 1)).map (fixJ fr (D.map RD.l)) = (x.l.take m).map (fixJ fr (D.map RD.l)) ++ [fixJ fr (D.map RD.l) (x.l.getD m z5)] by rw [List.take_add_one, hms, Option.toList_some, List.map_append]; rfl)
     clear hms
     generalize x.l.getD m z5 = s at f0 f1 f2 f3 f4 HJS HTK
     obtain ⟨so, sr, sa, sb, sn⟩ := s
     simp only at f0 f1 f2 f3 f4
     have c0 : (0 : Int) ≤ (m : Int) := by omega
     have c1 : (m : Int) < (x.l.length : Int) := by omega
     have HLN : Hid ((togL fr (D.map RD.l) ((D.map RD.l).take k) ++ (x.l.take m).map (fixJ fr (D.map RD.l))).length + 1 ≤ 1000) := by
      show _ + 1 ≤ 1000
      have := lens_at HX.out
      have := HT.out
      rw [List.length_append, togL_len, List.length_map, List.length_take]
      omega
     have hwr := HB2.out.size
     obtain ⟨q, hqq⟩ : ∃ q, (togL fr (D.map RD.l) ((D.map RD.l).take k) ++ (x.l.take m).map (fixJ fr (D.map RD.l))).length + 1 = q := ⟨_, rfl⟩
     have HQN := hid_of hqq
     clear hqq
     cases hq : isJ so
     ·have HF : Hid (fixJ fr (D.map RD.l) ⟨so, sr, sa, sb, sn⟩ = ⟨so, sr, sa, sb, sn⟩) := by show _ = _; unfold fixJ; rw [if_neg (by rw [hq]; simp)]
      have HQ := hid_of hq
      clear hq HJS
      go_wp2_with (first | (go_at_call 181; refine (isJump_is so sr sa sb sn false _ HQ.out).mono ?_; rintro e w3 ⟨rfl, hb3⟩; have hb3' : Below (wr.heap.size + 1) _ w3 := (by simpa using hb3); obtain ⟨d0, d1, d2, d3, d4, dz⟩ := B5.new wr ⟨so, sr, sa, sb, sn⟩ _ hb3'; simp only at d0 d1 d2 d3 d4; have k3 : Below wr.heap.size wr w3 := ((Below.refl _ _).alloc (Nat.le_refl _) _).trans (hb3'.mono (Nat.le_succ _)); have HO3 := hid_of (HO2.out.keep k3); have K3 := hid_of k3; have z3 : wr.heap.size < w3.heap.size := (by have := hb3.size; simp at this; omega); clear hb3 hb3' k3) | (at_builtin; refine app5n rfl _ _ rfl w3 _ w.heap.size u5 _ rfl HO3.out 1 [⟨so, sr, sa, sb, sn⟩] rfl rfl rfl (by omega) HLN.out q HQN.out (by omega) ?_; intro g4 c4 w4 ho4 hb4; have HO4 := hid_of ho4; have HB4 := hid_of hb4; clear ho4 hb4))
      go_roundw
      case rel => exact ⟨m + 1, by omega, by go_num, by rw [HTK.out, HF.out, ← List.append_assoc]; exact HO4.out, (HB2.out.trans (K3.out.mono hwr)).trans HB4.out⟩
      case measure => simp [intOf]; omega
     ·obtain ⟨j0, j1⟩ := HJS.out hq
      have HF : Hid (fixJ fr (D.map RD.l) ⟨so, sr, sa, sb, sn⟩ = ⟨so, sr, sa, sb, firstV fr ((D.map RD.l).take (toN sn D.length))⟩) := by show _ = _; unfold fixJ; rw [if_pos hq, List.length_map]
      have HQ := hid_of hq
      clear hq HJS
      generalize hz : firstV fr ((D.map RD.l).take (toN sn D.length)) = zz at HF
      have HZ := hid_of hz
      clear hz
      go_wp2_with (first | (go_at_call 181; refine (isJump_is so sr sa sb sn true _ HQ.out).mono ?_; rintro e w3 ⟨rfl, hb3⟩; have hb3' : Below (wr.heap.size + 1) _ w3 := (by simpa using hb3); obtain ⟨d0, d1, d2, d3, d4, dz⟩ := B5.new wr ⟨so, sr, sa, sb, sn⟩ _ hb3'; simp only at d0 d1 d2 d3 d4; have k3 : Below wr.heap.size wr w3 := ((Below.refl _ _).alloc (Nat.le_refl _) _).trans (hb3'.mono (Nat.le_succ _)); have HO3 := hid_of (OwnT5.far (HO2.out.keep k3) (p := ⟨wr.heap.size, 4, none⟩) (fun k hk e => by have := (World.ownsRow.lt HO2.out _ hk).2; have e' : wr.heap.size = k := e; omega) (.int .i64 zz)); have K3 := hid_of k3; have z3 : wr.heap.size < w3.heap.size := (by have := hb3.size; simp at this; omega); clear hb3 hb3' k3) | (go_at_call 182; refine (firstOf_is fr sn G C D w3 w.heap.size (H.out.keep (HB2.out.trans (K3.out.mono hwr))) hC hn j0 j1).mono ?_; rintro e w9 ⟨rfl, hw9⟩; subst w9; rw [HZ.out]) | (at_builtin; refine app5n rfl _ _ rfl (w3.setCell ⟨wr.heap.size, 4, none⟩ (.int .i64 zz)) _ w.heap.size u5 _ rfl HO3.out 1 [⟨so, sr, sa, sb, zz⟩] (by show Value.slice (some ⟨w3.heap.size, 0, none⟩) 1 1 = _; simp) rfl rfl (by omega) HLN.out q HQN.out (by simp; omega) ?_; intro g4 c4 w4 ho4 hb4; have HO4 := hid_of ho4; have HB4 := hid_of hb4; clear ho4 hb4))
      go_roundw
      case rel => exact ⟨m + 1, by omega, by go_num, by rw [HTK.out, HF.out, ← List.append_assoc]; exact HO4.out, ((HB2.out.trans (K3.out.mono hwr)).setCell (p := ⟨wr.heap.size, 4, none⟩) hwr _).trans HB4.out⟩
      case measure => simp [intOf]; omega
    ·have e : m = x.l.length := by omega
     subst e
     have ho := HO2.out
     rw [List.take_length, ← togL_take HX.out] at ho
     have HO3 := hid_of ho
     clear ho
     go_wp2
     go_roundw
     case rel => exact ⟨k + 1, by omega, by go_num, HO3.out, HB2.out⟩
     case measure => simp [intOf]; omega
  ·have e : k = D.length := by omega
   subst e
   have ho := HO.out
   rw [show D.length = (D.map RD.l).length by simp, List.take_length] at ho
   have hlen : (togL fr (D.map RD.l) (D.map RD.l)).length = N := by rw [togL_len]; exact HN.out
   have hpos : 0 < N := by rw [← HN.out]; exact H1.out
   obtain ⟨g, cap, e, -, -⟩ := World.ownsRow.form ho (by rw [hlen]; exact hpos)
   rw [hlen] at e
   subst e
   have HO3 := hid_of ho
   clear ho HO
   go_wp2
   go_ret
   exact ⟨_, _, rfl, HO3.out, HB.out⟩
end
section
set_option linter.unusedSimpArgs false
set_option linter.unusedVariables false
set_option maxRecDepth 100000
open Go.RowKit
theorem infoCd : ∃ i, Tryz.prog.info? 69 = some i ∧ i.zero = some (.slice none 0 0) ∧ i.size = 1 ∧ i.bytes = 24 := ⟨_, rfl, rfl, rfl, rfl⟩
def vals (D : List RD) : List Value := D.map fun x => .slice (some ⟨x.g, 0, none⟩) x.l.length x.c
theorem vals_at {D : List RD} {i : Nat} {u : Value} (h : (vals D)[i]? = some u) : ∃ x, D[i]? = some x ∧ u = .slice (some ⟨x.g, 0, none⟩) x.l.length x.c := by
 unfold vals at h
 rw [List.getElem?_map] at h
 obtain ⟨x, h1, h2⟩ := Option.map_eq_some_iff.1 h
 exact ⟨x, h1, h2.symm⟩
theorem stepP {ops : Array Oper} {o : Oper} {a : Act} {K : Act → World → Prop} {Q : Exit → Act → World → Prop} {E : Prop} (hgd : o.guard = none) (s x : Operand) (ho : o.op = .call { callee := .builtin .append, args := #[s, x], argTypes := #[27, 27] })
  (w : World) (base g1 n1 c1 : Nat) (L1 : List I5) (h1 : OwnT5 w base (.slice (some ⟨g1, 0, none⟩) n1 c1) L1) (hs : a.eval s = .slice (some ⟨w.heap.size, 0, none⟩) 1 1) (G C : Nat) (D : List RD) (hx : a.eval x = .slice (some ⟨G, 0, none⟩) D.length C) (hP : PartsR w w.heap.size G D) (hD : 0 < D.length) (hD' : D.length ≤ 90)
  (h : ∀ g cap w', PartsR w' w'.heap.size g (⟨g1, c1, L1⟩ :: D) → D.length + 1 ≤ cap → Below w.heap.size w w' → K (a.put o.dst (.slice (some ⟨g, 0, none⟩) (D.length + 1) cap)) w') : if Region.wanted o (yielded ops a.tmps) = true then Oper.wp Tryz.prog o a (w.alloc (.cells #[.slice (some ⟨g1, 0, none⟩) n1 c1] 69)) K Q else E := by
 have hwt : Region.wanted o (yielded ops a.tmps) = true := by simp [Region.wanted, hgd]
 rw [if_pos hwt]
 obtain ⟨i0, hi0, hz0, hz1, hz2⟩ := infoCd
 have kk : Below w.heap.size w (w.alloc (.cells #[.slice (some ⟨g1, 0, none⟩) n1 c1] 69)) := (Below.refl _ _).alloc (Nat.le_refl _) _
 have hown := World.ownsRow_lit (base := w.heap.size) (e := 69) (size := 1) w #[.slice (some ⟨g1, 0, none⟩) n1 c1] 1 (Nat.le_refl _) (by unfold maxLen; omega) rfl
 refine wp_append_lies _ s x 27 ho w.heap.size 69 i0 _ 1 24 Tryz.underlying27 hi0 hz0 hz1 hz2 rfl (by decide) _ 1 _ hs hown ⟨G, 0, none⟩ D.length C (vals D) hx (by simp [vals]) (fun j u hj => ?_) (fun u hu => by obtain ⟨z, -, rfl⟩ := List.mem_map.1 hu; rfl) hD (by unfold maxLen; omega) (by omega) (by simp) _ rfl ?_
 ·obtain ⟨y, hy, rfl⟩ := vals_at hj
  have ea : Addr.add ⟨G, 0, none⟩ j = ⟨G, j, none⟩ := by
   by_cases h : j = 0
   ·subst h; rfl
   ·simp [Addr.add, h]
  rw [ea]
  exact ((hP.r j y hy).keep hP.lt kk).c
 intro g cap w' q1 q2 q3 q4
 have hb : Below w.heap.size w w' := kk.trans (Below.grown (Below.refl _ _) q2 (by simp) (fun j hj => (World.ownsRow.lt hown _ hj).1))
 have hsz := hb.size
 have hcap : 1 + D.length ≤ cap := by
  rcases q1.2 with ⟨e, -⟩ | ⟨g', cap', cur, e, _, _, hnc, _⟩
  ·cases e
  ·injection e with e1 e2 e3
   omega
 have hg := World.ownsRow.lt q1 g rfl
 rw [Nat.add_comm 1 D.length]
 refine h g cap w' ⟨hg.2, fun i y hy => ?_⟩ (by omega) hb
 have hcell : ∀ u, ([Value.slice (some ⟨g1, 0, none⟩) n1 c1] ++ vals D)[i]? = some u → w'.cell? ⟨g, i, none⟩ = some u := fun u hu => by
  have hi' := (List.getElem?_eq_some_iff.1 hu).1
  simp [vals] at hi'
  rw [World.ownsRow.cellAt q1 i (by omega)]
  exact hu
 rcases Nat.eq_zero_or_pos i with rfl | hp
 ·simp at hy
  subst hy
  have e := h1.len
  subst e
  refine ⟨hcell _ rfl, by have := h1.lt; show g1 < _; omega, fun j hj => ?_⟩
  have hr := (h1.keep hb).insR
  rcases hr with e | ⟨g', o', e, -, -, hc⟩
  ·rw [e] at hj; simp at hj
  ·injection e with e
   injection e with e1 e2
   subst e1 e2
   have := hc j hj
   rw [Nat.zero_add] at this
   exact this
 ·obtain ⟨k, rfl⟩ : ∃ k, i = k + 1 := ⟨i - 1, by omega⟩
  have hy' : D[k]? = some y := by simpa using hy
  have r := (hP.r k y hy').keep hP.lt hb
  refine ⟨hcell _ ?_, by have := r.lt; omega, r.at'⟩
  have : (vals D)[k]? = some (.slice (some ⟨y.g, 0, none⟩) y.l.length y.c) := by unfold vals; rw [List.getElem?_map, hy']; rfl
  simpa using this
set_option maxHeartbeats 4000000 in
theorem iUnder (o r a x n fr : Int) (ss : Option Addr) (sl sc pb : Nat) (rm b : Int) (G C : Nat) (D : List RD) (w : World) (h : CB w pb b) (hP : PartsR w w.heap.size G D) (hD : 0 < D.length) (hD' : D.length ≤ 90) (ht : lens (lockR b :: D.map RD.l) ≤ 900) (hj : ∀ (i : Nat) (x : RD), D[i]? = some x → ∀ (j : Nat) (s : I5), x.l[j]? = some s → isJ s.o = true → -1 ≤ s.n ∧ s.n ≤ D.length + 1) (N : Nat) (hN : lens (lockR b :: D.map RD.l) = N) : Calls Tryz.prog 167 #[.agg #[.int .i64 o, .int .i64 r, .int .i64 a, .int .i64 x, .int .i64 n, .int .i64 fr, .slice ss sl sc, .func (.func 122) #[] #[.pointer (some ⟨pb, 0, none⟩)], .int .i64 rm], .slice (some ⟨G, 0, none⟩) D.length C] w fun e w' => ∃ g c, e = .returned (.slice (some ⟨g, 0, none⟩) N c) ∧ OwnT5 w' w.heap.size (.slice (some ⟨g, 0, none⟩) N c) (togL fr (lockR b :: D.map RD.l) (lockR b :: D.map RD.l)) ∧ Below w.heap.size w w' := by
 have HP0 := hid_of hP
 have HT := hid_of ht
 have HJ := hid_of hj
 have HN := hid_of hN
 clear hP ht hj hN
 obtain ⟨W, hW, hx, hb, hz⟩ := SX.new w (.int .i64 o) (.int .i64 r) (.int .i64 a) (.int .i64 x) (.int .i64 n) (.int .i64 fr) (.slice ss sl sc) (.func (.func 122) #[] #[.pointer (some ⟨pb, 0, none⟩)]) (.int .i64 rm) 127
 have HC : Hid (CB W pb b) := h.keep hb
 have HX := hid_of hx
 have HW : Hid (Below w.heap.size w W) := hb
 have HK : Hid (Below W.heap.size W W) := Below.refl _ _
 clear h hx hb
 obtain ⟨t0, t1, t2, t3, t4, t5, t6, t7, t8, tl⟩ := HX.out
 have HP : Hid (PartsR W W.heap.size G D) := ⟨by have := HP0.out.lt; have := HW.out.size; omega, fun i x hx => by have q := (HP0.out.keep HW.out).r i x hx; exact ⟨q.c, by have := q.lt; have := HW.out.size; omega, q.at'⟩⟩
 clear HP0
 have hwz := HW.out.size
 have HL1 : Hid (0 < lens (lockR b :: D.map RD.l)) := by show 0 < _; simp [lens, lockR]; omega
 have HJ2 : Hid (∀ (g c i : Nat) (x : RD), ((⟨g, c, lockR b⟩ : RD) :: D)[i]? = some x → ∀ (j : Nat) (s : I5), x.l[j]? = some s → isJ s.o = true → -1 ≤ s.n ∧ s.n ≤ (((⟨g, c, lockR b⟩ : RD) :: D).length : Int)) := by
  intro g c i x hx j s hs hq
  have e : ((((⟨g, c, lockR b⟩ : RD) :: D).length : Nat) : Int) = (D.length : Int) + 1 := by simp
  rw [e]
  rcases Nat.eq_zero_or_pos i with rfl | hp
  ·simp at hx
   subst hx
   have hm := List.mem_of_getElem? hs
   simp [lockR] at hm
   rcases hm with rfl | rfl | rfl | rfl
   ·simp [isJ] at hq
   ·simp [isJ] at hq
   ·simp; omega
   ·simp; omega
  ·obtain ⟨k, rfl⟩ : ∃ k, i = k + 1 := ⟨i - 1, by omega⟩
   exact HJ.out k x (by simpa using hx) j s hs hq
 go_enter Tryz.func167, Tryz.ntmps167
 go_wp2
 go_region_held3 (fun w' => w'.cell? ⟨w.heap.size, 0, none⟩ = some (.int .i64 o) ∧ w'.cell? ⟨w.heap.size, 1, none⟩ = some (.int .i64 r) ∧ w'.cell? ⟨w.heap.size, 2, none⟩ = some (.int .i64 a) ∧ w'.cell? ⟨w.heap.size, 3, none⟩ = some (.int .i64 x) ∧ w'.cell? ⟨w.heap.size, 4, none⟩ = some (.int .i64 n) ∧ w'.cell? ⟨w.heap.size, 5, none⟩ = some (.int .i64 fr) ∧ w'.cell? ⟨w.heap.size, 6, none⟩ = some (.slice ss sl sc) ∧ w'.cell? ⟨w.heap.size, 7, none⟩ = some (.func (.func 122) #[] #[.pointer (some ⟨pb, 0, none⟩)]) ∧ w'.cell? ⟨w.heap.size, 8, none⟩ = some (.int .i64 rm)) (go_keep) (first | (go_at_call 180; refine (iLock o r a x n fr ss sl sc pb rm b _ (by first | exact HC.out.keep HK.out | exact HC.out.keep HK.out.drew)).mono ?_; rintro e w1 ⟨g1, c1, rfl, ho1, hb1⟩; have hbk : Below W.heap.size W w1 := (by first | exact HK.out.trans (hb1.mono HK.out.size) | exact HK.out.drew.trans (hb1.mono HK.out.drew.size)); have HB1 := hid_of hbk; have HO1 := hid_of ho1; obtain ⟨t0, t1, t2, t3, t4, t5, t6, t7, t8, tl⟩ := HX.out.keep hbk; have hz1 := hbk.size; have HP1 : Hid (PartsR w1 w1.heap.size G D) := ⟨(by have := HP.out.lt; omega), fun i x hx => (by have q := (HP.out.keep hbk).r i x hx; exact ⟨q.c, (by have := q.lt; omega), q.at'⟩)⟩; clear ho1 hb1 hbk) | (refine stepP rfl _ _ rfl w1 _ g1 4 c1 (lockR b) HO1.out rfl G C D rfl HP1.out hD hD' ?_; intro g2 c2 w2 hp2 hc2 hb2; have HP2 := hid_of hp2; have HB2 := hid_of hb2; obtain ⟨t0, t1, t2, t3, t4, t5, t6, t7, t8, tl⟩ := HX.out.keep (HB1.out.trans (hb2.mono hz1)); clear hp2 hb2) | (go_at_call 179; refine (together_is fr g2 c2 (⟨g1, c1, lockR b⟩ :: D) w2 HP2.out hc2 (by show D.length + 1 ≤ 100; omega) HT.out HL1.out (HJ2.out g1 c1) N HN.out).mono ?_; rintro e w3 ⟨g3, c3, rfl, ho3, hb3⟩; have HO3 := hid_of ho3; have HB3 := hid_of hb3; obtain ⟨t0, t1, t2, t3, t4, t5, t6, t7, t8, tl⟩ := (HX.out.keep (HB1.out.trans (HB2.out.mono hz1))).keep hb3; clear ho3 hb3))
 go_wp2
 go_ret
 have hz2 := HB2.out.size
 exact ⟨_, _, rfl, HO3.out.low (by omega), ((HW.out.trans (HB1.out.mono (by omega))).trans (HB2.out.mono (by omega))).trans (HB3.out.mono (by omega))⟩
end
section
set_option linter.unusedSimpArgs false
set_option linter.unusedVariables false
set_option maxRecDepth 100000
open Go.RowKit
theorem name5 {P : World → Prop} {w : World} {C : Array Value} (L : List I5) (base n : Nat) (hC : C.toList = (fl5 L).map (Value.int .i64)) (hn : L.length = n) (hn' : n ≤ 1000) (hb : base ≤ w.heap.size)
  (h : ∀ W, OwnT5 W base (.slice (some ⟨w.heap.size, 0, none⟩) n n) L → Below w.heap.size w W → w.heap.size < W.heap.size → P W) : P (w.alloc (.cells C 97)) := by
 subst hn
 exact h _ (own5_new L C hC hb hn') ((Below.refl _ _).alloc (Nat.le_refl _) _) (by simp)
/- rows that lie somewhere, and a row of them -/
structure Row5 (w : World) (x : RD) : Prop where
 o : ∃ base, OwnT5 w base (.slice (some ⟨x.g, 0, none⟩) x.l.length x.c) x.l
theorem Row5.keep {w w' : World} {x : RD} (h : Row5 w x) (hb : Below w.heap.size w w') : Row5 w' x := by
 obtain ⟨base, h⟩ := h.o
 exact ⟨base, h.keep hb⟩
theorem Row5.of {w : World} {base g n c : Nat} {L : List I5} (h : OwnT5 w base (.slice (some ⟨g, 0, none⟩) n c) L) : Row5 w ⟨g, c, L⟩ := by
 have e := h.len
 subst e
 exact ⟨base, h⟩
theorem parts_new (w : World) (D : List RD) (C : Array Value) (hC : C.toList = vals D) (h : ∀ x ∈ D, Row5 w x) : PartsR (w.alloc (.cells C 69)) (w.alloc (.cells C 69)).heap.size w.heap.size D := by
 have hsz : (w.alloc (.cells C 69)).heap.size = w.heap.size + 1 := by simp
 refine ⟨by omega, fun i x hx => ?_⟩
 obtain ⟨base, ho⟩ := (h x (List.mem_of_getElem? hx)).o
 have hb : Below w.heap.size w (w.alloc (.cells C 69)) := (Below.refl _ _).alloc (Nat.le_refl _) _
 refine ⟨?_, by have := ho.lt; omega, fun j hj => ?_⟩
 ·have e : C[i]? = some (.slice (some ⟨x.g, 0, none⟩) x.l.length x.c) := by
   rw [← Array.getElem?_toList, hC]
   unfold vals
   rw [List.getElem?_map, hx]
   rfl
  simpa [go_sem] using e
 ·rcases (ho.keep hb).insR with e | ⟨g', o', e, -, -, hc⟩
  ·rw [e] at hj; simp at hj
  ·injection e with e
   injection e with e1 e2
   subst e1 e2
   have := hc j hj
   rw [Nat.zero_add] at this
   exact this
def jOk (k : Int) (s : I5) : Bool := !isJ s.o || decide (-1 ≤ s.n ∧ s.n ≤ k)
theorem jOk_of {D : List RD} {k : Int} (h : ∀ x ∈ D, x.l.all (jOk k) = true) : ∀ (i : Nat) (x : RD), D[i]? = some x → ∀ (j : Nat) (s : I5), x.l[j]? = some s → isJ s.o = true → -1 ≤ s.n ∧ s.n ≤ k := by
 intro i x hx j s hs hq
 have h1 := h x (List.mem_of_getElem? hx)
 rw [List.all_eq_true] at h1
 have h2 := h1 s (List.mem_of_getElem? hs)
 unfold jOk at h2
 rw [hq] at h2
 simpa using h2
end
end Go.Proofs.YtehjbpjjegajjaaGreat
