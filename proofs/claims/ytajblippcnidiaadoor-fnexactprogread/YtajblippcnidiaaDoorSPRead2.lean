/- l2Line of the specification at a line of rooms. Conditions: a line of at most 2^20 bytes; rows as the sizes say. -/
import Derived.Test.YtajblippcnidiaaDoorSPRead1
namespace Go.Proofs.YtajblippcnidiaaDoor
set_option linter.unusedSimpArgs false
set_option linter.unusedVariables false
set_option maxRecDepth 100000
open Go.RowKit

theorem app_oneS {ops : Array Oper} {rest : List Oper} {o : Oper} {a : Act} {Q : Exit → Act → World → Prop} (hgd : o.guard = none) (s x : Operand) (ho : o.op = .call { callee := .builtin .append, args := #[s, x], argTypes := #[22, 22] })
    (w : World) (z : Int) (base : Nat) (v : Value) (ls : List Int) (hs : a.eval s = v) (hown : OwnN w base v ls) (hx : a.eval x = .slice (some ⟨w.heap.size, 0, none⟩) 1 1) (hn : ls.length ≤ 1099511627775) (hbase : base ≤ w.heap.size)
    (h : ∀ g cap w', OwnN w' base (.slice (some ⟨g, 0, none⟩) (ls.length + 1) cap) (ls ++ [z]) → Below base w w' → (∀ k, k < w.heap.size → v.ownBlock ≠ some k → w'.heap[k]? = w.heap[k]?) → wpList Tryd.prog ops Q rest (a.put o.dst (.slice (some ⟨g, 0, none⟩) (ls.length + 1) cap)) w') :
    wpList Tryd.prog ops Q (o :: rest) a (w.alloc (.cells #[.int .i64 z] 3)) := by
  obtain ⟨i0, hi, hz0, hz1, hz2⟩ := infoInt
  have h1' := hown.alloc (.cells #[.int .i64 z] 3)
  refine wpList_append_lies _ hgd s x 22 ho base 3 i0 _ 1 8 Tryd.underlying22 hi hz0 hz1 hz2 rfl (by decide) v ls.length _ hs h1' ⟨w.heap.size, 0, none⟩ 1 1 [.int .i64 z] hx rfl (newN1 w _) (fun u hu => by simp at hu; subst hu; rfl) (by decide) (by unfold maxLen; omega) (by omega) (by simp; omega) _ rfl ?_
  intro g cap w' q1 q2 q3 q4
  have hb : Below base w w' := Below.grown (((Below.refl _ _).alloc hbase _)) q2 (by simp; omega) (fun j hj => (World.ownsRow.lt h1' _ hj).1)
  refine h g cap w' ?_ hb (fun k hk hne => (q2.block k (by simp; omega) (fun e => hne e.symm)).trans (Below.heap_alloc _ _ _ hk))
  show w'.ownsRow base 3 1 _ (ls ++ [z]).length ((ls ++ [z]).map (Value.int .i64))
  rw [List.map_append, List.length_append]
  exact q1

/- the state of the loop -/
structure Cs (w wr : World) (base B : Nat) (sv : Option Addr) (n cv : Nat) (v' : Value) (cs : List Int) (bs : List (List I5)) (g cap : Nat) (ws : List (List UInt8)) : Prop where
  bx : Bx B wr (.slice sv n cv) v' (.slice none 0 0) (.slice none 0 0)
  on : OwnN wr base (.slice sv n cv) cs
  ob : OwnB wr base v' bs
  ot : OwnT wr base (.slice (some ⟨g, 0, none⟩) ws.length cap) ws
  be : Below base w wr
  fp : FarP w wr
  sz : w.heap.size ≤ wr.heap.size
theorem Cs.keep {w wr w' : World} {base B : Nat} {sv : Option Addr} {n cv : Nat} {v' : Value} {cs : List Int} {bs : List (List I5)} {g cap : Nat} {ws : List (List UInt8)} (h : Cs w wr base B sv n cv v' cs bs g cap ws) (hb : Below wr.heap.size wr w') (hs : base ≤ wr.heap.size) : Cs w w' base B sv n cv v' cs bs g cap ws :=
  ⟨h.bx.keep (hb.block _ h.bx.z0) (hb.block _ h.bx.z1) hb.size, h.on.below hb, h.ob.below hb, h.ot.below hb, h.be.trans (hb.mono hs), h.fp.below hb h.sz, Nat.le_trans h.sz hb.size⟩
theorem Cs.push {w wr w' : World} {base B : Nat} {sv : Option Addr} {n cv g5 cap5 : Nat} {v' : Value} {cs : List Int} {z : Int} {bs : List (List I5)} {g cap : Nat} {ws : List (List UInt8)} (h : Cs w wr base B sv n cv v' cs bs g cap ws) (hB : base ≤ B) (hB' : w.heap.size ≤ B) (ho : OwnN w' base (.slice (some ⟨g5, 0, none⟩) (cs.length + 1) cap5) (cs ++ [z])) (hb : Below base wr w')
    (far : ∀ k, k < wr.heap.size → (Value.slice sv n cv).ownBlock ≠ some k → w'.heap[k]? = wr.heap[k]?) : Bx B w' (.slice sv n cv) v' (.slice none 0 0) (.slice none 0 0) ∧ Cs w (w'.setCell ⟨B, 0, none⟩ (.slice (some ⟨g5, 0, none⟩) (cs.length + 1) cap5)) base B (some ⟨g5, 0, none⟩) (cs.length + 1) cap5 v' (cs ++ [z]) bs g cap ws := by
  have X5 := h.bx.keep (far _ h.bx.z0 (fun e => ownNot h.on h.bx.t0 (by decide) e rfl)) (far _ h.bx.z1 (fun e => ownNot h.on h.bx.t1 (by decide) e rfl)) hb.size
  obtain ⟨xs, b1, b2, b3⟩ := h.ob
  have B5 : OwnB w' base v' bs := ⟨xs, ownKeep b1 (fun k hk => far k (World.ownsRow.lt b1 _ hk).2 (fun e => ownType b1 h.on (by decide) hk e)), fun i hi => ownKeep (b2 i hi) (fun k hk => far k (World.ownsRow.lt (b2 i hi) _ hk).2 (fun e => ownType (b2 i hi) h.on (by decide) hk e)), b3⟩
  have T5 : OwnT w' base (.slice (some ⟨g, 0, none⟩) ws.length cap) ws := ownKeep h.ot (fun k hk => far k (World.ownsRow.lt h.ot _ hk).2 (fun e => ownType h.ot h.on (by decide) hk e))
  exact ⟨X5, X5.set0 _, OwnN.into ho X5.t0, OwnB.into B5 X5.t0, ownKeep T5 (fun k hk => Below.heap_setCell _ ⟨B, 0, none⟩ _ k (ownNot T5 X5.t0 (by decide) hk)), (h.be.trans hb).setCell (p := ⟨B, 0, none⟩) hB _, (h.fp.own h.sz h.on (by decide) far).set hB', by have := hb.size; have := h.sz; simp; omega⟩

theorem mapS_snocB {xs : List (List UInt8)} {x : List UInt8} {vs : List Int} {v : Int} (h : xs.mapM numS = some vs) (hx : numS x = some v) : (xs ++ [x]).mapM numS = some (vs ++ [v]) := by
  rw [List.mapM_append, h]
  simp [hx]
theorem mapS_failB {xs ys : List (List UInt8)} {x : List UInt8} {vs : List Int} (h : xs.mapM numS = some vs) (hx : numS x = none) : (xs ++ x :: ys).mapM numS = none := by
  rw [List.mapM_append, h]
  simp [hx]
theorem take_next (ws : List (List UInt8)) (k N : Nat) (h : k + 1 < ws.length) (hk : k < N) : (ws.tail.take N) = ws.tail.take k ++ ws.getD (k + 1) [] :: (ws.tail.drop (k + 1)).take (N - (k + 1)) ∧ ws.tail.take (k + 1) = ws.tail.take k ++ [ws.getD (k + 1) []] := by
  obtain ⟨a, r, rfl⟩ : ∃ a r, ws = a :: r := by cases ws with | nil => simp at h | cons a r => exact ⟨a, r, rfl⟩
  simp only [List.tail_cons]
  have hk' : k < r.length := by simp at h; omega
  have e : (a :: r).getD (k + 1) [] = r[k] := by simp [List.getD_eq_getElem?_getD, hk']
  have e2 : r.take (k + 1) = r.take k ++ [r[k]] := List.take_succ_eq_append_getElem hk'
  rw [e]
  refine ⟨?_, e2⟩
  have e3 : r.take N = r.take (k + 1) ++ (r.drop (k + 1)).take (N - (k + 1)) := by
    conv => lhs; rw [show N = (k + 1) + (N - (k + 1)) by omega]
    rw [List.take_add]
  rw [e3, e2, List.append_assoc]
  rfl

set_option maxHeartbeats 4000000 in
theorem l2Line_caps (base : Nat) (v v' : Value) (p : PD) (line : List UInt8) (w : World) (hb : base ≤ w.heap.size) (ho : OwnN w base v p.caps) (hd : OwnB w base v' p.bods) (hn : p.caps.length ≤ 1073741824) (hl : line.length ≤ 1048576) (h1 : (splitA 32 [] line).headD [] = capsW) :
    Calls Tryd.prog 9 #[.agg #[v, v'], .string ⟨line.toArray⟩] w fun e w' => linePost base ((((splitA 32 [] line).tail.take 8).mapM numS).map fun vs => ⟨p.caps ++ vs, p.bods⟩) w e w' := by
  generalize hrr : ((((splitA 32 [] line).tail.take 8).mapM numS).map fun vs => (⟨p.caps ++ vs, p.bods⟩ : PD)) = rr
  have HRR : Hid (((((splitA 32 [] line).tail.take 8).mapM numS).map fun vs => (⟨p.caps ++ vs, p.bods⟩ : PD)) = rr) := hrr
  clear hrr
  have HW : Hid (∀ x ∈ splitA 32 [] line, x.length ≤ 1048576) := fun x hx => by have := split_word_le 32 line [] x hx; simp at this; omega
  obtain ⟨sv, cv, rfl⟩ := ho.sl
  obtain ⟨sv', cv', rfl⟩ := hd.sl
  have HO : Hid (OwnN w base (.slice sv p.caps.length cv) p.caps) := ho
  have HD : Hid (OwnB w base (.slice sv' p.bods.length cv') p.bods) := hd
  clear ho hd
  go_enter Tryd.func9, Tryd.ntmps9
  go_wp2_with fail
  obtain ⟨W, hW, hX, KW⟩ := bx w (.slice sv p.caps.length cv) (.slice sv' p.bods.length cv') (.slice none 0 0) (.slice none 0 0)
  rw [hW]
  clear hW
  refine (l2Words_any line (by omega) W).mono ?_
  rintro e w1 ⟨g, cap, rfl, ho1, hb1, hs1⟩
  have hne := words_ne line
  have hln := (splitA_len 32 line []).2
  generalize splitA 32 [] line = ws at ho1 h1 hne HW hln HRR
  obtain ⟨nw, hnw⟩ : ∃ n, ws.length = n + 1 := ⟨ws.length - 1, by cases ws with | nil => exact absurd rfl hne | cons a r => simp⟩
  have HNW : Hid (ws.length = nw + 1) := hnw
  have c0 := ho1.cell (i := 0) (by omega)
  rw [head_getD hne, h1] at c0
  unfold capsW at c0
  have C1 : Hid (Cs w w1 base w.heap.size sv p.caps.length cv (.slice sv' p.bods.length cv') p.caps p.bods g cap ws) := ⟨hX.keep (hb1.block _ hX.z0) (hb1.block _ hX.z1) hb1.size, (HO.out.below KW).below hb1, (HD.out.below KW).below hb1, ownLow ho1 (by have := hX.z0; omega), (KW.trans (hb1.mono (by have := hX.z0; omega))).mono hb, (FarP.refl w |>.below KW (Nat.le_refl _)).below hb1 KW.size, Nat.le_trans KW.size hb1.size⟩
  have s1 : w.heap.size + 1 < w1.heap.size := C1.out.bx.z1
  rw [hnw]
  have hnb : nw ≤ 1048577 := by omega
  clear hX hb1 KW ho1 HO HD hnw hne h1 hln
  go_wp2
  go_loopw [7] (fun i wr => ∃ (k : Nat) (vs : List Int) (su : Option Addr) (cu : Nat), k ≤ nw ∧ k ≤ 8 ∧ i = .int .i64 ((k : Int) + 1) ∧ vs.length = k ∧ Hid ((ws.tail.take k).mapM numS = some vs) ∧ Cs w wr base w.heap.size su (p.caps.length + k) cu (.slice sv' p.bods.length cv') (p.caps ++ vs) p.bods g cap ws) (fun i _ => 10 - (intOf i).toNat)
  case atStart => exact ⟨0, [], sv, cv, by omega, by omega, rfl, rfl, (by show _ = _; simp), (by rw [List.append_nil]; exact C1.out)⟩
  case round =>
    obtain ⟨k, vs, su, cu, hk, hk8, rfl, hvk, HV, hcs⟩ := hrel
    have HC : Hid (Cs w wr base w.heap.size su (p.caps.length + k) cu (.slice sv' p.bods.length cv') (p.caps ++ vs) p.bods g cap ws) := hcs
    have HVK : Hid (vs.length = k) := hvk
    clear hcs C1 c0 hvk
    obtain ⟨x0, x1, y0, y1, f0, f1, z0, z1, -, -⟩ := HC.out.bx
    have n0 : ¬ w.heap.size + 1 = w.heap.size := by omega
    have n1 : ¬ w.heap.size = w.heap.size + 1 := by omega
    by_cases hlt : k < nw ∧ k < 8
    · obtain ⟨hlt, hlt8⟩ := hlt
      have wk := OwnT.cell HC.out.ot (i := k + 1) (by rw [HNW.out]; omega)
      have hword : ws.getD (k + 1) [] ∈ ws := by
        rw [List.getD_eq_getElem?_getD, List.getElem?_eq_getElem (by rw [HNW.out]; omega)]
        exact List.getElem_mem _
      have hwl := HW.out _ hword
      obtain ⟨tn1, tn2⟩ := take_next ws k 8 (by rw [HNW.out]; omega) hlt8
      have TN1 := (show Hid _ from tn1)
      have TN2 := (show Hid _ from tn2)
      clear tn1 tn2 hword
      generalize ws.getD (k + 1) [] = wd at wk hwl TN1 TN2
      have b0 : (0 : Int) ≤ (k : Int) + 1 := by omega
      have b1 : (k : Int) + 1 < (nw : Int) + 1 := by omega
      have b2 : (k : Int) + 1 < 9 := by omega
      have b3 : ((k : Int) + 1).toNat = k + 1 := by omega
      have sR : w.heap.size + 1 < wr.heap.size := z1
      go_wp2_with fail
      refine (l2Read_any wd (by omega) wr).mono ?_
      rintro e w2 ⟨z, rfl, hz, hb2⟩
      have HC2 : Hid (Cs w w2 base w.heap.size su (p.caps.length + k) cu (.slice sv' p.bods.length cv') (p.caps ++ vs) p.bods g cap ws) := HC.out.keep hb2 (by omega)
      have s2 : wr.heap.size ≤ w2.heap.size := hb2.size
      clear x0 x1 y0 y1 f0 f1 z0 z1 HC hb2 wk
      obtain ⟨x0, x1, y0, y1, f0, f1, z0, z1, -, -⟩ := HC2.out.bx
      cases hnum : numS wd with
      | none =>
        have HR : Hid (rr = none) := by show _ = _; rw [← HRR.out, TN1.out, mapS_failB HV.out hnum]; rfl
        have HN : Hid (numS wd = none) := hnum
        simp only [Option.isSome_none]
        clear hnum hz HRR TN1 TN2
        go_wp2
        refine bodyPost_ret (v := .tuple #[.agg #[.slice su (p.caps.length + k) cu, .slice sv' p.bods.length cv'], .bool false]) (by simp [results, Tryd.results9, go_sem, y0, y1]) rfl ⟨?_, (HC2.out.be.setCell (p := ⟨w.heap.size + 1, 0, none⟩) (by simp; omega) _).setCell (p := ⟨w.heap.size + 1, 1, none⟩) (by simp; omega) _, (HC2.out.fp.set (by omega)).set (by omega)⟩
        rw [HR.out]
        exact ⟨_, _, _, _, _, _, rfl⟩
      | some y =>
        have hzy := hz y hnum
        subst hzy
        have HV2 : Hid ((ws.tail.take (k + 1)).mapM numS = some (vs ++ [z])) := by show _ = _; rw [TN2.out]; exact mapS_snocB HV.out hnum
        simp only [Option.isSome_some]
        have HLN : Hid ((p.caps ++ vs).length = p.caps.length + k) := by show _ = _; rw [List.length_append, HVK.out]
        clear hnum hz TN1 TN2
        go_wp2_with (at_builtin; refine app_oneS rfl _ _ rfl w2 z base (.slice su (p.caps.length + k) cu) (p.caps ++ vs) rfl HC2.out.on rfl (by rw [HLN.out]; omega) (by omega) ?_; intro g5 cap5 w5 ho5 hb5 hf5; have P5 := HC2.out.push hb (Nat.le_refl _) ho5 hb5 hf5; rw [HLN.out] at P5; have HC5 := (show Hid _ from P5.2); obtain ⟨p0, p1, q0, q1, e0, e1, t0, t1, -, -⟩ := P5.1; rw [HLN.out]; clear ho5 hb5 hf5 P5 x0 x1 y0 y1 f0 f1 z0 z1)
        go_roundw
        case rel => exact ⟨k + 1, vs ++ [z], some ⟨g5, 0, none⟩, cap5, by omega, by omega, by go_num, by simp [HVK.out], HV2.out, by rw [← List.append_assoc]; exact HC5.out⟩
        case measure => simp [intOf]; omega
    · have HR : Hid (rr = some ⟨p.caps ++ vs, p.bods⟩) := by
        have e : ws.tail.take 8 = ws.tail.take k := by
          by_cases h8 : k = 8
          · rw [h8]
          · have hl : ws.tail.length = nw := by rw [List.length_tail, HNW.out]; rfl
            rw [List.take_of_length_le (by omega), List.take_of_length_le (by omega)]
        show _ = _
        rw [← HRR.out, e, HV.out]
        rfl
      by_cases h9 : k < nw
      · have b1 : (k : Int) + 1 < (nw : Int) + 1 := by omega
        have b2 : ¬ (k : Int) + 1 < 9 := by omega
        clear hlt HRR HV
        go_wp2
        refine bodyPost_ret (v := .tuple #[.agg #[.slice su (p.caps.length + k) cu, .slice sv' p.bods.length cv'], .bool true]) (by simp [results, Tryd.results9, go_sem, y0, y1]) rfl ⟨?_, (HC.out.be.setCell (p := ⟨w.heap.size + 1, 0, none⟩) (by simp; omega) _).setCell (p := ⟨w.heap.size + 1, 1, none⟩) (by simp; omega) _, (HC.out.fp.set (by omega)).set (by omega)⟩
        rw [HR.out]
        exact ⟨_, _, rfl, OwnN.into (OwnN.into HC.out.on HC.out.bx.t1) (by obtain ⟨cs, fr, e⟩ := HC.out.bx.t1; exact ⟨_, _, set_heap e⟩), OwnB.into (OwnB.into HC.out.ob HC.out.bx.t1) (by obtain ⟨cs, fr, e⟩ := HC.out.bx.t1; exact ⟨_, _, set_heap e⟩)⟩
      · have b1 : ¬ (k : Int) + 1 < (nw : Int) + 1 := by omega
        clear hlt HRR HV
        go_wp2
        refine bodyPost_ret (v := .tuple #[.agg #[.slice su (p.caps.length + k) cu, .slice sv' p.bods.length cv'], .bool true]) (by simp [results, Tryd.results9, go_sem, y0, y1]) rfl ⟨?_, (HC.out.be.setCell (p := ⟨w.heap.size + 1, 0, none⟩) (by simp; omega) _).setCell (p := ⟨w.heap.size + 1, 1, none⟩) (by simp; omega) _, (HC.out.fp.set (by omega)).set (by omega)⟩
        rw [HR.out]
        exact ⟨_, _, rfl, OwnN.into (OwnN.into HC.out.on HC.out.bx.t1) (by obtain ⟨cs, fr, e⟩ := HC.out.bx.t1; exact ⟨_, _, set_heap e⟩), OwnB.into (OwnB.into HC.out.ob HC.out.bx.t1) (by obtain ⟨cs, fr, e⟩ := HC.out.bx.t1; exact ⟨_, _, set_heap e⟩)⟩

end Go.Proofs.YtajblippcnidiaaDoor
