/- What the emitters of channels answer. Conditions: the channel lies in memory. -/
import Derived.Test.YtehjbpjjegajjaaGreatJG00
import Derived.Test.YtehjbpjjegajjaaGreatJG02
import Derived.Test.YtehjbpjjegajjaaGreatJG01
import Derived.Test.YtehjbpjjegajjaaGreatJG09
import Derived.Test.YtehjbpjjegajjaaGreatJE10Site
import Derived.Test.YtehjbpjjegajjaaGreatJG07
import Derived.Test.YtehjbpjjegajjaaGreatJG08
import Derived.Test.YtehjbpjjegajjaaGreatJE10Put
import Derived.Test.YtehjbpjjegajjaaGreatJE10Take
namespace Go.Proofs.YtehjbpjjegajjaaGreat
set_option linter.unusedSimpArgs false
set_option linter.unusedVariables false
set_option maxRecDepth 100000
open Go.RowKit
theorem wp5f {o : Oper} {a : Act} {K : Act → World → Prop} {Q : Exit → Act → World → Prop} (s x : Operand) (ho : o.op = .call { callee := .builtin .append, args := #[s, x], argTypes := #[69, 69] })
  (w : World) (base : Nat) (v : Value) (L1 : List I5) (hs : a.eval s = v) (hown : OwnT5 w base v L1) (base2 g2 n2 c2 : Nat) (L2 : List I5) (hx : a.eval x = .slice (some ⟨g2, 0, none⟩) n2 c2) (h2 : OwnT5 w base2 (.slice (some ⟨g2, 0, none⟩) n2 c2) L2) (hl2 : L2.length = n2)
  (hl : 0 < n2) (hn : L1.length + n2 ≤ 1000) (N : Nat) (hN : L1.length + n2 = N) (hbase : base ≤ w.heap.size)
  (h : ∀ g c w', OwnT5 w' base (.slice (some ⟨g, 0, none⟩) N c) (L1 ++ L2) → Below base w w' → (∀ k, k < w.heap.size → v.ownBlock ≠ some k → w'.heap[k]? = w.heap[k]?) → K (a.put o.dst (.slice (some ⟨g, 0, none⟩) N c)) w') : Oper.wp Tryz.prog o a w K Q := by
 obtain ⟨i0, hi0, hz0, hz1, hz2⟩ := infoSt
 subst hN hl2
 refine wp_append_lies w s x 69 ho base 97 i0 _ 5 40 Tryz.underlying69 hi0 hz0 hz1 hz2 rfl (by decide) v L1.length _ hs hown ⟨g2, 0, none⟩ L2.length c2 ((fl5 L2).map (Value.int .i64)) hx (by rw [List.length_map, fl5_len]) (fun j u hj => ?_) (fun u hu => by obtain ⟨z, -, rfl⟩ := List.mem_map.1 hu; rfl) hl (by unfold maxLen; omega) (by omega) hbase _ rfl ?_
 ·rw [List.getElem?_map] at hj
  obtain ⟨z, hz, rfl⟩ := Option.map_eq_some_iff.1 hj
  have ea : Addr.add ⟨g2, 0, none⟩ j = ⟨g2, j, none⟩ := by
   by_cases h : j = 0
   ·subst h; rfl
   ·simp [Addr.add, h]
  rw [ea]
  exact h2.cellAt hz
 intro g cap w' q1 q2 q3 q4
 refine h g cap w' ?_ (Below.grown (Below.refl _ _) q2 hbase (fun j hj => (World.ownsRow.lt hown _ hj).1)) (fun k hk hne => q2.block k hk (fun e => hne e.symm))
 show w'.ownsRow base 97 5 _ (L1 ++ L2).length ((fl5 (L1 ++ L2)).map (Value.int .i64))
 rw [fl5_app, List.map_append, List.length_append]
 exact q1
theorem step5f {ops : Array Oper} {o : Oper} {a : Act} {K : Act → World → Prop} {Q : Exit → Act → World → Prop} {E : Prop} (hgd : o.guard = none) (s x : Operand) (ho : o.op = .call { callee := .builtin .append, args := #[s, x], argTypes := #[69, 69] })
  (w : World) (base : Nat) (v : Value) (L1 : List I5) (hs : a.eval s = v) (hown : OwnT5 w base v L1) (base2 g2 n2 c2 : Nat) (L2 : List I5) (hx : a.eval x = .slice (some ⟨g2, 0, none⟩) n2 c2) (h2 : OwnT5 w base2 (.slice (some ⟨g2, 0, none⟩) n2 c2) L2) (hl2 : L2.length = n2)
  (hl : 0 < n2) (hn : L1.length + n2 ≤ 1000) (N : Nat) (hN : L1.length + n2 = N) (hbase : base ≤ w.heap.size)
  (h : ∀ g c w', OwnT5 w' base (.slice (some ⟨g, 0, none⟩) N c) (L1 ++ L2) → Below base w w' → (∀ k, k < w.heap.size → v.ownBlock ≠ some k → w'.heap[k]? = w.heap[k]?) → K (a.put o.dst (.slice (some ⟨g, 0, none⟩) N c)) w') : if Region.wanted o (yielded ops a.tmps) = true then Oper.wp Tryz.prog o a w K Q else E := by
 have hw : Region.wanted o (yielded ops a.tmps) = true := by simp [Region.wanted, hgd]
 rw [if_pos hw]
 exact wp5f s x ho w base v L1 hs hown base2 g2 n2 c2 L2 hx h2 hl2 hl hn N hN hbase h
theorem is_alloc {f : Nat} {args : Array Value} {w : World} {o : Obj} {post : Ending → World → Prop} (h : Calls Tryz.prog f args (w.alloc o) post) : Calls Tryz.prog f args (w.alloc o) post := h
theorem is_alloc2 {f : Nat} {args : Array Value} {w : World} {o o' : Obj} {post : Ending → World → Prop} (h : Calls Tryz.prog f args ((w.alloc o).alloc o') post) : Calls Tryz.prog f args ((w.alloc o).alloc o') post := h
theorem Row5.far {w w' : World} {x : RD} {g n c : Nat} (h : Row5 w x) (hg : x.g ≠ g) (hf : ∀ k, k < w.heap.size → (Value.slice (some ⟨g, 0, none⟩) n c).ownBlock ≠ some k → w'.heap[k]? = w.heap[k]?) : Row5 w' x := by
 obtain ⟨base, h⟩ := h.o
 exact ⟨base, ownKeep' h (fun k hk => hf k (World.ownsRow.lt h _ hk).2 (fun e => by
  injection hk with hk
  injection e with e
  have h1 : x.g = k := hk
  have h2 : g = k := e
  omega))⟩
set_option maxHeartbeats 8000000 in
theorem iTrySend (o r a x n fr : Int) (ss : Option Addr) (sl sc pb : Nat) (rm b : Int) (w : World) (h : CB w pb b) : Calls Tryz.prog 146 #[.agg #[.int .i64 o, .int .i64 r, .int .i64 a, .int .i64 x, .int .i64 n, .int .i64 fr, .slice ss sl sc, .func (.func 122) #[] #[.pointer (some ⟨pb, 0, none⟩)], .int .i64 rm]] w fun e w' => ∃ g c, e = .returned (.slice (some ⟨g, 0, none⟩) 31 c) ∧ OwnT5 w' w.heap.size (.slice (some ⟨g, 0, none⟩) 31 c) (togL fr [lockR b, askR b 3, faultR b, openR b rm, roundR, putR b a ++ (letR b ++ triedR r 1), letR b ++ triedR r 0] [lockR b, askR b 3, faultR b, openR b rm, roundR, putR b a ++ (letR b ++ triedR r 1), letR b ++ triedR r 0]) ∧ Below w.heap.size w w' := by
 obtain ⟨W, hW, hx, hb, hz⟩ := SX.new w (.int .i64 o) (.int .i64 r) (.int .i64 a) (.int .i64 x) (.int .i64 n) (.int .i64 fr) (.slice ss sl sc) (.func (.func 122) #[] #[.pointer (some ⟨pb, 0, none⟩)]) (.int .i64 rm) 127
 have HC : Hid (CB W pb b) := h.keep hb
 have HX := hid_of hx
 have HW : Hid (Below w.heap.size w W) := hb
 have HK : Hid (Below W.heap.size W W) := Below.refl _ _
 clear h hx hb
 obtain ⟨t0, t1, t2, t3, t4, t5, t6, t7, t8, tl⟩ := HX.out
 go_enter Tryz.func146, Tryz.ntmps146
 go_wp2_with fail
 go_region_held3 (fun w' => w'.cell? ⟨w.heap.size, 0, none⟩ = some (.int .i64 o) ∧ w'.cell? ⟨w.heap.size, 1, none⟩ = some (.int .i64 r) ∧ w'.cell? ⟨w.heap.size, 2, none⟩ = some (.int .i64 a) ∧ w'.cell? ⟨w.heap.size, 3, none⟩ = some (.int .i64 x) ∧ w'.cell? ⟨w.heap.size, 4, none⟩ = some (.int .i64 n) ∧ w'.cell? ⟨w.heap.size, 5, none⟩ = some (.int .i64 fr) ∧ w'.cell? ⟨w.heap.size, 6, none⟩ = some (.slice ss sl sc) ∧ w'.cell? ⟨w.heap.size, 7, none⟩ = some (.func (.func 122) #[] #[.pointer (some ⟨pb, 0, none⟩)]) ∧ w'.cell? ⟨w.heap.size, 8, none⟩ = some (.int .i64 rm)) (go_keep) (first | (go_at_call 164; refine (iTried o r a x n fr ss sl sc pb rm b _ _ (by first | exact HC.out.keep HK.out | exact HC.out.keep HK.out.drew)).mono ?_; rintro e w1 ⟨gB, cB, rfl, hoB, hb1⟩; (first | (have J0 := hid_of (HA.out.keep hb1); clear HA; have HA := J0; clear J0; have HBB := hid_of hoB) | have HA := hid_of hoB); clear hoB; have JK : Hid (Below W.heap.size W w1) := (by first | exact HK.out.trans (hb1.mono HK.out.size) | exact HK.out.drew.trans (hb1.mono HK.out.drew.size)); clear HK; have HK := JK; clear JK hb1; obtain ⟨t0, t1, t2, t3, t4, t5, t6, t7, t8, tl⟩ := HX.out.keep HK.out) | (go_at_call 161; refine (iPut2 o r a x n fr ss sl sc pb rm b _ _ _ _ _ _ w1 (HC.out.keep HK.out) HA.out HBB.out).mono ?_; rintro e w5 ⟨g5, c5, rfl, ho5, hb5⟩; have HO5 := hid_of ho5; have HB5 := hid_of (HK.out.trans (hb5.mono HK.out.size)); have hz5 := HK.out.size; obtain ⟨t0, t1, t2, t3, t4, t5, t6, t7, t8, tl⟩ := HX.out.keep HB5.out; clear ho5 hb5))
 all_goals
  go_wp2
  go_ret
  have hz1 := HW.out.size
  exact ⟨_, _, rfl, HO5.out.low (by omega), HW.out.trans (HB5.out.mono hz1)⟩
set_option maxHeartbeats 8000000 in
theorem iTryTake (o r a x n fr : Int) (ss : Option Addr) (sl sc pb : Nat) (rm b : Int) (w : World) (h : CB w pb b) : Calls Tryz.prog 147 #[.agg #[.int .i64 o, .int .i64 r, .int .i64 a, .int .i64 x, .int .i64 n, .int .i64 fr, .slice ss sl sc, .func (.func 122) #[] #[.pointer (some ⟨pb, 0, none⟩)], .int .i64 rm]] w fun e w' => ∃ g c, e = .returned (.slice (some ⟨g, 0, none⟩) 32 c) ∧ OwnT5 w' w.heap.size (.slice (some ⟨g, 0, none⟩) 32 c) (togL fr [lockR b, takenR b r rm, roundT, keepT b x, noneT b r x 2, cameR r x 0 0] [lockR b, takenR b r rm, roundT, keepT b x, noneT b r x 2, cameR r x 0 0]) ∧ Below w.heap.size w w' := by
 obtain ⟨W, hW, hx, hb, hz⟩ := SX.new w (.int .i64 o) (.int .i64 r) (.int .i64 a) (.int .i64 x) (.int .i64 n) (.int .i64 fr) (.slice ss sl sc) (.func (.func 122) #[] #[.pointer (some ⟨pb, 0, none⟩)]) (.int .i64 rm) 127
 have HC : Hid (CB W pb b) := h.keep hb
 have HX := hid_of hx
 have HW : Hid (Below w.heap.size w W) := hb
 have HK : Hid (Below W.heap.size W W) := Below.refl _ _
 clear h hx hb
 obtain ⟨t0, t1, t2, t3, t4, t5, t6, t7, t8, tl⟩ := HX.out
 go_enter Tryz.func147, Tryz.ntmps147
 go_wp2_with fail
 go_region_held3 (fun w' => w'.cell? ⟨w.heap.size, 0, none⟩ = some (.int .i64 o) ∧ w'.cell? ⟨w.heap.size, 1, none⟩ = some (.int .i64 r) ∧ w'.cell? ⟨w.heap.size, 2, none⟩ = some (.int .i64 a) ∧ w'.cell? ⟨w.heap.size, 3, none⟩ = some (.int .i64 x) ∧ w'.cell? ⟨w.heap.size, 4, none⟩ = some (.int .i64 n) ∧ w'.cell? ⟨w.heap.size, 5, none⟩ = some (.int .i64 fr) ∧ w'.cell? ⟨w.heap.size, 6, none⟩ = some (.slice ss sl sc) ∧ w'.cell? ⟨w.heap.size, 7, none⟩ = some (.func (.func 122) #[] #[.pointer (some ⟨pb, 0, none⟩)]) ∧ w'.cell? ⟨w.heap.size, 8, none⟩ = some (.int .i64 rm)) (go_keep) (first | (go_at_call 165; refine (iCame o r a x n fr ss sl sc pb rm b 0 0 _ (by first | exact HC.out.keep HK.out | exact HC.out.keep HK.out.drew)).mono ?_; rintro e w1 ⟨gA, cA, rfl, hoA, hb1⟩; have HA := hid_of hoA; clear hoA; have JK : Hid (Below W.heap.size W w1) := (by first | exact HK.out.trans (hb1.mono HK.out.size) | exact HK.out.drew.trans (hb1.mono HK.out.drew.size)); clear HK; have HK := JK; clear JK hb1; obtain ⟨t0, t1, t2, t3, t4, t5, t6, t7, t8, tl⟩ := HX.out.keep HK.out) | (go_at_call 163; refine (iTake2 o r a x n fr ss sl sc pb rm b gA cA _ w1 (HC.out.keep HK.out) HA.out).mono ?_; rintro e w5 ⟨g5, c5, rfl, ho5, hb5⟩; have HO5 := hid_of ho5; have HB5 := hid_of (HK.out.trans (hb5.mono HK.out.size)); have hz5 := HK.out.size; obtain ⟨t0, t1, t2, t3, t4, t5, t6, t7, t8, tl⟩ := HX.out.keep HB5.out; clear ho5 hb5))
 all_goals
  go_wp2
  go_ret
  have hz1 := HW.out.size
  exact ⟨_, _, rfl, HO5.out.low (by omega), HW.out.trans (HB5.out.mono hz1)⟩
set_option maxHeartbeats 8000000 in
theorem iTake (o r a x n fr : Int) (ss : Option Addr) (sl sc pb : Nat) (rm b : Int) (w : World) (h : CB w pb b) : Calls Tryz.prog 145 #[.agg #[.int .i64 o, .int .i64 r, .int .i64 a, .int .i64 x, .int .i64 n, .int .i64 fr, .slice ss sl sc, .func (.func 122) #[] #[.pointer (some ⟨pb, 0, none⟩)], .int .i64 rm]] w fun e w' => ∃ g c, e = .returned (.slice (some ⟨g, 0, none⟩) 30 c) ∧ OwnT5 w' w.heap.size (.slice (some ⟨g, 0, none⟩) 30 c) (togL fr [lockR b, takenR b r rm, roundT, keepT b x, noneT b r x 0, [⟨10, 0, 0, 0, 0⟩]] [lockR b, takenR b r rm, roundT, keepT b x, noneT b r x 0, [⟨10, 0, 0, 0, 0⟩]]) ∧ Below w.heap.size w w' := by
 obtain ⟨W, hW, hx, hb, hz⟩ := SX.new w (.int .i64 o) (.int .i64 r) (.int .i64 a) (.int .i64 x) (.int .i64 n) (.int .i64 fr) (.slice ss sl sc) (.func (.func 122) #[] #[.pointer (some ⟨pb, 0, none⟩)]) (.int .i64 rm) 127
 have HC : Hid (CB W pb b) := h.keep hb
 have HX := hid_of hx
 have HW : Hid (Below w.heap.size w W) := hb
 have HK : Hid (Below W.heap.size W W) := Below.refl _ _
 clear h hx hb
 obtain ⟨t0, t1, t2, t3, t4, t5, t6, t7, t8, tl⟩ := HX.out
 go_enter Tryz.func145, Tryz.ntmps145
 go_wp2_with fail
 go_region_held3 (fun w' => w'.cell? ⟨w.heap.size, 0, none⟩ = some (.int .i64 o) ∧ w'.cell? ⟨w.heap.size, 1, none⟩ = some (.int .i64 r) ∧ w'.cell? ⟨w.heap.size, 2, none⟩ = some (.int .i64 a) ∧ w'.cell? ⟨w.heap.size, 3, none⟩ = some (.int .i64 x) ∧ w'.cell? ⟨w.heap.size, 4, none⟩ = some (.int .i64 n) ∧ w'.cell? ⟨w.heap.size, 5, none⟩ = some (.int .i64 fr) ∧ w'.cell? ⟨w.heap.size, 6, none⟩ = some (.slice ss sl sc) ∧ w'.cell? ⟨w.heap.size, 7, none⟩ = some (.func (.func 122) #[] #[.pointer (some ⟨pb, 0, none⟩)]) ∧ w'.cell? ⟨w.heap.size, 8, none⟩ = some (.int .i64 rm)) (go_keep) (first | (go_at_call 162; refine (iJump _ _).mono ?_; rintro e w1 ⟨rfl, hb1⟩; have JK : Hid (Below W.heap.size W w1) := (by first | exact HK.out.trans (hb1.mono HK.out.size) | exact HK.out.drew.trans (hb1.mono HK.out.drew.size)); clear HK; have HK := JK; clear JK hb1; obtain ⟨t0, t1, t2, t3, t4, t5, t6, t7, t8, tl⟩ := HX.out.keep HK.out) | (go_at_call 163; refine calls_new [⟨10, 0, 0, 0, 0⟩] W.heap.size 1 rfl rfl (by omega) HK.out.size ?_; intro Wn hon hbn hzn; have JK : Hid (Below W.heap.size W Wn) := HK.out.trans (hbn.mono HK.out.size); clear HK; have HK := JK; clear JK; refine (iTake1 o r a x n fr ss sl sc pb rm b _ _ _ Wn (HC.out.keep HK.out) hon).mono ?_; clear hon hbn hzn; rintro e w5 ⟨g5, c5, rfl, ho5, hb5⟩; have HO5 := hid_of ho5; have HB5 := hid_of (HK.out.trans (hb5.mono HK.out.size)); have hz5 := HK.out.size; obtain ⟨t0, t1, t2, t3, t4, t5, t6, t7, t8, tl⟩ := HX.out.keep HB5.out; clear ho5 hb5))
 all_goals
  go_wp2
  go_ret
  have hz1 := HW.out.size
  exact ⟨_, _, rfl, HO5.out.low (by omega), HW.out.trans (HB5.out.mono hz1)⟩
set_option maxHeartbeats 8000000 in
theorem iSend (o r a x n fr : Int) (ss : Option Addr) (sl sc pb : Nat) (rm b : Int) (w : World) (h : CB w pb b) : Calls Tryz.prog 144 #[.agg #[.int .i64 o, .int .i64 r, .int .i64 a, .int .i64 x, .int .i64 n, .int .i64 fr, .slice ss sl sc, .func (.func 122) #[] #[.pointer (some ⟨pb, 0, none⟩)], .int .i64 rm]] w fun e w' => ∃ g c, e = .returned (.slice (some ⟨g, 0, none⟩) 29 c) ∧ OwnT5 w' w.heap.size (.slice (some ⟨g, 0, none⟩) 29 c) (togL fr [lockR b, askR b 3, faultR b, openR b rm, roundR, putR b a ++ (letR b ++ [⟨10, 0, 0, 0, -1⟩]), letR b ++ [⟨10, 0, 0, 0, 0⟩]] [lockR b, askR b 3, faultR b, openR b rm, roundR, putR b a ++ (letR b ++ [⟨10, 0, 0, 0, -1⟩]), letR b ++ [⟨10, 0, 0, 0, 0⟩]]) ∧ Below w.heap.size w w' := by
 obtain ⟨W, hW, hx, hb, hz⟩ := SX.new w (.int .i64 o) (.int .i64 r) (.int .i64 a) (.int .i64 x) (.int .i64 n) (.int .i64 fr) (.slice ss sl sc) (.func (.func 122) #[] #[.pointer (some ⟨pb, 0, none⟩)]) (.int .i64 rm) 127
 have HC : Hid (CB W pb b) := h.keep hb
 have HX := hid_of hx
 have HW : Hid (Below w.heap.size w W) := hb
 have HK : Hid (Below W.heap.size W W) := Below.refl _ _
 clear h hx hb
 obtain ⟨t0, t1, t2, t3, t4, t5, t6, t7, t8, tl⟩ := HX.out
 go_enter Tryz.func144, Tryz.ntmps144
 go_wp2_with fail
 go_region_held3 (fun w' => w'.cell? ⟨w.heap.size, 0, none⟩ = some (.int .i64 o) ∧ w'.cell? ⟨w.heap.size, 1, none⟩ = some (.int .i64 r) ∧ w'.cell? ⟨w.heap.size, 2, none⟩ = some (.int .i64 a) ∧ w'.cell? ⟨w.heap.size, 3, none⟩ = some (.int .i64 x) ∧ w'.cell? ⟨w.heap.size, 4, none⟩ = some (.int .i64 n) ∧ w'.cell? ⟨w.heap.size, 5, none⟩ = some (.int .i64 fr) ∧ w'.cell? ⟨w.heap.size, 6, none⟩ = some (.slice ss sl sc) ∧ w'.cell? ⟨w.heap.size, 7, none⟩ = some (.func (.func 122) #[] #[.pointer (some ⟨pb, 0, none⟩)]) ∧ w'.cell? ⟨w.heap.size, 8, none⟩ = some (.int .i64 rm)) (go_keep) (first | (go_at_call 162; (with_reducible refine is_alloc ?_); refine calls_new ([⟨10, 0, 0, 0, -1⟩]) W.heap.size 1 rfl rfl (by omega) HK.out.size ?_; intro Wn hon hbn hzn; have JK := hid_of (HK.out.trans (hbn.mono HK.out.size)); clear HK; have HK := JK; clear JK; have HA := hid_of hon; clear hon hbn hzn; refine (iJump _ _).mono ?_; rintro e w1 ⟨rfl, hb1⟩; have J0 := hid_of (HA.out.keep hb1); clear HA; have HA := J0; clear J0; have JK : Hid (Below W.heap.size W w1) := (by first | exact HK.out.trans (hb1.mono HK.out.size) | exact HK.out.drew.trans (hb1.mono HK.out.drew.size)); clear HK; have HK := JK; clear JK hb1; obtain ⟨t0, t1, t2, t3, t4, t5, t6, t7, t8, tl⟩ := HX.out.keep HK.out) | (go_at_call 162; refine (iJump _ _).mono ?_; rintro e w1 ⟨rfl, hb1⟩; have JK : Hid (Below W.heap.size W w1) := (by first | exact HK.out.trans (hb1.mono HK.out.size) | exact HK.out.drew.trans (hb1.mono HK.out.drew.size)); clear HK; have HK := JK; clear JK hb1; obtain ⟨t0, t1, t2, t3, t4, t5, t6, t7, t8, tl⟩ := HX.out.keep HK.out) | (go_at_call 161; (first | ((with_reducible refine is_alloc2 ?_); refine calls_new [⟨10, 0, 0, 0, 0⟩] W.heap.size 1 rfl rfl (by omega) (by have := HK.out.size; simp; omega) ?_; intro Wn hon hbn hzn; simp only [World.size_alloc] at hon; have ha0 := own5_new (w := w1) (base := W.heap.size) [⟨10, 0, 0, 0, -1⟩] #[.int .i64 10, .int .i64 0, .int .i64 0, .int .i64 0, .int .i64 (-1)] rfl HK.out.size (Nat.le_of_ble_eq_true rfl); have HA := hid_of (ha0.keep hbn); have HZ := hid_of hon; have JK := hid_of ((HK.out.alloc HK.out.size _).trans (hbn.mono (by have := HK.out.size; simp; omega))); clear HK ha0; have HK := JK; clear JK) | ((with_reducible refine is_alloc2 ?_); refine calls_new [⟨10, 0, 0, 0, -1⟩] W.heap.size 1 rfl rfl (by omega) (by have := HK.out.size; simp; omega) ?_; intro Wn hon hbn hzn; simp only [World.size_alloc] at hon; have ha0 := own5_new (w := w1) (base := W.heap.size) [⟨10, 0, 0, 0, 0⟩] #[.int .i64 10, .int .i64 0, .int .i64 0, .int .i64 0, .int .i64 0] rfl HK.out.size (Nat.le_of_ble_eq_true rfl); have HZ := hid_of (ha0.keep hbn); have HA := hid_of hon; have JK := hid_of ((HK.out.alloc HK.out.size _).trans (hbn.mono (by have := HK.out.size; simp; omega))); clear HK ha0; have HK := JK; clear JK) | ((with_reducible refine is_alloc ?_); refine calls_new ([⟨10, 0, 0, 0, 0⟩]) W.heap.size 1 rfl rfl (by omega) HK.out.size ?_; intro Wn hon hbn hzn; have JK := hid_of (HK.out.trans (hbn.mono HK.out.size)); clear HK; have HK := JK; clear JK; have J0 := hid_of (HA.out.keep hbn); clear HA; have HA := J0; clear J0; have HZ := hid_of hon)); refine (iPut1 o r a x n fr ss sl sc pb rm b _ _ _ _ _ _ Wn (HC.out.keep HK.out) HA.out HZ.out).mono ?_; clear hon hbn hzn; rintro e w5 ⟨g5, c5, rfl, ho5, hb5⟩; have HO5 := hid_of ho5; have HB5 := hid_of (HK.out.trans (hb5.mono HK.out.size)); have hz5 := HK.out.size; obtain ⟨t0, t1, t2, t3, t4, t5, t6, t7, t8, tl⟩ := HX.out.keep HB5.out; clear ho5 hb5))
 all_goals
  go_wp2
  go_ret
  have hz1 := HW.out.size
  exact ⟨_, _, rfl, HO5.out.low (by omega), HW.out.trans (HB5.out.mono hz1)⟩
set_option maxHeartbeats 8000000 in
theorem iShut (o r a x n fr : Int) (ss : Option Addr) (sl sc pb : Nat) (rm b : Int) (w : World) (h : CB w pb b) : Calls Tryz.prog 148 #[.agg #[.int .i64 o, .int .i64 r, .int .i64 a, .int .i64 x, .int .i64 n, .int .i64 fr, .slice ss sl sc, .func (.func 122) #[] #[.pointer (some ⟨pb, 0, none⟩)], .int .i64 rm]] w fun e w' => ∃ g c, e = .returned (.slice (some ⟨g, 0, none⟩) 13 c) ∧ OwnT5 w' w.heap.size (.slice (some ⟨g, 0, none⟩) 13 c) (togL fr [lockR b, askR b 3, faultR b, [⟨1, 7, 0, 0, 1⟩, ⟨6, 0, -1, 7, b + 3⟩] ++ letR b] [lockR b, askR b 3, faultR b, [⟨1, 7, 0, 0, 1⟩, ⟨6, 0, -1, 7, b + 3⟩] ++ letR b]) ∧ Below w.heap.size w w' := by
 obtain ⟨W, hW, hx, hb, hz⟩ := SX.new w (.int .i64 o) (.int .i64 r) (.int .i64 a) (.int .i64 x) (.int .i64 n) (.int .i64 fr) (.slice ss sl sc) (.func (.func 122) #[] #[.pointer (some ⟨pb, 0, none⟩)]) (.int .i64 rm) 127
 have HC : Hid (CB W pb b) := h.keep hb
 have HX := hid_of hx
 have HW : Hid (Below w.heap.size w W) := hb
 have HK : Hid (Below W.heap.size W W) := Below.refl _ _
 clear h hx hb
 obtain ⟨t0, t1, t2, t3, t4, t5, t6, t7, t8, tl⟩ := HX.out
 go_enter Tryz.func148, Tryz.ntmps148
 go_wp2_with fail
 go_region_held3 (fun w' => w'.cell? ⟨w.heap.size, 0, none⟩ = some (.int .i64 o) ∧ w'.cell? ⟨w.heap.size, 1, none⟩ = some (.int .i64 r) ∧ w'.cell? ⟨w.heap.size, 2, none⟩ = some (.int .i64 a) ∧ w'.cell? ⟨w.heap.size, 3, none⟩ = some (.int .i64 x) ∧ w'.cell? ⟨w.heap.size, 4, none⟩ = some (.int .i64 n) ∧ w'.cell? ⟨w.heap.size, 5, none⟩ = some (.int .i64 fr) ∧ w'.cell? ⟨w.heap.size, 6, none⟩ = some (.slice ss sl sc) ∧ w'.cell? ⟨w.heap.size, 7, none⟩ = some (.func (.func 122) #[] #[.pointer (some ⟨pb, 0, none⟩)]) ∧ w'.cell? ⟨w.heap.size, 8, none⟩ = some (.int .i64 rm)) (go_keep) (first | (go_at_call 159; refine (iSet _ _ _).mono ?_; rintro e w1 ⟨rfl, hb1⟩; have JK : Hid (Below W.heap.size W w1) := (by first | exact HK.out.trans (hb1.mono HK.out.size) | exact HK.out.drew.trans (hb1.mono HK.out.drew.size)); clear HK; have HK := JK; clear JK hb1; obtain ⟨t0, t1, t2, t3, t4, t5, t6, t7, t8, tl⟩ := HX.out.keep HK.out) | (go_at_call 171; refine (iZero _ _ _).mono ?_; rintro e w1 ⟨rfl, hb1⟩; have JK : Hid (Below W.heap.size W w1) := (by first | exact HK.out.trans (hb1.mono HK.out.size) | exact HK.out.drew.trans (hb1.mono HK.out.drew.size)); clear HK; have HK := JK; clear JK hb1; obtain ⟨t0, t1, t2, t3, t4, t5, t6, t7, t8, tl⟩ := HX.out.keep HK.out) | (go_at_call 162; refine (iJump _ _).mono ?_; rintro e w1 ⟨rfl, hb1⟩; have JK : Hid (Below W.heap.size W w1) := (by first | exact HK.out.trans (hb1.mono HK.out.size) | exact HK.out.drew.trans (hb1.mono HK.out.drew.size)); clear HK; have HK := JK; clear JK hb1; obtain ⟨t0, t1, t2, t3, t4, t5, t6, t7, t8, tl⟩ := HX.out.keep HK.out) | (go_at_call 174; refine (iAdd _ _ _).mono ?_; rintro e w1 ⟨rfl, hb1⟩; have JK : Hid (Below W.heap.size W w1) := (by first | exact HK.out.trans (hb1.mono HK.out.size) | exact HK.out.drew.trans (hb1.mono HK.out.drew.size)); clear HK; have HK := JK; clear JK hb1; obtain ⟨t0, t1, t2, t3, t4, t5, t6, t7, t8, tl⟩ := HX.out.keep HK.out) | (go_at_call 175; refine (iSub _ _ _).mono ?_; rintro e w1 ⟨rfl, hb1⟩; have JK : Hid (Below W.heap.size W w1) := (by first | exact HK.out.trans (hb1.mono HK.out.size) | exact HK.out.drew.trans (hb1.mono HK.out.drew.size)); clear HK; have HK := JK; clear JK hb1; obtain ⟨t0, t1, t2, t3, t4, t5, t6, t7, t8, tl⟩ := HX.out.keep HK.out) | (go_at_call 160; refine (iLess _ _ _ _).mono ?_; rintro e w1 ⟨rfl, hb1⟩; have JK : Hid (Below W.heap.size W w1) := (by first | exact HK.out.trans (hb1.mono HK.out.size) | exact HK.out.drew.trans (hb1.mono HK.out.drew.size)); clear HK; have HK := JK; clear JK hb1; obtain ⟨t0, t1, t2, t3, t4, t5, t6, t7, t8, tl⟩ := HX.out.keep HK.out) | (go_at_call 173; refine (iLoad o r a x n fr ss sl sc pb rm b _ _ (by omega) _ (by first | exact HC.out.keep HK.out | exact HC.out.keep HK.out.drew)).mono ?_; rintro e w1 ⟨rfl, hb1⟩; have JK : Hid (Below W.heap.size W w1) := (by first | exact HK.out.trans (hb1.mono HK.out.size) | exact HK.out.drew.trans (hb1.mono HK.out.drew.size)); clear HK; have HK := JK; clear JK hb1; obtain ⟨t0, t1, t2, t3, t4, t5, t6, t7, t8, tl⟩ := HX.out.keep HK.out) | (go_at_call 166; refine (iStore o r a x n fr ss sl sc pb rm b _ _ (by omega) _ (by first | exact HC.out.keep HK.out | exact HC.out.keep HK.out.drew)).mono ?_; rintro e w1 ⟨rfl, hb1⟩; have JK : Hid (Below W.heap.size W w1) := (by first | exact HK.out.trans (hb1.mono HK.out.size) | exact HK.out.drew.trans (hb1.mono HK.out.drew.size)); clear HK; have HK := JK; clear JK hb1; obtain ⟨t0, t1, t2, t3, t4, t5, t6, t7, t8, tl⟩ := HX.out.keep HK.out) | (go_at_call 178; refine (iLoadN o r a x n fr ss sl sc pb rm b _  _ (by first | exact HC.out.keep HK.out | exact HC.out.keep HK.out.drew)).mono ?_; rintro e w1 ⟨rfl, hb1⟩; have JK : Hid (Below W.heap.size W w1) := (by first | exact HK.out.trans (hb1.mono HK.out.size) | exact HK.out.drew.trans (hb1.mono HK.out.drew.size)); clear HK; have HK := JK; clear JK hb1; obtain ⟨t0, t1, t2, t3, t4, t5, t6, t7, t8, tl⟩ := HX.out.keep HK.out) | (go_at_call 176; refine (iStoreN o r a x n fr ss sl sc pb rm b _  _ (by first | exact HC.out.keep HK.out | exact HC.out.keep HK.out.drew)).mono ?_; rintro e w1 ⟨rfl, hb1⟩; have JK : Hid (Below W.heap.size W w1) := (by first | exact HK.out.trans (hb1.mono HK.out.size) | exact HK.out.drew.trans (hb1.mono HK.out.drew.size)); clear HK; have HK := JK; clear JK hb1; obtain ⟨t0, t1, t2, t3, t4, t5, t6, t7, t8, tl⟩ := HX.out.keep HK.out))
 first | refine name5 (P := Exit.then _ _ _ _) ([⟨1, 7, 0, 0, 1⟩, ⟨6, 0, -1, 7, b + 3⟩]) W.heap.size 2 rfl rfl (by omega) HK.out.size ?_ | refine name5 (P := Code.wp _ _ _ _) ([⟨1, 7, 0, 0, 1⟩, ⟨6, 0, -1, 7, b + 3⟩]) W.heap.size 2 rfl rfl (by omega) HK.out.size ?_
 intro W1 ho hb hz
 obtain ⟨gHPO, hg⟩ : ∃ g, w1.heap.size = g := ⟨_, rfl⟩
 rw [hg] at ho ⊢
 obtain ⟨cHPO, hc⟩ : ∃ c : Nat, c = 2 := ⟨_, rfl⟩
 clear hg hz hc
 have HPO := hid_of ho
 have JK : Hid (Below W.heap.size W W1) := HK.out.trans (hb.mono HK.out.size)
 clear HK ho hb
 have HK := JK
 clear JK
 obtain ⟨t0, t1, t2, t3, t4, t5, t6, t7, t8, tl⟩ := HX.out.keep HK.out
 go_wp2_with fail
 have hgo := HPO.out.lt.2
 go_region_held3 (fun w' => w'.cell? ⟨w.heap.size, 0, none⟩ = some (.int .i64 o) ∧ w'.cell? ⟨w.heap.size, 1, none⟩ = some (.int .i64 r) ∧ w'.cell? ⟨w.heap.size, 2, none⟩ = some (.int .i64 a) ∧ w'.cell? ⟨w.heap.size, 3, none⟩ = some (.int .i64 x) ∧ w'.cell? ⟨w.heap.size, 4, none⟩ = some (.int .i64 n) ∧ w'.cell? ⟨w.heap.size, 5, none⟩ = some (.int .i64 fr) ∧ w'.cell? ⟨w.heap.size, 6, none⟩ = some (.slice ss sl sc) ∧ w'.cell? ⟨w.heap.size, 7, none⟩ = some (.func (.func 122) #[] #[.pointer (some ⟨pb, 0, none⟩)]) ∧ w'.cell? ⟨w.heap.size, 8, none⟩ = some (.int .i64 rm)) (go_keep) (first | (go_at_call 168; refine (iAsk o r a x n fr ss sl sc pb rm b 3 _ (by first | exact HC.out.keep HK.out | exact HC.out.keep HK.out.drew)).mono ?_; rintro e w1 ⟨gA, cA, rfl, hoA, hb1⟩; have hA : gHPO < gA := Nat.lt_of_lt_of_le hgo hoA.lt.1; have HA := hid_of (Row5.of hoA); clear hoA; have J0 := hid_of (HPO.out.keep (by first | exact hb1 | exact (Below.drew (Below.refl _ _)).trans hb1)); clear HPO; have HPO := J0; clear J0; have hgo := HPO.out.lt.2; have JK : Hid (Below W.heap.size W w1) := (by first | exact HK.out.trans (hb1.mono HK.out.size) | exact HK.out.drew.trans (hb1.mono HK.out.drew.size)); clear HK; have HK := JK; clear JK hb1; obtain ⟨t0, t1, t2, t3, t4, t5, t6, t7, t8, tl⟩ := HX.out.keep HK.out) | (go_at_call 169; refine (iFault o r a x n fr ss sl sc pb rm b _ (by first | exact HC.out.keep HK.out | exact HC.out.keep HK.out.drew)).mono ?_; rintro e w1 ⟨gE, cE, rfl, hoE, hb1⟩; have hE : gHPO < gE := Nat.lt_of_lt_of_le hgo hoE.lt.1; have HE := hid_of (Row5.of hoE); clear hoE; have J0 := hid_of (HPO.out.keep (by first | exact hb1 | exact (Below.drew (Below.refl _ _)).trans hb1)); clear HPO; have HPO := J0; clear J0; have J0 := hid_of (HA.out.keep (by first | exact hb1 | exact (Below.drew (Below.refl _ _)).trans hb1)); clear HA; have HA := J0; clear J0; have hgo := HPO.out.lt.2; have JK : Hid (Below W.heap.size W w1) := (by first | exact HK.out.trans (hb1.mono HK.out.size) | exact HK.out.drew.trans (hb1.mono HK.out.drew.size)); clear HK; have HK := JK; clear JK hb1; obtain ⟨t0, t1, t2, t3, t4, t5, t6, t7, t8, tl⟩ := HX.out.keep HK.out) | (go_at_call 170; refine (iLetGo o r a x n fr ss sl sc pb rm b _ (by first | exact HC.out.keep HK.out | exact HC.out.keep HK.out.drew)).mono ?_; rintro e w1 ⟨g1, c1, rfl, ho1, hb1⟩; have HG := hid_of ho1; clear ho1; have J0 := hid_of (HPO.out.keep (by first | exact hb1 | exact (Below.drew (Below.refl _ _)).trans hb1)); clear HPO; have HPO := J0; clear J0; have J0 := hid_of (HA.out.keep (by first | exact hb1 | exact (Below.drew (Below.refl _ _)).trans hb1)); clear HA; have HA := J0; clear J0; have J0 := hid_of (HE.out.keep (by first | exact hb1 | exact (Below.drew (Below.refl _ _)).trans hb1)); clear HE; have HE := J0; clear J0; have JK : Hid (Below W.heap.size W w1) := (by first | exact HK.out.trans (hb1.mono HK.out.size) | exact HK.out.drew.trans (hb1.mono HK.out.drew.size)); clear HK; have HK := JK; clear JK hb1; obtain ⟨t0, t1, t2, t3, t4, t5, t6, t7, t8, tl⟩ := HX.out.keep HK.out) | (refine step5f rfl _ _ rfl w1 W.heap.size (.slice (some ⟨gHPO, 0, none⟩) 2 2) [⟨1, 7, 0, 0, 1⟩, ⟨6, 0, -1, 7, b + 3⟩] rfl HPO.out _ g1 2 c1 (letR b) rfl HG.out rfl (by omega) (by first | exact Nat.le_of_ble_eq_true rfl | decide) 4 rfl HK.out.size ?_; intro gQ cQ w2 ho2 hb2 hf2; have JK : Hid (Below W.heap.size W w2) := HK.out.trans hb2; clear HK; have HK := JK; clear JK; have HQ := hid_of (Row5.of ho2); have J0 := hid_of (HA.out.far (show gA ≠ gHPO by omega) hf2); clear HA; have HA := J0; clear J0; have J0 := hid_of (HE.out.far (show gE ≠ gHPO by omega) hf2); clear HE; have HE := J0; clear J0 ho2 hb2 hf2; obtain ⟨t0, t1, t2, t3, t4, t5, t6, t7, t8, tl⟩ := HX.out.keep HK.out) | (go_at_call 167; refine (iUnder o r a x n fr ss sl sc pb rm b w2.heap.size 3 [⟨gA, cA, askR b 3⟩, ⟨gE, cE, faultR b⟩, ⟨gQ, cQ, [⟨1, 7, 0, 0, 1⟩, ⟨6, 0, -1, 7, b + 3⟩] ++ letR b⟩] _ ((HC.out.keep HK.out).keep ((Below.refl _ _).alloc (Nat.le_refl _) _)) (parts_new w2 _ _ rfl (fun y hy => by simp only [List.mem_cons, List.not_mem_nil, or_false] at hy; rcases hy with rfl | rfl | rfl; (exact HA.out); (exact HE.out); (exact HQ.out))) (by first | exact Nat.le_of_ble_eq_true rfl | decide) (by first | exact Nat.le_of_ble_eq_true rfl | decide) (by first | exact Nat.le_of_ble_eq_true rfl | decide) (jOk_of (fun y hy => by simp only [List.mem_cons, List.not_mem_nil, or_false] at hy; rcases hy with rfl | rfl | rfl <;> simp [jOk, isJ, askR, faultR, letR])) 13 rfl).mono ?_; rintro e w5 ⟨g5, c5, rfl, ho5, hb5⟩; have hb6 : Below w2.heap.size w2 w5 := ((Below.refl _ _).alloc (Nat.le_refl _) _).trans (hb5.mono (by simp)); have HO5 := hid_of ho5; have HB5 : Hid (Below W.heap.size W w5) := HK.out.trans (hb6.mono HK.out.size); have hz5 := HK.out.size; obtain ⟨t0, t1, t2, t3, t4, t5, t6, t7, t8, tl⟩ := HX.out.keep HB5.out; clear ho5 hb5 hb6))
 go_wp2
 go_ret
 have hz1 := HW.out.size
 exact ⟨_, _, rfl, HO5.out.low (by simp; omega), HW.out.trans (HB5.out.mono hz1)⟩
end Go.Proofs.YtehjbpjjegajjaaGreat
