/- A row behind what lets a lock go; what faults. Conditions: the channel lies in memory, and the row is of at most a hundred steps. -/
import Derived.Test.YtjnfmecfpjchnaaGreatE10Lock
namespace Go.Proofs.YtjnfmecfpjchnaaGreat
set_option linter.unusedSimpArgs false
set_option linter.unusedVariables false
set_option maxRecDepth 100000
open Go.RowKit

set_option maxHeartbeats 2000000 in
theorem iLetThen (o r a x n fr : Int) (ss : Option Addr) (sl sc pb : Nat) (rm b : Int) (gt nt ct bt : Nat) (L : List I5) (w : World) (h : CBx w pb b) (hL : OwnT5 w bt (.slice (some ⟨gt, 0, none⟩) nt ct) L) (hn0 : 0 < nt) (hn : nt ≤ 100) (N : Nat) (hN : nt + 2 = N) : Calls Tryz.prog 93 #[.agg #[.int .i64 o, .int .i64 r, .int .i64 a, .int .i64 x, .int .i64 n, .int .i64 fr, .slice ss sl sc, .func (.func 49) #[] #[.pointer (some ⟨pb, 0, none⟩)], .int .i64 rm], .slice (some ⟨gt, 0, none⟩) nt ct] w fun e w' => ∃ g c, e = .returned (.slice (some ⟨g, 0, none⟩) N c) ∧ OwnT5 w' w.heap.size (.slice (some ⟨g, 0, none⟩) N c) (letR b ++ L) ∧ Below w.heap.size w w' := by
  have hlen : L.length = nt := hL.len.symm
  have HL0 : Hid (OwnT5 w bt (.slice (some ⟨gt, 0, none⟩) nt ct) L) := hL
  have HLN : Hid (L.length = nt) := hlen
  clear hL hlen
  obtain ⟨W, hW, hx, hb, hz⟩ := SX.new w (.int .i64 o) (.int .i64 r) (.int .i64 a) (.int .i64 x) (.int .i64 n) (.int .i64 fr) (.slice ss sl sc) (.func (.func 49) #[] #[.pointer (some ⟨pb, 0, none⟩)]) (.int .i64 rm) 47
  have HC : Hid (CBx W pb b) := h.keep hb
  have HX := hid_of hx
  have HW : Hid (Below w.heap.size w W) := hb
  have HK : Hid (Below W.heap.size W W) := Below.refl _ _
  clear h hx hb
  obtain ⟨t0, t1, t2, t3, t4, t5, t6, t7, t8, tl⟩ := HX.out
  have HL : Hid (OwnT5 W bt (.slice (some ⟨gt, 0, none⟩) nt ct) L) := HL0.out.keep HW.out
  clear HL0
  go_enter Tryz.func93, Tryz.ntmps93
  have hwz := HW.out.size
  go_wp2_with (first | (go_at_call 87; refine (iLetGo o r a x n fr ss sl sc pb rm b _ (by first | exact HC.out.keep HK.out | exact HC.out.keep HK.out.drew)).mono ?_; rintro e w1 ⟨g1, c1, rfl, ho1, hb1⟩; have HO1 := hid_of ho1; have HL1 := hid_of (HL.out.keep hb1); have hz1 := hb1.size; have HB1 := hid_of hb1; clear ho1 hb1) | (at_builtin; refine app5 rfl _ _ rfl w1 W.heap.size (.slice (some ⟨g1, 0, none⟩) 2 c1) (letR b) rfl HO1.out bt gt nt ct L rfl HL1.out HLN.out hn0 (by show 2 + nt ≤ 1000; omega) N (by show 2 + nt = N; omega) (by omega) ?_; intro g2 c2 w2 ho2 hb2; have HO2 := hid_of ho2; have HB2 := hid_of hb2; clear ho2 hb2))
  go_ret
  exact ⟨_, _, rfl, HO2.out.low (by omega), (HW.out.trans (HB1.out.mono (by omega))).trans (HB2.out.mono (by omega))⟩
theorem calls_new {f : Nat} {args : Array Value} {w : World} {C : Array Value} {post : Ending → World → Prop} (L : List I5) (base n : Nat) (hC : C.toList = (fl5 L).map (Value.int .i64)) (hn : L.length = n) (hn' : n ≤ 1000) (hb : base ≤ w.heap.size)
    (h : ∀ W, OwnT5 W base (.slice (some ⟨w.heap.size, 0, none⟩) n n) L → Below w.heap.size w W → W.heap.size = w.heap.size + 1 → Calls Tryz.prog f args W post) : Calls Tryz.prog f args (w.alloc (.cells C 35)) post := by
  subst hn
  exact h _ (own5_new L C hC hb hn') ((Below.refl _ _).alloc (Nat.le_refl _) _) (by simp)
set_option maxHeartbeats 2000000 in
theorem iFault (o r a x n fr : Int) (ss : Option Addr) (sl sc pb : Nat) (rm b : Int) (w : World) (h : CBx w pb b) : Calls Tryz.prog 86 #[.agg #[.int .i64 o, .int .i64 r, .int .i64 a, .int .i64 x, .int .i64 n, .int .i64 fr, .slice ss sl sc, .func (.func 49) #[] #[.pointer (some ⟨pb, 0, none⟩)], .int .i64 rm]] w fun e w' => ∃ g c, e = .returned (.slice (some ⟨g, 0, none⟩) 3 c) ∧ OwnT5 w' w.heap.size (.slice (some ⟨g, 0, none⟩) 3 c) (faultR b) ∧ Below w.heap.size w w' := by
  obtain ⟨W, hW, hx, hb, hz⟩ := SX.new w (.int .i64 o) (.int .i64 r) (.int .i64 a) (.int .i64 x) (.int .i64 n) (.int .i64 fr) (.slice ss sl sc) (.func (.func 49) #[] #[.pointer (some ⟨pb, 0, none⟩)]) (.int .i64 rm) 47
  have HC : Hid (CBx W pb b) := h.keep hb
  have HX := hid_of hx
  have HW : Hid (Below w.heap.size w W) := hb
  have HK : Hid (Below W.heap.size W W) := Below.refl _ _
  clear h hx hb
  obtain ⟨t0, t1, t2, t3, t4, t5, t6, t7, t8, tl⟩ := HX.out
  go_enter Tryz.func86, Tryz.ntmps86
  have hwz := HW.out.size
  go_wp2_with (go_at_call 93; refine calls_new [⟨13, 0, 0, 0, 0⟩] W.heap.size 1 rfl rfl (by omega) (Nat.le_refl _) ?_; intro W2 ho2 hb2 hz2; refine (iLetThen o r a x n fr ss sl sc pb rm b _ 1 _ W.heap.size [⟨13, 0, 0, 0, 0⟩] _ (HC.out.keep hb2) ho2 (by omega) (by omega) 3 rfl).mono ?_; rintro e w1 ⟨g1, c1, rfl, ho1, hb1⟩; have HO1 := hid_of ho1; have HB2 := hid_of hb2; have HB1 := hid_of hb1; have HZ2 := hid_of hz2; clear ho1 hb1 ho2 hb2 hz2)
  go_ret
  have hz2 := HZ2.out
  exact ⟨_, _, rfl, HO1.out.low (by omega), (HW.out.trans (HB2.out.mono (by omega))).trans (HB1.out.mono (by omega))⟩

end Go.Proofs.YtjnfmecfpjchnaaGreat
