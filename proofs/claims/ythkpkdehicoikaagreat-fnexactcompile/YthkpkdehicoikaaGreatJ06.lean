/- The plain side of chapter 1, kind by kind: a place is right just if what is not named is 0, the channels are so many, and what is named is right. No condition. InsOk of the program, whatever kind of place it makes: under contracts of placeOf, of the place's method and of placeOk it answers as they say; it makes memory, and turns none. -/
import Derived.Test.YthkpkdehicoikaaGreatJ00
import Derived.Test.YthkpkdehicoikaaGreatJ01
import Derived.Deep.RegionHeld3
namespace Go.Proofs.YthkpkdehicoikaaGreat
section
set_option linter.unusedSimpArgs false
set_option linter.unusedVariables false
set_option maxRecDepth 100000
namespace Plain

theorem insB_1 (r a b n pl ch : Int) : insB 1 r a b n pl ch = (decide (a = 0 ∧ b = 0) && (chansB ch && (regB r && numB n))) := by
  rw [Bool.eq_iff_iff]
  simp [insB, chansB, regB, numB, oneB, areB, takesB]
  try omega

theorem insB_2 (r a b n pl ch : Int) : insB 2 r a b n pl ch = (decide (n = 0) && (chansB ch && (areB r a b))) := by
  rw [Bool.eq_iff_iff]
  simp [insB, chansB, regB, numB, oneB, areB, takesB]
  try omega

theorem insB_3 (r a b n pl ch : Int) : insB 3 r a b n pl ch = (decide (n = 0) && (chansB ch && (areB r a b))) := by
  rw [Bool.eq_iff_iff]
  simp [insB, chansB, regB, numB, oneB, areB, takesB]
  try omega

theorem insB_4 (r a b n pl ch : Int) : insB 4 r a b n pl ch = (decide (n = 0) && (chansB ch && (areB r a b))) := by
  rw [Bool.eq_iff_iff]
  simp [insB, chansB, regB, numB, oneB, areB, takesB]
  try omega

theorem insB_5 (r a b n pl ch : Int) : insB 5 r a b n pl ch = (decide (r = 0 ∧ b = 0) && (chansB ch && (regB a && oneB n ch))) := by
  rw [Bool.eq_iff_iff]
  simp [insB, chansB, regB, numB, oneB, areB, takesB]
  try omega

theorem insB_6 (r a b n pl ch : Int) : insB 6 r a b n pl ch = (decide (a = 0) && (chansB ch && (takesB r b && oneB n ch))) := by
  rw [Bool.eq_iff_iff]
  simp [insB, chansB, regB, numB, oneB, areB, takesB]
  try omega

theorem insB_7 (r a b n pl ch : Int) : insB 7 r a b n pl ch = (decide (b = 0) && (chansB ch && (regB r && regB a && oneB n ch))) := by
  rw [Bool.eq_iff_iff]
  simp [insB, chansB, regB, numB, oneB, areB, takesB]
  try omega

theorem insB_8 (r a b n pl ch : Int) : insB 8 r a b n pl ch = (decide (a = 0) && (chansB ch && (takesB r b && oneB n ch))) := by
  rw [Bool.eq_iff_iff]
  simp [insB, chansB, regB, numB, oneB, areB, takesB]
  try omega

theorem insB_9 (r a b n pl ch : Int) : insB 9 r a b n pl ch = (decide (r = 0 ∧ a = 0 ∧ b = 0) && (chansB ch && (oneB n ch))) := by
  rw [Bool.eq_iff_iff]
  simp [insB, chansB, regB, numB, oneB, areB, takesB]
  try omega

theorem insB_10 (r a b n pl ch : Int) : insB 10 r a b n pl ch = (decide (r = 0 ∧ b = 0 ∧ n = 0) && (chansB ch && (regB a))) := by
  rw [Bool.eq_iff_iff]
  simp [insB, chansB, regB, numB, oneB, areB, takesB]
  try omega

theorem insB_11 (r a b n pl ch : Int) : insB 11 r a b n pl ch = (decide (r = 0 ∧ a = 0 ∧ b = 0) && (chansB ch && (oneB n pl))) := by
  rw [Bool.eq_iff_iff]
  simp [insB, chansB, regB, numB, oneB, areB, takesB]
  try omega

theorem insB_12 (r a b n pl ch : Int) : insB 12 r a b n pl ch = (decide (r = 0 ∧ b = 0) && (chansB ch && (regB a && oneB n pl))) := by
  rw [Bool.eq_iff_iff]
  simp [insB, chansB, regB, numB, oneB, areB, takesB]
  try omega

theorem insB_13 (r a b n pl ch : Int) : insB 13 r a b n pl ch = (decide (r = 0 ∧ a = 0 ∧ b = 0 ∧ n = 0) && (chansB ch && (true))) := by
  rw [Bool.eq_iff_iff]
  simp [insB, chansB, regB, numB, oneB, areB, takesB]
  try omega

theorem insB_0 (op r a b n pl ch : Int) (h1 : (op == 1) = false) (h2 : (op == 2) = false) (h3 : (op == 3) = false) (h4 : (op == 4) = false) (h5 : (op == 5) = false) (h6 : (op == 6) = false) (h7 : (op == 7) = false) (h8 : (op == 8) = false) (h9 : (op == 9) = false) (h10 : (op == 10) = false) (h11 : (op == 11) = false) (h12 : (op == 12) = false) (h13 : (op == 13) = false) : insB op r a b n pl ch = false := by
  simp at h1 h2 h3 h4 h5 h6 h7 h8 h9 h10 h11 h12 h13
  simp [insB]
  omega

end Plain
end

section
set_option linter.unusedSimpArgs false
set_option linter.unusedVariables false
set_option maxRecDepth 100000
open Go.RowKit

set_option maxRecDepth 100000 in
set_option maxHeartbeats 1000000 in
theorem insOk_same (op r a b n pl ch : Int) (T : TypeId) (v : Value) (F : FuncId) (q : Bool) (w : World)
    (hp : Hid (∀ w, Calls Tryz.prog 81 #[.agg #[.int .i64 op, .int .i64 r, .int .i64 a, .int .i64 b, .int .i64 n]] w fun e w' => e = .returned (.iface T v) ∧ Below w.heap.size w w'))
    (hm : ∀ w, (method 274 T v "loop.example/g00238/impl.ins").run Tryz.prog w = .ok (F, v) w)
    (eg : ∀ args w, (callFunc F args).run Tryz.prog w = .ok (.enter F args) w)
    (hi : Hid (∀ w, Calls Tryz.prog F #[v] w fun e w' => e = .returned (.agg #[.int .i64 op, .int .i64 r, .int .i64 a, .int .i64 b, .int .i64 n]) ∧ Below w.heap.size w w'))
    (hk : Hid (∀ w, Calls Tryz.prog 82 #[.iface T v, .int .i64 pl, .int .i64 ch] w fun e w' => e = .returned (.bool q) ∧ Below w.heap.size w w')) :
    Calls Tryz.prog 70 #[.agg #[.int .i64 op, .int .i64 r, .int .i64 a, .int .i64 b, .int .i64 n], .int .i64 pl, .int .i64 ch] w fun e w' => e = .returned (.bool (Plain.chansB ch && q)) ∧ Below w.heap.size w w' := by
  have nn := neqN
  cases hch : Plain.chansB ch
  · go_enter Tryz.func70, Tryz.ntmps70
    go_wp2_with fail
    refine (hp.out _).mono ?_
    rintro e w1 ⟨rfl, hb1⟩
    obtain ⟨c0, c1, c2, c3, c4, hz⟩ := boxed5 hb1
    go_wp2_with fail
    first | go_region_with (first | (go_at_call 68; refine (areChans_is _ false _ hch).mono ?_; rintro e w' ⟨rfl, rfl⟩) | (with_reducible refine (hi.out _).mono ?_; rintro e w2 ⟨rfl, hb2⟩; obtain ⟨d0, d1, d2, d3, d4, hz2⟩ := carry5 hb2 hz c0 c1 c2 c3 c4)) | fail
    all_goals go_wp2
    all_goals go_ret
    all_goals exact ⟨rfl, (((Below.refl _ _).alloc (Nat.le_refl _) _).trans (hb1.mono (by simp))).trans ((Below.drew (Below.refl _ _)).trans (hb2.mono (by simp; omega)))⟩
  · go_enter Tryz.func70, Tryz.ntmps70
    go_wp2_with fail
    refine (hp.out _).mono ?_
    rintro e w1 ⟨rfl, hb1⟩
    obtain ⟨c0, c1, c2, c3, c4, hz⟩ := boxed5 hb1
    go_wp2_with fail
    first | go_region_with (first | (go_at_call 68; refine (areChans_is _ true _ hch).mono ?_; rintro e w' ⟨rfl, rfl⟩) | (go_at_call 82; refine (hk.out _).mono ?_; rintro e w3 ⟨rfl, hb3⟩) | (with_reducible refine (hi.out _).mono ?_; rintro e w2 ⟨rfl, hb2⟩; obtain ⟨d0, d1, d2, d3, d4, hz2⟩ := carry5 hb2 hz c0 c1 c2 c3 c4)) | fail
    all_goals go_wp2
    all_goals go_ret
    all_goals exact ⟨by rw [Bool.true_and]; rfl, ((((Below.refl _ _).alloc (Nat.le_refl _) _).trans (hb1.mono (by simp))).trans ((Below.drew (Below.refl _ _)).trans (hb2.mono (by simp; omega)))).trans (hb3.mono (by first | omega | (simp; omega)))⟩

set_option maxRecDepth 100000 in
set_option maxHeartbeats 1000000 in
theorem insOk_other (op r a b n r' a' b' n' pl ch : Int) (T : TypeId) (v : Value) (F : FuncId) (w : World) (hne : Hid (¬ (op = op ∧ r' = r ∧ a' = a ∧ b' = b ∧ n' = n)))
    (hp : Hid (∀ w, Calls Tryz.prog 81 #[.agg #[.int .i64 op, .int .i64 r, .int .i64 a, .int .i64 b, .int .i64 n]] w fun e w' => e = .returned (.iface T v) ∧ Below w.heap.size w w'))
    (hm : ∀ w, (method 274 T v "loop.example/g00238/impl.ins").run Tryz.prog w = .ok (F, v) w)
    (eg : ∀ args w, (callFunc F args).run Tryz.prog w = .ok (.enter F args) w)
    (hi : Hid (∀ w, Calls Tryz.prog F #[v] w fun e w' => e = .returned (.agg #[.int .i64 op, .int .i64 r', .int .i64 a', .int .i64 b', .int .i64 n']) ∧ Below w.heap.size w w')) :
    Calls Tryz.prog 70 #[.agg #[.int .i64 op, .int .i64 r, .int .i64 a, .int .i64 b, .int .i64 n], .int .i64 pl, .int .i64 ch] w fun e w' => e = .returned (.bool false) ∧ Below w.heap.size w w' := by
  have nn := neqN
  have eqF := fun w => eqNo op r' a' b' n' op r a b n w hne.out
  go_enter Tryz.func70, Tryz.ntmps70
  go_wp2_with fail
  refine (hp.out _).mono ?_
  rintro e w1 ⟨rfl, hb1⟩
  obtain ⟨c0, c1, c2, c3, c4, hz⟩ := boxed5 hb1
  go_wp2_with fail
  first | go_region_with (with_reducible refine (hi.out _).mono ?_; rintro e w2 ⟨rfl, hb2⟩; obtain ⟨d0, d1, d2, d3, d4, hz2⟩ := carry5 hb2 hz c0 c1 c2 c3 c4) | fail
  all_goals go_wp2
  all_goals go_ret
  all_goals exact ⟨rfl, (((Below.refl _ _).alloc (Nat.le_refl _) _).trans (hb1.mono (by simp))).trans ((Below.drew (Below.refl _ _)).trans (hb2.mono (by simp; omega)))⟩

set_option maxRecDepth 100000 in
set_option maxHeartbeats 1000000 in
theorem insOk_nil (op r a b n pl ch : Int) (w : World)
    (hp : Hid (∀ w, Calls Tryz.prog 81 #[.agg #[.int .i64 op, .int .i64 r, .int .i64 a, .int .i64 b, .int .i64 n]] w fun e w' => e = .returned .nilIface ∧ Below w.heap.size w w')) :
    Calls Tryz.prog 70 #[.agg #[.int .i64 op, .int .i64 r, .int .i64 a, .int .i64 b, .int .i64 n], .int .i64 pl, .int .i64 ch] w fun e w' => e = .returned (.bool false) ∧ Below w.heap.size w w' := by
  have nn := neqNil
  go_enter Tryz.func70, Tryz.ntmps70
  go_wp2_with fail
  refine (hp.out _).mono ?_
  rintro e w1 ⟨rfl, hb1⟩
  go_wp2_with fail
  first | go_region_with (fail) | fail
  all_goals go_wp2
  all_goals go_ret
  all_goals exact ⟨rfl, Below.drew (((Below.refl _ _).alloc (Nat.le_refl _) _).trans (hb1.mono (by simp)))⟩
end

end Go.Proofs.YthkpkdehicoikaaGreat
