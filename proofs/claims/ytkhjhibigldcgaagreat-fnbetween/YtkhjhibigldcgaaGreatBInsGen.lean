/- InsOk of the program, whatever kind of place it makes: under contracts of placeOf, of the place's method and of placeOk it answers as they say; it makes memory, and turns none. -/
import Derived.Test.YtkhjhibigldcgaaGreatBG00
import Derived.Test.YtkhjhibigldcgaaGreatBG01
import Derived.Deep.RegionHeld3
namespace Go.Proofs.YtkhjhibigldcgaaGreat
set_option linter.unusedSimpArgs false
set_option linter.unusedVariables false
set_option maxRecDepth 100000
open Go.RowKit
set_option maxRecDepth 100000 in
set_option maxHeartbeats 1000000 in
theorem insOk_same (op r a b n pl ch : Int) (T : TypeId) (v : Value) (F : FuncId) (q : Bool) (w : World)
  (hp:Hid (∀ w,Calls Tryz.prog 73 #[.agg #[.int .i64 op,.int .i64 r,.int .i64 a,.int .i64 b,.int .i64 n]] w fun e w'=>e=.returned (.iface T v)∧Below w.heap.size w w'))
  (hm:∀ w,(method 281 T v "loop.example/g00238/impl.ins").run Tryz.prog w=.ok (F,v) w)
  (eg:∀ args w,(callFunc F args).run Tryz.prog w=.ok (.enter F args) w)
  (hi:Hid (∀ w,Calls Tryz.prog F #[v] w fun e w'=>e=.returned (.agg #[.int .i64 op,.int .i64 r,.int .i64 a,.int .i64 b,.int .i64 n])∧Below w.heap.size w w'))
  (hk:Hid (∀ w,Calls Tryz.prog 74 #[.iface T v,.int .i64 pl,.int .i64 ch] w fun e w'=>e=.returned (.bool q)∧Below w.heap.size w w')):
  Calls Tryz.prog 51 #[.agg #[.int .i64 op,.int .i64 r,.int .i64 a,.int .i64 b,.int .i64 n],.int .i64 pl,.int .i64 ch] w fun e w'=>e=.returned (.bool (Plain.chansB ch&&q))∧Below w.heap.size w w':=by
 have nn:=neqN
 cases hch:Plain.chansB ch
 ·go_enter Tryz.func51,Tryz.ntmps51
  go_wp2_with fail
  refine (hp.out _).mono ?_
  rintro e w1 ⟨rfl,hb1⟩
  obtain ⟨c0,c1,c2,c3,c4,hz⟩:=boxed5 hb1
  go_wp2_with fail
  first | go_region_with (first | (go_at_call 49;refine (areChans_is _ false _ hch).mono ?_;rintro e w' ⟨rfl,rfl⟩) | (with_reducible refine (hi.out _).mono ?_;rintro e w2 ⟨rfl,hb2⟩;obtain ⟨d0,d1,d2,d3,d4,hz2⟩:=carry5 hb2 hz c0 c1 c2 c3 c4)) | fail
  all_goals go_wp2
  all_goals go_ret
  all_goals exact ⟨rfl,(((Below.refl _ _).alloc (Nat.le_refl _) _).trans (hb1.mono (by simp))).trans ((Below.drew (Below.refl _ _)).trans (hb2.mono (by simp;omega)))⟩
 ·go_enter Tryz.func51,Tryz.ntmps51
  go_wp2_with fail
  refine (hp.out _).mono ?_
  rintro e w1 ⟨rfl,hb1⟩
  obtain ⟨c0,c1,c2,c3,c4,hz⟩:=boxed5 hb1
  go_wp2_with fail
  first | go_region_with (first | (go_at_call 49;refine (areChans_is _ true _ hch).mono ?_;rintro e w' ⟨rfl,rfl⟩) | (go_at_call 74;refine (hk.out _).mono ?_;rintro e w3 ⟨rfl,hb3⟩) | (with_reducible refine (hi.out _).mono ?_;rintro e w2 ⟨rfl,hb2⟩;obtain ⟨d0,d1,d2,d3,d4,hz2⟩:=carry5 hb2 hz c0 c1 c2 c3 c4)) | fail
  all_goals go_wp2
  all_goals go_ret
  all_goals exact ⟨by rw [Bool.true_and];rfl,((((Below.refl _ _).alloc (Nat.le_refl _) _).trans (hb1.mono (by simp))).trans ((Below.drew (Below.refl _ _)).trans (hb2.mono (by simp;omega)))).trans (hb3.mono (by first | omega | (simp;omega)))⟩
set_option maxRecDepth 100000 in
set_option maxHeartbeats 1000000 in
theorem insOk_other (op r a b n r' a' b' n' pl ch : Int) (T : TypeId) (v : Value) (F : FuncId) (w : World) (hne : Hid (¬ (op = op ∧ r' = r ∧ a' = a ∧ b' = b ∧ n' = n)))
  (hp:Hid (∀ w,Calls Tryz.prog 73 #[.agg #[.int .i64 op,.int .i64 r,.int .i64 a,.int .i64 b,.int .i64 n]] w fun e w'=>e=.returned (.iface T v)∧Below w.heap.size w w'))
  (hm:∀ w,(method 281 T v "loop.example/g00238/impl.ins").run Tryz.prog w=.ok (F,v) w)
  (eg:∀ args w,(callFunc F args).run Tryz.prog w=.ok (.enter F args) w)
  (hi:Hid (∀ w,Calls Tryz.prog F #[v] w fun e w'=>e=.returned (.agg #[.int .i64 op,.int .i64 r',.int .i64 a',.int .i64 b',.int .i64 n'])∧Below w.heap.size w w')):
  Calls Tryz.prog 51 #[.agg #[.int .i64 op,.int .i64 r,.int .i64 a,.int .i64 b,.int .i64 n],.int .i64 pl,.int .i64 ch] w fun e w'=>e=.returned (.bool false)∧Below w.heap.size w w':=by
 have nn:=neqN
 have eqF:=fun w=>eqNo op r' a' b' n' op r a b n w hne.out
 go_enter Tryz.func51,Tryz.ntmps51
 go_wp2_with fail
 refine (hp.out _).mono ?_
 rintro e w1 ⟨rfl,hb1⟩
 obtain ⟨c0,c1,c2,c3,c4,hz⟩:=boxed5 hb1
 go_wp2_with fail
 first | go_region_with (with_reducible refine (hi.out _).mono ?_;rintro e w2 ⟨rfl,hb2⟩;obtain ⟨d0,d1,d2,d3,d4,hz2⟩:=carry5 hb2 hz c0 c1 c2 c3 c4) | fail
 all_goals go_wp2
 all_goals go_ret
 all_goals exact ⟨rfl,(((Below.refl _ _).alloc (Nat.le_refl _) _).trans (hb1.mono (by simp))).trans ((Below.drew (Below.refl _ _)).trans (hb2.mono (by simp;omega)))⟩
set_option maxRecDepth 100000 in
set_option maxHeartbeats 1000000 in
theorem insOk_nil (op r a b n pl ch : Int) (w : World)
  (hp:Hid (∀ w,Calls Tryz.prog 73 #[.agg #[.int .i64 op,.int .i64 r,.int .i64 a,.int .i64 b,.int .i64 n]] w fun e w'=>e=.returned .nilIface∧Below w.heap.size w w')):
  Calls Tryz.prog 51 #[.agg #[.int .i64 op,.int .i64 r,.int .i64 a,.int .i64 b,.int .i64 n],.int .i64 pl,.int .i64 ch] w fun e w'=>e=.returned (.bool false)∧Below w.heap.size w w':=by
 have nn:=neqNil
 go_enter Tryz.func51,Tryz.ntmps51
 go_wp2_with fail
 refine (hp.out _).mono ?_
 rintro e w1 ⟨rfl,hb1⟩
 go_wp2_with fail
 first | go_region_with (fail) | fail
 all_goals go_wp2
 all_goals go_ret
 all_goals exact ⟨rfl,Below.drew (((Below.refl _ _).alloc (Nat.le_refl _) _).trans (hb1.mono (by simp)))⟩
end Go.Proofs.YtkhjhibigldcgaaGreat
