/- Reads and Sets, of the program and of the specification, at every Ins, in every world: each hands back, in new memory, the list that the plain law says; it turns nothing. No condition. -/
import Derived.Test.YtkmobmnbdapjkagPlaces
import Derived.Test.YtkmobmnbdapjkagSameInts
namespace Go.Proofs.Ytkmobmnbdapjkag
set_option linter.unusedSimpArgs false
set_option linter.unusedVariables false
open Go.RowKit

def Fresh (w w' : World) (v : Value) (l : List Int) : Prop :=
  ∃ (s : Option Addr) (c : Nat), v = .slice s l.length c ∧ Below w.heap.size w w' ∧ (l = [] ∨ ∃ g, s = some ⟨g, 0, none⟩ ∧ w.heap.size ≤ g ∧ g < w'.heap.size ∧ (∀ i, i < l.length → w'.cell? ⟨g, 0 + i, none⟩ = some (.int .i64 (l.getD i 0))) ∧ (∀ i, i < l.length → w'.frozen? ⟨g, 0 + i, none⟩ = false))

theorem Fresh.from {w w1 w' : World} {v : Value} {l : List Int} (hb : Below w.heap.size w w1) (h : Fresh w1 w' v l) : Fresh w w' v l := by
  obtain ⟨s, c, hv, hb1, h⟩ := h
  have hs := hb.size
  refine ⟨s, c, hv, hb.trans (hb1.mono hs), ?_⟩
  rcases h with h | ⟨g, hg, h1, h2, h3⟩
  · exact .inl h
  · exact .inr ⟨g, hg, by omega, h2, h3⟩

theorem fresh2 {w w1 : World} (hb : Below w.heap.size w w1) (g : Nat) (hg : g = w1.heap.size) (a b : Int) (T : TypeId) :
    Fresh w (w1.alloc (.cells #[.int .i64 a, .int .i64 b] T)) (.slice (some ⟨g, 0, none⟩) 2 2) [a, b] := by
  subst hg
  have hs := hb.size
  refine ⟨_, _, rfl, hb.alloc hs _, .inr ⟨_, rfl, hs, by simp, ?_, ?_⟩⟩
  · intro i hi
    match i, hi with
    | 0, _ => simp [go_sem]
    | 1, _ => simp [go_sem]
  · intro i hi
    match i, hi with
    | 0, _ => simp [go_sem]
    | 1, _ => simp [go_sem]

theorem fresh1 {w w1 : World} (hb : Below w.heap.size w w1) (g : Nat) (hg : g = w1.heap.size) (a : Int) (T : TypeId) :
    Fresh w (w1.alloc (.cells #[.int .i64 a] T)) (.slice (some ⟨g, 0, none⟩) 1 1) [a] := by
  subst hg
  have hs := hb.size
  refine ⟨_, _, rfl, hb.alloc hs _, .inr ⟨_, rfl, hs, by simp, ?_, ?_⟩⟩
  · intro i hi
    match i, hi with
    | 0, _ => simp [go_sem]
  · intro i hi
    match i, hi with
    | 0, _ => simp [go_sem]

theorem fresh0 {w w1 : World} (hb : Below w.heap.size w w1) (s : Option Addr) (c : Nat) : Fresh w w1 (.slice s 0 c) [] := ⟨s, c, rfl, hb, .inl rfl⟩

set_option maxRecDepth 100000 in
theorem regsTaken_1 (r n : Int) (w : World) : Calls Try.prog 23 #[.iface 68 (.agg #[.int .i64 r, .int .i64 n])] w fun e w' => ∃ v, e = .returned v ∧ Fresh w w' v [] := by
  have n2 := fun w => asn_2 68 (.agg #[.int .i64 r, .int .i64 n]) w (by decide)
  have n3 := fun w => asn_3 68 (.agg #[.int .i64 r, .int .i64 n]) w (by decide)
  have n4 := fun w => asn_4 68 (.agg #[.int .i64 r, .int .i64 n]) w (by decide)
  have n5 := fun w => asn_5 68 (.agg #[.int .i64 r, .int .i64 n]) w (by decide)
  have n7 := fun w => asn_7 68 (.agg #[.int .i64 r, .int .i64 n]) w (by decide)
  have n10 := fun w => asn_10 68 (.agg #[.int .i64 r, .int .i64 n]) w (by decide)
  have n12 := fun w => asn_12 68 (.agg #[.int .i64 r, .int .i64 n]) w (by decide)
  go_enter Try.func23, Try.ntmps23
  go_wp2
  go_ret
  exact ⟨_, rfl, fresh0 (by first | exact Below.refl _ _ | exact ((Below.refl _ _).alloc (Nat.le_refl _) _) | exact ((Below.refl _ _).alloc (Nat.le_refl _) _).alloc (by simp) _) _ _⟩

set_option maxRecDepth 100000 in
theorem regsTaken_2 (r a b : Int) (w : World) : Calls Try.prog 23 #[.iface 57 (.agg #[.int .i64 r, .int .i64 a, .int .i64 b])] w fun e w' => ∃ v, e = .returned v ∧ Fresh w w' v [a, b] := by
  have y := fun w => asy_2 (.agg #[.int .i64 r, .int .i64 a, .int .i64 b]) w
  go_enter Try.func23, Try.ntmps23
  go_wp2
  go_ret
  exact ⟨_, rfl, fresh2 ((Below.refl _ _).alloc (Nat.le_refl _) _) _ (by simp) a b _⟩

set_option maxRecDepth 100000 in
theorem regsTaken_3 (r a b : Int) (w : World) : Calls Try.prog 23 #[.iface 58 (.agg #[.int .i64 r, .int .i64 a, .int .i64 b])] w fun e w' => ∃ v, e = .returned v ∧ Fresh w w' v [a, b] := by
  have n2 := fun w => asn_2 58 (.agg #[.int .i64 r, .int .i64 a, .int .i64 b]) w (by decide)
  have y := fun w => asy_3 (.agg #[.int .i64 r, .int .i64 a, .int .i64 b]) w
  go_enter Try.func23, Try.ntmps23
  go_wp2
  go_ret
  exact ⟨_, rfl, fresh2 ((Below.refl _ _).alloc (Nat.le_refl _) _) _ (by simp) a b _⟩

set_option maxRecDepth 100000 in
theorem regsTaken_4 (r a b : Int) (w : World) : Calls Try.prog 23 #[.iface 59 (.agg #[.int .i64 r, .int .i64 a, .int .i64 b])] w fun e w' => ∃ v, e = .returned v ∧ Fresh w w' v [a, b] := by
  have n2 := fun w => asn_2 59 (.agg #[.int .i64 r, .int .i64 a, .int .i64 b]) w (by decide)
  have n3 := fun w => asn_3 59 (.agg #[.int .i64 r, .int .i64 a, .int .i64 b]) w (by decide)
  have y := fun w => asy_4 (.agg #[.int .i64 r, .int .i64 a, .int .i64 b]) w
  go_enter Try.func23, Try.ntmps23
  go_wp2
  go_ret
  exact ⟨_, rfl, fresh2 ((Below.refl _ _).alloc (Nat.le_refl _) _) _ (by simp) a b _⟩

set_option maxRecDepth 100000 in
theorem regsTaken_5 (a n : Int) (w : World) : Calls Try.prog 23 #[.iface 61 (.agg #[.int .i64 a, .int .i64 n])] w fun e w' => ∃ v, e = .returned v ∧ Fresh w w' v [a] := by
  have n2 := fun w => asn_2 61 (.agg #[.int .i64 a, .int .i64 n]) w (by decide)
  have n3 := fun w => asn_3 61 (.agg #[.int .i64 a, .int .i64 n]) w (by decide)
  have n4 := fun w => asn_4 61 (.agg #[.int .i64 a, .int .i64 n]) w (by decide)
  have y := fun w => asy_5 (.agg #[.int .i64 a, .int .i64 n]) w
  go_enter Try.func23, Try.ntmps23
  go_wp2
  go_ret
  exact ⟨_, rfl, fresh1 ((Below.refl _ _).alloc (Nat.le_refl _) _) _ (by simp) a _⟩

set_option maxRecDepth 100000 in
theorem regsTaken_6 (r b n : Int) (w : World) : Calls Try.prog 23 #[.iface 70 (.agg #[.int .i64 r, .int .i64 b, .int .i64 n])] w fun e w' => ∃ v, e = .returned v ∧ Fresh w w' v [] := by
  have n2 := fun w => asn_2 70 (.agg #[.int .i64 r, .int .i64 b, .int .i64 n]) w (by decide)
  have n3 := fun w => asn_3 70 (.agg #[.int .i64 r, .int .i64 b, .int .i64 n]) w (by decide)
  have n4 := fun w => asn_4 70 (.agg #[.int .i64 r, .int .i64 b, .int .i64 n]) w (by decide)
  have n5 := fun w => asn_5 70 (.agg #[.int .i64 r, .int .i64 b, .int .i64 n]) w (by decide)
  have n7 := fun w => asn_7 70 (.agg #[.int .i64 r, .int .i64 b, .int .i64 n]) w (by decide)
  have n10 := fun w => asn_10 70 (.agg #[.int .i64 r, .int .i64 b, .int .i64 n]) w (by decide)
  have n12 := fun w => asn_12 70 (.agg #[.int .i64 r, .int .i64 b, .int .i64 n]) w (by decide)
  go_enter Try.func23, Try.ntmps23
  go_wp2
  go_ret
  exact ⟨_, rfl, fresh0 (by first | exact Below.refl _ _ | exact ((Below.refl _ _).alloc (Nat.le_refl _) _) | exact ((Below.refl _ _).alloc (Nat.le_refl _) _).alloc (by simp) _) _ _⟩

set_option maxRecDepth 100000 in
theorem regsTaken_7 (r a n : Int) (w : World) : Calls Try.prog 23 #[.iface 63 (.agg #[.int .i64 r, .int .i64 a, .int .i64 n])] w fun e w' => ∃ v, e = .returned v ∧ Fresh w w' v [a] := by
  have n2 := fun w => asn_2 63 (.agg #[.int .i64 r, .int .i64 a, .int .i64 n]) w (by decide)
  have n3 := fun w => asn_3 63 (.agg #[.int .i64 r, .int .i64 a, .int .i64 n]) w (by decide)
  have n4 := fun w => asn_4 63 (.agg #[.int .i64 r, .int .i64 a, .int .i64 n]) w (by decide)
  have n5 := fun w => asn_5 63 (.agg #[.int .i64 r, .int .i64 a, .int .i64 n]) w (by decide)
  have y := fun w => asy_7 (.agg #[.int .i64 r, .int .i64 a, .int .i64 n]) w
  go_enter Try.func23, Try.ntmps23
  go_wp2
  go_ret
  exact ⟨_, rfl, fresh1 ((Below.refl _ _).alloc (Nat.le_refl _) _) _ (by simp) a _⟩

set_option maxRecDepth 100000 in
theorem regsTaken_8 (r b n : Int) (w : World) : Calls Try.prog 23 #[.iface 71 (.agg #[.int .i64 r, .int .i64 b, .int .i64 n])] w fun e w' => ∃ v, e = .returned v ∧ Fresh w w' v [] := by
  have n2 := fun w => asn_2 71 (.agg #[.int .i64 r, .int .i64 b, .int .i64 n]) w (by decide)
  have n3 := fun w => asn_3 71 (.agg #[.int .i64 r, .int .i64 b, .int .i64 n]) w (by decide)
  have n4 := fun w => asn_4 71 (.agg #[.int .i64 r, .int .i64 b, .int .i64 n]) w (by decide)
  have n5 := fun w => asn_5 71 (.agg #[.int .i64 r, .int .i64 b, .int .i64 n]) w (by decide)
  have n7 := fun w => asn_7 71 (.agg #[.int .i64 r, .int .i64 b, .int .i64 n]) w (by decide)
  have n10 := fun w => asn_10 71 (.agg #[.int .i64 r, .int .i64 b, .int .i64 n]) w (by decide)
  have n12 := fun w => asn_12 71 (.agg #[.int .i64 r, .int .i64 b, .int .i64 n]) w (by decide)
  go_enter Try.func23, Try.ntmps23
  go_wp2
  go_ret
  exact ⟨_, rfl, fresh0 (by first | exact Below.refl _ _ | exact ((Below.refl _ _).alloc (Nat.le_refl _) _) | exact ((Below.refl _ _).alloc (Nat.le_refl _) _).alloc (by simp) _) _ _⟩

set_option maxRecDepth 100000 in
theorem regsTaken_9 (n : Int) (w : World) : Calls Try.prog 23 #[.iface 73 (.agg #[.int .i64 n])] w fun e w' => ∃ v, e = .returned v ∧ Fresh w w' v [] := by
  have n2 := fun w => asn_2 73 (.agg #[.int .i64 n]) w (by decide)
  have n3 := fun w => asn_3 73 (.agg #[.int .i64 n]) w (by decide)
  have n4 := fun w => asn_4 73 (.agg #[.int .i64 n]) w (by decide)
  have n5 := fun w => asn_5 73 (.agg #[.int .i64 n]) w (by decide)
  have n7 := fun w => asn_7 73 (.agg #[.int .i64 n]) w (by decide)
  have n10 := fun w => asn_10 73 (.agg #[.int .i64 n]) w (by decide)
  have n12 := fun w => asn_12 73 (.agg #[.int .i64 n]) w (by decide)
  go_enter Try.func23, Try.ntmps23
  go_wp2
  go_ret
  exact ⟨_, rfl, fresh0 (by first | exact Below.refl _ _ | exact ((Below.refl _ _).alloc (Nat.le_refl _) _) | exact ((Below.refl _ _).alloc (Nat.le_refl _) _).alloc (by simp) _) _ _⟩

set_option maxRecDepth 100000 in
theorem regsTaken_10 (a : Int) (w : World) : Calls Try.prog 23 #[.iface 65 (.agg #[.int .i64 a])] w fun e w' => ∃ v, e = .returned v ∧ Fresh w w' v [a] := by
  have n2 := fun w => asn_2 65 (.agg #[.int .i64 a]) w (by decide)
  have n3 := fun w => asn_3 65 (.agg #[.int .i64 a]) w (by decide)
  have n4 := fun w => asn_4 65 (.agg #[.int .i64 a]) w (by decide)
  have n5 := fun w => asn_5 65 (.agg #[.int .i64 a]) w (by decide)
  have n7 := fun w => asn_7 65 (.agg #[.int .i64 a]) w (by decide)
  have y := fun w => asy_10 (.agg #[.int .i64 a]) w
  go_enter Try.func23, Try.ntmps23
  go_wp2
  go_ret
  exact ⟨_, rfl, fresh1 ((Below.refl _ _).alloc (Nat.le_refl _) _) _ (by simp) a _⟩

set_option maxRecDepth 100000 in
theorem regsTaken_11 (n : Int) (w : World) : Calls Try.prog 23 #[.iface 74 (.agg #[.int .i64 n])] w fun e w' => ∃ v, e = .returned v ∧ Fresh w w' v [] := by
  have n2 := fun w => asn_2 74 (.agg #[.int .i64 n]) w (by decide)
  have n3 := fun w => asn_3 74 (.agg #[.int .i64 n]) w (by decide)
  have n4 := fun w => asn_4 74 (.agg #[.int .i64 n]) w (by decide)
  have n5 := fun w => asn_5 74 (.agg #[.int .i64 n]) w (by decide)
  have n7 := fun w => asn_7 74 (.agg #[.int .i64 n]) w (by decide)
  have n10 := fun w => asn_10 74 (.agg #[.int .i64 n]) w (by decide)
  have n12 := fun w => asn_12 74 (.agg #[.int .i64 n]) w (by decide)
  go_enter Try.func23, Try.ntmps23
  go_wp2
  go_ret
  exact ⟨_, rfl, fresh0 (by first | exact Below.refl _ _ | exact ((Below.refl _ _).alloc (Nat.le_refl _) _) | exact ((Below.refl _ _).alloc (Nat.le_refl _) _).alloc (by simp) _) _ _⟩

set_option maxRecDepth 100000 in
theorem regsTaken_12 (a n : Int) (w : World) : Calls Try.prog 23 #[.iface 66 (.agg #[.int .i64 a, .int .i64 n])] w fun e w' => ∃ v, e = .returned v ∧ Fresh w w' v [a] := by
  have n2 := fun w => asn_2 66 (.agg #[.int .i64 a, .int .i64 n]) w (by decide)
  have n3 := fun w => asn_3 66 (.agg #[.int .i64 a, .int .i64 n]) w (by decide)
  have n4 := fun w => asn_4 66 (.agg #[.int .i64 a, .int .i64 n]) w (by decide)
  have n5 := fun w => asn_5 66 (.agg #[.int .i64 a, .int .i64 n]) w (by decide)
  have n7 := fun w => asn_7 66 (.agg #[.int .i64 a, .int .i64 n]) w (by decide)
  have n10 := fun w => asn_10 66 (.agg #[.int .i64 a, .int .i64 n]) w (by decide)
  have y := fun w => asy_12 (.agg #[.int .i64 a, .int .i64 n]) w
  go_enter Try.func23, Try.ntmps23
  go_wp2
  go_ret
  exact ⟨_, rfl, fresh1 ((Below.refl _ _).alloc (Nat.le_refl _) _) _ (by simp) a _⟩

set_option maxRecDepth 100000 in
theorem regsTaken_13 (w : World) : Calls Try.prog 23 #[.iface 76 (.agg #[])] w fun e w' => ∃ v, e = .returned v ∧ Fresh w w' v [] := by
  have n2 := fun w => asn_2 76 (.agg #[]) w (by decide)
  have n3 := fun w => asn_3 76 (.agg #[]) w (by decide)
  have n4 := fun w => asn_4 76 (.agg #[]) w (by decide)
  have n5 := fun w => asn_5 76 (.agg #[]) w (by decide)
  have n7 := fun w => asn_7 76 (.agg #[]) w (by decide)
  have n10 := fun w => asn_10 76 (.agg #[]) w (by decide)
  have n12 := fun w => asn_12 76 (.agg #[]) w (by decide)
  go_enter Try.func23, Try.ntmps23
  go_wp2
  go_ret
  exact ⟨_, rfl, fresh0 (by first | exact Below.refl _ _ | exact ((Below.refl _ _).alloc (Nat.le_refl _) _) | exact ((Below.refl _ _).alloc (Nat.le_refl _) _).alloc (by simp) _) _ _⟩

set_option maxRecDepth 100000 in
theorem regsSet_1 (r n : Int) (w : World) : Calls Try.prog 25 #[.iface 68 (.agg #[.int .i64 r, .int .i64 n])] w fun e w' => ∃ v, e = .returned v ∧ Fresh w w' v [r] := by
  have y := fun w => asy_1 (.agg #[.int .i64 r, .int .i64 n]) w
  go_enter Try.func25, Try.ntmps25
  go_wp2
  go_ret
  exact ⟨_, rfl, fresh1 ((Below.refl _ _).alloc (Nat.le_refl _) _) _ (by simp) r _⟩

set_option maxRecDepth 100000 in
theorem regsSet_2 (r a b : Int) (w : World) : Calls Try.prog 25 #[.iface 57 (.agg #[.int .i64 r, .int .i64 a, .int .i64 b])] w fun e w' => ∃ v, e = .returned v ∧ Fresh w w' v [r] := by
  have n1 := fun w => asn_1 57 (.agg #[.int .i64 r, .int .i64 a, .int .i64 b]) w (by decide)
  have y := fun w => asy_2 (.agg #[.int .i64 r, .int .i64 a, .int .i64 b]) w
  go_enter Try.func25, Try.ntmps25
  go_wp2
  go_ret
  exact ⟨_, rfl, fresh1 ((Below.refl _ _).alloc (Nat.le_refl _) _) _ (by simp) r _⟩

set_option maxRecDepth 100000 in
theorem regsSet_3 (r a b : Int) (w : World) : Calls Try.prog 25 #[.iface 58 (.agg #[.int .i64 r, .int .i64 a, .int .i64 b])] w fun e w' => ∃ v, e = .returned v ∧ Fresh w w' v [r] := by
  have n1 := fun w => asn_1 58 (.agg #[.int .i64 r, .int .i64 a, .int .i64 b]) w (by decide)
  have n2 := fun w => asn_2 58 (.agg #[.int .i64 r, .int .i64 a, .int .i64 b]) w (by decide)
  have y := fun w => asy_3 (.agg #[.int .i64 r, .int .i64 a, .int .i64 b]) w
  go_enter Try.func25, Try.ntmps25
  go_wp2
  go_ret
  exact ⟨_, rfl, fresh1 ((Below.refl _ _).alloc (Nat.le_refl _) _) _ (by simp) r _⟩

set_option maxRecDepth 100000 in
theorem regsSet_4 (r a b : Int) (w : World) : Calls Try.prog 25 #[.iface 59 (.agg #[.int .i64 r, .int .i64 a, .int .i64 b])] w fun e w' => ∃ v, e = .returned v ∧ Fresh w w' v [r] := by
  have n1 := fun w => asn_1 59 (.agg #[.int .i64 r, .int .i64 a, .int .i64 b]) w (by decide)
  have n2 := fun w => asn_2 59 (.agg #[.int .i64 r, .int .i64 a, .int .i64 b]) w (by decide)
  have n3 := fun w => asn_3 59 (.agg #[.int .i64 r, .int .i64 a, .int .i64 b]) w (by decide)
  have y := fun w => asy_4 (.agg #[.int .i64 r, .int .i64 a, .int .i64 b]) w
  go_enter Try.func25, Try.ntmps25
  go_wp2
  go_ret
  exact ⟨_, rfl, fresh1 ((Below.refl _ _).alloc (Nat.le_refl _) _) _ (by simp) r _⟩

set_option maxRecDepth 100000 in
theorem regsSet_5 (a n : Int) (w : World) : Calls Try.prog 25 #[.iface 61 (.agg #[.int .i64 a, .int .i64 n])] w fun e w' => ∃ v, e = .returned v ∧ Fresh w w' v [] := by
  have n1 := fun w => asn_1 61 (.agg #[.int .i64 a, .int .i64 n]) w (by decide)
  have n2 := fun w => asn_2 61 (.agg #[.int .i64 a, .int .i64 n]) w (by decide)
  have n3 := fun w => asn_3 61 (.agg #[.int .i64 a, .int .i64 n]) w (by decide)
  have n4 := fun w => asn_4 61 (.agg #[.int .i64 a, .int .i64 n]) w (by decide)
  have n6 := fun w => asn_6 61 (.agg #[.int .i64 a, .int .i64 n]) w (by decide)
  have n7 := fun w => asn_7 61 (.agg #[.int .i64 a, .int .i64 n]) w (by decide)
  have n8 := fun w => asn_8 61 (.agg #[.int .i64 a, .int .i64 n]) w (by decide)
  go_enter Try.func25, Try.ntmps25
  go_wp2
  go_ret
  exact ⟨_, rfl, fresh0 (by first | exact Below.refl _ _ | exact ((Below.refl _ _).alloc (Nat.le_refl _) _) | exact ((Below.refl _ _).alloc (Nat.le_refl _) _).alloc (by simp) _) _ _⟩

set_option maxRecDepth 100000 in
theorem regsSet_6 (r b n : Int) (w : World) : Calls Try.prog 25 #[.iface 70 (.agg #[.int .i64 r, .int .i64 b, .int .i64 n])] w fun e w' => ∃ v, e = .returned v ∧ Fresh w w' v [r, b] := by
  have n1 := fun w => asn_1 70 (.agg #[.int .i64 r, .int .i64 b, .int .i64 n]) w (by decide)
  have n2 := fun w => asn_2 70 (.agg #[.int .i64 r, .int .i64 b, .int .i64 n]) w (by decide)
  have n3 := fun w => asn_3 70 (.agg #[.int .i64 r, .int .i64 b, .int .i64 n]) w (by decide)
  have n4 := fun w => asn_4 70 (.agg #[.int .i64 r, .int .i64 b, .int .i64 n]) w (by decide)
  have y := fun w => asy_6 (.agg #[.int .i64 r, .int .i64 b, .int .i64 n]) w
  go_enter Try.func25, Try.ntmps25
  go_wp2
  go_ret
  exact ⟨_, rfl, fresh2 ((Below.refl _ _).alloc (Nat.le_refl _) _) _ (by simp) r b _⟩

set_option maxRecDepth 100000 in
theorem regsSet_7 (r a n : Int) (w : World) : Calls Try.prog 25 #[.iface 63 (.agg #[.int .i64 r, .int .i64 a, .int .i64 n])] w fun e w' => ∃ v, e = .returned v ∧ Fresh w w' v [r] := by
  have n1 := fun w => asn_1 63 (.agg #[.int .i64 r, .int .i64 a, .int .i64 n]) w (by decide)
  have n2 := fun w => asn_2 63 (.agg #[.int .i64 r, .int .i64 a, .int .i64 n]) w (by decide)
  have n3 := fun w => asn_3 63 (.agg #[.int .i64 r, .int .i64 a, .int .i64 n]) w (by decide)
  have n4 := fun w => asn_4 63 (.agg #[.int .i64 r, .int .i64 a, .int .i64 n]) w (by decide)
  have n6 := fun w => asn_6 63 (.agg #[.int .i64 r, .int .i64 a, .int .i64 n]) w (by decide)
  have y := fun w => asy_7 (.agg #[.int .i64 r, .int .i64 a, .int .i64 n]) w
  go_enter Try.func25, Try.ntmps25
  go_wp2
  go_ret
  exact ⟨_, rfl, fresh1 ((Below.refl _ _).alloc (Nat.le_refl _) _) _ (by simp) r _⟩

set_option maxRecDepth 100000 in
theorem regsSet_8 (r b n : Int) (w : World) : Calls Try.prog 25 #[.iface 71 (.agg #[.int .i64 r, .int .i64 b, .int .i64 n])] w fun e w' => ∃ v, e = .returned v ∧ Fresh w w' v [r, b] := by
  have n1 := fun w => asn_1 71 (.agg #[.int .i64 r, .int .i64 b, .int .i64 n]) w (by decide)
  have n2 := fun w => asn_2 71 (.agg #[.int .i64 r, .int .i64 b, .int .i64 n]) w (by decide)
  have n3 := fun w => asn_3 71 (.agg #[.int .i64 r, .int .i64 b, .int .i64 n]) w (by decide)
  have n4 := fun w => asn_4 71 (.agg #[.int .i64 r, .int .i64 b, .int .i64 n]) w (by decide)
  have n6 := fun w => asn_6 71 (.agg #[.int .i64 r, .int .i64 b, .int .i64 n]) w (by decide)
  have n7 := fun w => asn_7 71 (.agg #[.int .i64 r, .int .i64 b, .int .i64 n]) w (by decide)
  have y := fun w => asy_8 (.agg #[.int .i64 r, .int .i64 b, .int .i64 n]) w
  go_enter Try.func25, Try.ntmps25
  go_wp2
  go_ret
  exact ⟨_, rfl, fresh2 ((Below.refl _ _).alloc (Nat.le_refl _) _) _ (by simp) r b _⟩

set_option maxRecDepth 100000 in
theorem regsSet_9 (n : Int) (w : World) : Calls Try.prog 25 #[.iface 73 (.agg #[.int .i64 n])] w fun e w' => ∃ v, e = .returned v ∧ Fresh w w' v [] := by
  have n1 := fun w => asn_1 73 (.agg #[.int .i64 n]) w (by decide)
  have n2 := fun w => asn_2 73 (.agg #[.int .i64 n]) w (by decide)
  have n3 := fun w => asn_3 73 (.agg #[.int .i64 n]) w (by decide)
  have n4 := fun w => asn_4 73 (.agg #[.int .i64 n]) w (by decide)
  have n6 := fun w => asn_6 73 (.agg #[.int .i64 n]) w (by decide)
  have n7 := fun w => asn_7 73 (.agg #[.int .i64 n]) w (by decide)
  have n8 := fun w => asn_8 73 (.agg #[.int .i64 n]) w (by decide)
  go_enter Try.func25, Try.ntmps25
  go_wp2
  go_ret
  exact ⟨_, rfl, fresh0 (by first | exact Below.refl _ _ | exact ((Below.refl _ _).alloc (Nat.le_refl _) _) | exact ((Below.refl _ _).alloc (Nat.le_refl _) _).alloc (by simp) _) _ _⟩

set_option maxRecDepth 100000 in
theorem regsSet_10 (a : Int) (w : World) : Calls Try.prog 25 #[.iface 65 (.agg #[.int .i64 a])] w fun e w' => ∃ v, e = .returned v ∧ Fresh w w' v [] := by
  have n1 := fun w => asn_1 65 (.agg #[.int .i64 a]) w (by decide)
  have n2 := fun w => asn_2 65 (.agg #[.int .i64 a]) w (by decide)
  have n3 := fun w => asn_3 65 (.agg #[.int .i64 a]) w (by decide)
  have n4 := fun w => asn_4 65 (.agg #[.int .i64 a]) w (by decide)
  have n6 := fun w => asn_6 65 (.agg #[.int .i64 a]) w (by decide)
  have n7 := fun w => asn_7 65 (.agg #[.int .i64 a]) w (by decide)
  have n8 := fun w => asn_8 65 (.agg #[.int .i64 a]) w (by decide)
  go_enter Try.func25, Try.ntmps25
  go_wp2
  go_ret
  exact ⟨_, rfl, fresh0 (by first | exact Below.refl _ _ | exact ((Below.refl _ _).alloc (Nat.le_refl _) _) | exact ((Below.refl _ _).alloc (Nat.le_refl _) _).alloc (by simp) _) _ _⟩

set_option maxRecDepth 100000 in
theorem regsSet_11 (n : Int) (w : World) : Calls Try.prog 25 #[.iface 74 (.agg #[.int .i64 n])] w fun e w' => ∃ v, e = .returned v ∧ Fresh w w' v [] := by
  have n1 := fun w => asn_1 74 (.agg #[.int .i64 n]) w (by decide)
  have n2 := fun w => asn_2 74 (.agg #[.int .i64 n]) w (by decide)
  have n3 := fun w => asn_3 74 (.agg #[.int .i64 n]) w (by decide)
  have n4 := fun w => asn_4 74 (.agg #[.int .i64 n]) w (by decide)
  have n6 := fun w => asn_6 74 (.agg #[.int .i64 n]) w (by decide)
  have n7 := fun w => asn_7 74 (.agg #[.int .i64 n]) w (by decide)
  have n8 := fun w => asn_8 74 (.agg #[.int .i64 n]) w (by decide)
  go_enter Try.func25, Try.ntmps25
  go_wp2
  go_ret
  exact ⟨_, rfl, fresh0 (by first | exact Below.refl _ _ | exact ((Below.refl _ _).alloc (Nat.le_refl _) _) | exact ((Below.refl _ _).alloc (Nat.le_refl _) _).alloc (by simp) _) _ _⟩

set_option maxRecDepth 100000 in
theorem regsSet_12 (a n : Int) (w : World) : Calls Try.prog 25 #[.iface 66 (.agg #[.int .i64 a, .int .i64 n])] w fun e w' => ∃ v, e = .returned v ∧ Fresh w w' v [] := by
  have n1 := fun w => asn_1 66 (.agg #[.int .i64 a, .int .i64 n]) w (by decide)
  have n2 := fun w => asn_2 66 (.agg #[.int .i64 a, .int .i64 n]) w (by decide)
  have n3 := fun w => asn_3 66 (.agg #[.int .i64 a, .int .i64 n]) w (by decide)
  have n4 := fun w => asn_4 66 (.agg #[.int .i64 a, .int .i64 n]) w (by decide)
  have n6 := fun w => asn_6 66 (.agg #[.int .i64 a, .int .i64 n]) w (by decide)
  have n7 := fun w => asn_7 66 (.agg #[.int .i64 a, .int .i64 n]) w (by decide)
  have n8 := fun w => asn_8 66 (.agg #[.int .i64 a, .int .i64 n]) w (by decide)
  go_enter Try.func25, Try.ntmps25
  go_wp2
  go_ret
  exact ⟨_, rfl, fresh0 (by first | exact Below.refl _ _ | exact ((Below.refl _ _).alloc (Nat.le_refl _) _) | exact ((Below.refl _ _).alloc (Nat.le_refl _) _).alloc (by simp) _) _ _⟩

set_option maxRecDepth 100000 in
theorem regsSet_13 (w : World) : Calls Try.prog 25 #[.iface 76 (.agg #[])] w fun e w' => ∃ v, e = .returned v ∧ Fresh w w' v [] := by
  have n1 := fun w => asn_1 76 (.agg #[]) w (by decide)
  have n2 := fun w => asn_2 76 (.agg #[]) w (by decide)
  have n3 := fun w => asn_3 76 (.agg #[]) w (by decide)
  have n4 := fun w => asn_4 76 (.agg #[]) w (by decide)
  have n6 := fun w => asn_6 76 (.agg #[]) w (by decide)
  have n7 := fun w => asn_7 76 (.agg #[]) w (by decide)
  have n8 := fun w => asn_8 76 (.agg #[]) w (by decide)
  go_enter Try.func25, Try.ntmps25
  go_wp2
  go_ret
  exact ⟨_, rfl, fresh0 (by first | exact Below.refl _ _ | exact ((Below.refl _ _).alloc (Nat.le_refl _) _) | exact ((Below.refl _ _).alloc (Nat.le_refl _) _).alloc (by simp) _) _ _⟩

theorem asnil_2 (w : World) : (Instr.typeAssert .nilIface 43 57 true).run Try.prog w = .ok (.tuple #[.agg #[.int .i64 0, .int .i64 0, .int .i64 0], .bool false]) w := by kernel_rfl
theorem asnil_4 (w : World) : (Instr.typeAssert .nilIface 43 59 true).run Try.prog w = .ok (.tuple #[.agg #[.int .i64 0, .int .i64 0, .int .i64 0], .bool false]) w := by kernel_rfl
theorem asnil_10 (w : World) : (Instr.typeAssert .nilIface 43 65 true).run Try.prog w = .ok (.tuple #[.agg #[.int .i64 0], .bool false]) w := by kernel_rfl
theorem asnil_5 (w : World) : (Instr.typeAssert .nilIface 43 61 true).run Try.prog w = .ok (.tuple #[.agg #[.int .i64 0, .int .i64 0], .bool false]) w := by kernel_rfl
theorem asnil_1 (w : World) : (Instr.typeAssert .nilIface 43 68 true).run Try.prog w = .ok (.tuple #[.agg #[.int .i64 0, .int .i64 0], .bool false]) w := by kernel_rfl
theorem asnil_3 (w : World) : (Instr.typeAssert .nilIface 43 58 true).run Try.prog w = .ok (.tuple #[.agg #[.int .i64 0, .int .i64 0, .int .i64 0], .bool false]) w := by kernel_rfl
theorem asnil_6 (w : World) : (Instr.typeAssert .nilIface 43 70 true).run Try.prog w = .ok (.tuple #[.agg #[.int .i64 0, .int .i64 0, .int .i64 0], .bool false]) w := by kernel_rfl
theorem asnil_7 (w : World) : (Instr.typeAssert .nilIface 43 63 true).run Try.prog w = .ok (.tuple #[.agg #[.int .i64 0, .int .i64 0, .int .i64 0], .bool false]) w := by kernel_rfl
theorem asnil_8 (w : World) : (Instr.typeAssert .nilIface 43 71 true).run Try.prog w = .ok (.tuple #[.agg #[.int .i64 0, .int .i64 0, .int .i64 0], .bool false]) w := by kernel_rfl
theorem asnil_12 (w : World) : (Instr.typeAssert .nilIface 43 66 true).run Try.prog w = .ok (.tuple #[.agg #[.int .i64 0, .int .i64 0], .bool false]) w := by kernel_rfl

set_option maxRecDepth 100000 in
theorem regsTaken_0 (w : World) : Calls Try.prog 23 #[.nilIface] w fun e w' => ∃ v, e = .returned v ∧ Fresh w w' v [] := by
  have n2 := asnil_2
  have n3 := asnil_3
  have n4 := asnil_4
  have n5 := asnil_5
  have n7 := asnil_7
  have n10 := asnil_10
  have n12 := asnil_12
  go_enter Try.func23, Try.ntmps23
  go_wp2
  go_ret
  exact ⟨_, rfl, fresh0 (Below.refl _ _) _ _⟩

set_option maxRecDepth 100000 in
theorem regsSet_0 (w : World) : Calls Try.prog 25 #[.nilIface] w fun e w' => ∃ v, e = .returned v ∧ Fresh w w' v [] := by
  have n1 := asnil_1
  have n2 := asnil_2
  have n3 := asnil_3
  have n4 := asnil_4
  have n6 := asnil_6
  have n7 := asnil_7
  have n8 := asnil_8
  go_enter Try.func25, Try.ntmps25
  go_wp2
  go_ret
  exact ⟨_, rfl, fresh0 (Below.refl _ _) _ _⟩

theorem implReads_1 (r a b n : Int) (w : World) : Calls Try.prog 8 #[.agg #[.int .i64 1, .int .i64 r, .int .i64 a, .int .i64 b, .int .i64 n]] w fun e w' => ∃ v, e = .returned v ∧ Fresh w w' v (Plain.readsL 1 a b) := by
  go_enter Try.func8, Try.ntmps8
  go_wp2_with fail
  refine (placeOf_1 _ _ _ _ _).mono ?_
  rintro e w1 ⟨rfl, hb1⟩
  go_wp2_with fail
  refine (regsTaken_1 _ _ _).mono ?_
  rintro e w2 ⟨v, rfl, hv⟩
  go_wp2
  go_ret
  exact ⟨_, rfl, hv.from (((Below.refl _ _).alloc (Nat.le_refl _) _).trans (hb1.mono (by simp)))⟩

theorem implReads_2 (r a b n : Int) (w : World) : Calls Try.prog 8 #[.agg #[.int .i64 2, .int .i64 r, .int .i64 a, .int .i64 b, .int .i64 n]] w fun e w' => ∃ v, e = .returned v ∧ Fresh w w' v (Plain.readsL 2 a b) := by
  go_enter Try.func8, Try.ntmps8
  go_wp2_with fail
  refine (placeOf_2 _ _ _ _ _).mono ?_
  rintro e w1 ⟨rfl, hb1⟩
  go_wp2_with fail
  refine (regsTaken_2 _ _ _ _).mono ?_
  rintro e w2 ⟨v, rfl, hv⟩
  go_wp2
  go_ret
  exact ⟨_, rfl, hv.from (((Below.refl _ _).alloc (Nat.le_refl _) _).trans (hb1.mono (by simp)))⟩

theorem implReads_3 (r a b n : Int) (w : World) : Calls Try.prog 8 #[.agg #[.int .i64 3, .int .i64 r, .int .i64 a, .int .i64 b, .int .i64 n]] w fun e w' => ∃ v, e = .returned v ∧ Fresh w w' v (Plain.readsL 3 a b) := by
  go_enter Try.func8, Try.ntmps8
  go_wp2_with fail
  refine (placeOf_3 _ _ _ _ _).mono ?_
  rintro e w1 ⟨rfl, hb1⟩
  go_wp2_with fail
  refine (regsTaken_3 _ _ _ _).mono ?_
  rintro e w2 ⟨v, rfl, hv⟩
  go_wp2
  go_ret
  exact ⟨_, rfl, hv.from (((Below.refl _ _).alloc (Nat.le_refl _) _).trans (hb1.mono (by simp)))⟩

theorem implReads_4 (r a b n : Int) (w : World) : Calls Try.prog 8 #[.agg #[.int .i64 4, .int .i64 r, .int .i64 a, .int .i64 b, .int .i64 n]] w fun e w' => ∃ v, e = .returned v ∧ Fresh w w' v (Plain.readsL 4 a b) := by
  go_enter Try.func8, Try.ntmps8
  go_wp2_with fail
  refine (placeOf_4 _ _ _ _ _).mono ?_
  rintro e w1 ⟨rfl, hb1⟩
  go_wp2_with fail
  refine (regsTaken_4 _ _ _ _).mono ?_
  rintro e w2 ⟨v, rfl, hv⟩
  go_wp2
  go_ret
  exact ⟨_, rfl, hv.from (((Below.refl _ _).alloc (Nat.le_refl _) _).trans (hb1.mono (by simp)))⟩

theorem implReads_5 (r a b n : Int) (w : World) : Calls Try.prog 8 #[.agg #[.int .i64 5, .int .i64 r, .int .i64 a, .int .i64 b, .int .i64 n]] w fun e w' => ∃ v, e = .returned v ∧ Fresh w w' v (Plain.readsL 5 a b) := by
  go_enter Try.func8, Try.ntmps8
  go_wp2_with fail
  refine (placeOf_5 _ _ _ _ _).mono ?_
  rintro e w1 ⟨rfl, hb1⟩
  go_wp2_with fail
  refine (regsTaken_5 _ _ _).mono ?_
  rintro e w2 ⟨v, rfl, hv⟩
  go_wp2
  go_ret
  exact ⟨_, rfl, hv.from (((Below.refl _ _).alloc (Nat.le_refl _) _).trans (hb1.mono (by simp)))⟩

theorem implReads_6 (r a b n : Int) (w : World) : Calls Try.prog 8 #[.agg #[.int .i64 6, .int .i64 r, .int .i64 a, .int .i64 b, .int .i64 n]] w fun e w' => ∃ v, e = .returned v ∧ Fresh w w' v (Plain.readsL 6 a b) := by
  go_enter Try.func8, Try.ntmps8
  go_wp2_with fail
  refine (placeOf_6 _ _ _ _ _).mono ?_
  rintro e w1 ⟨rfl, hb1⟩
  go_wp2_with fail
  refine (regsTaken_6 _ _ _ _).mono ?_
  rintro e w2 ⟨v, rfl, hv⟩
  go_wp2
  go_ret
  exact ⟨_, rfl, hv.from (((Below.refl _ _).alloc (Nat.le_refl _) _).trans (hb1.mono (by simp)))⟩

theorem implReads_7 (r a b n : Int) (w : World) : Calls Try.prog 8 #[.agg #[.int .i64 7, .int .i64 r, .int .i64 a, .int .i64 b, .int .i64 n]] w fun e w' => ∃ v, e = .returned v ∧ Fresh w w' v (Plain.readsL 7 a b) := by
  go_enter Try.func8, Try.ntmps8
  go_wp2_with fail
  refine (placeOf_7 _ _ _ _ _).mono ?_
  rintro e w1 ⟨rfl, hb1⟩
  go_wp2_with fail
  refine (regsTaken_7 _ _ _ _).mono ?_
  rintro e w2 ⟨v, rfl, hv⟩
  go_wp2
  go_ret
  exact ⟨_, rfl, hv.from (((Below.refl _ _).alloc (Nat.le_refl _) _).trans (hb1.mono (by simp)))⟩

theorem implReads_8 (r a b n : Int) (w : World) : Calls Try.prog 8 #[.agg #[.int .i64 8, .int .i64 r, .int .i64 a, .int .i64 b, .int .i64 n]] w fun e w' => ∃ v, e = .returned v ∧ Fresh w w' v (Plain.readsL 8 a b) := by
  go_enter Try.func8, Try.ntmps8
  go_wp2_with fail
  refine (placeOf_8 _ _ _ _ _).mono ?_
  rintro e w1 ⟨rfl, hb1⟩
  go_wp2_with fail
  refine (regsTaken_8 _ _ _ _).mono ?_
  rintro e w2 ⟨v, rfl, hv⟩
  go_wp2
  go_ret
  exact ⟨_, rfl, hv.from (((Below.refl _ _).alloc (Nat.le_refl _) _).trans (hb1.mono (by simp)))⟩

theorem implReads_9 (r a b n : Int) (w : World) : Calls Try.prog 8 #[.agg #[.int .i64 9, .int .i64 r, .int .i64 a, .int .i64 b, .int .i64 n]] w fun e w' => ∃ v, e = .returned v ∧ Fresh w w' v (Plain.readsL 9 a b) := by
  go_enter Try.func8, Try.ntmps8
  go_wp2_with fail
  refine (placeOf_9 _ _ _ _ _).mono ?_
  rintro e w1 ⟨rfl, hb1⟩
  go_wp2_with fail
  refine (regsTaken_9 _ _).mono ?_
  rintro e w2 ⟨v, rfl, hv⟩
  go_wp2
  go_ret
  exact ⟨_, rfl, hv.from (((Below.refl _ _).alloc (Nat.le_refl _) _).trans (hb1.mono (by simp)))⟩

theorem implReads_10 (r a b n : Int) (w : World) : Calls Try.prog 8 #[.agg #[.int .i64 10, .int .i64 r, .int .i64 a, .int .i64 b, .int .i64 n]] w fun e w' => ∃ v, e = .returned v ∧ Fresh w w' v (Plain.readsL 10 a b) := by
  go_enter Try.func8, Try.ntmps8
  go_wp2_with fail
  refine (placeOf_10 _ _ _ _ _).mono ?_
  rintro e w1 ⟨rfl, hb1⟩
  go_wp2_with fail
  refine (regsTaken_10 _ _).mono ?_
  rintro e w2 ⟨v, rfl, hv⟩
  go_wp2
  go_ret
  exact ⟨_, rfl, hv.from (((Below.refl _ _).alloc (Nat.le_refl _) _).trans (hb1.mono (by simp)))⟩

theorem implReads_11 (r a b n : Int) (w : World) : Calls Try.prog 8 #[.agg #[.int .i64 11, .int .i64 r, .int .i64 a, .int .i64 b, .int .i64 n]] w fun e w' => ∃ v, e = .returned v ∧ Fresh w w' v (Plain.readsL 11 a b) := by
  go_enter Try.func8, Try.ntmps8
  go_wp2_with fail
  refine (placeOf_11 _ _ _ _ _).mono ?_
  rintro e w1 ⟨rfl, hb1⟩
  go_wp2_with fail
  refine (regsTaken_11 _ _).mono ?_
  rintro e w2 ⟨v, rfl, hv⟩
  go_wp2
  go_ret
  exact ⟨_, rfl, hv.from (((Below.refl _ _).alloc (Nat.le_refl _) _).trans (hb1.mono (by simp)))⟩

theorem implReads_12 (r a b n : Int) (w : World) : Calls Try.prog 8 #[.agg #[.int .i64 12, .int .i64 r, .int .i64 a, .int .i64 b, .int .i64 n]] w fun e w' => ∃ v, e = .returned v ∧ Fresh w w' v (Plain.readsL 12 a b) := by
  go_enter Try.func8, Try.ntmps8
  go_wp2_with fail
  refine (placeOf_12 _ _ _ _ _).mono ?_
  rintro e w1 ⟨rfl, hb1⟩
  go_wp2_with fail
  refine (regsTaken_12 _ _ _).mono ?_
  rintro e w2 ⟨v, rfl, hv⟩
  go_wp2
  go_ret
  exact ⟨_, rfl, hv.from (((Below.refl _ _).alloc (Nat.le_refl _) _).trans (hb1.mono (by simp)))⟩

theorem implReads_13 (r a b n : Int) (w : World) : Calls Try.prog 8 #[.agg #[.int .i64 13, .int .i64 r, .int .i64 a, .int .i64 b, .int .i64 n]] w fun e w' => ∃ v, e = .returned v ∧ Fresh w w' v (Plain.readsL 13 a b) := by
  go_enter Try.func8, Try.ntmps8
  go_wp2_with fail
  refine (placeOf_13 _ _ _ _ _).mono ?_
  rintro e w1 ⟨rfl, hb1⟩
  go_wp2_with fail
  refine (regsTaken_13  _).mono ?_
  rintro e w2 ⟨v, rfl, hv⟩
  go_wp2
  go_ret
  exact ⟨_, rfl, hv.from (((Below.refl _ _).alloc (Nat.le_refl _) _).trans (hb1.mono (by simp)))⟩

theorem implReads_any (op r a b n : Int) (w : World) : Calls Try.prog 8 #[.agg #[.int .i64 op, .int .i64 r, .int .i64 a, .int .i64 b, .int .i64 n]] w fun e w' => ∃ v, e = .returned v ∧ Fresh w w' v (Plain.readsL op a b) := by
  by_cases e1 : op = 1
  · subst e1; exact implReads_1 r a b n w
  by_cases e2 : op = 2
  · subst e2; exact implReads_2 r a b n w
  by_cases e3 : op = 3
  · subst e3; exact implReads_3 r a b n w
  by_cases e4 : op = 4
  · subst e4; exact implReads_4 r a b n w
  by_cases e5 : op = 5
  · subst e5; exact implReads_5 r a b n w
  by_cases e6 : op = 6
  · subst e6; exact implReads_6 r a b n w
  by_cases e7 : op = 7
  · subst e7; exact implReads_7 r a b n w
  by_cases e8 : op = 8
  · subst e8; exact implReads_8 r a b n w
  by_cases e9 : op = 9
  · subst e9; exact implReads_9 r a b n w
  by_cases e10 : op = 10
  · subst e10; exact implReads_10 r a b n w
  by_cases e11 : op = 11
  · subst e11; exact implReads_11 r a b n w
  by_cases e12 : op = 12
  · subst e12; exact implReads_12 r a b n w
  by_cases e13 : op = 13
  · subst e13; exact implReads_13 r a b n w
  have h1 : (op == 1) = false := by simpa using e1
  have h2 : (op == 2) = false := by simpa using e2
  have h3 : (op == 3) = false := by simpa using e3
  have h4 : (op == 4) = false := by simpa using e4
  have h5 : (op == 5) = false := by simpa using e5
  have h6 : (op == 6) = false := by simpa using e6
  have h7 : (op == 7) = false := by simpa using e7
  have h8 : (op == 8) = false := by simpa using e8
  have h9 : (op == 9) = false := by simpa using e9
  have h10 : (op == 10) = false := by simpa using e10
  have h11 : (op == 11) = false := by simpa using e11
  have h12 : (op == 12) = false := by simpa using e12
  have h13 : (op == 13) = false := by simpa using e13
  have hl : Plain.readsL op a b = [] := by simp [Plain.readsL, e1, e2, e3, e4, e5, e6, e7, e8, e9, e10, e11, e12, e13]
  rw [hl]
  clear hl e1 e2 e3 e4 e5 e6 e7 e8 e9 e10 e11 e12 e13
  go_enter Try.func8, Try.ntmps8
  go_wp2_with fail
  refine (placeOf_0 _ _ _ _ _ _ h1 h2 h3 h4 h5 h6 h7 h8 h9 h10 h11 h12 h13).mono ?_
  rintro e w1 ⟨rfl, hb1⟩
  go_wp2_with fail
  refine (regsTaken_0 _).mono ?_
  rintro e w2 ⟨v, rfl, hv⟩
  go_wp2
  go_ret
  exact ⟨_, rfl, hv.from (((Below.refl _ _).alloc (Nat.le_refl _) _).trans (hb1.mono (by simp)))⟩

set_option maxRecDepth 100000 in
theorem specReads_1 (r a b n : Int) (w : World) : Calls Try.prog 11 #[.agg #[.int .i64 1, .int .i64 r, .int .i64 a, .int .i64 b, .int .i64 n]] w fun e w' => ∃ v, e = .returned v ∧ Fresh w w' v [] := by
  go_enter Try.func11, Try.ntmps11
  go_wp2
  go_ret
  exact ⟨_, rfl, fresh0 (by first | exact Below.refl _ _ | exact ((Below.refl _ _).alloc (Nat.le_refl _) _) | exact ((Below.refl _ _).alloc (Nat.le_refl _) _).alloc (by simp) _) _ _⟩

set_option maxRecDepth 100000 in
theorem specReads_2 (r a b n : Int) (w : World) : Calls Try.prog 11 #[.agg #[.int .i64 2, .int .i64 r, .int .i64 a, .int .i64 b, .int .i64 n]] w fun e w' => ∃ v, e = .returned v ∧ Fresh w w' v [a, b] := by
  go_enter Try.func11, Try.ntmps11
  go_wp2
  go_ret
  exact ⟨_, rfl, fresh2 ((Below.refl _ _).alloc (Nat.le_refl _) _) _ (by simp) a b _⟩

set_option maxRecDepth 100000 in
theorem specReads_3 (r a b n : Int) (w : World) : Calls Try.prog 11 #[.agg #[.int .i64 3, .int .i64 r, .int .i64 a, .int .i64 b, .int .i64 n]] w fun e w' => ∃ v, e = .returned v ∧ Fresh w w' v [a, b] := by
  go_enter Try.func11, Try.ntmps11
  go_wp2
  go_ret
  exact ⟨_, rfl, fresh2 ((Below.refl _ _).alloc (Nat.le_refl _) _) _ (by simp) a b _⟩

set_option maxRecDepth 100000 in
theorem specReads_4 (r a b n : Int) (w : World) : Calls Try.prog 11 #[.agg #[.int .i64 4, .int .i64 r, .int .i64 a, .int .i64 b, .int .i64 n]] w fun e w' => ∃ v, e = .returned v ∧ Fresh w w' v [a, b] := by
  go_enter Try.func11, Try.ntmps11
  go_wp2
  go_ret
  exact ⟨_, rfl, fresh2 ((Below.refl _ _).alloc (Nat.le_refl _) _) _ (by simp) a b _⟩

set_option maxRecDepth 100000 in
theorem specReads_5 (r a b n : Int) (w : World) : Calls Try.prog 11 #[.agg #[.int .i64 5, .int .i64 r, .int .i64 a, .int .i64 b, .int .i64 n]] w fun e w' => ∃ v, e = .returned v ∧ Fresh w w' v [a] := by
  go_enter Try.func11, Try.ntmps11
  go_wp2
  go_ret
  exact ⟨_, rfl, fresh1 ((Below.refl _ _).alloc (Nat.le_refl _) _) _ (by simp) a _⟩

set_option maxRecDepth 100000 in
theorem specReads_6 (r a b n : Int) (w : World) : Calls Try.prog 11 #[.agg #[.int .i64 6, .int .i64 r, .int .i64 a, .int .i64 b, .int .i64 n]] w fun e w' => ∃ v, e = .returned v ∧ Fresh w w' v [] := by
  go_enter Try.func11, Try.ntmps11
  go_wp2
  go_ret
  exact ⟨_, rfl, fresh0 (by first | exact Below.refl _ _ | exact ((Below.refl _ _).alloc (Nat.le_refl _) _) | exact ((Below.refl _ _).alloc (Nat.le_refl _) _).alloc (by simp) _) _ _⟩

set_option maxRecDepth 100000 in
theorem specReads_7 (r a b n : Int) (w : World) : Calls Try.prog 11 #[.agg #[.int .i64 7, .int .i64 r, .int .i64 a, .int .i64 b, .int .i64 n]] w fun e w' => ∃ v, e = .returned v ∧ Fresh w w' v [a] := by
  go_enter Try.func11, Try.ntmps11
  go_wp2
  go_ret
  exact ⟨_, rfl, fresh1 ((Below.refl _ _).alloc (Nat.le_refl _) _) _ (by simp) a _⟩

set_option maxRecDepth 100000 in
theorem specReads_8 (r a b n : Int) (w : World) : Calls Try.prog 11 #[.agg #[.int .i64 8, .int .i64 r, .int .i64 a, .int .i64 b, .int .i64 n]] w fun e w' => ∃ v, e = .returned v ∧ Fresh w w' v [] := by
  go_enter Try.func11, Try.ntmps11
  go_wp2
  go_ret
  exact ⟨_, rfl, fresh0 (by first | exact Below.refl _ _ | exact ((Below.refl _ _).alloc (Nat.le_refl _) _) | exact ((Below.refl _ _).alloc (Nat.le_refl _) _).alloc (by simp) _) _ _⟩

set_option maxRecDepth 100000 in
theorem specReads_9 (r a b n : Int) (w : World) : Calls Try.prog 11 #[.agg #[.int .i64 9, .int .i64 r, .int .i64 a, .int .i64 b, .int .i64 n]] w fun e w' => ∃ v, e = .returned v ∧ Fresh w w' v [] := by
  go_enter Try.func11, Try.ntmps11
  go_wp2
  go_ret
  exact ⟨_, rfl, fresh0 (by first | exact Below.refl _ _ | exact ((Below.refl _ _).alloc (Nat.le_refl _) _) | exact ((Below.refl _ _).alloc (Nat.le_refl _) _).alloc (by simp) _) _ _⟩

set_option maxRecDepth 100000 in
theorem specReads_10 (r a b n : Int) (w : World) : Calls Try.prog 11 #[.agg #[.int .i64 10, .int .i64 r, .int .i64 a, .int .i64 b, .int .i64 n]] w fun e w' => ∃ v, e = .returned v ∧ Fresh w w' v [a] := by
  go_enter Try.func11, Try.ntmps11
  go_wp2
  go_ret
  exact ⟨_, rfl, fresh1 ((Below.refl _ _).alloc (Nat.le_refl _) _) _ (by simp) a _⟩

set_option maxRecDepth 100000 in
theorem specReads_11 (r a b n : Int) (w : World) : Calls Try.prog 11 #[.agg #[.int .i64 11, .int .i64 r, .int .i64 a, .int .i64 b, .int .i64 n]] w fun e w' => ∃ v, e = .returned v ∧ Fresh w w' v [] := by
  go_enter Try.func11, Try.ntmps11
  go_wp2
  go_ret
  exact ⟨_, rfl, fresh0 (by first | exact Below.refl _ _ | exact ((Below.refl _ _).alloc (Nat.le_refl _) _) | exact ((Below.refl _ _).alloc (Nat.le_refl _) _).alloc (by simp) _) _ _⟩

set_option maxRecDepth 100000 in
theorem specReads_12 (r a b n : Int) (w : World) : Calls Try.prog 11 #[.agg #[.int .i64 12, .int .i64 r, .int .i64 a, .int .i64 b, .int .i64 n]] w fun e w' => ∃ v, e = .returned v ∧ Fresh w w' v [a] := by
  go_enter Try.func11, Try.ntmps11
  go_wp2
  go_ret
  exact ⟨_, rfl, fresh1 ((Below.refl _ _).alloc (Nat.le_refl _) _) _ (by simp) a _⟩

set_option maxRecDepth 100000 in
theorem specReads_13 (r a b n : Int) (w : World) : Calls Try.prog 11 #[.agg #[.int .i64 13, .int .i64 r, .int .i64 a, .int .i64 b, .int .i64 n]] w fun e w' => ∃ v, e = .returned v ∧ Fresh w w' v [] := by
  go_enter Try.func11, Try.ntmps11
  go_wp2
  go_ret
  exact ⟨_, rfl, fresh0 (by first | exact Below.refl _ _ | exact ((Below.refl _ _).alloc (Nat.le_refl _) _) | exact ((Below.refl _ _).alloc (Nat.le_refl _) _).alloc (by simp) _) _ _⟩

set_option maxRecDepth 100000 in
theorem specReads_0 (op r a b n : Int) (w : World) (h1 : (op == 1) = false) (h2 : (op == 2) = false) (h3 : (op == 3) = false) (h4 : (op == 4) = false) (h5 : (op == 5) = false) (h6 : (op == 6) = false) (h7 : (op == 7) = false) (h8 : (op == 8) = false) (h9 : (op == 9) = false) (h10 : (op == 10) = false) (h11 : (op == 11) = false) (h12 : (op == 12) = false) (h13 : (op == 13) = false) : Calls Try.prog 11 #[.agg #[.int .i64 op, .int .i64 r, .int .i64 a, .int .i64 b, .int .i64 n]] w fun e w' => ∃ v, e = .returned v ∧ Fresh w w' v [] := by
  go_enter Try.func11, Try.ntmps11
  go_wp2
  go_ret
  exact ⟨_, rfl, fresh0 (by first | exact Below.refl _ _ | exact ((Below.refl _ _).alloc (Nat.le_refl _) _) | exact ((Below.refl _ _).alloc (Nat.le_refl _) _).alloc (by simp) _) _ _⟩

theorem specReads_any (op r a b n : Int) (w : World) : Calls Try.prog 11 #[.agg #[.int .i64 op, .int .i64 r, .int .i64 a, .int .i64 b, .int .i64 n]] w fun e w' => ∃ v, e = .returned v ∧ Fresh w w' v (Plain.readsL op a b) := by
  by_cases e1 : op = 1
  · subst e1; exact specReads_1 r a b n w
  by_cases e2 : op = 2
  · subst e2; exact specReads_2 r a b n w
  by_cases e3 : op = 3
  · subst e3; exact specReads_3 r a b n w
  by_cases e4 : op = 4
  · subst e4; exact specReads_4 r a b n w
  by_cases e5 : op = 5
  · subst e5; exact specReads_5 r a b n w
  by_cases e6 : op = 6
  · subst e6; exact specReads_6 r a b n w
  by_cases e7 : op = 7
  · subst e7; exact specReads_7 r a b n w
  by_cases e8 : op = 8
  · subst e8; exact specReads_8 r a b n w
  by_cases e9 : op = 9
  · subst e9; exact specReads_9 r a b n w
  by_cases e10 : op = 10
  · subst e10; exact specReads_10 r a b n w
  by_cases e11 : op = 11
  · subst e11; exact specReads_11 r a b n w
  by_cases e12 : op = 12
  · subst e12; exact specReads_12 r a b n w
  by_cases e13 : op = 13
  · subst e13; exact specReads_13 r a b n w
  have h1 : (op == 1) = false := by simpa using e1
  have h2 : (op == 2) = false := by simpa using e2
  have h3 : (op == 3) = false := by simpa using e3
  have h4 : (op == 4) = false := by simpa using e4
  have h5 : (op == 5) = false := by simpa using e5
  have h6 : (op == 6) = false := by simpa using e6
  have h7 : (op == 7) = false := by simpa using e7
  have h8 : (op == 8) = false := by simpa using e8
  have h9 : (op == 9) = false := by simpa using e9
  have h10 : (op == 10) = false := by simpa using e10
  have h11 : (op == 11) = false := by simpa using e11
  have h12 : (op == 12) = false := by simpa using e12
  have h13 : (op == 13) = false := by simpa using e13
  have hl : Plain.readsL op a b = [] := by simp [Plain.readsL, e1, e2, e3, e4, e5, e6, e7, e8, e9, e10, e11, e12, e13]
  rw [hl]
  exact specReads_0 op r a b n w h1 h2 h3 h4 h5 h6 h7 h8 h9 h10 h11 h12 h13

theorem implSets_1 (r a b n : Int) (w : World) : Calls Try.prog 9 #[.agg #[.int .i64 1, .int .i64 r, .int .i64 a, .int .i64 b, .int .i64 n]] w fun e w' => ∃ v, e = .returned v ∧ Fresh w w' v (Plain.setsL 1 r b) := by
  go_enter Try.func9, Try.ntmps9
  go_wp2_with fail
  refine (placeOf_1 _ _ _ _ _).mono ?_
  rintro e w1 ⟨rfl, hb1⟩
  go_wp2_with fail
  refine (regsSet_1 _ _ _).mono ?_
  rintro e w2 ⟨v, rfl, hv⟩
  go_wp2
  go_ret
  exact ⟨_, rfl, hv.from (((Below.refl _ _).alloc (Nat.le_refl _) _).trans (hb1.mono (by simp)))⟩

theorem implSets_2 (r a b n : Int) (w : World) : Calls Try.prog 9 #[.agg #[.int .i64 2, .int .i64 r, .int .i64 a, .int .i64 b, .int .i64 n]] w fun e w' => ∃ v, e = .returned v ∧ Fresh w w' v (Plain.setsL 2 r b) := by
  go_enter Try.func9, Try.ntmps9
  go_wp2_with fail
  refine (placeOf_2 _ _ _ _ _).mono ?_
  rintro e w1 ⟨rfl, hb1⟩
  go_wp2_with fail
  refine (regsSet_2 _ _ _ _).mono ?_
  rintro e w2 ⟨v, rfl, hv⟩
  go_wp2
  go_ret
  exact ⟨_, rfl, hv.from (((Below.refl _ _).alloc (Nat.le_refl _) _).trans (hb1.mono (by simp)))⟩

theorem implSets_3 (r a b n : Int) (w : World) : Calls Try.prog 9 #[.agg #[.int .i64 3, .int .i64 r, .int .i64 a, .int .i64 b, .int .i64 n]] w fun e w' => ∃ v, e = .returned v ∧ Fresh w w' v (Plain.setsL 3 r b) := by
  go_enter Try.func9, Try.ntmps9
  go_wp2_with fail
  refine (placeOf_3 _ _ _ _ _).mono ?_
  rintro e w1 ⟨rfl, hb1⟩
  go_wp2_with fail
  refine (regsSet_3 _ _ _ _).mono ?_
  rintro e w2 ⟨v, rfl, hv⟩
  go_wp2
  go_ret
  exact ⟨_, rfl, hv.from (((Below.refl _ _).alloc (Nat.le_refl _) _).trans (hb1.mono (by simp)))⟩

theorem implSets_4 (r a b n : Int) (w : World) : Calls Try.prog 9 #[.agg #[.int .i64 4, .int .i64 r, .int .i64 a, .int .i64 b, .int .i64 n]] w fun e w' => ∃ v, e = .returned v ∧ Fresh w w' v (Plain.setsL 4 r b) := by
  go_enter Try.func9, Try.ntmps9
  go_wp2_with fail
  refine (placeOf_4 _ _ _ _ _).mono ?_
  rintro e w1 ⟨rfl, hb1⟩
  go_wp2_with fail
  refine (regsSet_4 _ _ _ _).mono ?_
  rintro e w2 ⟨v, rfl, hv⟩
  go_wp2
  go_ret
  exact ⟨_, rfl, hv.from (((Below.refl _ _).alloc (Nat.le_refl _) _).trans (hb1.mono (by simp)))⟩

theorem implSets_5 (r a b n : Int) (w : World) : Calls Try.prog 9 #[.agg #[.int .i64 5, .int .i64 r, .int .i64 a, .int .i64 b, .int .i64 n]] w fun e w' => ∃ v, e = .returned v ∧ Fresh w w' v (Plain.setsL 5 r b) := by
  go_enter Try.func9, Try.ntmps9
  go_wp2_with fail
  refine (placeOf_5 _ _ _ _ _).mono ?_
  rintro e w1 ⟨rfl, hb1⟩
  go_wp2_with fail
  refine (regsSet_5 _ _ _).mono ?_
  rintro e w2 ⟨v, rfl, hv⟩
  go_wp2
  go_ret
  exact ⟨_, rfl, hv.from (((Below.refl _ _).alloc (Nat.le_refl _) _).trans (hb1.mono (by simp)))⟩

theorem implSets_6 (r a b n : Int) (w : World) : Calls Try.prog 9 #[.agg #[.int .i64 6, .int .i64 r, .int .i64 a, .int .i64 b, .int .i64 n]] w fun e w' => ∃ v, e = .returned v ∧ Fresh w w' v (Plain.setsL 6 r b) := by
  go_enter Try.func9, Try.ntmps9
  go_wp2_with fail
  refine (placeOf_6 _ _ _ _ _).mono ?_
  rintro e w1 ⟨rfl, hb1⟩
  go_wp2_with fail
  refine (regsSet_6 _ _ _ _).mono ?_
  rintro e w2 ⟨v, rfl, hv⟩
  go_wp2
  go_ret
  exact ⟨_, rfl, hv.from (((Below.refl _ _).alloc (Nat.le_refl _) _).trans (hb1.mono (by simp)))⟩

theorem implSets_7 (r a b n : Int) (w : World) : Calls Try.prog 9 #[.agg #[.int .i64 7, .int .i64 r, .int .i64 a, .int .i64 b, .int .i64 n]] w fun e w' => ∃ v, e = .returned v ∧ Fresh w w' v (Plain.setsL 7 r b) := by
  go_enter Try.func9, Try.ntmps9
  go_wp2_with fail
  refine (placeOf_7 _ _ _ _ _).mono ?_
  rintro e w1 ⟨rfl, hb1⟩
  go_wp2_with fail
  refine (regsSet_7 _ _ _ _).mono ?_
  rintro e w2 ⟨v, rfl, hv⟩
  go_wp2
  go_ret
  exact ⟨_, rfl, hv.from (((Below.refl _ _).alloc (Nat.le_refl _) _).trans (hb1.mono (by simp)))⟩

theorem implSets_8 (r a b n : Int) (w : World) : Calls Try.prog 9 #[.agg #[.int .i64 8, .int .i64 r, .int .i64 a, .int .i64 b, .int .i64 n]] w fun e w' => ∃ v, e = .returned v ∧ Fresh w w' v (Plain.setsL 8 r b) := by
  go_enter Try.func9, Try.ntmps9
  go_wp2_with fail
  refine (placeOf_8 _ _ _ _ _).mono ?_
  rintro e w1 ⟨rfl, hb1⟩
  go_wp2_with fail
  refine (regsSet_8 _ _ _ _).mono ?_
  rintro e w2 ⟨v, rfl, hv⟩
  go_wp2
  go_ret
  exact ⟨_, rfl, hv.from (((Below.refl _ _).alloc (Nat.le_refl _) _).trans (hb1.mono (by simp)))⟩

theorem implSets_9 (r a b n : Int) (w : World) : Calls Try.prog 9 #[.agg #[.int .i64 9, .int .i64 r, .int .i64 a, .int .i64 b, .int .i64 n]] w fun e w' => ∃ v, e = .returned v ∧ Fresh w w' v (Plain.setsL 9 r b) := by
  go_enter Try.func9, Try.ntmps9
  go_wp2_with fail
  refine (placeOf_9 _ _ _ _ _).mono ?_
  rintro e w1 ⟨rfl, hb1⟩
  go_wp2_with fail
  refine (regsSet_9 _ _).mono ?_
  rintro e w2 ⟨v, rfl, hv⟩
  go_wp2
  go_ret
  exact ⟨_, rfl, hv.from (((Below.refl _ _).alloc (Nat.le_refl _) _).trans (hb1.mono (by simp)))⟩

theorem implSets_10 (r a b n : Int) (w : World) : Calls Try.prog 9 #[.agg #[.int .i64 10, .int .i64 r, .int .i64 a, .int .i64 b, .int .i64 n]] w fun e w' => ∃ v, e = .returned v ∧ Fresh w w' v (Plain.setsL 10 r b) := by
  go_enter Try.func9, Try.ntmps9
  go_wp2_with fail
  refine (placeOf_10 _ _ _ _ _).mono ?_
  rintro e w1 ⟨rfl, hb1⟩
  go_wp2_with fail
  refine (regsSet_10 _ _).mono ?_
  rintro e w2 ⟨v, rfl, hv⟩
  go_wp2
  go_ret
  exact ⟨_, rfl, hv.from (((Below.refl _ _).alloc (Nat.le_refl _) _).trans (hb1.mono (by simp)))⟩

theorem implSets_11 (r a b n : Int) (w : World) : Calls Try.prog 9 #[.agg #[.int .i64 11, .int .i64 r, .int .i64 a, .int .i64 b, .int .i64 n]] w fun e w' => ∃ v, e = .returned v ∧ Fresh w w' v (Plain.setsL 11 r b) := by
  go_enter Try.func9, Try.ntmps9
  go_wp2_with fail
  refine (placeOf_11 _ _ _ _ _).mono ?_
  rintro e w1 ⟨rfl, hb1⟩
  go_wp2_with fail
  refine (regsSet_11 _ _).mono ?_
  rintro e w2 ⟨v, rfl, hv⟩
  go_wp2
  go_ret
  exact ⟨_, rfl, hv.from (((Below.refl _ _).alloc (Nat.le_refl _) _).trans (hb1.mono (by simp)))⟩

theorem implSets_12 (r a b n : Int) (w : World) : Calls Try.prog 9 #[.agg #[.int .i64 12, .int .i64 r, .int .i64 a, .int .i64 b, .int .i64 n]] w fun e w' => ∃ v, e = .returned v ∧ Fresh w w' v (Plain.setsL 12 r b) := by
  go_enter Try.func9, Try.ntmps9
  go_wp2_with fail
  refine (placeOf_12 _ _ _ _ _).mono ?_
  rintro e w1 ⟨rfl, hb1⟩
  go_wp2_with fail
  refine (regsSet_12 _ _ _).mono ?_
  rintro e w2 ⟨v, rfl, hv⟩
  go_wp2
  go_ret
  exact ⟨_, rfl, hv.from (((Below.refl _ _).alloc (Nat.le_refl _) _).trans (hb1.mono (by simp)))⟩

theorem implSets_13 (r a b n : Int) (w : World) : Calls Try.prog 9 #[.agg #[.int .i64 13, .int .i64 r, .int .i64 a, .int .i64 b, .int .i64 n]] w fun e w' => ∃ v, e = .returned v ∧ Fresh w w' v (Plain.setsL 13 r b) := by
  go_enter Try.func9, Try.ntmps9
  go_wp2_with fail
  refine (placeOf_13 _ _ _ _ _).mono ?_
  rintro e w1 ⟨rfl, hb1⟩
  go_wp2_with fail
  refine (regsSet_13  _).mono ?_
  rintro e w2 ⟨v, rfl, hv⟩
  go_wp2
  go_ret
  exact ⟨_, rfl, hv.from (((Below.refl _ _).alloc (Nat.le_refl _) _).trans (hb1.mono (by simp)))⟩

theorem implSets_any (op r a b n : Int) (w : World) : Calls Try.prog 9 #[.agg #[.int .i64 op, .int .i64 r, .int .i64 a, .int .i64 b, .int .i64 n]] w fun e w' => ∃ v, e = .returned v ∧ Fresh w w' v (Plain.setsL op r b) := by
  by_cases e1 : op = 1
  · subst e1; exact implSets_1 r a b n w
  by_cases e2 : op = 2
  · subst e2; exact implSets_2 r a b n w
  by_cases e3 : op = 3
  · subst e3; exact implSets_3 r a b n w
  by_cases e4 : op = 4
  · subst e4; exact implSets_4 r a b n w
  by_cases e5 : op = 5
  · subst e5; exact implSets_5 r a b n w
  by_cases e6 : op = 6
  · subst e6; exact implSets_6 r a b n w
  by_cases e7 : op = 7
  · subst e7; exact implSets_7 r a b n w
  by_cases e8 : op = 8
  · subst e8; exact implSets_8 r a b n w
  by_cases e9 : op = 9
  · subst e9; exact implSets_9 r a b n w
  by_cases e10 : op = 10
  · subst e10; exact implSets_10 r a b n w
  by_cases e11 : op = 11
  · subst e11; exact implSets_11 r a b n w
  by_cases e12 : op = 12
  · subst e12; exact implSets_12 r a b n w
  by_cases e13 : op = 13
  · subst e13; exact implSets_13 r a b n w
  have h1 : (op == 1) = false := by simpa using e1
  have h2 : (op == 2) = false := by simpa using e2
  have h3 : (op == 3) = false := by simpa using e3
  have h4 : (op == 4) = false := by simpa using e4
  have h5 : (op == 5) = false := by simpa using e5
  have h6 : (op == 6) = false := by simpa using e6
  have h7 : (op == 7) = false := by simpa using e7
  have h8 : (op == 8) = false := by simpa using e8
  have h9 : (op == 9) = false := by simpa using e9
  have h10 : (op == 10) = false := by simpa using e10
  have h11 : (op == 11) = false := by simpa using e11
  have h12 : (op == 12) = false := by simpa using e12
  have h13 : (op == 13) = false := by simpa using e13
  have hl : Plain.setsL op r b = [] := by simp [Plain.setsL, e1, e2, e3, e4, e5, e6, e7, e8, e9, e10, e11, e12, e13]
  rw [hl]
  clear hl e1 e2 e3 e4 e5 e6 e7 e8 e9 e10 e11 e12 e13
  go_enter Try.func9, Try.ntmps9
  go_wp2_with fail
  refine (placeOf_0 _ _ _ _ _ _ h1 h2 h3 h4 h5 h6 h7 h8 h9 h10 h11 h12 h13).mono ?_
  rintro e w1 ⟨rfl, hb1⟩
  go_wp2_with fail
  refine (regsSet_0 _).mono ?_
  rintro e w2 ⟨v, rfl, hv⟩
  go_wp2
  go_ret
  exact ⟨_, rfl, hv.from (((Below.refl _ _).alloc (Nat.le_refl _) _).trans (hb1.mono (by simp)))⟩

set_option maxRecDepth 100000 in
theorem specSets_1 (r a b n : Int) (w : World) : Calls Try.prog 12 #[.agg #[.int .i64 1, .int .i64 r, .int .i64 a, .int .i64 b, .int .i64 n]] w fun e w' => ∃ v, e = .returned v ∧ Fresh w w' v [r] := by
  go_enter Try.func12, Try.ntmps12
  go_wp2
  go_ret
  exact ⟨_, rfl, fresh1 ((Below.refl _ _).alloc (Nat.le_refl _) _) _ (by simp) r _⟩

set_option maxRecDepth 100000 in
theorem specSets_2 (r a b n : Int) (w : World) : Calls Try.prog 12 #[.agg #[.int .i64 2, .int .i64 r, .int .i64 a, .int .i64 b, .int .i64 n]] w fun e w' => ∃ v, e = .returned v ∧ Fresh w w' v [r] := by
  go_enter Try.func12, Try.ntmps12
  go_wp2
  go_ret
  exact ⟨_, rfl, fresh1 ((Below.refl _ _).alloc (Nat.le_refl _) _) _ (by simp) r _⟩

set_option maxRecDepth 100000 in
theorem specSets_3 (r a b n : Int) (w : World) : Calls Try.prog 12 #[.agg #[.int .i64 3, .int .i64 r, .int .i64 a, .int .i64 b, .int .i64 n]] w fun e w' => ∃ v, e = .returned v ∧ Fresh w w' v [r] := by
  go_enter Try.func12, Try.ntmps12
  go_wp2
  go_ret
  exact ⟨_, rfl, fresh1 ((Below.refl _ _).alloc (Nat.le_refl _) _) _ (by simp) r _⟩

set_option maxRecDepth 100000 in
theorem specSets_4 (r a b n : Int) (w : World) : Calls Try.prog 12 #[.agg #[.int .i64 4, .int .i64 r, .int .i64 a, .int .i64 b, .int .i64 n]] w fun e w' => ∃ v, e = .returned v ∧ Fresh w w' v [r] := by
  go_enter Try.func12, Try.ntmps12
  go_wp2
  go_ret
  exact ⟨_, rfl, fresh1 ((Below.refl _ _).alloc (Nat.le_refl _) _) _ (by simp) r _⟩

set_option maxRecDepth 100000 in
theorem specSets_5 (r a b n : Int) (w : World) : Calls Try.prog 12 #[.agg #[.int .i64 5, .int .i64 r, .int .i64 a, .int .i64 b, .int .i64 n]] w fun e w' => ∃ v, e = .returned v ∧ Fresh w w' v [] := by
  go_enter Try.func12, Try.ntmps12
  go_wp2
  go_ret
  exact ⟨_, rfl, fresh0 (by first | exact Below.refl _ _ | exact ((Below.refl _ _).alloc (Nat.le_refl _) _) | exact ((Below.refl _ _).alloc (Nat.le_refl _) _).alloc (by simp) _) _ _⟩

set_option maxRecDepth 100000 in
theorem specSets_6 (r a b n : Int) (w : World) : Calls Try.prog 12 #[.agg #[.int .i64 6, .int .i64 r, .int .i64 a, .int .i64 b, .int .i64 n]] w fun e w' => ∃ v, e = .returned v ∧ Fresh w w' v [r, b] := by
  go_enter Try.func12, Try.ntmps12
  go_wp2
  go_ret
  exact ⟨_, rfl, fresh2 ((Below.refl _ _).alloc (Nat.le_refl _) _) _ (by simp) r b _⟩

set_option maxRecDepth 100000 in
theorem specSets_7 (r a b n : Int) (w : World) : Calls Try.prog 12 #[.agg #[.int .i64 7, .int .i64 r, .int .i64 a, .int .i64 b, .int .i64 n]] w fun e w' => ∃ v, e = .returned v ∧ Fresh w w' v [r] := by
  go_enter Try.func12, Try.ntmps12
  go_wp2
  go_ret
  exact ⟨_, rfl, fresh1 ((Below.refl _ _).alloc (Nat.le_refl _) _) _ (by simp) r _⟩

set_option maxRecDepth 100000 in
theorem specSets_8 (r a b n : Int) (w : World) : Calls Try.prog 12 #[.agg #[.int .i64 8, .int .i64 r, .int .i64 a, .int .i64 b, .int .i64 n]] w fun e w' => ∃ v, e = .returned v ∧ Fresh w w' v [r, b] := by
  go_enter Try.func12, Try.ntmps12
  go_wp2
  go_ret
  exact ⟨_, rfl, fresh2 ((Below.refl _ _).alloc (Nat.le_refl _) _) _ (by simp) r b _⟩

set_option maxRecDepth 100000 in
theorem specSets_9 (r a b n : Int) (w : World) : Calls Try.prog 12 #[.agg #[.int .i64 9, .int .i64 r, .int .i64 a, .int .i64 b, .int .i64 n]] w fun e w' => ∃ v, e = .returned v ∧ Fresh w w' v [] := by
  go_enter Try.func12, Try.ntmps12
  go_wp2
  go_ret
  exact ⟨_, rfl, fresh0 (by first | exact Below.refl _ _ | exact ((Below.refl _ _).alloc (Nat.le_refl _) _) | exact ((Below.refl _ _).alloc (Nat.le_refl _) _).alloc (by simp) _) _ _⟩

set_option maxRecDepth 100000 in
theorem specSets_10 (r a b n : Int) (w : World) : Calls Try.prog 12 #[.agg #[.int .i64 10, .int .i64 r, .int .i64 a, .int .i64 b, .int .i64 n]] w fun e w' => ∃ v, e = .returned v ∧ Fresh w w' v [] := by
  go_enter Try.func12, Try.ntmps12
  go_wp2
  go_ret
  exact ⟨_, rfl, fresh0 (by first | exact Below.refl _ _ | exact ((Below.refl _ _).alloc (Nat.le_refl _) _) | exact ((Below.refl _ _).alloc (Nat.le_refl _) _).alloc (by simp) _) _ _⟩

set_option maxRecDepth 100000 in
theorem specSets_11 (r a b n : Int) (w : World) : Calls Try.prog 12 #[.agg #[.int .i64 11, .int .i64 r, .int .i64 a, .int .i64 b, .int .i64 n]] w fun e w' => ∃ v, e = .returned v ∧ Fresh w w' v [] := by
  go_enter Try.func12, Try.ntmps12
  go_wp2
  go_ret
  exact ⟨_, rfl, fresh0 (by first | exact Below.refl _ _ | exact ((Below.refl _ _).alloc (Nat.le_refl _) _) | exact ((Below.refl _ _).alloc (Nat.le_refl _) _).alloc (by simp) _) _ _⟩

set_option maxRecDepth 100000 in
theorem specSets_12 (r a b n : Int) (w : World) : Calls Try.prog 12 #[.agg #[.int .i64 12, .int .i64 r, .int .i64 a, .int .i64 b, .int .i64 n]] w fun e w' => ∃ v, e = .returned v ∧ Fresh w w' v [] := by
  go_enter Try.func12, Try.ntmps12
  go_wp2
  go_ret
  exact ⟨_, rfl, fresh0 (by first | exact Below.refl _ _ | exact ((Below.refl _ _).alloc (Nat.le_refl _) _) | exact ((Below.refl _ _).alloc (Nat.le_refl _) _).alloc (by simp) _) _ _⟩

set_option maxRecDepth 100000 in
theorem specSets_13 (r a b n : Int) (w : World) : Calls Try.prog 12 #[.agg #[.int .i64 13, .int .i64 r, .int .i64 a, .int .i64 b, .int .i64 n]] w fun e w' => ∃ v, e = .returned v ∧ Fresh w w' v [] := by
  go_enter Try.func12, Try.ntmps12
  go_wp2
  go_ret
  exact ⟨_, rfl, fresh0 (by first | exact Below.refl _ _ | exact ((Below.refl _ _).alloc (Nat.le_refl _) _) | exact ((Below.refl _ _).alloc (Nat.le_refl _) _).alloc (by simp) _) _ _⟩

set_option maxRecDepth 100000 in
theorem specSets_0 (op r a b n : Int) (w : World) (h1 : (op == 1) = false) (h2 : (op == 2) = false) (h3 : (op == 3) = false) (h4 : (op == 4) = false) (h5 : (op == 5) = false) (h6 : (op == 6) = false) (h7 : (op == 7) = false) (h8 : (op == 8) = false) (h9 : (op == 9) = false) (h10 : (op == 10) = false) (h11 : (op == 11) = false) (h12 : (op == 12) = false) (h13 : (op == 13) = false) : Calls Try.prog 12 #[.agg #[.int .i64 op, .int .i64 r, .int .i64 a, .int .i64 b, .int .i64 n]] w fun e w' => ∃ v, e = .returned v ∧ Fresh w w' v [] := by
  go_enter Try.func12, Try.ntmps12
  go_wp2
  go_ret
  exact ⟨_, rfl, fresh0 (by first | exact Below.refl _ _ | exact ((Below.refl _ _).alloc (Nat.le_refl _) _) | exact ((Below.refl _ _).alloc (Nat.le_refl _) _).alloc (by simp) _) _ _⟩

theorem specSets_any (op r a b n : Int) (w : World) : Calls Try.prog 12 #[.agg #[.int .i64 op, .int .i64 r, .int .i64 a, .int .i64 b, .int .i64 n]] w fun e w' => ∃ v, e = .returned v ∧ Fresh w w' v (Plain.setsL op r b) := by
  by_cases e1 : op = 1
  · subst e1; exact specSets_1 r a b n w
  by_cases e2 : op = 2
  · subst e2; exact specSets_2 r a b n w
  by_cases e3 : op = 3
  · subst e3; exact specSets_3 r a b n w
  by_cases e4 : op = 4
  · subst e4; exact specSets_4 r a b n w
  by_cases e5 : op = 5
  · subst e5; exact specSets_5 r a b n w
  by_cases e6 : op = 6
  · subst e6; exact specSets_6 r a b n w
  by_cases e7 : op = 7
  · subst e7; exact specSets_7 r a b n w
  by_cases e8 : op = 8
  · subst e8; exact specSets_8 r a b n w
  by_cases e9 : op = 9
  · subst e9; exact specSets_9 r a b n w
  by_cases e10 : op = 10
  · subst e10; exact specSets_10 r a b n w
  by_cases e11 : op = 11
  · subst e11; exact specSets_11 r a b n w
  by_cases e12 : op = 12
  · subst e12; exact specSets_12 r a b n w
  by_cases e13 : op = 13
  · subst e13; exact specSets_13 r a b n w
  have h1 : (op == 1) = false := by simpa using e1
  have h2 : (op == 2) = false := by simpa using e2
  have h3 : (op == 3) = false := by simpa using e3
  have h4 : (op == 4) = false := by simpa using e4
  have h5 : (op == 5) = false := by simpa using e5
  have h6 : (op == 6) = false := by simpa using e6
  have h7 : (op == 7) = false := by simpa using e7
  have h8 : (op == 8) = false := by simpa using e8
  have h9 : (op == 9) = false := by simpa using e9
  have h10 : (op == 10) = false := by simpa using e10
  have h11 : (op == 11) = false := by simpa using e11
  have h12 : (op == 12) = false := by simpa using e12
  have h13 : (op == 13) = false := by simpa using e13
  have hl : Plain.setsL op r b = [] := by simp [Plain.setsL, e1, e2, e3, e4, e5, e6, e7, e8, e9, e10, e11, e12, e13]
  rw [hl]
  exact specSets_0 op r a b n w h1 h2 h3 h4 h5 h6 h7 h8 h9 h10 h11 h12 h13

end Go.Proofs.Ytkmobmnbdapjkag
