/- readOp of the program; the plain reading of a line. Condition: the tables hold what their initialisers lay (Env). -/
import Derived.Test.YtajblippcnidiaaGreatDoorRead1
import Derived.Test.YtajblippcnidiaaGreatDoorRead2
namespace Go.Proofs.YtajblippcnidiaaGreatDoor
set_option linter.unusedSimpArgs false
set_option linter.unusedVariables false
set_option maxRecDepth 100000
open Go.RowKit

def opL (wd : List UInt8) : Nat := ((List.range 14).find? fun i => decide (1 ≤ i) && decide (wordL i = wd)).getD 0
theorem op_hit {k : Nat} {wd : List UInt8} (h1 : 1 ≤ k) (h2 : k < 14) (h : wordL k = wd) : opL wd = k := by
  have : ∀ i : Fin 14, 1 ≤ i.val → opL (wordL i.val) = i.val := by decide
  rw [← h]
  exact this ⟨k, h2⟩ h1
theorem op_miss {wd : List UInt8} (h : ∀ i, 1 ≤ i → i < 14 → wordL i ≠ wd) : opL wd = 0 := by
  unfold opL
  have : ((List.range 14).find? fun i => decide (1 ≤ i) && decide (wordL i = wd)) = none := by
    rw [List.find?_eq_none]
    intro i hi
    have := List.mem_range.1 hi
    simp
    intro h1
    exact h i h1 this
  rw [this]
  rfl
theorem op_lt (wd : List UInt8) : opL wd < 14 := by
  unfold opL
  cases h : (List.range 14).find? fun i => decide (1 ≤ i) && decide (wordL i = wd) with
  | none => simp
  | some k =>
    have := List.mem_of_find?_eq_some h
    simpa using this
theorem op_word {wd : List UInt8} (h : opL wd ≠ 0) : wordL (opL wd) = wd := by
  unfold opL at h ⊢
  cases hf : (List.range 14).find? fun i => decide (1 ≤ i) && decide (wordL i = wd) with
  | none => rw [hf] at h; exact absurd rfl h
  | some k =>
    have := List.find?_some hf
    simp at this
    exact this.2
def opO (wd : List UInt8) : Option Int := if opL wd = 0 then none else some (opL wd : Int)

set_option maxHeartbeats 2000000 in
theorem readOp_any (l : List UInt8) (w : World) (hE : Env w w.heap.size) : Calls Tryz.prog 77 #[.string ⟨l.toArray⟩] w fun e w' => numPost (opO l) e ∧ Below w.heap.size w w' := by
  have HE : Hid (Env w w.heap.size) := hE
  clear hE
  go_enter Tryz.func77, Tryz.ntmps77
  go_wp2
  go_loop [3] (fun i => ∃ k : Nat, 1 ≤ k ∧ k ≤ 14 ∧ i = .int .i64 k ∧ Hid (∀ i, 1 ≤ i → i < k → wordL i ≠ l)) (fun i => 14 - (intOf i).toNat)
  case atStart => exact ⟨1, by omega, by omega, rfl, fun i h1 h2 => by omega⟩
  case round =>
    obtain ⟨k, h1, h2, rfl, HD⟩ := hrel
    by_cases hk : k < 14
    · have b0 : (0 : Int) ≤ (k : Int) := by omega
      have b1 : (k : Int) ≤ 13 := by omega
      have b2 : (k : Int) < 14 := by omega
      have f0 := (HE.out.forms k hk).1
      by_cases he : wordL k = l
      · have HO : Hid (opO l = some (k : Int)) := by show _ = _; unfold opO; rw [op_hit h1 hk he, if_neg (by omega)]
        have hb : (wordL k == l) = true := by simpa using he
        clear he
        go_wp2
        go_ret
        refine ⟨?_, Below.refl _ _⟩
        rw [HO.out]
        rfl
      · have hb : (wordL k == l) = false := by simpa using he
        go_wp2
        go_round
        case rel =>
          refine ⟨k + 1, by omega, by omega, by go_num, fun i a b => ?_⟩
          by_cases e : i = k
          · subst e; exact he
          · exact HD.out i a (by omega)
        case measure => simp [intOf]; omega
    · have : k = 14 := by omega
      subst this
      have HO : Hid (opO l = none) := by show _ = _; unfold opO; rw [op_miss HD.out, if_pos rfl]
      go_wp2
      refine ⟨rfl, ?_, Below.refl _ _⟩
      rw [HO.out]
      rfl

/- what a line reads as -/
def getF : List UInt8 → List Int → UInt8 → Int
  | c :: cs, v :: vs, d => if c = d then v else getF cs vs d
  | _, _, _ => 0
def numsO (ws : List (List UInt8)) : Option (List Int) := ws.mapM numI
structure R5 where
  o : Int
  r : Int
  a : Int
  b : Int
  n : Int
def putF (o : Nat) (vs : List Int) : R5 := ⟨o, getF (letL o) vs 82, getF (letL o) vs 65, getF (letL o) vs 66, getF (letL o) vs 78⟩
def R5.ok (x : R5) : Bool := Plain.insB x.o x.r x.a x.b x.n 24 3
def readT (q : Nat) (ws : List (List UInt8)) : Option R5 :=
  match numsO ws.tail with
  | none => none
  | some vs => if (putF q vs).ok = true then some (putF q vs) else none
def readW (ws : List (List UInt8)) : Option R5 :=
  if opL (ws.headD []) = 0 then none
  else if ws.length ≠ 1 + (letL (opL (ws.headD []))).length then none
  else readT (opL (ws.headD [])) ws
theorem readT_none {q : Nat} {ws : List (List UInt8)} (h : numsO ws.tail = none) : readT q ws = none := by unfold readT; rw [h]
theorem readT_some {q : Nat} {ws : List (List UInt8)} {vs : List Int} (h : numsO ws.tail = some vs) : readT q ws = if (putF q vs).ok = true then some (putF q vs) else none := by unfold readT; rw [h]
def readL (l : List UInt8) : Option R5 := readW (splitA 32 [] l)

theorem getF_snoc : ∀ (cs : List UInt8) (vs : List Int) (c : UInt8) (v : Int) (d : UInt8), cs.length = vs.length → c ∉ cs → getF (cs ++ [c]) (vs ++ [v]) d = if d = c then v else getF cs vs d
  | [], [], c, v, d, _, _ => by
    simp [getF]
    by_cases h : c = d
    · simp [h]
    · simp [h, Ne.symm h]
  | c0 :: cs, v0 :: vs, c, v, d, hl, hc => by
    have ih := getF_snoc cs vs c v d (by simpa using hl) (fun h => hc (by simp [h]))
    have hne : c0 ≠ c := fun h => hc (by simp [h])
    simp only [List.cons_append, getF]
    by_cases h : c0 = d
    · subst h
      simp [hne]
    · simp only [h, if_false]
      exact ih
theorem lets_nodup (o : Nat) : (letL o).Nodup := by
  by_cases h : o < 14
  · have : ∀ i : Fin 14, (letL i.val).Nodup := by decide
    exact this ⟨o, h⟩
  · unfold letL
    rw [List.getD_eq_getElem?_getD, List.getElem?_eq_none (by simp [lets14]; omega)]
    exact List.nodup_nil
theorem lets_four (o : Nat) (c : UInt8) (h : c ∈ letL o) : c = 82 ∨ c = 65 ∨ c = 66 ∨ c = 78 := by
  by_cases hq : o < 14
  · have : ∀ i : Fin 14, ∀ c ∈ letL i.val, c = 82 ∨ c = 65 ∨ c = 66 ∨ c = 78 := by decide
    exact this ⟨o, hq⟩ c h
  · unfold letL at h
    rw [List.getD_eq_getElem?_getD, List.getElem?_eq_none (by simp [lets14]; omega)] at h
    simp at h

end Go.Proofs.YtajblippcnidiaaGreatDoor
