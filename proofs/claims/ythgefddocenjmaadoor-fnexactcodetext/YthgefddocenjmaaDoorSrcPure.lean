/- Rows of sources that are made and written: what stores make of them, and how the laws copy a list of integers. Conditions: each list of at most 1048576. -/
import Derived.Test.YthgefddocenjmaaDoorQuietC
import Derived.Test.YthgefddocenjmaaDoorOwnN
import Derived.Test.YthgefddocenjmaaDoorIntRows
import Derived.Test.YthgefddocenjmaaDoorSrcDefs
namespace Go.Proofs.YthgefddocenjmaaDoor
set_option linter.unusedSimpArgs false
set_option linter.unusedVariables false
set_option maxRecDepth 100000
open Go.RowKit

theorem setApp {α : Type} (b : List α) (i : Nat) (x : α) : ∀ a : List α, (a ++ b).set (a.length + i) x = a ++ b.set i x
  | [] => by simp
  | y :: r => by
    have e : (y :: r).length + i = (r.length + i) + 1 := by simp; omega
    rw [e]
    simp [setApp b i x r]

set_option maxHeartbeats 1000000 in
theorem toIntS_own (s : Option Addr) (c lo hi : Nat) (l : List Int) (w : World) (h : IntsR w lo hi s l) (hB : hi ≤ w.heap.size) (hl : l.length ≤ 1048576) :
    Calls Tryd.prog 43 #[.slice s l.length c] w fun e w' => e = .returned (.slice (some ⟨w.heap.size, 0, none⟩) l.length l.length) ∧ OwnN w' w.heap.size (.slice (some ⟨w.heap.size, 0, none⟩) l.length l.length) l ∧ Below w.heap.size w w' ∧ w.heap.size < w'.heap.size := by
  have hmk := mkInt l.length hl
  have HC : Hid (IntsR w lo hi s l) := h
  clear h
  go_enter Tryd.func43, Tryd.ntmps43
  go_wp2
  clear hmk
  go_loopw [4] (fun i wr => ∃ k : Nat, k ≤ l.length ∧ i = .int .i64 k ∧ Below w.heap.size w wr ∧ w.heap.size < wr.heap.size ∧ wr.ownsRow w.heap.size 3 1 (.slice (some ⟨w.heap.size, 0, none⟩) l.length l.length) l.length ((l.take k ++ List.replicate (l.length - k) 0).map (Value.int .i64))) (fun i _ => l.length - (intOf i).toNat)
  case atStart =>
    refine ⟨0, Nat.zero_le _, rfl, (Below.refl _ _).alloc (Nat.le_refl _) _, by simp, ?_⟩
    have h0 := World.ownsRow_lit (base := w.heap.size) (e := 3) (size := 1) w (madeCells #[.int .i64 0] (l.length * 1)) l.length (Nat.le_refl _) (by unfold maxLen; omega) (size_madeCells _ _)
    rw [toList_madeCells_one] at h0
    simpa using h0
  case round =>
    obtain ⟨k, hk, rfl, hb, hsz, ho⟩ := hrel
    have HB : Hid (Below w.heap.size w wr) := hb
    have HO := (show Hid _ from ho)
    clear hb ho
    by_cases hlt : k < l.length
    · obtain ⟨g, off, hs, hg, hc⟩ : ∃ g off, s = some ⟨g, off, none⟩ ∧ g < w.heap.size ∧ w.cell? ⟨g, off + k, none⟩ = some (.int .i64 (l.getD k 0)) := by
        rcases HC.out with h | ⟨g, off, a, b, d, e⟩
        · rw [h] at hlt; simp at hlt
        · exact ⟨g, off, a, by omega, e k hlt⟩
      subst hs
      have f0 := (HB.out.cell (p := ⟨g, off + k, none⟩) hg).trans hc
      generalize hx : l.getD k 0 = x at f0
      have HX : Hid (l.getD k 0 = x) := hx
      clear hx hc
      obtain ⟨u, hu⟩ : ∃ u, wr.cell? ⟨w.heap.size, k, none⟩ = some u := by
        rw [World.ownsRow.cellAt HO.out k (by omega)]
        exact ⟨_, List.getElem?_eq_getElem (by simp; omega)⟩
      have hz : wr.frozen? ⟨w.heap.size, k, none⟩ = false := World.ownsRow.frozenAt HO.out k
      have b0 : (0 : Int) ≤ (k : Int) := by omega
      have b1 : (k : Int) < (l.length : Int) := by omega
      go_wp2
      go_roundw
      case rel =>
        refine ⟨k + 1, by omega, by go_num, HB.out.setCell (p := ⟨w.heap.size, k, none⟩) (Nat.le_refl _) _, by simpa using hsz, ?_⟩
        have p := (World.ownsRow.stored HO.out k (.int .i64 x)).1
        have e1 : ((l.take k ++ List.replicate (l.length - k) 0).map (Value.int .i64)).set k (.int .i64 x) = (l.take (k + 1) ++ List.replicate (l.length - (k + 1)) 0).map (Value.int .i64) := by
          have e2 := setApp (List.replicate (l.length - k) (0 : Int)) 0 x (l.take k)
          rw [List.length_take, Nat.min_eq_left (by omega), Nat.add_zero] at e2
          have e3 : l.length - k = (l.length - (k + 1)) + 1 := by omega
          have e4 : l.take (k + 1) = l.take k ++ [x] := by
            rw [List.take_add_one, List.getElem?_eq_getElem hlt, ← HX.out, List.getD_eq_getElem?_getD, List.getElem?_eq_getElem hlt]; rfl
          rw [← List.map_set, e2, e3, List.replicate_succ, List.set_cons_zero, e4, List.append_assoc]
          rfl
        rw [e1] at p
        exact p
      case measure => simp [intOf]; omega
    · go_wp2
      go_ret
      have : k = l.length := by omega
      subst this
      have h1 := HO.out
      simp only [List.take_length, Nat.sub_self, List.replicate_zero, List.append_nil] at h1
      exact ⟨rfl, h1, HB.out, hsz⟩

/- a store of three cells -/
def set3 (w : World) (g o : Nat) (a b c : Value) : World := ((w.setCell ⟨g, o, none⟩ a).setCell ⟨g, o + 1, none⟩ b).setCell ⟨g, o + 2, none⟩ c
theorem set3_below {B g o : Nat} {w w' : World} {a b c : Value} (h : Below B w w') (hg : B ≤ g) : Below B w (set3 w' g o a b c) := ((h.setCell (p := ⟨g, o, none⟩) hg _).setCell (p := ⟨g, o + 1, none⟩) hg _).setCell (p := ⟨g, o + 2, none⟩) hg _
theorem set3_size {g o : Nat} {w : World} {a b c : Value} : (set3 w g o a b c).heap.size = w.heap.size := by simp [set3]
theorem set3_block {g o k : Nat} {w : World} {a b c : Value} (h : k ≠ g) : (set3 w g o a b c).heap[k]? = w.heap[k]? := by
  unfold set3
  rw [Below.heap_setCell _ _ _ k h, Below.heap_setCell _ _ _ k h, Below.heap_setCell _ _ _ k h]
theorem flatR_put (A B : List (Rec × Value)) (x y : Rec × Value) : (((flatR (A ++ x :: B)).set (A.length * 3) y.1.a).set (A.length * 3 + 1) y.2).set (A.length * 3 + 2) y.1.z = flatR (A ++ y :: B) := by
  have hl : A.length * 3 = (flatR A).length := (flatR_len A).symm
  rw [flatR_app, flatR_app, hl]
  have e0 := setApp (flatR (x :: B)) 0 y.1.a (flatR A)
  rw [Nat.add_zero] at e0
  rw [e0, setApp, setApp]
  rfl
theorem put_at {α : Type} (A B : List α) (x y : α) (i : Nat) (h : i ≠ A.length) : (A ++ y :: B)[i]? = (A ++ x :: B)[i]? := by
  rcases Nat.lt_or_ge i A.length with g | g
  · rw [List.getElem?_append_left g, List.getElem?_append_left g]
  · rw [List.getElem?_append_right g, List.getElem?_append_right g]
    obtain ⟨m, hm⟩ : ∃ m, i - A.length = m + 1 := ⟨i - A.length - 1, by omega⟩
    rw [hm]
    rfl
theorem put_mid {α : Type} (A B : List α) (y : α) : (A ++ y :: B)[A.length]? = some y := by rw [List.getElem?_append_right (Nat.le_refl _)]; simp
theorem OwnQ.put {w : World} {base G cap n : Nat} {e : TypeId} {A B : List (Rec × Value)} {x : Rec × Value} (y : Rec × Value) (he : 3 ≠ e) (hn : (A ++ x :: B).length = n) (h : OwnQ w base e (.slice (some ⟨G, 0, none⟩) n cap) (A ++ x :: B)) (ho : OwnN w base y.2 y.1.l)
    (hs : ∀ (i : Nat) (z : Rec × Value) (k : Nat), i ≠ A.length → (A ++ x :: B)[i]? = some z → y.2.ownBlock = some k → z.2.ownBlock ≠ some k) : OwnQ (set3 w G (A.length * 3) y.1.a y.2 y.1.z) base e (.slice (some ⟨G, 0, none⟩) n cap) (A ++ y :: B) := by
  have hn' : (A ++ y :: B).length = n := by rw [← hn]; simp
  have hr := h.row
  rw [hn] at hr
  have p3 := (World.ownsRow.stored (World.ownsRow.stored (World.ownsRow.stored hr (A.length * 3) y.1.a).1 (A.length * 3 + 1) y.2).1 (A.length * 3 + 2) y.1.z).1
  rw [flatR_put] at p3
  have hblk : ∀ {v : Value} {l : List Int}, OwnN w base v l → ∀ k, v.ownBlock = some k → (set3 w G (A.length * 3) y.1.a y.2 y.1.z).heap[k]? = w.heap[k]? := fun hv k hk => set3_block (fun e' => ownType' hv hr he hk (by rw [e']; rfl))
  refine ⟨by rw [hn']; exact p3, fun i z hz => ?_, fun i j z z' k hz hz' hne => ?_⟩
  · by_cases ei : i = A.length
    · subst ei
      rw [put_mid] at hz
      injection hz with hz
      subst hz
      exact ownKeep' ho (hblk ho)
    · rw [put_at A B x y i ei] at hz
      exact ownKeep' (h.inn i z hz) (hblk (h.inn i z hz))
  · by_cases ei : i = A.length <;> by_cases ej : j = A.length
    · omega
    · subst ei
      rw [put_mid] at hz
      injection hz with hz
      subst hz
      rw [put_at A B x _ j ej] at hz'
      exact hs j z' k ej hz'
    · subst ej
      rw [put_mid] at hz'
      injection hz' with hz'
      subst hz'
      rw [put_at A B x _ i ei] at hz
      intro a b
      exact hs i z k ei hz b a
    · rw [put_at A B x y i ei] at hz
      rw [put_at A B x y j ej] at hz'
      exact h.sep i j z z' k hz hz' hne

def zqT : Rec × Value := (⟨.int .i64 0, [], .int .i64 0⟩, .slice none 0 0)
def zqC : Rec × Value := (⟨.int .i64 0, [], .bool false⟩, .slice none 0 0)
theorem flatR_rep (x : Rec × Value) : ∀ n, flatR (List.replicate n x) = (madeCells #[x.1.a, x.2, x.1.z] (n * 3)).toList := by
  intro n
  apply List.ext_getElem?
  intro j
  by_cases hj : j < n * 3
  · have h1 : (List.replicate n x)[j / 3]? = some x := by rw [List.getElem?_replicate, if_pos (by omega)]
    obtain ⟨e0, e1, e2⟩ := flatR_at _ _ _ h1
    have hm : (madeCells #[x.1.a, x.2, x.1.z] (n * 3)).toList[j]? = #[x.1.a, x.2, x.1.z][j % 3]? := by
      have h3 : j % 3 < 3 := Nat.mod_lt _ (by omega)
      simp [madeCells, hj, h3]
    rw [hm]
    rcases (show j % 3 = 0 ∨ j % 3 = 1 ∨ j % 3 = 2 by omega) with h | h | h
    · rw [show j = j / 3 * 3 by omega, e0, show j / 3 * 3 % 3 = 0 by omega]; rfl
    · rw [show j = j / 3 * 3 + 1 by omega, e1, show (j / 3 * 3 + 1) % 3 = 1 by omega]; rfl
    · rw [show j = j / 3 * 3 + 2 by omega, e2, show (j / 3 * 3 + 2) % 3 = 2 by omega]; rfl
  · rw [List.getElem?_eq_none (by rw [flatR_len]; simp; omega), List.getElem?_eq_none (by rw [Array.length_toList, size_madeCells]; omega)]
theorem OwnQ.made (w : World) (e : TypeId) (x : Rec × Value) (hx : x.2 = .slice none 0 0) (hl : x.1.l = []) (n : Nat) (hn : n ≤ 1048576) : OwnQ (w.alloc (.cells (madeCells #[x.1.a, x.2, x.1.z] (n * 3)) e)) w.heap.size e (.slice (some ⟨w.heap.size, 0, none⟩) n n) (List.replicate n x) := by
  have h0 := World.ownsRow_lit (base := w.heap.size) (e := e) (size := 3) w (madeCells #[x.1.a, x.2, x.1.z] (n * 3)) n (Nat.le_refl _) (by unfold maxLen; omega) (size_madeCells _ _)
  rw [← flatR_rep] at h0
  refine ⟨by rw [List.length_replicate]; exact h0, fun i y hy => ?_, fun i j y z k hy hz => ?_⟩
  · rw [List.getElem?_replicate] at hy
    split at hy
    · injection hy with hy
      subst hy
      rw [hx, hl]
      exact World.ownsRow_nil _ _ _ _
    · cases hy
  · rw [List.getElem?_replicate] at hy
    split at hy
    · injection hy with hy
      subst hy
      intro _ hk
      rw [hx] at hk
      cases hk
    · cases hy

def set2 (w : World) (g o : Nat) (a b : Value) : World := (w.setCell ⟨g, o, none⟩ a).setCell ⟨g, o + 1, none⟩ b
theorem set2_below {B g o : Nat} {w w' : World} {a b : Value} (h : Below B w w') (hg : B ≤ g) : Below B w (set2 w' g o a b) := (h.setCell (p := ⟨g, o, none⟩) hg _).setCell (p := ⟨g, o + 1, none⟩) hg _
theorem set2_size {g o : Nat} {w : World} {a b : Value} : (set2 w g o a b).heap.size = w.heap.size := by simp [set2]
theorem flatN_put (A B : List ND) (x y : ND) : ((flatN (A ++ x :: B)).set (A.length * 2) (.int .i64 y.who)).set (A.length * 2 + 1) (.int .i64 y.v) = flatN (A ++ y :: B) := by
  have hl : A.length * 2 = (flatN A).length := (flatN_len A).symm
  rw [flatN_app, flatN_app, hl]
  have e0 := setApp (flatN (x :: B)) 0 (Value.int .i64 y.who) (flatN A)
  rw [Nat.add_zero] at e0
  rw [e0, setApp]
  rfl
theorem flatN_rep (n : Nat) : flatN (List.replicate n ⟨0, 0⟩) = (madeCells #[.int .i64 0, .int .i64 0] (n * 2)).toList := by
  apply List.ext_getElem?
  intro j
  by_cases hj : j < n * 2
  · have h1 : (List.replicate n (⟨0, 0⟩ : ND))[j / 2]? = some ⟨0, 0⟩ := by rw [List.getElem?_replicate, if_pos (by omega)]
    obtain ⟨e0, e1⟩ := flatN_at _ _ _ h1
    have hm : (madeCells #[.int .i64 0, .int .i64 0] (n * 2)).toList[j]? = some (.int .i64 0) := by
      simp [madeCells, hj]
      rcases (show j % 2 = 0 ∨ j % 2 = 1 by omega) with h | h <;> rw [h] <;> rfl
    rw [hm]
    rcases (show j % 2 = 0 ∨ j % 2 = 1 by omega) with h | h
    · rw [show j = j / 2 * 2 by omega, e0]
    · rw [show j = j / 2 * 2 + 1 by omega, e1]
  · rw [List.getElem?_eq_none (by rw [flatN_len]; simp; omega), List.getElem?_eq_none (by rw [Array.length_toList, size_madeCells]; omega)]

theorem OwnQ.ext {w w' : World} {base : Nat} {e : TypeId} {v : Value} {L : List (Rec × Value)} (h : OwnQ w base e v L) (hb : ∀ k, k < w.heap.size → base ≤ k → w'.heap[k]? = w.heap[k]?) : OwnQ w' base e v L := h.keep fun k a b => hb k b a
/- rows of two calls, one behind the other, have blocks apart -/
theorem sepQ {w w1 : World} {base base' : Nat} {e e' : TypeId} {v v' : Value} {L L' : List (Rec × Value)} (h : OwnQ w base e v L) (h' : OwnQ w1 base' e' v' L') (hb : w.heap.size ≤ base') : ∀ (i j : Nat) (x y : Rec × Value) (k : Nat), L[i]? = some x → L'[j]? = some y → x.2.ownBlock = some k → y.2.ownBlock ≠ some k := by
  intro i j x y k hx hy hk hk'
  have h1 := (World.ownsRow.lt (h.inn i x hx) _ hk).2
  have h2 := (World.ownsRow.lt (h'.inn j y hy) _ hk').1
  omega


end Go.Proofs.YthgefddocenjmaaDoor
