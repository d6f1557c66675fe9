/- Marks in a row of integers. -/
import Derived.Test.YthgjlpcglgeljaaGreatIntOwn
namespace Go.Proofs.YthgjlpcglgeljaaGreat
set_option linter.unusedSimpArgs false
set_option linter.unusedVariables false
set_option maxRecDepth 100000
open Go.RowKit

def relN (q : Int) : Nat → List Int
  | 0 => []
  | n + 1 => relN q n ++ [q + n]
theorem relN_len (q : Int) : ∀ n, (relN q n).length = n
  | 0 => rfl
  | n + 1 => by simp [relN, relN_len q n]
theorem relN_at (q : Int) : ∀ (n i : Nat), i < n → (relN q n)[i]? = some (q + i)
  | 0, i, h => absurd h (by omega)
  | n + 1, i, h => by
    rcases Nat.lt_or_ge i n with g | g
    · rw [relN, List.getElem?_append_left (by rw [relN_len]; exact g)]
      exact relN_at q n i g
    · have e : i = n := by omega
      subst e
      rw [relN, List.getElem?_append_right (by rw [relN_len]; exact Nat.le_refl _), relN_len]
      simp
set_option maxHeartbeats 2000000 in
theorem markN_any (base : Nat) (v : Value) (b : List Int) (q : Int) (w : World) (h : OwnN w base v b) (hn : b.length ≤ 1048577) (hq : 0 ≤ q) (hq' : q ≤ 1000000000000000) :
    Calls Tryz.prog 11 #[v, .int .i64 q] w fun e w' => e = .returned (.int .i64 (q + b.length)) ∧ OwnN w' base v (relN q b.length) ∧ w'.heap.size = w.heap.size ∧ w'.os = w.os ∧ w'.tape = w.tape ∧ w'.output = w.output ∧ (∀ k, v.ownBlock ≠ some k → w'.heap[k]? = w.heap[k]?) := by
  obtain ⟨s, c, rfl⟩ : ∃ s c, v = .slice s b.length c := by
    rcases h.2 with ⟨h1, h2⟩ | ⟨g, cap, cur, a, -⟩
    · exact ⟨none, 0, by rw [h1, h2]⟩
    · exact ⟨_, _, a⟩
  have H : Hid (OwnN w base (.slice s b.length c) b) := h
  clear h
  go_enter Tryz.func11, Tryz.ntmps11
  go_wp2
  go_loopw [1, 5] (fun a i wr => ∃ k : Nat, k ≤ b.length ∧ i = .int .i64 k ∧ a = .int .i64 (q + k) ∧ OwnN wr base (.slice s b.length c) (relN q k ++ b.drop k) ∧ wr.heap.size = w.heap.size ∧ wr.os = w.os ∧ wr.tape = w.tape ∧ wr.output = w.output ∧ (∀ k, (Value.slice s b.length c).ownBlock ≠ some k → wr.heap[k]? = w.heap[k]?)) (fun _ i _ => b.length - (intOf i).toNat)
  case atStart => exact ⟨0, Nat.zero_le _, rfl, by simp, by simpa [relN] using H.out, rfl, rfl, rfl, rfl, fun _ _ => rfl⟩
  case round =>
    obtain ⟨k, hk, rfl, rfl, ho, hr0⟩ := hrel
    have HO : Hid (OwnN wr base (.slice s b.length c) (relN q k ++ b.drop k)) := ho
    have HR := (show Hid _ from hr0)
    have hlen : (relN q k ++ b.drop k).length = b.length := by rw [List.length_append, relN_len, List.length_drop]; omega
    clear ho hr0
    by_cases hlt : k < b.length
    · have hr : wr.ownsRow base 3 1 (.slice s b.length c) b.length ((relN q k ++ b.drop k).map (Value.int .i64)) := by have h := HO.out; unfold OwnN at h; rw [hlen] at h; exact h
      obtain ⟨g, hs⟩ : ∃ g, s = some ⟨g, 0, none⟩ := by
        obtain ⟨g, cap, e, -⟩ := World.ownsRow.form hr (by omega)
        injection e with e1 e2 e3
        exact ⟨g, e1⟩
      subst hs
      have HRo := (show Hid _ from hr)
      obtain ⟨u0, c0⟩ : ∃ u, wr.cell? ⟨g, k, none⟩ = some u := by
        rw [World.ownsRow.cellAt hr k (by omega)]
        exact ⟨_, List.getElem?_eq_getElem (by rw [List.length_map, hlen]; omega)⟩
      have hfz : ∀ j, wr.frozen? ⟨g, j, none⟩ = false := fun j => World.ownsRow.frozenAt hr j
      clear hr hlen
      have b0 : (0 : Int) ≤ (k : Int) := by omega
      have b1 : (k : Int) < (b.length : Int) := by omega
      go_wp2
      go_roundw
      case rel =>
        obtain ⟨r1, r2, r3, r4, r5⟩ := HR.out
        have hd : b.drop k = b[k] :: b.drop (k + 1) := List.drop_eq_getElem_cons hlt
        have p5 := (World.ownsRow.stored HRo.out k (.int .i64 (q + k))).1
        have e0 : ((relN q k ++ b.drop k).map (Value.int .i64)).set k (.int .i64 (q + k)) = (relN q (k + 1) ++ b.drop (k + 1)).map (Value.int .i64) := by
          have e1 := setApp (b.drop k) 0 (q + k) (relN q k)
          rw [relN_len, Nat.add_zero] at e1
          rw [← List.map_set, e1, hd, List.set_cons_zero, relN, List.append_assoc]
          rfl
        have e2 : (relN q (k + 1) ++ b.drop (k + 1)).length = b.length := by rw [List.length_append, relN_len, List.length_drop]; omega
        rw [e0] at p5
        refine ⟨k + 1, by omega, by go_num, by go_num, ?_, by simpa using r1, r2, r3, r4, fun j hj => ?_⟩
        · unfold OwnN
          rw [e2]
          exact p5
        · exact (Below.heap_setCell _ _ _ j (fun e => hj (by rw [e]; rfl))).trans (r5 j hj)
      case measure => simp [intOf]; omega
    · go_wp2
      go_ret
      have e : k = b.length := by omega
      subst e
      have ho := HO.out
      rw [List.drop_length, List.append_nil] at ho
      exact ⟨rfl, ho, HR.out⟩
set_option maxHeartbeats 2000000 in
theorem heldN_any (base : Nat) (v : Value) (n : Nat) (q : Int) (w : World) (h : OwnN w base v (relN q n)) (hn : n ≤ 1048577) (hq : 0 ≤ q) (hq' : q ≤ 1000000000000000) :
    Calls Tryz.prog 12 #[v, .int .i64 q] w fun e w' => e = .returned (.int .i64 (q + n)) ∧ w' = w := by
  have h' : w.ownsRow base 3 1 v n ((relN q n).map (Value.int .i64)) := by unfold OwnN at h; rw [relN_len] at h; exact h
  obtain ⟨s, c, rfl⟩ : ∃ s c, v = .slice s n c := by
    rcases h'.2 with ⟨h1, h2⟩ | ⟨g, cap, cur, a, -⟩
    · exact ⟨none, 0, by rw [h1, h2]⟩
    · exact ⟨_, _, a⟩
  have H := (show Hid _ from h')
  clear h h'
  go_enter Tryz.func12, Tryz.ntmps12
  go_wp2
  go_loop [1, 5] (fun a i => ∃ k : Nat, k ≤ n ∧ i = .int .i64 k ∧ a = .int .i64 (q + k)) (fun _ i => n - (intOf i).toNat)
  case atStart => exact ⟨0, Nat.zero_le _, rfl, by simp⟩
  case round =>
    obtain ⟨k, hk, rfl, rfl⟩ := hrel
    by_cases hlt : k < n
    · obtain ⟨g, hs⟩ : ∃ g, s = some ⟨g, 0, none⟩ := by
        obtain ⟨g, cap, e, -⟩ := World.ownsRow.form H.out (by omega)
        injection e with e1 e2 e3
        exact ⟨g, e1⟩
      subst hs
      have c0 : w.cell? ⟨g, k, none⟩ = some (.int .i64 (q + k)) := by
        rw [World.ownsRow.cellAt H.out k (by omega), List.getElem?_map, relN_at q n k hlt]
        rfl
      have b0 : (0 : Int) ≤ (k : Int) := by omega
      have b1 : (k : Int) < (n : Int) := by omega
      go_wp2
      go_round
      case rel => exact ⟨k + 1, by omega, by go_num, by go_num⟩
      case measure => simp [intOf]; omega
    · go_wp2
      go_ret
      have e : k = n := by omega
      subst e
      exact ⟨rfl, rfl⟩
theorem markN_exc {lo hi : Nat} {v : Value} {l : List Int} {w : World} (q : Int) (h : NB w lo hi v l) (hn : l.length ≤ 1048577) (hq : 0 ≤ q) (hq' : q ≤ 1000000000000000) :
    Calls Tryz.prog 11 #[v, .int .i64 q] w fun e w' => e = .returned (.int .i64 (q + l.length)) ∧ NB w' lo hi v (relN q l.length) ∧ Exc lo hi w w' := by
  refine (markN_any lo v l q w h.o hn hq hq').mono ?_
  rintro e w' ⟨rfl, o, z, a, b, c, f⟩
  exact ⟨rfl, ⟨o, h.h⟩, a, b, c, by omega, fun k hk hc => f k (fun e => by have := (World.ownsRow.lt h.o _ e).1; have := h.h k e; omega)⟩

end Go.Proofs.YthgjlpcglgeljaaGreat
