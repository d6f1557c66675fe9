/- Rows of notes that a call has made, written over with running numbers. Conditions: the numbers stay below 10^15. -/
import Derived.Test.YtpjlljhcnlhelaaSrcPure
import Derived.Test.YtpjlljhcnlhelaaMarkS
namespace Go.Proofs.Ytpjlljhcnlhelaa
set_option linter.unusedSimpArgs false
set_option linter.unusedVariables false
set_option maxRecDepth 100000
open Go.RowKit

def runD (q : Int) : Nat → List ND
  | 0 => []
  | n + 1 => runD q n ++ [⟨q + 2 * n, q + 2 * n + 1⟩]
theorem runD_len (q : Int) : ∀ n, (runD q n).length = n
  | 0 => rfl
  | n + 1 => by simp [runD, runD_len q n]
theorem runD_at (q : Int) : ∀ (n i : Nat), i < n → (runD q n)[i]? = some ⟨q + 2 * i, q + 2 * i + 1⟩
  | 0, i, h => absurd h (by omega)
  | n + 1, i, h => by
    rcases Nat.lt_or_ge i n with g | g
    · rw [runD, List.getElem?_append_left (by rw [runD_len]; exact g)]
      exact runD_at q n i g
    · have e : i = n := by omega
      subst e
      rw [runD, List.getElem?_append_right (by rw [runD_len]; exact Nat.le_refl _), runD_len]
      simp

set_option maxHeartbeats 2000000 in
theorem markNoteS_any (base : Nat) (v : Value) (b : List ND) (q : Int) (w : World) (h : OwnD w base v b) (hn : b.length ≤ 1048577) (hq : 0 ≤ q) (hq' : q ≤ 1000000000000000) :
    Calls Try.prog 37 #[v, .int .i64 q] w fun e w' => e = .returned (.int .i64 (q + 2 * b.length)) ∧ OwnD w' base v (runD q b.length) ∧ w'.heap.size = w.heap.size ∧ w'.os = w.os ∧ w'.tape = w.tape ∧ w'.output = w.output ∧ (∀ k, v.ownBlock ≠ some k → w'.heap[k]? = w.heap[k]?) := by
  obtain ⟨s, c, rfl⟩ := ownSl h
  have H : Hid (OwnD w base (.slice s b.length c) b) := h
  clear h
  go_enter Try.func37, Try.ntmps37
  go_wp2
  go_loopw [1, 5] (fun a i wr => ∃ k : Nat, k ≤ b.length ∧ i = .int .i64 k ∧ a = .int .i64 (q + 2 * k) ∧ wr.ownsRow base 35 2 (.slice s b.length c) b.length (flatN (runD q k ++ b.drop k)) ∧ wr.heap.size = w.heap.size ∧ wr.os = w.os ∧ wr.tape = w.tape ∧ wr.output = w.output ∧ (∀ k, (Value.slice s b.length c).ownBlock ≠ some k → wr.heap[k]? = w.heap[k]?)) (fun _ i _ => b.length - (intOf i).toNat)
  case atStart => exact ⟨0, Nat.zero_le _, rfl, by simp, by have h0 := H.out; unfold OwnD at h0; simpa [runD] using h0, rfl, rfl, rfl, rfl, fun _ _ => rfl⟩
  case round =>
    obtain ⟨k, hk, rfl, rfl, ho, hr0⟩ := hrel
    have HO := (show Hid _ from ho)
    have HR := (show Hid _ from hr0)
    clear ho hr0
    by_cases hlt : k < b.length
    · obtain ⟨g, hs⟩ : ∃ g, s = some ⟨g, 0, none⟩ := by
        obtain ⟨g, cap, e, -⟩ := World.ownsRow.form HO.out (by omega)
        injection e with e1 e2 e3
        exact ⟨g, e1⟩
      subst hs
      have hlen : (runD q k ++ b.drop k).length = b.length := by rw [List.length_append, runD_len, List.length_drop]; omega
      obtain ⟨u0, c0⟩ : ∃ u, wr.cell? ⟨g, k * 2, none⟩ = some u := by
        rw [World.ownsRow.cellAt HO.out (k * 2) (by omega)]
        exact ⟨_, List.getElem?_eq_getElem (by rw [flatN_len, hlen]; omega)⟩
      obtain ⟨u1, c1⟩ : ∃ u, wr.cell? ⟨g, k * 2 + 1, none⟩ = some u := by
        rw [World.ownsRow.cellAt HO.out (k * 2 + 1) (by omega)]
        exact ⟨_, List.getElem?_eq_getElem (by rw [flatN_len, hlen]; omega)⟩
      have hfz : ∀ j, wr.frozen? ⟨g, j, none⟩ = false := fun j => World.ownsRow.frozenAt HO.out j
      clear hlen
      have b0 : (0 : Int) ≤ (k : Int) := by omega
      have b1 : (k : Int) < (b.length : Int) := by omega
      go_wp2
      go_roundw
      case rel =>
        obtain ⟨r1, r2, r3, r4, r5⟩ := HR.out
        have hd : b.drop k = b[k] :: b.drop (k + 1) := List.drop_eq_getElem_cons hlt
        have p5 := (World.ownsRow.stored (World.ownsRow.stored HO.out (k * 2) (.int .i64 (q + 2 * k))).1 (k * 2 + 1) (.int .i64 (q + 2 * k + 1))).1
        have fp := flatN_put (runD q k) (b.drop (k + 1)) b[k] ⟨q + 2 * k, q + 2 * k + 1⟩
        rw [runD_len] at fp
        rw [hd, fp] at p5
        have e1 : runD q (k + 1) ++ b.drop (k + 1) = runD q k ++ ⟨q + 2 * k, q + 2 * k + 1⟩ :: b.drop (k + 1) := by simp [runD]
        refine ⟨k + 1, by omega, by go_num, ?_, ?_, by simpa using r1, r2, r3, r4, fun j hj => ?_⟩
        · congr 1
          rw [Int.natCast_add]
          omega
        · rw [e1]
          exact p5
        · have hjg : j ≠ g := fun e => hj (by rw [e]; rfl)
          rw [Below.heap_setCell _ _ _ j hjg, Below.heap_setCell _ _ _ j hjg]
          exact r5 j hj
      case measure => simp [intOf]; omega
    · go_wp2
      go_ret
      have e : k = b.length := by omega
      subst e
      have ho := HO.out
      rw [List.drop_length, List.append_nil] at ho
      exact ⟨rfl, by unfold OwnD; rw [runD_len]; exact ho, HR.out⟩

end Go.Proofs.Ytpjlljhcnlhelaa
