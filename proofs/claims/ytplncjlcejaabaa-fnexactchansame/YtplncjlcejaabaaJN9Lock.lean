/- Locked of the program and of the specification. Conditions: what comes in is counted. -/
import Derived.Test.YtplncjlcejaabaaJLists
import Derived.Test.YtplncjlcejaabaaJN9Base
import Derived.Test.YtplncjlcejaabaaJMemOk
import Derived.Test.YtplncjlcejaabaaJA2
import Derived.Test.YtplncjlcejaabaaJIntRows
import Derived.Test.YtplncjlcejaabaaJIntOwn
import Derived.Test.YtplncjlcejaabaaJN9Last
import Derived.Deep.RegionHeld3
namespace Go.Proofs.Ytplncjlcejaabaa
set_option linter.unusedSimpArgs false
set_option linter.unusedVariables false
set_option maxRecDepth 100000
open Go.RowKit
theorem baseV_cases (l : List Int) (n : Int) : baseV l n = -1 ∨ ∃ b r k : Nat, n = (k : Int) ∧ k < l.length ∧ baseV l n = (b : Int) ∧ l.getD k 0 = (r : Int) ∧ 1 ≤ r ∧ r ≤ 4 ∧ b + r + 4 ≤ 24 := by
 by_cases h : capsR l = true ∧ sumC l ≤ 24 ∧ 0 ≤ n ∧ n < l.length
 ·right
  have e : baseV l n = sumC (l.take n.toNat) := by unfold baseV; rw [if_pos h]
  obtain ⟨h1, h2, h3, h4⟩ := h
  obtain ⟨k, rfl⟩ : ∃ k : Nat, n = (k : Int) := ⟨n.toNat, by omega⟩
  rw [Int.toNat_natCast] at e
  have hk : k < l.length := by omega
  have a1 := capsR_at h1 hk
  have a2 := sumC_next h1 hk
  have a3 := sumC_len _ (capsR_take k h1)
  refine ⟨(sumC (l.take k)).toNat, (l.getD k 0).toNat, k, rfl, hk, ?_, ?_, ?_, ?_, ?_⟩ <;> omega
 ·left
  unfold baseV
  rw [if_neg h]
theorem ne_dec (x : Int) : (x != 0) = decide (x ≠ 0) := by by_cases h : x = 0 <;> simp [h]
def lockB (m : List (List WD)) (l : List Int) (n : Int) : Bool := decide (0 ≤ baseV l n) && memB m && decide (lastV m (baseV l n).toNat ≠ 0)
set_option maxHeartbeats 4000000 in
theorem implLocked_any (s s1 : Option Addr) (c c1 lo hi lo1 hi1 : Nat) (m : List (List WD)) (l : List Int) (n : Int) (w : World) (h : MemR w lo hi s m) (h1 : IntsR w lo1 hi1 s1 l) (hB : hi ≤ w.heap.size) (hB1 : hi1 ≤ w.heap.size) (hl : l.length ≤ 2000000) (hm : m.length + szR m ≤ 2000000) :
  Calls Try.prog 37 #[.agg #[.slice s m.length c], .slice s1 l.length c1, .int .i64 n] w fun e w' => e = .returned (.bool (lockB m l n)) ∧ Below w.heap.size w w' := by
 have H : Hid (MemR w lo hi s m) := h
 have H1 : Hid (IntsR w lo1 hi1 s1 l) := h1
 clear h h1
 go_enter Try.func37, Try.ntmps37
 go_wp2_with fail
 obtain ⟨W, hW, bx, kb, zb⟩ := Bo1.new w (.slice s m.length c) 50
 rw [hW]
 clear hW
 have KW : Hid (Below w.heap.size w W) := kb
 have RM : Hid (∀ X, Below W.heap.size W X → MemR X lo hi s m) := fun X hX => (H.out.keep (Keep.of_below KW.out hB)).keep (Keep.of_below hX (by omega))
 have RB : Hid (∀ X, Below W.heap.size W X → X.cell? ⟨w.heap.size, 0, none⟩ = some (.slice s m.length c)) := fun X hX => (hX.cell (p := ⟨w.heap.size, 0, none⟩) (by show w.heap.size < _; omega)).trans bx.c0
 have R1 : Hid (IntsR W lo1 hi1 s1 l) := H1.out.keep (Keep.of_below KW.out hB1)
 clear bx kb
 refine (implBase_any s1 c1 lo1 hi1 l n W R1.out (by omega) hl).mono ?_
 rintro e w1 ⟨rfl, hb1⟩
 have z1 := hb1.size
 have p1 := RB.out _ hb1
 have K1 : Hid (Below W.heap.size W w1) := hb1
 clear hb1
 rcases baseV_cases l n with hb | ⟨b, r, k, hn, hk, hb, hr, r1, r4, fit⟩
 ·have HE : Hid (lockB m l n = false) := by show _ = _; unfold lockB; rw [hb]; rfl
  rw [hb]
  clear hb
  go_wp2
  go_ret
  exact ⟨by rw [HE.out]; rfl, KW.out.trans (K1.out.mono (by omega))⟩
 ·have HE : Hid (lockB m l n = (memB m && decide (lastV m b ≠ 0))) := by show _ = _; unfold lockB; rw [hb, decide_eq_true (Int.natCast_nonneg b), Int.toNat_natCast, Bool.true_and]
  rw [hb]
  have hbe : ((b : Int) == -1) = false := by rw [beq_eq_false_iff_ne]; omega
  clear hb
  have mk := implMemoryOk_any s c lo hi m w1 (RM.out _ K1.out) (by omega) hm
  by_cases hmb : memB m = true
  ·rw [hmb] at mk HE
   have HMB : Hid (memB m = true) := hmb
   clear hmb
   go_wp2_with (first | (go_at_call 66; refine mk.mono ?_; rintro e w2 ⟨rfl, hb2⟩; have k2 : Below W.heap.size W w2 := K1.out.trans (hb2.mono z1); have p2 := RB.out _ k2) | (go_at_call 67; refine (cellsFrom_is _ _).mono ?_; rintro e w3 ⟨rfl, hw3⟩))
   obtain ⟨V, hV, bx, kb, zv⟩ := Bo1.new w2 (.int .i64 b) 3
   rw [hV]
   clear hV hw3
   have z2 := hb2.size
   have KV : Hid (Below W.heap.size W V) := k2.trans (kb.mono (by omega))
   have q0 := bx.c0
   have q1 := RB.out _ KV.out
   have MV : Hid (MemR V.drew lo hi s m) := RM.out _ KV.out.drew
   have hdr : V.drew.heap.size = V.heap.size := rfl
   clear p1 p2 k2 hb2 kb bx
   generalize hlv : lastV m b = lv at HE
   have HLV : Hid (lastV m b = lv) := hlv
   clear hlv
   go_region_held3 (fun w' => w'.cell? ⟨w.heap.size, 0, none⟩ = some (.slice s m.length c) ∧ w'.cell? ⟨w2.heap.size, 0, none⟩ = some (.int .i64 b)) (go_keep) (first | (go_at_call 89; refine (cell_is w2.heap.size b 0 _ (by assumption) (by omega) (by omega) (by omega) (by omega)).mono ?_; rintro e w5 ⟨rfl, hw5⟩; subst w5) | (go_at_call 69; refine (lastOf_is s c lo hi m b _ _ MV.out (by omega) HMB.out (by omega) (by omega)).mono ?_; rintro e w6 ⟨rfl, hw6⟩; subst w6; rw [HLV.out]))
   go_wp2
   go_ret
   exact ⟨by rw [HE.out, Bool.true_and, ← ne_dec]; rfl, KW.out.trans ((KV.out.trans ((((Below.refl V.heap.size V).alloc (Nat.le_refl _) _).drew).mono (by have := KV.out.size; omega))).mono (by omega))⟩
  ·have hmb' : memB m = false := by simpa using hmb
   rw [hmb'] at mk HE
   clear hmb hmb'
   go_wp2_with (go_at_call 66; refine mk.mono ?_; rintro e w2 ⟨rfl, hb2⟩; have k2 : Below W.heap.size W w2 := K1.out.trans (hb2.mono z1))
   go_ret
   exact ⟨by rw [HE.out]; rfl, KW.out.trans (k2.mono (by omega))⟩
set_option maxHeartbeats 4000000 in
theorem specLocked_any (s s1 : Option Addr) (c c1 lo hi lo1 hi1 : Nat) (m : List (List WD)) (l : List Int) (n : Int) (w : World) (h : MemR w lo hi s m) (h1 : IntsR w lo1 hi1 s1 l) (hB : hi ≤ w.heap.size) (hB1 : hi1 ≤ w.heap.size) (hl : l.length ≤ 2000000) (hm : m.length + szR m ≤ 2000000) :
  Calls Try.prog 24 #[.agg #[.slice s m.length c], .slice s1 l.length c1, .int .i64 n] w fun e w' => e = .returned (.bool (lockB m l n)) ∧ Below w.heap.size w w' := by
 have H : Hid (MemR w lo hi s m) := h
 have H1 : Hid (IntsR w lo1 hi1 s1 l) := h1
 clear h h1
 go_enter Try.func24, Try.ntmps24
 go_wp2_with fail
 obtain ⟨W, hW, bx, kb, zb⟩ := Bo1.new w (.slice s m.length c) 50
 rw [hW]
 clear hW
 have KW : Hid (Below w.heap.size w W) := kb
 have RM : Hid (∀ X, Below W.heap.size W X → MemR X lo hi s m) := fun X hX => (H.out.keep (Keep.of_below KW.out hB)).keep (Keep.of_below hX (by omega))
 have RB : Hid (∀ X, Below W.heap.size W X → X.cell? ⟨w.heap.size, 0, none⟩ = some (.slice s m.length c)) := fun X hX => (hX.cell (p := ⟨w.heap.size, 0, none⟩) (by show w.heap.size < _; omega)).trans bx.c0
 have R1 : Hid (IntsR W lo1 hi1 s1 l) := H1.out.keep (Keep.of_below KW.out hB1)
 clear bx kb
 refine (specBase_any s1 c1 lo1 hi1 l n W R1.out (by omega) hl).mono ?_
 rintro e w1 ⟨rfl, hb1⟩
 have z1 := hb1.size
 have p1 := RB.out _ hb1
 have K1 : Hid (Below W.heap.size W w1) := hb1
 clear hb1
 rcases baseV_cases l n with hb | ⟨b, r, k, hn, hk, hb, hr, r1, r4, fit⟩
 ·have HE : Hid (lockB m l n = false) := by show _ = _; unfold lockB; rw [hb]; rfl
  rw [hb]
  clear hb
  go_wp2
  go_ret
  exact ⟨by rw [HE.out]; rfl, KW.out.trans (K1.out.mono (by omega))⟩
 ·have HE : Hid (lockB m l n = (memB m && decide (lastV m b ≠ 0))) := by show _ = _; unfold lockB; rw [hb, decide_eq_true (Int.natCast_nonneg b), Int.toNat_natCast, Bool.true_and]
  rw [hb]
  clear hb
  have mk := specMemoryOk_any s c lo hi m w1 (RM.out _ K1.out) (by omega) hm
  by_cases hmb : memB m = true
  ·rw [hmb] at mk HE
   have HMB : Hid (memB m = true) := hmb
   clear hmb
   generalize hlv : lastV m b = lv at HE
   have HLV : Hid (lastV m b = lv) := hlv
   clear hlv
   go_wp2_with (first | (go_at_call 56; refine mk.mono ?_; rintro e w2 ⟨rfl, hb2⟩; have k2 : Below W.heap.size W w2 := K1.out.trans (hb2.mono z1); have p2 := RB.out _ k2) | (go_at_call 57; refine (l9Last_is s c lo hi m b _ _ (RM.out _ k2) (by have := k2.size; omega) HMB.out (by omega) rfl).mono ?_; rintro e w6 ⟨rfl, hw6⟩; subst w6; rw [HLV.out]))
   go_ret
   exact ⟨by rw [HE.out, Bool.true_and, ← ne_dec]; rfl, KW.out.trans ((k2.trans (((Below.refl w2.heap.size w2).alloc (Nat.le_refl _) _).mono k2.size)).mono (by omega))⟩
  ·have hmb' : memB m = false := by simpa using hmb
   rw [hmb'] at mk HE
   clear hmb hmb'
   go_wp2_with (go_at_call 56; refine mk.mono ?_; rintro e w2 ⟨rfl, hb2⟩; have k2 : Below W.heap.size W w2 := K1.out.trans (hb2.mono z1))
   go_ret
   exact ⟨by rw [HE.out]; rfl, KW.out.trans (k2.mono (by omega))⟩
end Go.Proofs.Ytplncjlcejaabaa
