/- Memories copied by the program: sameMemory. Conditions: they are counted. -/
import Derived.Test.YtepfpbcjklaenaaKG00
import Derived.Test.YtepfpbcjklaenaaKG03
import Derived.Test.YtepfpbcjklaenaaKG01
import Derived.Test.YtepfpbcjklaenaaKMemDup
namespace Go.Proofs.Ytepfpbcjklaenaa
set_option linter.unusedSimpArgs false
set_option linter.unusedVariables false
set_option maxRecDepth 100000
open Go.RowKit
theorem OW.low {w : World} {B B' : Nat} {v : Value} {S : List RS} {m : List (List WD)} (h : OW w B v S m) (hb : B' ≤ B) : OW w B' v S m :=
 ⟨h.n, ownLow' h.row hb, fun i r l hr hl => (h.r i r l hr hl).low hb, h.d⟩
set_option maxHeartbeats 2000000 in
theorem sameMemory_any (s : Option Addr) (c lo hi : Nat) (m : List (List WD)) (w : World) (h : MemR w lo hi s m) (hB : hi ≤ w.heap.size) (hl : MFits m) :
  Calls Try.prog 49 #[.agg #[.slice s m.length c]] w fun e w' => ∃ v S, e = .returned (.agg #[v]) ∧ OW w' w.heap.size v S m ∧ Below w.heap.size w w' := by
 have hl1 := hl.n
 have hmk := mkWW m.length hl1
 have HC : Hid (MemR w lo hi s m) := h
 clear h
 go_enter Try.func49, Try.ntmps49
 go_wp2
 clear hmk
 have HL : Hid (MFits m) := hl
 go_loopw [14] (fun i wr => ∃ (k : Nat) (S : List RS), k ≤ m.length ∧ i = .int .i64 k ∧ S.length = k ∧ Below w.heap.size w wr ∧ w.heap.size + 1 + 1 + 1 < wr.heap.size ∧ wr.cell? ⟨w.heap.size + 1 + 1 + 1, 0, none⟩ = some (.slice (some ⟨w.heap.size + 1 + 1, 0, none⟩) m.length m.length) ∧ (wr.cell? ⟨w.heap.size + 1, 0, none⟩).isSome = true ∧ (∀ j, wr.frozen? ⟨w.heap.size + 1, j, none⟩ = false) ∧ wr.ownsRow (w.heap.size + 2) 44 1 (.slice (some ⟨w.heap.size + 1 + 1, 0, none⟩) m.length m.length) m.length (S.map RS.val ++ List.replicate (m.length - k) (.slice none 0 0)) ∧ (∀ (i : Nat) (r : RS) (l : List WD), S[i]? = some r → m[i]? = some l → ORow wr (w.heap.size + 4) r l) ∧ (mAs S).Nodup) (fun i _ => m.length - (intOf i).toNat)
 case atStart =>
  refine ⟨0, [], Nat.zero_le _, rfl, rfl, ((((Below.refl _ _).alloc (Nat.le_refl _) _).alloc (by simp) _).alloc (by simp; omega) _).alloc (by simp; omega) _, by simp, by simp [go_sem], by simp [go_sem], fun j => by simp [go_sem], ?_, fun i r l h => by simp at h, by simp [mAs]⟩
  have h0 := World.ownsRow_lit (base := w.heap.size + 2) (e := 44) (size := 1) ((w.alloc (.cells #[.slice s m.length c] 31)).alloc (.cells #[.slice none 0 0] 31)) (madeCells #[.slice none 0 0] m.length) m.length (by simp) (by unfold maxLen; omega) (by rw [size_madeCells]; omega)
  rw [toList_madeCells_one] at h0
  have h1 := World.ownsRow.alloc h0 (.cells #[.slice (some ⟨w.heap.size + 1 + 1, 0, none⟩) m.length m.length] 31)
  simpa using h1
 case round =>
  obtain ⟨k, S, hk, rfl, hS, hb, hz, c3, c1, f1, hrow, hr, hd⟩ := hrel
  have HB : Hid (Below w.heap.size w wr) := hb
  have HS : Hid (S.length = k) := hS
  have HROW := (show Hid (wr.ownsRow (w.heap.size + 2) 44 1 (.slice (some ⟨w.heap.size + 1 + 1, 0, none⟩) m.length m.length) m.length (S.map RS.val ++ List.replicate (m.length - k) (.slice none 0 0))) from hrow)
  have HR : Hid (∀ (i : Nat) (r : RS) (l : List WD), S[i]? = some r → m[i]? = some l → ORow wr (w.heap.size + 4) r l) := hr
  have HD : Hid ((mAs S).Nodup) := hd
  have HF1 : Hid (∀ j, wr.frozen? ⟨w.heap.size + 1, j, none⟩ = false) := f1
  have HC1 : Hid ((wr.cell? ⟨w.heap.size + 1, 0, none⟩).isSome = true) := c1
  have z1 : w.heap.size + 1 < wr.heap.size := by omega
  have z2 : w.heap.size + 1 + 1 < wr.heap.size := by omega
  clear hb hS hrow hr hd f1 c1
  by_cases hlt : k < m.length
  ·obtain ⟨x, hx⟩ : ∃ x, m[k]? = some x := ⟨_, List.getElem?_eq_getElem hlt⟩
   obtain ⟨g, o, s1, cx, e1, q1, q2, q3, q5⟩ := (HC.out.keep (Keep.of_below HB.out hB)).row hx
   subst e1
   have HI : Hid (WsR wr lo hi s1 x) := q5
   have HXL : Hid (x.length + szV x ≤ 1048576) := HL.out.r hx
   have HX : Hid (m[k]? = some x) := hx
   obtain ⟨u0, a0⟩ : ∃ u, wr.cell? ⟨w.heap.size + 1 + 1, k, none⟩ = some u := by
    rw [World.ownsRow.cellAt HROW.out k (by omega)]
    exact ⟨_, List.getElem?_eq_getElem (by have := HROW.out.1; omega)⟩
   have ff : ∀ j, wr.frozen? ⟨w.heap.size + 1 + 1, j, none⟩ = false := fun j => World.ownsRow.frozenAt HROW.out j
   have b0 : (0 : Int) ≤ (k : Int) := by omega
   have b1 : (k : Int) < (m.length : Int) := by omega
   have zg : g < wr.heap.size := by omega
   clear hx q5
   go_wp2_with fail
   go_region_held3 (fun w' => w'.cell? ⟨w.heap.size + 1 + 1 + 1, 0, none⟩ = some (.slice (some ⟨w.heap.size + 1 + 1, 0, none⟩) m.length m.length)) (go_keep) ((go_at_call 66; refine (sameWrites_any s1 cx lo hi x wr.drew HI.out (by show hi ≤ wr.heap.size; omega) HXL.out).mono ?_; rintro e w2 ⟨r2, he2, ho2, hb2⟩; have he3 : e = .returned (.slice r2.s r2.vs.length r2.c) := he2; subst he3; clear he2; have hb2' : Below wr.heap.size wr w2 := ⟨hb2.os, hb2.tape, hb2.output, hb2.size, hb2.block⟩; have t1 := (hb2'.cell (p := ⟨w.heap.size + 1 + 1 + 1, 0, none⟩) hz).trans c3; have t2 := (hb2'.cell (p := ⟨w.heap.size + 1 + 1, k, none⟩) z2).trans a0; have t3 : ∀ j, w2.frozen? ⟨w.heap.size + 1 + 1, j, none⟩ = false := (fun j => (hb2'.frozen (p := ⟨w.heap.size + 1 + 1, j, none⟩) z2).trans (ff j))))
   have HO2 : Hid (ORow w2 wr.heap.size r2 x) := ho2
   have HB2 : Hid (Below wr.heap.size wr w2) := hb2'
   clear ho2 hb2 hb2' t1
   go_wp2
   go_roundw
   case rel =>
    have hz2 := HB2.out.size
    have kp : ∀ b, w.heap.size + 4 ≤ b → (w2.setCell ⟨w.heap.size + 1 + 1, k, none⟩ (.slice r2.s r2.vs.length r2.c)).heap[b]? = w2.heap[b]? := fun b hb => Below.heap_setCell _ _ _ b (by show b ≠ w.heap.size + 1 + 1; omega)
    refine ⟨k + 1, S ++ [r2], by omega, by go_num, by simp [HS.out], (HB.out.trans (HB2.out.mono (by omega))).setCell (p := ⟨w.heap.size + 1 + 1, k, none⟩) (by show w.heap.size ≤ w.heap.size + 1 + 1; omega) _, by simp; omega, ?_, ?_, fun j => ?_, ?_, fun i r l e1 e2 => ?_, ?_⟩
    ·rw [setC_blk (by omega)]; exact (HB2.out.cell (p := ⟨w.heap.size + 1 + 1 + 1, 0, none⟩) hz).trans c3
    ·rw [setC_blk (by omega), HB2.out.cell (p := ⟨w.heap.size + 1, 0, none⟩) z1]; exact HC1.out
    ·rw [World.frozen?_setCell, HB2.out.frozen (p := ⟨w.heap.size + 1, j, none⟩) z1]; exact HF1.out j
    ·have o2 : w2.ownsRow (w.heap.size + 2) 44 1 (.slice (some ⟨w.heap.size + 1 + 1, 0, none⟩) m.length m.length) m.length (S.map RS.val ++ List.replicate (m.length - k) (.slice none 0 0)) := ownKeep' HROW.out (fun b hb => by have hb2 : some (w.heap.size + 1 + 1) = some b := hb; injection hb2 with hb2; subst hb2; exact HB2.out.block _ z2)
     have p1 := (World.ownsRow.stored o2 k (.slice r2.s r2.vs.length r2.c)).1
     have e3 : m.length - k = (m.length - (k + 1)) + 1 := by omega
     have e4 : (S.map RS.val ++ List.replicate (m.length - k) (Value.slice none 0 0)).set k (Value.slice r2.s r2.vs.length r2.c) = (S ++ [r2]).map RS.val ++ List.replicate (m.length - (k + 1)) (Value.slice none 0 0) := by
      have f1 := setApp (List.replicate (m.length - k) (Value.slice none 0 0)) 0 (.slice r2.s r2.vs.length r2.c) (S.map RS.val)
      rw [List.length_map, HS.out, Nat.add_zero] at f1
      rw [f1, e3, List.replicate_succ, List.set_cons_zero]
      simp [RS.val]
     rw [e4] at p1
     exact p1
    ·rcases getElem?_push e1 with e1 | ⟨i1, rfl⟩
     ·have q := HR.out i r l e1 e2
      have q2 := q.below HB2.out
      exact q2.kept (fun b e => kp b (World.ownsRow.lt q2.own _ e).1) (fun a ha => kp _ (q2.blk ha).1) (by simp)
     ·have e3 : i = k := by rw [i1, HS.out]
      subst e3
      rw [HX.out] at e2
      injection e2 with e2
      subst e2
      have q2 := HO2.out.low (B' := w.heap.size + 4) (by omega)
      exact q2.kept (fun b e => kp b (World.ownsRow.lt q2.own _ e).1) (fun a ha => kp _ (q2.blk ha).1) (by simp)
    ·rw [mAs_app]
     refine List.nodup_append.2 ⟨HD.out, HO2.out.ro.d, fun a ha b hb e => ?_⟩
     subst e
     have h2 := (HO2.out.ro.blk hb).1
     obtain ⟨r, hr, har⟩ := mem_mAs.1 ha
     obtain ⟨i, hi', er⟩ := List.getElem_of_mem hr
     have hl' : i < m.length := by have := HS.out; omega
     have h3 := ((HR.out i r m[i] (by rw [List.getElem?_eq_getElem hi', er]) (List.getElem?_eq_getElem hl')).ro.blk har).2
     omega
   case measure => simp [intOf]; omega
  ·have e9 : k = m.length := by omega
   subst e9
   obtain ⟨u1, c1'⟩ := Option.isSome_iff_exists.1 HC1.out
   have f1 := HF1.out
   go_wp2
   have hrow := HROW.out
   rw [Nat.sub_self, List.replicate_zero, List.append_nil] at hrow
   refine bodyPost_ret (v := .agg #[.slice (some ⟨w.heap.size + 1 + 1, 0, none⟩) m.length m.length]) (by simp [results, Try.results49, go_sem, c1']) rfl ⟨_, S, rfl, ?_, ?_⟩
   ·have ow : OW wr (w.heap.size + 2) (.slice (some ⟨w.heap.size + 1 + 1, 0, none⟩) m.length m.length) S m := ⟨HS.out, by rw [HS.out]; exact hrow, fun i r l hr hl => (HR.out i r l hr hl).low (by omega), HD.out⟩
    exact (ow.kept (fun b h1 _ => Below.heap_setCell _ _ _ b (by show b ≠ w.heap.size + 1; omega)) (by simp)).low (by omega)
   ·exact HB.out.setCell (p := ⟨w.heap.size + 1, 0, none⟩) (by show w.heap.size ≤ w.heap.size + 1; omega) _
end Go.Proofs.Ytepfpbcjklaenaa
