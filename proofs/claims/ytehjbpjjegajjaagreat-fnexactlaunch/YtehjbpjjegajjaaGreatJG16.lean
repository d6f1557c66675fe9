/- The map of first steps. Conditions: bodies of at most 24 places, each of a kind that there is. Append of one integer onto a row, and which blocks stay. Conditions: fewer than 2^40 of them. The shelf's contract for slices.Sort at rows of integers, at this program (laid by the kit's tools, in plain words). Its conditions stand with it. The first steps of a body, told sorted out of the map. Conditions: bodies of at most 24 places, each of a kind that there is. The code of a body: what codeOf of the program answers. Conditions: bodies that are right, at most 2^20 channels. -/
import Derived.Test.YtehjbpjjegajjaaGreatJG00
import Derived.Test.YtehjbpjjegajjaaGreatJG01
import Derived.Test.YtehjbpjjegajjaaGreatJE10Of
import Derived.Test.YtehjbpjjegajjaaGreatJG15
import Derived.Maps.OwnOps
import Derived.Maps.OwnSet
import Derived.Maps.RangeWalk
import Derived.Test.YtehjbpjjegajjaaGreatJG02
import Derived.Test.YtehjbpjjegajjaaGreatJG13
import Derived.Shelf.Sort.Plain
import Derived.Test.YtehjbpjjegajjaaGreatProg
import Derived.Sort.OwnSortedInts
import Derived.Test.YtehjbpjjegajjaaGreatJProgOk
import Derived.Test.YtehjbpjjegajjaaGreatJG11
import Derived.Test.YtehjbpjjegajjaaGreatJG07
import Derived.Test.YtehjbpjjegajjaaGreatJG12
import Derived.Deep.RegionHeld3
import Derived.Deep.QuietTactic
import Derived.BigQuiet
namespace Go.Proofs.YtehjbpjjegajjaaGreat
section
set_option linter.unusedSimpArgs false
set_option linter.unusedVariables false
set_option maxRecDepth 100000
open Go.RowKit Go.Maps
theorem lawI : Keyed Tryz.prog 3 := int_keyed Tryz.underlying3
def OwnF (w : World) (b n : Nat) (D : DataW Unit) : Prop := w.ownsMap Tryz.prog 3 (plainElem Tryz.prog 3) b n D
theorem OwnF.keep {w w' : World} {b n : Nat} {D : DataW Unit} (h : OwnF w b n D) (hk : w'.heap[b]? = w.heap[b]?) : OwnF w' b n D := by
 obtain ⟨es, clock, h1, h2⟩ := h
 exact ⟨es, clock, hk.trans h1, h2⟩
theorem mkMap (n : Int) (w : World) : (Instr.makeMap 122 (some (.int .i64 n))).run Tryz.prog w = .ok (.map (some w.heap.size)) (w.alloc (.map #[] 0)) := by
 simp [Instr.makeMap, run_underlying Tryz.underlying122, asInt, asIntOf]
theorem keyOf_int_mk' {x y : Int} (e : y = x) (h : (Lit.int .i64 y).wf = true) : keyOf Tryz.prog 3 (.int .i64 x) = some (.int .i64 y) := by
 subst e
 exact keyOf_int_mk Tryz.underlying3 h
theorem insR_at {w : World} {lo hi : Nat} {s : Option Addr} {l : List I5} (h : InsR w lo hi s l) {i : Nat} (hi' : i < l.length) : ∃ g off, s = some ⟨g, off, none⟩ ∧ lo ≤ g ∧ g < hi ∧ ∀ j, j < l.length → At5 w g (off + j * 5) (l.getD j z5) := by
 rcases h with rfl | ⟨g, off, rfl, h1, h2, h3⟩
 ·exact absurd hi' (Nat.not_lt_zero _)
 ·exact ⟨g, off, rfl, h1, h2, h3⟩
set_option maxRecDepth 100000 in
set_option maxHeartbeats 4000000 in
theorem firstsOf_any (s : Option Addr) (c lo hi : Nat) (l : List I5) (w : World) (h : InsR w lo hi s l) (hB : hi ≤ w.heap.size) (hr : Rt l) :
  Calls Tryz.prog 107 #[.slice s l.length c] w fun e w' => e = .returned (.tuple #[.map (some w.heap.size), .int .i64 (stV l l.length)]) ∧ OwnF w' w.heap.size l.length (mpD l l.length) ∧ Below w.heap.size w w' := by
 have hmm := mkMap
 have HI := hidP h
 have HR := hidP hr
 have hl24 := hr.len
 clear h hr
 go_enter Tryz.func107, Tryz.ntmps107
 go_wp2
 refine wp_scope_two 0 1 (fun a' w' => OwnF w' w.heap.size l.length (mpD l l.length) ∧ Below w.heap.size w w' ∧ ∃ (u0 u1 u5 u7 u8 u9 u10 u11 u12 u13 u14 u15 u16 u17 u18 u19 u20 u21 u22 u23 u24 u25 u26 u27 : Value), a' = { tmps := #[u0, u1, .map none, .int .i64 0, .map (some w.heap.size), u5, .int .i64 (stV l l.length), u7, u8, u9, u10, u11, u12, u13, u14, u15, u16, u17, u18, u19, u20, u21, u22, u23, u24, u25, u26, u27], defers := [] })
  (fun a' w' => ∃ k : Nat, k ≤ l.length ∧ OwnF w' w.heap.size k (mpD l k) ∧ Below w.heap.size w w' ∧ ∃ (u1 u7 u8 u9 u10 u11 u12 u13 u14 u15 u16 u17 u18 u19 u20 u21 u22 u23 u24 u25 u26 u27 : Value), a' = { tmps := #[.slice s l.length c, u1, .map none, .int .i64 0, .map (some w.heap.size), .int .i64 k, .int .i64 (stV l k), u7, u8, u9, u10, u11, u12, u13, u14, u15, u16, u17, u18, u19, u20, u21, u22, u23, u24, u25, u26, u27], defers := [] })
  (fun _ _ => 0) (fun a' _ => l.length + 1 - (intOf (a'.tmps.getD 5 undef)).toNat) rfl rfl (by decide) ?_ ?_ ?_
 ·go_wp2
  go_step3
  have HF : Hid (OwnF (w.alloc (.map #[] 0)) w.heap.size 0 (mpD l 0)) := World.ownsMap_made _ _ _ _
  have HB : Hid (Below w.heap.size w (w.alloc (.map #[] 0))) := (Below.refl _ _).alloc (Nat.le_refl _) _
  have hzb : w.heap.size < (w.alloc (.map #[] 0)).heap.size := by simp
  have hk : 0 ≤ l.length := Nat.zero_le _
  generalize w.alloc (.map #[] 0) = w' at HF HB hzb ⊢
  by_cases hlt : 0 < l.length
  ·obtain ⟨g, off, hs, hlo, hg, hc⟩ := insR_at HI.out hlt
   subst hs
   have hc5 := hidP (hc 0 hlt)
   clear hc
   have hsz := HR.out.sz 0 hlt
   have hbd := stV_big HR.out hk
   have wfk := stV_wf HR.out hk
   have ST := hidP (show stV l (0 + 1) = stV l 0 + sizeV (l.getD 0 z5).o from rfl)
   generalize l.getD 0 z5 = x at hc5 hsz ST
   obtain ⟨xo, xr, xa, xb, xn⟩ := x
   have WK := hidP wfk
   clear wfk
   have HST : Hid (stV l 0 = 0) := rfl
   obtain ⟨sz, hsz0⟩ : ∃ sz, sizeV xo = sz := ⟨_, rfl⟩
   have HSZ := hidP hsz0
   have hsz1 : 1 ≤ sz ∧ sz ≤ 32 := by rw [← hsz0]; exact hsz
   clear hsz0 hsz
   have b0 : (0 : Int) ≤ (0 : Int) := by omega
   have b1 : (0 : Int) < (l.length : Int) := by omega
   have b2 : ((0 : Int) == (l.length : Int)) = false := by simp; omega
   go_wp2_with (first | (at_mapUpdate; refine wpList_mapUpdate_own _ rfl _ _ _ 122 rfl 3 3 lawI Tryz.underlying122 _ w.heap.size 0 _ rfl HF.out (by unfold maxLen; omega) _ _ (.int .i64 (stV l 0)) rfl rfl (keyOf_int_mk' (HST.out)  WK.out) (.lit (.int .i64 (0 : Nat))) [] (plainElem_int Tryz.underlying3 (WalkArith.wf_i64 (by omega))) ?_; intro w1 ho1 hg1; have HO1 : Hid (OwnF w1 w.heap.size (0 + 1) (mpD l (0 + 1))) := ho1; have HB1 := hidP (HB.out.grown hg1 HB.out.size (fun j hj => by cases hj; exact Nat.le_refl _)); have hz1 := hg1.size; clear ho1 hg1; obtain ⟨f0, f1, f2, f3, f4⟩ := hc5.out.keep HB1.out (by omega); simp only [Nat.zero_mul, Nat.add_zero] at f0 f1 f2 f3 f4) | (go_at_call 117; refine (implSize_any _ _ _ _ _ _).mono ?_; rintro e w2 ⟨rfl, hb2⟩; rw [HSZ.out]))
   go_step3
   have hz2 := hb2.size
   have HB2 := hidP (HB1.out.trans (hb2.mono (by omega)))
   have HO2 := hidP (OwnF.keep HO1.out (hb2.block w.heap.size (by omega)))
   clear hb2
   have e2 : sz = stV l (0 + 1) := by rw [ST.out, HST.out, HSZ.out]; omega
   rw [e2]
   exact .inr ⟨rfl, ⟨0 + 1, by omega, HO2.out, HB2.out, _, _, _, _, _, _, _, _, _, _, _, _, _, _, _, _, _, _, _, _, _, _, rfl⟩⟩
  ·have hkn : l.length = 0 := by omega
   have b2 : ((0 : Int) == (l.length : Int)) = true := by simp [hkn]
   go_wp2
   go_step3
   exact .inl ⟨rfl, ⟨by rw [hkn]; exact HF.out, HB.out, _, _, _, _, _, _, _, _, _, _, _, _, _, _, _, _, _, _, _, _, _, _, _, _, by rw [hkn]; rfl⟩⟩
 ·rintro a' w' ⟨hF, hb, u0, u1, u5, u7, u8, u9, u10, u11, u12, u13, u14, u15, u16, u17, u18, u19, u20, u21, u22, u23, u24, u25, u26, u27, rfl⟩
  go_wp2
  simp only [jump2]
  refine bodyPost_ret (v := .tuple #[.map (some w.heap.size), .int .i64 (stV l l.length)]) (by simp [results, Tryz.results107, go_sem]) rfl ?_
  exact ⟨rfl, hF, hb⟩
 ·rintro a' w' ⟨k, hk, hF, hb, u1, u7, u8, u9, u10, u11, u12, u13, u14, u15, u16, u17, u18, u19, u20, u21, u22, u23, u24, u25, u26, u27, rfl⟩
  have HF := hidP hF
  have HB := hidP hb
  have hzb : w.heap.size < w'.heap.size := by obtain ⟨es, clock, h1, h2⟩ := hF; exact (Array.getElem?_eq_some_iff.1 h1).1
  clear hF hb
  by_cases hlt : k < l.length
  ·obtain ⟨g, off, hs, hlo, hg, hc⟩ := insR_at HI.out hlt
   subst hs
   have hc5 := hidP (hc k hlt)
   clear hc
   have hsz := HR.out.sz k hlt
   have hbd := stV_big HR.out hk
   have wfk := stV_wf HR.out hk
   have ST := hidP (show stV l (k + 1) = stV l k + sizeV (l.getD k z5).o from rfl)
   generalize l.getD k z5 = x at hc5 hsz ST
   obtain ⟨xo, xr, xa, xb, xn⟩ := x
   have WK := hidP wfk
   clear wfk
   obtain ⟨st, hst⟩ : ∃ st, stV l k = st := ⟨_, rfl⟩
   have HST := hidP hst
   rw [hst] at hbd ⊢
   clear hst
   obtain ⟨sz, hsz0⟩ : ∃ sz, sizeV xo = sz := ⟨_, rfl⟩
   have HSZ := hidP hsz0
   have hsz1 : 1 ≤ sz ∧ sz ≤ 32 := by rw [← hsz0]; exact hsz
   clear hsz0 hsz
   have b0 : (0 : Int) ≤ (k : Int) := by omega
   have b1 : (k : Int) < (l.length : Int) := by omega
   have b2 : ((k : Int) == (l.length : Int)) = false := by simp; omega
   go_wp2_with (first | (at_mapUpdate; refine wpList_mapUpdate_own _ rfl _ _ _ 122 rfl 3 3 lawI Tryz.underlying122 _ w.heap.size k _ rfl HF.out (by unfold maxLen; omega) _ _ (.int .i64 (stV l k)) rfl rfl (keyOf_int_mk' (HST.out)  WK.out) (.lit (.int .i64 (k : Nat))) [] (plainElem_int Tryz.underlying3 (WalkArith.wf_i64 (by omega))) ?_; intro w1 ho1 hg1; have HO1 : Hid (OwnF w1 w.heap.size (k + 1) (mpD l (k + 1))) := ho1; have HB1 := hidP (HB.out.grown hg1 HB.out.size (fun j hj => by cases hj; exact Nat.le_refl _)); have hz1 := hg1.size; clear ho1 hg1; obtain ⟨f0, f1, f2, f3, f4⟩ := hc5.out.keep HB1.out (by omega)) | (go_at_call 117; refine (implSize_any _ _ _ _ _ _).mono ?_; rintro e w2 ⟨rfl, hb2⟩; rw [HSZ.out]))
   go_step3
   have hz2 := hb2.size
   have HB2 := hidP (HB1.out.trans (hb2.mono (by omega)))
   have HO2 := hidP (OwnF.keep HO1.out (hb2.block w.heap.size (by omega)))
   clear hb2
   have e3 : ((k : Int) + 1) = ((k + 1 : Nat) : Int) := by omega
   have e2 : st + sz = stV l (k + 1) := by rw [ST.out, HST.out, HSZ.out]
   rw [e2, e3]
   exact .inr ⟨rfl, ⟨k + 1, by omega, HO2.out, HB2.out, _, _, _, _, _, _, _, _, _, _, _, _, _, _, _, _, _, _, _, _, _, _, rfl⟩, by simp [intOf]; omega⟩
  ·have hkn : l.length = k := by omega
   subst hkn
   have b2 : (((l.length : Nat) : Int) == (l.length : Int)) = true := by simp
   go_wp2
   go_step3
   exact .inl ⟨rfl, ⟨HF.out, HB.out, _, _, _, _, _, _, _, _, _, _, _, _, _, _, _, _, _, _, _, _, _, _, _, _, rfl⟩, by simp [intOf]⟩
end
section
set_option linter.unusedSimpArgs false
set_option linter.unusedVariables false
set_option maxRecDepth 100000
open Go.RowKit
theorem own_block_lt {w : World} {base : Nat} {v : Value} {ls : List Int} (h : OwnN w base v ls) {k : Nat} (hk : v.ownBlock = some k) : base ≤ k ∧ k < w.heap.size := World.ownsRow.lt h _ hk
theorem app_one {ops : Array Oper} {rest : List Oper} {o : Oper} {a : Act} {Q : Exit → Act → World → Prop} (hgd : o.guard = none) (s x : Operand) (ho : o.op = .call { callee := .builtin .append, args := #[s, x], argTypes := #[22, 22] })
  (w : World) (z : Int) (base : Nat) (v : Value) (ls : List Int) (hs : a.eval s = v) (hown : OwnN w base v ls) (hx : a.eval x = .slice (some ⟨w.heap.size, 0, none⟩) 1 1) (hn : ls.length ≤ 1099511627775) (hbase : base ≤ w.heap.size)
  (h : ∀ g cap w', OwnN w' base (.slice (some ⟨g, 0, none⟩) (ls.length + 1) cap) (ls ++ [z]) → Below base w w' → (∀ k, k < w.heap.size → v.ownBlock ≠ some k → w'.heap[k]? = w.heap[k]? ∧ k ≠ g) → wpList Tryz.prog ops Q rest (a.put o.dst (.slice (some ⟨g, 0, none⟩) (ls.length + 1) cap)) w') :
  wpList Tryz.prog ops Q (o :: rest) a (w.alloc (.cells #[.int .i64 z] 3)) := by
 obtain ⟨i0, hi, hz0, hz1, hz2⟩ := infoInt
 have h1' := hown.alloc (.cells #[.int .i64 z] 3)
 refine wpList_append_lies _ hgd s x 22 ho base 3 i0 _ 1 8 Tryz.underlying22 hi hz0 hz1 hz2 rfl (by decide) v ls.length _ hs h1' ⟨w.heap.size, 0, none⟩ 1 1 [.int .i64 z] hx rfl (newN1 w _) (fun u hu => by simp at hu; subst hu; rfl) (by decide) (by unfold maxLen; omega) (by omega) (by simp; omega) _ rfl ?_
 intro g cap w' q1 q2 q3 q4
 have hb : Below base w w' := Below.grown (((Below.refl _ _).alloc hbase _)) q2 (by simp; omega) (fun j hj => (World.ownsRow.lt h1' _ hj).1)
 refine h g cap w' ?_ hb (fun k hk hne => ?_)
 ·show w'.ownsRow base 3 1 _ (ls ++ [z]).length ((ls ++ [z]).map (Value.int .i64))
  rw [List.map_append, List.length_append]
  exact q1
 ·refine ⟨(q2.block k (by simp; omega) (fun e => hne e.symm)).trans (Below.heap_alloc _ _ _ hk), ?_⟩
  rintro rfl
  rcases q3 with q3 | q3
  ·exact hne q3
  ·simp at q3; omega
end
section
open Go.Shelf Go.Sort Go.RowKit
def Tryz.lays189_ren : Go.Shelf.Ren := ⟨fun | 189 => 108 | 125 => 119 | 257 => 118 | 128 => 138 | 129 => 139 | 294 => 129 | 295 => 130 | 296 => 131 | 297 => 132 | 298 => 133 | 299 => 134 | 216 => 135 | 300 => 136 | 301 => 137 | 328 => 153 | 329 => 154 | 330 => 155 | 331 => 156 | 332 => 157 | 215 => 158 | 343 => 172 | n => n, fun | 28 => 22 | 3 => 3 | 46 => 142 | 0 => 0 | 51 => 176 | 53 => 178 | 4 => 4 | 183 => 169 | 182 => 168 | 131 => 173 | 5 => 5 | 9 => 9 | 218 => 180 | 222 => 184 | 228 => 190 | 229 => 191 | n => n, fun | n => n⟩
theorem Tryz.lays189 : Go.Proofs.Lays.n189 Tryz.prog Tryz.lays189_ren := {
 mixed := by kernel_rfl
 f125 := Tryz.func119.trans (congrArg some (by kernel_rfl))
 f128 := Tryz.func138.trans (congrArg some (by kernel_rfl))
 f129 := Tryz.func139.trans (congrArg some (by kernel_rfl))
 f189 := Tryz.func108.trans (congrArg some (by kernel_rfl))
 f215 := Tryz.func158.trans (congrArg some (by kernel_rfl))
 f216 := Tryz.func135.trans (congrArg some (by kernel_rfl))
 f257 := Tryz.func118.trans (congrArg some (by kernel_rfl))
 f294 := Tryz.func129.trans (congrArg some (by kernel_rfl))
 f295 := Tryz.func130.trans (congrArg some (by kernel_rfl))
 f296 := Tryz.func131.trans (congrArg some (by kernel_rfl))
 f297 := Tryz.func132.trans (congrArg some (by kernel_rfl))
 f298 := Tryz.func133.trans (congrArg some (by kernel_rfl))
 f299 := Tryz.func134.trans (congrArg some (by kernel_rfl))
 f300 := Tryz.func136.trans (congrArg some (by kernel_rfl))
 f301 := Tryz.func137.trans (congrArg some (by kernel_rfl))
 f328 := Tryz.func153.trans (congrArg some (by kernel_rfl))
 f329 := Tryz.func154.trans (congrArg some (by kernel_rfl))
 f330 := Tryz.func155.trans (congrArg some (by kernel_rfl))
 f331 := Tryz.func156.trans (congrArg some (by kernel_rfl))
 f332 := Tryz.func157.trans (congrArg some (by kernel_rfl))
 f343 := Tryz.func172.trans (congrArg some (by kernel_rfl))
 t0 := Tryz.underlying0
 a0 := Tryz.isAgg0
 z0 := Tryz.sizeOf0
 v0 := Tryz.zeroValue0
 t3 := Tryz.underlying3
 a3 := Tryz.isAgg3
 z3 := Tryz.sizeOf3
 v3 := Tryz.zeroValue3
 t4 := Tryz.underlying4
 a4 := Tryz.isAgg4
 z4 := Tryz.sizeOf4
 v4 := Tryz.zeroValue4
 t5 := Tryz.underlying5
 a5 := Tryz.isAgg5
 z5 := Tryz.sizeOf5
 v5 := Tryz.zeroValue5
 t9 := Tryz.underlying9
 a9 := Tryz.isAgg9
 z9 := Tryz.sizeOf9
 v9 := Tryz.zeroValue9
 t28 := Tryz.underlying22
 a28 := Tryz.isAgg22
 z28 := Tryz.sizeOf22
 v28 := Tryz.zeroValue22
 t46 := Tryz.underlying142
 a46 := Tryz.isAgg142
 z46 := Tryz.sizeOf142
 v46 := Tryz.zeroValue142
 t51 := Tryz.underlying176
 a51 := Tryz.isAgg176
 z51 := Tryz.sizeOf176
 v51 := Tryz.zeroValue176
 t53 := Tryz.underlying178
 a53 := Tryz.isAgg178
 z53 := Tryz.sizeOf178
 v53 := Tryz.zeroValue178
 t131 := Tryz.underlying173
 a131 := Tryz.isAgg173
 z131 := Tryz.sizeOf173
 v131 := Tryz.zeroValue173
 t182 := Tryz.underlying168
 a182 := Tryz.isAgg168
 z182 := Tryz.sizeOf168
 v182 := Tryz.zeroValue168
 t183 := Tryz.underlying169
 a183 := Tryz.isAgg169
 z183 := Tryz.sizeOf169
 v183 := Tryz.zeroValue169
 t218 := Tryz.underlying180
 a218 := Tryz.isAgg180
 z218 := Tryz.sizeOf180
 v218 := Tryz.zeroValue180
 t222 := Tryz.underlying184
 a222 := Tryz.isAgg184
 z222 := Tryz.sizeOf184
 v222 := Tryz.zeroValue184
 t228 := Tryz.underlying190
 a228 := Tryz.isAgg190
 z228 := Tryz.sizeOf190
 v228 := Tryz.zeroValue190
 t229 := Tryz.underlying191
 a229 := Tryz.isAgg191
 z229 := Tryz.sizeOf191
 v229 := Tryz.zeroValue191 }
theorem Tryz.slices_Sort_int (blk off cap : Nat) (zs : List Int) (w : World) (hH : Holds (Value.int .i64) w blk off zs.toArray) (hblk : blk < w.heap.size) (hsz : zs.length < 4611686018427387904) :
  Calls Tryz.prog 108 #[.slice (some ⟨blk, off, none⟩) zs.length cap] w fun e w' =>
   e = .returned (.tuple #[]) ∧ ∃ n os, w' = grow (putRow (Value.int .i64) (Sort.ahead w n) blk off (zs.mergeSort fun x y => decide (x ≤ y)).toArray) os := Any.slices_Sort_int Tryz.lays189 blk off cap zs w hH hblk hsz
open Go.Sort in
theorem sortI (blk off cap : Nat) (zs : List Int) (w : World) (hH : Holds (Value.int .i64) w blk off zs.toArray) (hblk : blk < w.heap.size) (hsz : zs.length < 4611686018427387904) :
  Calls Tryz.prog 108 #[.slice (some ⟨blk, off, none⟩) zs.length cap] w fun e w' =>
   e = .returned (.tuple #[]) ∧ ∃ n os, w' = grow (putRow (Value.int .i64) (Sort.ahead w n) blk off (zs.mergeSort fun x y => decide (x ≤ y)).toArray) os := Tryz.slices_Sort_int blk off cap zs w hH hblk hsz
end
section
set_option linter.unusedSimpArgs false
set_option linter.unusedVariables false
set_option maxRecDepth 100000
open Go.RowKit Go.Maps
theorem mkCap (n : Nat) (hn : n ≤ 1048576) (w : World) : (Instr.makeSlice 22 (.int .i64 0) (.int .i64 (n : Int))).run Tryz.prog w = .ok (.slice (some ⟨w.heap.size, 0, none⟩) 0 n) (w.alloc (.cells (madeCells #[.int .i64 0] (n * 1)) 3)) := by
 have h := run_make (P := Tryz.prog) w 22 3 _ (.int .i64 0) Tryz.underlying22 rfl rfl .i64 .i64 0 n (by omega) (by omega) (by show (8 : Int) * _ ≤ _; omega) (by omega)
 have e : (Value.int .i64 0).cells = #[.int .i64 0] := rfl
 have e' : ∀ t, Tryz.prog.info? 3 = some t → t.size = 1 := by intro t h; cases h; rfl
 rw [e, e' _ rfl] at h
 simpa using h
theorem ownCap (w : World) (n base : Nat) (hb : base ≤ w.heap.size) (hn : n ≤ 1048576) : OwnN (w.alloc (.cells (madeCells #[.int .i64 0] n) 3)) base (.slice (some ⟨w.heap.size, 0, none⟩) 0 n) [] :=
 ⟨rfl, .inr ⟨w.heap.size, n, _, rfl, hb, heap_alloc_new w _, Nat.zero_le _, by unfold maxLen; omega, by rw [size_madeCells]; simp, by simp⟩⟩
set_option maxRecDepth 100000 in
set_option maxHeartbeats 4000000 in
theorem startsOf_any (s : Option Addr) (c lo hi : Nat) (l : List I5) (w : World) (h : InsR w lo hi s l) (hB : hi ≤ w.heap.size) (hr : Rt l) :
  Calls Tryz.prog 85 #[.slice s l.length c] w fun e w' => (∃ g cap, e = .returned (.slice (some ⟨g, 0, none⟩) l.length cap) ∧ OwnN w' w.heap.size (.slice (some ⟨g, 0, none⟩) l.length cap) (stL l l.length)) ∧ Below w.heap.size w w' := by
 have HI := hidP h
 have HR := hidP hr
 have hl24 := hr.len
 have hsz := mpD_size hr l.length (Nat.le_refl _)
 have HSZ := hidP hsz
 have hmk := mkCap l.length (by omega)
 clear h hr hsz
 go_enter Tryz.func85, Tryz.ntmps85
 go_wp2_with fail
 refine (firstsOf_any s c lo hi l w HI.out hB HR.out).mono ?_
 rintro e w1 ⟨rfl, ho1, hb1⟩
 have K1 := hidP hb1
 have HO := hidP ho1
 have hz1 : w.heap.size < w1.heap.size := by obtain ⟨es, clock, h1, h2⟩ := ho1; exact (Array.getElem?_eq_some_iff.1 h1).1
 clear hb1 ho1 HI
 go_wp2_with (first | (at_len; refine wpList_len_own _ rfl _ 122 rfl 3 3 Tryz.underlying122 _ w.heap.size l.length _ rfl HO.out ?_; rw [HSZ.out]) | (at_range; refine wpList_range_own _ rfl _ 122 rfl 3 3 lawI Tryz.underlying122 _ w.heap.size l.length _ rfl (HO.out.keep (Below.heap_alloc _ _ _ hz1)) ?_; intro w3 hrg0 hg0 hs0) | go_in)
 go_frame
 obtain ⟨W, hW⟩ : ∃ W, w1.alloc (.cells (madeCells #[.int .i64 0] l.length) 3) = W := ⟨_, rfl⟩
 have hWs : w1.heap.size < W.heap.size := by rw [← hW]; simp
 have HOW : Hid (OwnN W (w.heap.size + 1) (.slice (some ⟨w1.heap.size, 0, none⟩) 0 l.length) []) := hW ▸ ownCap w1 l.length _ (by omega) (by omega)
 have KW : Hid (Below w.heap.size w W) := hW ▸ K1.out.alloc (by omega) _
 rw [HSZ.out] at hrg0
 rw [hW] at hrg0 hg0 hs0 ⊢
 have hs0' : W.heap.size < w3.heap.size := by omega
 clear hW hmk hs0
 go_loopw [5] (fun v wr => ∃ (left : Lit → Bool) (cnt : Nat) (ss : List Int) (g cap : Nat), v = .slice (some ⟨g, 0, none⟩) ss.length cap ∧ OwnN wr (w.heap.size + 1) (.slice (some ⟨g, 0, none⟩) ss.length cap) ss ∧ g ≠ W.heap.size ∧ wr.ranges Tryz.prog 3 (plainElem Tryz.prog 3) w.heap.size W.heap.size l.length (mpD l l.length) left cnt ∧ Coll (mpD l l.length) left ss ∧ ss.length + cnt ≤ l.length ∧ Below w.heap.size w wr)
  (fun _ wr => wr.rangeLeft w.heap.size W.heap.size)
 case atStart => exact ⟨_, _, [], w1.heap.size, l.length, rfl, HOW.out.keep (fun k hk1 hk2 => hg0.block k hk2 (by simp)), by omega, hrg0, Coll.start _, by simp, KW.out.grown hg0 (by omega) (fun j hj => by cases hj)⟩
 case round =>
  obtain ⟨left, cnt, ss, g, cap, rfl, ho, hgr, hrg, hcl, hln, hnx⟩ := hrel
  have HCL := hidP hcl
  have HN := hidP ho
  clear hcl ho
  go_wp2_with (first
   | (at_next; refine wpList_next_ranges_ii _ rfl _ rfl 3 3 .i64 .i64 lawI Tryz.underlying3 Tryz.underlying3 w.heap.size W.heap.size l.length _ _ _ rfl hrg ?_ ?_)
   | go_in)
  ·intro hc0 hl0
   have HT := hidP (sort_is (Coll.perm HR.out HCL.out hl0) (stL_sorted HR.out (Nat.le_refl _)))
   have hlen : ss.length = l.length := by have := (Coll.perm HR.out HCL.out hl0).length_eq; rw [stL_len] at this; exact this
   have HLEN := hidP hlen
   have hlt24 : ss.length < 25 := by omega
   have KB := hidP hnx
   clear hlen
   obtain ⟨g', cap', cur, hv, hbg, hgc, hnc, hcm, hcs, htake⟩ : ∃ g' cap' cur, (Value.slice (some ⟨g, 0, none⟩) ss.length cap) = .slice (some ⟨g', 0, none⟩) ss.length cap' ∧ w.heap.size + 1 ≤ g' ∧ wr.heap[g']? = some (.cells cur 3 (0, 0)) ∧ ss.length ≤ cap' ∧ cap' ≤ maxLen ∧ cur.size = cap' * 1 ∧ cur.toList.take (ss.length * 1) = ss.map (Value.int .i64) := by
    rcases HN.out.2 with ⟨h0, _⟩ | ⟨g', cap', cur, hv, hbg, hgc, hnc, hcm, hcs, htake⟩
    ·cases h0
    ·exact ⟨g', cap', cur, hv, hbg, hgc, hnc, hcm, hcs, htake⟩
   simp only [Value.slice.injEq, Option.some.injEq, Addr.mk.injEq] at hv
   obtain ⟨⟨rfl, -⟩, -, rfl⟩ := hv
   have hgl : g < wr.heap.size := (Array.getElem?_eq_some_iff.1 hgc).1
   rw [Nat.mul_one] at htake
   have HH := hidP (holds_of_blockI hgc htake)
   have HGC := hidP (And.intro hbg (And.intro hgc (And.intro hnc (And.intro hcm hcs))))
   clear hrg hnx hc0 hl0 hbg hgc hnc hcm hcs htake
   go_wp2_with (go_at_call 108; refine (sortI g 0 cap ss wr HH.out hgl (by omega)).mono ?_; rintro e w6 ⟨rfl, n6, os6, h6⟩; have H6 := hidP h6; clear h6)
   go_ret
   have hlen := HLEN.out
   have h6 := H6.out
   rw [HT.out] at h6
   have hG := grownBy_sortedI (w := wr) (g := g) (n := n6) (os := os6) (stL l l.length).toArray
   obtain ⟨hbg, hgc, hnc, hcm, hcs⟩ := HGC.out
   have hO := ownsRow_sortedI (w := wr) (base := w.heap.size + 1) (g := g) (cap := cap) (n := n6) (os := os6) (ss := ss) (ts := stL l l.length) (by rw [stL_len, hlen]) hbg hgc hnc hcm hcs
   rw [← h6] at hG hO
   refine ⟨⟨g, cap, by rw [← hlen]; rfl, ?_⟩, KB.out.grown hG KB.out.size (fun j hj => by cases hj; omega)⟩
   have : OwnN w6 (w.heap.size + 1) (.slice (some ⟨g, 0, none⟩) l.length cap) (stL l l.length) := by
    show w6.ownsRow _ _ _ _ (stL l l.length).length _
    rw [stL_len, ← hlen]
    rw [hlen] at hO ⊢
    exact hO
   exact ownLow' this (by omega)
  ·intro x cx w4 cnt4 hwx hwc hlx hat hrg4 hlt4 hg4 hs4 hen
   have HC4 := hidP (HCL.out.step hlx hat)
   have hn4 : Below w.heap.size w w4 := hnx.grown hg4 hnx.size (fun j hj => by cases hj; omega)
   have HN4 := hidP (show OwnN w4 (w.heap.size + 1) (.slice (some ⟨g, 0, none⟩) ss.length cap) ss from ownKeep' HN.out (fun k hk => hg4.block k (World.ownsRow.lt HN.out _ hk).2 (fun e => by have e1 := Option.some.inj e; have e2 : g = k := (by simpa [Value.ownBlock] using hk); omega)))
   have hsz4 := hn4.size
   have hr4 := hrg4.lt
   have hb4 := hrg4.owns.lt
   have HG4 := hidP hg4
   clear hg4 hs4
   go_wp2_with (first | (at_builtin; refine app_one rfl _ _ rfl w4 x (w.heap.size + 1) (.slice (some ⟨g, 0, none⟩) ss.length cap) ss rfl HN4.out rfl (by omega) (by omega) ?_; intro g5 cap5 w5 ho5 hb5 hk5) | go_in)
   have hg5 : w4.grownBy w5 (some g) := ⟨hb5.os, hb5.tape, hb5.output, hb5.size, fun k hk hne => (hk5 k hk (fun e => hne (by simpa [Value.ownBlock] using e.symm))).1⟩
   have hrg5 := hrg4.kept hg5 (fun e => by have e1 := Option.some.inj e; have e2 := (own_block_lt HN4.out (k := g) rfl).1; omega) (fun e => hgr (Option.some.inj e).symm)
   have hgr5 : g5 ≠ W.heap.size := fun e => (hk5 W.heap.size hr4 (fun e' => hgr (by simpa [Value.ownBlock] using e'))).2 e.symm
   exact ⟨⟨_, cnt4, ss ++ [x], g5, cap5, by simp, by simpa using ho5, hgr5, hrg5, HC4.out, by simp; omega, hn4.trans (hb5.mono (by omega))⟩, by rw [hrg5.left_eq, hrg.left_eq]; exact hlt4⟩
end
section
set_option linter.unusedSimpArgs false
set_option linter.unusedVariables false
set_option maxRecDepth 100000
open Go.RowKit
theorem wp5g {o : Oper} {a : Act} {K : Act → World → Prop} {Q : Exit → Act → World → Prop} (s x : Operand) (ho : o.op = .call { callee := .builtin .append, args := #[s, x], argTypes := #[69, 69] })
  (w : World) (base : Nat) (v : Value) (L1 : List I5) (hs : a.eval s = v) (hown : OwnT5 w base v L1) (base2 g2 n2 c2 : Nat) (L2 : List I5) (hx : a.eval x = .slice (some ⟨g2, 0, none⟩) n2 c2) (h2 : OwnT5 w base2 (.slice (some ⟨g2, 0, none⟩) n2 c2) L2) (hl2 : L2.length = n2)
  (hl : 0 < n2) (hn : L1.length + n2 ≤ 1000) (N : Nat) (hN : L1.length + n2 = N) (hbase : base ≤ w.heap.size)
  (h : ∀ g c w', OwnT5 w' base (.slice (some ⟨g, 0, none⟩) N c) (L1 ++ L2) → Below base w w' → (∀ k, k < w.heap.size → v.ownBlock ≠ some k → w'.heap[k]? = w.heap[k]?) → K (a.put o.dst (.slice (some ⟨g, 0, none⟩) N c)) w') : Oper.wp Tryz.prog o a w K Q := by
 obtain ⟨i0, hi0, hz0, hz1, hz2⟩ := infoSt
 subst hN hl2
 refine wp_append_lies w s x 69 ho base 97 i0 _ 5 40 Tryz.underlying69 hi0 hz0 hz1 hz2 rfl (by decide) v L1.length _ hs hown ⟨g2, 0, none⟩ L2.length c2 ((fl5 L2).map (Value.int .i64)) hx (by rw [List.length_map, fl5_len]) (fun j u hj => ?_) (fun u hu => by obtain ⟨z, -, rfl⟩ := List.mem_map.1 hu; rfl) hl (by unfold maxLen; omega) (by omega) hbase _ rfl ?_
 ·rw [List.getElem?_map] at hj
  obtain ⟨z, hz, rfl⟩ := Option.map_eq_some_iff.1 hj
  have ea : Addr.add ⟨g2, 0, none⟩ j = ⟨g2, j, none⟩ := by
   by_cases h : j = 0
   ·subst h; rfl
   ·simp [Addr.add, h]
  rw [ea]
  exact h2.cellAt hz
 intro g cap w' q1 q2 q3 q4
 refine h g cap w' ?_ (Below.grown (Below.refl _ _) q2 hbase (fun j hj => (World.ownsRow.lt hown _ hj).1)) (fun k hk hne => q2.block k hk (fun e => hne e.symm))
 show w'.ownsRow base 97 5 _ (L1 ++ L2).length ((fl5 (L1 ++ L2)).map (Value.int .i64))
 rw [fl5_app, List.map_append, List.length_append]
 exact q1
theorem step5g {ops : Array Oper} {o : Oper} {a : Act} {K : Act → World → Prop} {Q : Exit → Act → World → Prop} {E : Prop} (hgd : o.guard = none) (s x : Operand) (ho : o.op = .call { callee := .builtin .append, args := #[s, x], argTypes := #[69, 69] })
  (w : World) (base : Nat) (v : Value) (L1 : List I5) (hs : a.eval s = v) (hown : OwnT5 w base v L1) (base2 g2 n2 c2 : Nat) (L2 : List I5) (hx : a.eval x = .slice (some ⟨g2, 0, none⟩) n2 c2) (h2 : OwnT5 w base2 (.slice (some ⟨g2, 0, none⟩) n2 c2) L2) (hl2 : L2.length = n2)
  (hl : 0 < n2) (hn : L1.length + n2 ≤ 1000) (N : Nat) (hN : L1.length + n2 = N) (hbase : base ≤ w.heap.size)
  (h : ∀ g c w', OwnT5 w' base (.slice (some ⟨g, 0, none⟩) N c) (L1 ++ L2) → Below base w w' → (∀ k, k < w.heap.size → v.ownBlock ≠ some k → w'.heap[k]? = w.heap[k]?) → K (a.put o.dst (.slice (some ⟨g, 0, none⟩) N c)) w') : if Region.wanted o (yielded ops a.tmps) = true then Oper.wp Tryz.prog o a w K Q else E := by
 have hw : Region.wanted o (yielded ops a.tmps) = true := by simp [Region.wanted, hgd]
 rw [if_pos hw]
 exact wp5g s x ho w base v L1 hs hown base2 g2 n2 c2 L2 hx h2 hl2 hl hn N hN hbase h
theorem implEmit_n (o r a x n fr : Int) (ss sk : Option Addr) (sc kc lo hi lo' hi' : Nat) (caps starts : List Int) (m : Nat) (hm : starts.length = m) (w : World) (hcp : IntsR w lo hi sk caps) (hhi : hi ≤ w.heap.size) (hcl : caps.length ≤ 2000000) (hst : IntsR w lo' hi' ss starts) (hhi' : hi' ≤ w.heap.size) :
  Calls Tryz.prog 86 #[.slice sk caps.length kc, .agg #[.int .i64 o, .int .i64 r, .int .i64 a, .int .i64 x, .int .i64 n], .int .i64 fr, .slice ss m sc] w fun e w' => ∃ v, e = .returned v ∧ OwnT5 w' w.heap.size v (emitM caps starts o r a x n fr) ∧ Below w.heap.size w w' := by
 subst hm
 exact implEmit_any o r a x n fr ss sk sc kc lo hi lo' hi' caps starts w hcp hhi hcl hst hhi'
set_option maxHeartbeats 2000000 in
theorem haveBases_yes (s : Option Addr) (c lo hi : Nat) (p : PD) (w : World) (hp : progB p = true) (h : IntsR w lo hi s p.caps) (hB : hi ≤ w.heap.size) :
  Calls Tryz.prog 48 #[.slice s p.caps.length c] w fun e w' => e = .returned (.bool true) ∧ Below w.heap.size w w' := by
 have hl := (progB_len hp).2.2.1
 have HI := hidP h
 have HP := hidP hp
 clear h hp
 by_cases h0 : p.caps.length = 0
 ·have h1 : ((p.caps.length : Int) == 0) = true := by simp [h0]
  clear h0
  go_enter Tryz.func48, Tryz.ntmps48
  go_wp2
  go_ret
  exact ⟨rfl, Below.refl _ _⟩
 ·have h1 : ((p.caps.length : Int) == 0) = false := beq_eq_false_iff_ne.2 (by omega)
  have h2 : (baseV p.caps 0 != -1) = true := by simpa using base_ok HP.out (Int.le_refl 0) (by omega)
  obtain ⟨bv, hbv⟩ : ∃ bv, baseV p.caps 0 = bv := ⟨_, rfl⟩
  have HBV := hidP hbv
  rw [hbv] at h2
  clear hbv h0
  go_enter Tryz.func48, Tryz.ntmps48
  go_wp2_with (go_at_call 84; refine (implBase_any s c lo hi p.caps 0 w HI.out hB (by omega)).mono ?_; rintro e w1 ⟨rfl, hb1⟩; rw [HBV.out])
  go_ret
  exact ⟨rfl, hb1⟩
set_option maxRecDepth 100000 in
set_option maxHeartbeats 4000000 in
theorem codeOf_any (sk s : Option Addr) (kc c lo' hi' lo hi : Nat) (cs : List Int) (l : List I5) (w : World) (hcp : IntsR w lo' hi' sk cs) (hB' : hi' ≤ w.heap.size) (hcl : cs.length ≤ 1048576) (h : InsR w lo hi s l) (hB : hi ≤ w.heap.size) (hr : Rt l)
  (hpos : ∀ k, k < l.length → 0 < (emX cs (stL l l.length) (l.getD k z5) (stV l k)).length) :
  Calls Tryz.prog 49 #[.slice sk cs.length kc, .slice s l.length c] w fun e w' => ∃ v, e = .returned v ∧ OwnT5 w' w.heap.size v (cdM cs l l.length) ∧ Below w.heap.size w w' := by
 have HCP := hidP hcp
 have HI := hidP h
 have HR := hidP hr
 have HPO := hidP hpos
 have hl24 := hr.len
 clear hcp h hr hpos
 go_enter Tryz.func49, Tryz.ntmps49
 go_wp2_with fail
 refine (startsOf_any s c lo hi l w HI.out hB HR.out).mono ?_
 rintro e w1 ⟨⟨gs, cps, rfl, ho1⟩, hb1⟩
 have hos : OwnN w1 w.heap.size (.slice (some ⟨gs, 0, none⟩) (stL l l.length).length cps) (stL l l.length) := by rw [stL_len]; exact ho1
 have HS := hidP (ownN_intsR hos)
 have hgs := own_block_lt ho1 (k := gs) rfl
 have hsc : ∀ i, i < l.length → w1.cell? ⟨gs, i, none⟩ = some (.int .i64 (stV l i)) := fun i hi => by
  have := hos.cell (i := i) (by rw [stL_len]; exact hi)
  rw [stL_at l hi] at this
  exact this
 have HSC := hidP hsc
 have K1 := hidP hb1
 have hz1 := hb1.size
 clear ho1 hos hb1 hsc
 go_wp2
 go_loopw [6, 13] (fun v i wr => ∃ k : Nat, k ≤ l.length ∧ i = .int .i64 k ∧ OwnT5 wr w1.heap.size v (cdM cs l k) ∧ Below w1.heap.size w1 wr) (fun _ i _ => l.length - (intOf i).toNat)
 case atStart => exact ⟨0, Nat.zero_le _, rfl, World.ownsRow_nil _ _ _ _, Below.refl _ _⟩
 case round =>
  obtain ⟨k, hk, rfl, ho, hb⟩ := hrel
  have HO := hidP ho
  have HB := hidP hb
  have hs := hb.size
  by_cases hlt : k < l.length
  ·obtain ⟨gl, off, hs', hlo, hgl, hc⟩ := insR_at HI.out hlt
   subst hs'
   obtain ⟨f0, f1, f2, f3, f4⟩ := (hc k hlt).keep (K1.out.trans (hb.mono hz1)) (by omega)
   clear ho hb hc
   have hp1 := HPO.out k hlt
   have EC := hidP (show cdM cs l (k + 1) = cdM cs l k ++ emX cs (stL l l.length) (l.getD k z5) (stV l k) from rfl)
   generalize l.getD k z5 = x at f0 f1 f2 f3 f4 hp1 EC
   obtain ⟨xo, xr, xa, xb, xn⟩ := x
   have b0 : (0 : Int) ≤ (k : Int) := by omega
   have b1 : (k : Int) < (l.length : Int) := by omega
   have b3 : (k : Int) < (k : Int) + 1 := by omega
   obtain ⟨st, hst⟩ : ∃ st, stV l k = st := ⟨_, rfl⟩
   have f5 := (HB.out.cell (p := ⟨gs, k, none⟩) hgs.2).trans (HSC.out k hlt)
   rw [hst] at f5 hp1
   have HST := hidP hst
   clear hst
   obtain ⟨L, hL⟩ : ∃ L, emX cs (stL l l.length) ⟨xo, xr, xa, xb, xn⟩ st = L := ⟨_, rfl⟩
   have HL := hidP (show emitM cs (stL l l.length) xo xr xa xb xn st = L from hL)
   have hLn : L.length ≤ 40 := by rw [← HL.out]; exact emitM_len _ _ _ _ _ _ _ _
   have hcn := cdM_len cs l k
   rw [hL] at hp1
   have EL := hidP hL
   clear hL
   obtain ⟨W, hW, bx, kb, zb⟩ := Bo5.new wr (.int .i64 xo) (.int .i64 xr) (.int .i64 xa) (.int .i64 xb) (.int .i64 xn) 73
   have HX := hidP bx
   have KB := hidP kb
   have hzW : wr.heap.size + 1 ≤ W.heap.size := by omega
   clear zb
   have HCW := hidP (HCP.out.keep (Keep.of_below (K1.out.trans ((HB.out.trans (KB.out.mono hs)).mono hz1)) hB'))
   have HSW := hidP (HS.out.keep (Keep.of_below (HB.out.trans (KB.out.mono hs)) (Nat.le_refl _)))
   have HOW := hidP (HO.out.keep KB.out)
   have g0 := bx.c0
   have g1 := bx.c1
   have g2 := bx.c2
   have g3 := bx.c3
   have g4 := bx.c4
   have g5 := (KB.out.cell (p := ⟨gs, k, none⟩) (show gs < wr.heap.size by omega)).trans f5
   have hbx : ∀ kk, (u6 : Value).ownBlock = some kk → kk < wr.heap.size := fun kk e => (World.ownsRow.lt HO.out _ e).2
   have HBX := hidP hbx
   clear bx kb hbx
   have side1 : hi' ≤ W.heap.size := by omega
   have side2 : w1.heap.size ≤ W.heap.size := by omega
   have side3 : cs.length ≤ 2000000 := by omega
   have side4 : (cdM cs l k).length + L.length ≤ 1000 := by omega
   have side5 : gs < W.heap.size := by omega
   have side6 : gs < wr.heap.size := by omega
   have EST := hidP (show some (Value.int .i64 (stV l k)) = some (Value.int .i64 st) by rw [HST.out])
   go_wp2_with fail
   clear hW f0 f1 f2 f3 f4 f5
   go_region_held3 (fun w' => w'.cell? ⟨wr.heap.size, 0, none⟩ = some (.int .i64 xo) ∧ w'.cell? ⟨wr.heap.size, 1, none⟩ = some (.int .i64 xr) ∧ w'.cell? ⟨wr.heap.size, 2, none⟩ = some (.int .i64 xa) ∧ w'.cell? ⟨wr.heap.size, 3, none⟩ = some (.int .i64 xb) ∧ w'.cell? ⟨wr.heap.size, 4, none⟩ = some (.int .i64 xn) ∧ w'.cell? ⟨gs, k, none⟩ = some (.int .i64 st)) (go_keep) (first | (go_at_call 86; refine (implEmit_n xo xr xa xb xn st (some ⟨gs, 0, none⟩) sk cps kc lo' hi' w.heap.size w1.heap.size cs (stL l l.length) l.length (stL_len l _) W.drew (show IntsR W.drew lo' hi' sk cs from HCW.out) side1 side3 (show IntsR W.drew w.heap.size w1.heap.size (some ⟨gs, 0, none⟩) (stL l l.length) from HSW.out) side2).mono ?_; rintro e y1 ⟨v1, rfl, hv1, hbu⟩; rw [HL.out] at hv1; have kbu : Below W.heap.size W y1 := ⟨hbu.os, hbu.tape, hbu.output, hbu.size, hbu.block⟩; have hzu := kbu.size; obtain ⟨q2, c2, e2, hq2a, hq2b⟩ := World.ownsRow.form hv1 hp1; subst e2; have HV1 := hidP hv1; have HOU := hidP (HOW.out.keep kbu); have KBU := hidP kbu; clear g0 g1 g2 g3 g4 g5 hv1 hbu kbu; obtain ⟨g0, g1, g2, g3, g4⟩ := HX.out.keep (Keep.of_below KBU.out hzW); have g5 := (KBU.out.cell (p := ⟨gs, k, none⟩) side5).trans ((KB.out.cell (p := ⟨gs, k, none⟩) side6).trans ((HB.out.cell (p := ⟨gs, k, none⟩) hgs.2).trans ((HSC.out k hlt).trans EST.out)))) | (refine step5g rfl _ _ rfl y1 w1.heap.size u6 (cdM cs l k) rfl HOU.out _ q2 L.length c2 L rfl HV1.out rfl hp1 side4 _ rfl (Nat.le_trans side2 hzu) ?_; intro g7 c7 w7 ho7 hb7 hk7; have HO7 := hidP ho7; have KB7 : Hid (Below w1.heap.size W w7) := (KBU.out.mono side2).trans ⟨hb7.os, hb7.tape, hb7.output, hb7.size, hb7.block⟩; have kx : w7.heap[wr.heap.size]? = y1.heap[wr.heap.size]? := hk7 wr.heap.size (Nat.lt_of_lt_of_le hzW hzu) (fun e => absurd (HBX.out _ e) (Nat.lt_irrefl _)); have cx : ∀ o, w7.cell? ⟨wr.heap.size, o, none⟩ = y1.cell? ⟨wr.heap.size, o, none⟩ := fun o => World.cell?_of_block kx; have i0 := (cx 0).trans g0; have i1 := (cx 1).trans g1; have i2 := (cx 2).trans g2; have i3 := (cx 3).trans g3; have i4 := (cx 4).trans g4; have i5 := (KB7.out.cell (p := ⟨gs, k, none⟩) hgs.2).trans ((KB.out.cell (p := ⟨gs, k, none⟩) side6).trans ((HB.out.cell (p := ⟨gs, k, none⟩) hgs.2).trans ((HSC.out k hlt).trans EST.out))); clear ho7 hb7 hk7 kx cx) | fail)
   have E7 := hidP (show cdM cs l k ++ L = cdM cs l (k + 1) by rw [EC.out, HST.out, EL.out])
   clear i0 i1 i2 i3 i4 i5
   go_wp2
   go_roundw
   case rel => exact ⟨k + 1, by omega, by go_num, by rw [← E7.out]; exact HO7.out, (HB.out.trans (KB.out.mono hs)).trans KB7.out⟩
   case measure => simp [intOf]; omega
  ·have hkn : k = l.length := by omega
   subst hkn
   go_wp2
   go_ret
   exact ⟨_, rfl, HO.out.low hz1, K1.out.trans (HB.out.mono hz1)⟩
end
end Go.Proofs.YtehjbpjjegajjaaGreat
