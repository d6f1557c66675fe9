/- The first steps as the specification reckons them. Conditions: bodies of at most 24 places, each of a kind that there is. PlaceOf of the specification. Conditions: programs that fit. laws.toStep hands its Step on, field by field, in new memory. No condition. Lists of steps as they lie in memory, and how the laws copy them. Conditions: lists of at most 1048576 steps. Machines as they lie in memory: rows of code, of cores, a memory, notes; how great they are. No condition. A region that draws its order, whose first operations only read and whose others come one behind the other: one walk of the first ones, in the order of the text, and then the others. No condition. -/
import Derived.Test.YtcfehbfjillnoaaGreatJG00
import Derived.Test.YtcfehbfjillnoaaGreatJG01
import Derived.Test.YtcfehbfjillnoaaGreatJG11
import Derived.Test.YtcfehbfjillnoaaGreatJG04
import Derived.Test.YtcfehbfjillnoaaGreatJE10Of
import Derived.Test.YtcfehbfjillnoaaGreatJAppN
import Derived.Deep.RegionHeld3
import Derived.Test.YtcfehbfjillnoaaGreatJSpecIns
import Derived.Test.YtcfehbfjillnoaaGreatJProgOk
import Derived.Deep.QuietTactic
import Derived.BigQuiet
import Derived.Test.YtcfehbfjillnoaaGreatJC7Leaf
import Derived.Laws.MakeOwn
import Derived.Test.YtcfehbfjillnoaaGreatJG05
import Derived.Test.YtcfehbfjillnoaaGreatJG06
namespace Go.Proofs.YtcfehbfjillnoaaGreat
section
set_option linter.unusedSimpArgs false
set_option linter.unusedVariables false
set_option maxRecDepth 100000
open Go.RowKit
theorem own_one (w : World) (z : Int) : OwnN (w.alloc (.cells #[.int .i64 z] 3)) w.heap.size (.slice (some ⟨w.heap.size, 0, none⟩) 1 1) [z] := by
 exact ⟨rfl, .inr ⟨w.heap.size, 1, #[.int .i64 z], rfl, Nat.le_refl _, heap_alloc_new w _, Nat.le_refl _, by unfold maxLen; omega, rfl, rfl⟩⟩
theorem run_keepN {w : World} {base g cap n : Nat} {ls : List Int} (hown : OwnN w base (.slice (some ⟨g, 0, none⟩) n cap) ls) (ty : TypeId) (g0 o0 c : Nat) (l : List Int) (hc : ∀ i, i < l.length → w.cell? ⟨g0, o0 + i, none⟩ = some (.int .i64 (l.getD i 0)))
  (hl : 0 < l.length) (hn : ls.length + l.length ≤ 1099511627776) (hbase : base ≤ w.heap.size) :
  ∃ g1 cap1 w', (Builtin.append_ #[22, 22] ty #[.slice (some ⟨g, 0, none⟩) n cap, .slice (some ⟨g0, o0, none⟩) l.length c]).run Tryz.prog w = .ok (.slice (some ⟨g1, 0, none⟩) (ls.length + l.length) cap1) w' ∧
   OwnN w' base (.slice (some ⟨g1, 0, none⟩) (ls.length + l.length) cap1) (ls ++ l) ∧ Below base w w' ∧ g1 < w'.heap.size ∧ base ≤ g1 ∧ (∀ j, j < ls.length → w'.cell? ⟨g, j, none⟩ = w.cell? ⟨g, j, none⟩) := by
 obtain ⟨i0, hi, hz0, hz1, hz2⟩ := infoInt
 have hnews : ∀ j u, (l.map (Value.int .i64))[j]? = some u → w.cell? (Addr.add ⟨g0, o0, none⟩ j) = some u := news_row hc
 have h1 : ∀ u ∈ l.map (Value.int .i64), u.oneCell' = true := fun u hu => by obtain ⟨z, -, rfl⟩ := List.mem_map.1 hu; rfl
 have hl1 : (l.map (Value.int .i64)).length = l.length * i0.size := by rw [hz1]; simp
 obtain ⟨g1, cap1, w', hr, q1, q2, q3, q4⟩ := run_append_lies (P := Tryz.prog) w 22 ty base 3 i0 _ 1 8 Tryz.underlying22 hi hz0 hz1 hz2 rfl (by decide) _ ls.length _ hown ⟨g0, o0, none⟩ l.length c _ (by simp) hnews h1 hl (by unfold maxLen; omega) (by omega) hbase _ rfl
 have hb : Below base w w' := Below.grown (Below.refl _ _) q2 hbase (fun j hj => (World.ownsRow.lt hown _ hj).1)
 have ho' : OwnN w' base (.slice (some ⟨g1, 0, none⟩) (ls.length + l.length) cap1) (ls ++ l) := by
  show w'.ownsRow base 3 1 _ (ls ++ l).length ((ls ++ l).map (Value.int .i64))
  rw [List.map_append, List.length_append]
  exact q1
 have same : g1 = g → ∀ j, j < ls.length → w'.cell? ⟨g, j, none⟩ = w.cell? ⟨g, j, none⟩ := by
  rintro rfl j hj
  have a1 := World.ownsRow.cells ho' (g := g1) rfl j (.int .i64 (ls.getD j 0)) (by rw [List.getElem?_map, List.getElem?_append_left hj, List.getElem?_eq_getElem hj]; simp [List.getD_eq_getElem?_getD, List.getElem?_eq_getElem hj])
  have a2 := World.ownsRow.cells hown (g := g1) rfl j (.int .i64 (ls.getD j 0)) (by simp [List.getD_eq_getElem?_getD, List.getElem?_eq_getElem hj])
  have e : (Addr.add ⟨g1, 0, none⟩ j) = ⟨g1, j, none⟩ := by by_cases h : j = 0 <;> simp [Addr.add, h]
  rw [e] at a1 a2
  exact a1.trans a2.symm
 refine ⟨g1, cap1, w', hr, ho', hb, q4, ?_, ?_⟩
 ·rcases q3 with q3 | q3
  ·exact (World.ownsRow.lt hown _ q3).1
  ·omega
 ·rcases q3 with q3 | q3
  ·exact same (by simpa [Value.ownBlock] using q3.symm)
  ·rcases hown.2 with ⟨h0, _⟩ | ⟨g', cap', cur, hv, hbg, hg, hnc, hcm, hcs, htake⟩
   ·cases h0
   ·cases hv
    have hgl : g < w.heap.size := (Array.getElem?_eq_some_iff.1 hg).1
    by_cases hroom : ls.length + l.length ≤ cap
    ·have hr2 := run_append_room (P := Tryz.prog) w 22 ty 3 i0 Tryz.underlying22 hi g ls.length cap cur hg ⟨g0, o0, none⟩ l.length c _ hl1 hnews h1 hroom (by rw [hz1, hcs]; simp; omega)
     rw [hr2] at hr
     simp only [Result.ok.injEq, Value.slice.injEq, Option.some.injEq, Addr.mk.injEq] at hr
     exact same hr.1.1.1.symm
    ·have hr2 := run_append_grow (P := Tryz.prog) w 22 ty 3 i0 _ Tryz.underlying22 hi hz0 ⟨g, 0, none⟩ ls.length cap (ls.map (Value.int .i64)) (by rw [hz1]; simp) (World.ownsRow.cells hown (g := g) rfl) ⟨g0, o0, none⟩ l.length c _ hl1 hnews (by omega) (by omega) (by rw [hz2]; exact growslice_fits (by omega) (by omega))
     rw [hr2] at hr
     injection hr with _ e
     intro j hj
     rw [← e]
     exact World.cell?_of_block (Below.heap_alloc w.drew _ g hgl)
theorem step_keepN {ops : Array Oper} {o : Oper} {a : Act} {K : Act → World → Prop} {Q : Exit → Act → World → Prop} {E : Prop} (hgd : o.guard = none) (s x : Operand) (ho : o.op = .call { callee := .builtin .append, args := #[s, x], argTypes := #[22, 22] })
  (w : World) (base g cap n : Nat) (ls : List Int) (hs : a.eval s = .slice (some ⟨g, 0, none⟩) n cap) (hown : OwnN w base (.slice (some ⟨g, 0, none⟩) n cap) ls) (g0 o0 c : Nat) (l : List Int) (hx : a.eval x = .slice (some ⟨g0, o0, none⟩) l.length c) (hc : ∀ i, i < l.length → w.cell? ⟨g0, o0 + i, none⟩ = some (.int .i64 (l.getD i 0)))
  (hl : 0 < l.length) (hn : ls.length + l.length ≤ 1099511627776) (hbase : base ≤ w.heap.size)
  (h : ∀ g1 cap1 w', OwnN w' base (.slice (some ⟨g1, 0, none⟩) (ls.length + l.length) cap1) (ls ++ l) → Below base w w' → g1 < w'.heap.size → base ≤ g1 → (∀ j, j < ls.length → w'.cell? ⟨g, j, none⟩ = w.cell? ⟨g, j, none⟩) → K (a.put o.dst (.slice (some ⟨g1, 0, none⟩) (ls.length + l.length) cap1)) w') :
  if Region.wanted o (yielded ops a.tmps) = true then Oper.wp Tryz.prog o a w K Q else E := by
 have hw : Region.wanted o (yielded ops a.tmps) = true := by simp [Region.wanted, hgd]
 rw [if_pos hw]
 obtain ⟨g1, cap1, w', hr, h2, h3, h4, h5, h6⟩ := run_keepN hown o.type g0 o0 c l hc hl hn hbase
 unfold Oper.wp execOp
 simp only [ho, resolve, invoke, builtin, Sem.run_bind, Sem.run_pure, Result.andThen_ok, List.map_toArray, List.map_cons, List.map_nil, hs, hx, hr]
 exact h g1 cap1 w' h2 h3 h4 h5 h6
set_option maxRecDepth 100000 in
set_option maxHeartbeats 4000000 in
theorem l11Starts_any (s : Option Addr) (c lo hi : Nat) (l : List I5) (w : World) (h : InsR w lo hi s l) (hB : hi ≤ w.heap.size) (hr : Rt l) :
  Calls Tryz.prog 100 #[.slice s l.length c] w fun e w' => (∃ g cap, e = .returned (.slice (some ⟨g, 0, none⟩) (l.length + 1) cap) ∧ OwnN w' w.heap.size (.slice (some ⟨g, 0, none⟩) (l.length + 1) cap) (stL l (l.length + 1)) ∧ g < w'.heap.size) ∧ Below w.heap.size w w' := by
 have HI := hidP h
 have HR := hidP hr
 have hl24 := hr.len
 clear h hr
 go_enter Tryz.func100, Tryz.ntmps100
 go_wp2
 go_loopw [3, 4] (fun v i wr => ∃ k : Nat, k ≤ l.length ∧ i = .int .i64 k ∧ (∃ g cap, v = .slice (some ⟨g, 0, none⟩) (k + 1) cap ∧ OwnN wr w.heap.size (.slice (some ⟨g, 0, none⟩) (k + 1) cap) (stL l (k + 1)) ∧ w.heap.size ≤ g ∧ g < wr.heap.size) ∧ Below w.heap.size w wr) (fun _ i _ => l.length - (intOf i).toNat)
 case atStart => exact ⟨0, Nat.zero_le _, rfl, ⟨_, _, rfl, own_one w 0, Nat.le_refl _, by simp⟩, (Below.refl _ _).alloc (Nat.le_refl _) _⟩
 case round =>
  obtain ⟨k, hk, rfl, ⟨g, cap, rfl, ho, hg0, hg1⟩, hb⟩ := hrel
  have HO := hidP ho
  have HB := hidP hb
  have hs := hb.size
  have hlen := stL_len l (k + 1)
  by_cases hlt : k < l.length
  ·obtain ⟨gl, off, hs', hlo, hgl, hc⟩ := insR_at HI.out hlt
   subst hs'
   obtain ⟨f0, f1, f2, f3, f4⟩ := (hc k hlt).keep hb (by omega)
   have hsz := HR.out.sz k hlt
   have hbd := stV_big HR.out hk
   have f5 : wr.cell? ⟨g, k, none⟩ = some (.int .i64 (stV l k)) := by
    have := OwnN.cell (w := wr) (base := w.heap.size) (g := g) (cap := cap) (ls := stL l (k + 1)) (by rw [hlen]; exact ho) (i := k) (by omega)
    rw [stL_at l (Nat.lt_succ_self k)] at this
    exact this
   have ST := hidP (show stV l (k + 1) = stV l k + sizeV (l.getD k z5).o from rfl)
   clear ho hb hc hlen
   generalize l.getD k z5 = x at f0 f1 f2 f3 f4 hsz ST
   obtain ⟨xo, xr, xa, xb, xn⟩ := x
   obtain ⟨st, hst⟩ : ∃ st, stV l k = st := ⟨_, rfl⟩
   have HST := hidP hst
   rw [hst] at hbd f5
   clear hst
   obtain ⟨sz, hsz0⟩ : ∃ sz, sizeV xo = sz := ⟨_, rfl⟩
   have HSZ := hidP hsz0
   have hsz1 : 1 ≤ sz ∧ sz ≤ 32 := by rw [← hsz0]; exact hsz
   clear hsz0 hsz
   have b0 : (0 : Int) ≤ (k : Int) := by omega
   have b1 : (k : Int) < (l.length : Int) := by omega
   have b2 : (k : Int) < ((k + 1 : Nat) : Int) := by omega
   have b3 : (k : Int) < (k : Int) + 1 := by omega
   have hwr : IntKind.i64.wrap (st + sz) = st + sz := by unfold IntKind.wrap; simp [IntKind.signed, IntKind.bits]; omega
   have gl1 : gl < wr.heap.size := by omega
   have hg1'' : g < wr.heap.size := hg1
   go_wp2_with fail
   go_region_held3 (fun w' => w'.cell? ⟨g, k, none⟩ = some (.int .i64 st) ∧ w'.cell? ⟨gl, off + k * 5, none⟩ = some (.int .i64 xo) ∧ w'.cell? ⟨gl, off + k * 5 + 1, none⟩ = some (.int .i64 xr) ∧ w'.cell? ⟨gl, off + k * 5 + 2, none⟩ = some (.int .i64 xa) ∧ w'.cell? ⟨gl, off + k * 5 + 3, none⟩ = some (.int .i64 xb) ∧ w'.cell? ⟨gl, off + k * 5 + 4, none⟩ = some (.int .i64 xn)) (go_keep) (first | (go_at_call 129; refine (specSize_any _ _ _ _ _ _).mono ?_; rintro e w' ⟨rfl, rfl⟩; rw [HSZ.out]) | (refine step_keepN rfl _ _ rfl _ w.heap.size g cap (k + 1) (stL l (k + 1)) rfl ((HO.out.alloc (.cells #[.int .i64 xo, .int .i64 xr, .int .i64 xa, .int .i64 xb, .int .i64 xn] 152)).alloc (.cells #[.int .i64 (st + sz)] 3)) (wr.heap.size + 1) 0 1 [st + sz] rfl (fun i hi => by simp at hi; subst hi; simp [go_sem]) (by simp) (by rw [stL_len]; simp; omega) (by simp; omega) ?_; intro g1 cap1 w1 ho1 hb1 hg1 hg1' hk1; have t5 := (hk1 k (by rw [stL_len]; omega)).trans ((show _ = wr.cell? ⟨g, k, none⟩ by simp [go_sem, hg1'']).trans f5); have t0 := (hb1.cell (p := ⟨gl, off + k * 5, none⟩) (show gl < w.heap.size by omega)).trans ((show _ = wr.cell? ⟨gl, off + k * 5, none⟩ by simp [go_sem, gl1]).trans f0); have t1 := (hb1.cell (p := ⟨gl, off + k * 5 + 1, none⟩) (show gl < w.heap.size by omega)).trans ((show _ = wr.cell? ⟨gl, off + k * 5 + 1, none⟩ by simp [go_sem, gl1]).trans f1); have t2 := (hb1.cell (p := ⟨gl, off + k * 5 + 2, none⟩) (show gl < w.heap.size by omega)).trans ((show _ = wr.cell? ⟨gl, off + k * 5 + 2, none⟩ by simp [go_sem, gl1]).trans f2); have t3 := (hb1.cell (p := ⟨gl, off + k * 5 + 3, none⟩) (show gl < w.heap.size by omega)).trans ((show _ = wr.cell? ⟨gl, off + k * 5 + 3, none⟩ by simp [go_sem, gl1]).trans f3); have t4 := (hb1.cell (p := ⟨gl, off + k * 5 + 4, none⟩) (show gl < w.heap.size by omega)).trans ((show _ = wr.cell? ⟨gl, off + k * 5 + 4, none⟩ by simp [go_sem, gl1]).trans f4)))
   all_goals
    have HO1 := hidP ho1
    have HB1 : Hid (Below w.heap.size w w1) := HB.out.trans ((show Below w.heap.size wr (((wr.alloc (.cells #[.int .i64 xo, .int .i64 xr, .int .i64 xa, .int .i64 xb, .int .i64 xn] 152)).alloc (.cells #[.int .i64 (st + sz)] 3)).drew) from Below.drew (((Below.refl _ _).alloc hs _).alloc (by simp; omega) _)).trans hb1)
    clear ho1 hb1 t0 t1 t2 t3 t4 t5 hk1
    have EL := hidP (show stL l (k + 1) ++ [st + sz] = stL l (k + 1 + 1) by rw [stL_succ l (k + 1), ST.out, HST.out, HSZ.out])
    have e2 : (stL l (k + 1)).length + 1 = k + 1 + 1 := by rw [stL_len]
    have HO2 : Hid (OwnN w1 w.heap.size (.slice (some ⟨g1, 0, none⟩) (k + 1 + 1) cap1) (stL l (k + 1 + 1))) := by
     have := HO1.out
     rw [EL.out, show (stL l (k + 1)).length + [st + sz].length = k + 1 + 1 from by rw [stL_len]; rfl] at this
     exact this
    clear HO1
    go_wp2
    exact ⟨⟨k + 1, by omega, by go_num, ⟨g1, cap1, by rw [← e2], HO2.out, hg1', hg1⟩, HB1.out⟩, by simp [intOf]; omega⟩
  ·have hkn : k = l.length := by omega
   subst hkn
   go_wp2
   go_ret
   exact ⟨⟨g, cap, rfl, HO.out, hg1⟩, HB.out⟩
end
section
set_option linter.unusedSimpArgs false
set_option linter.unusedVariables false
set_option maxRecDepth 100000
open Go.RowKit
theorem l1In_is11 (x lo hi : Int) (v : Bool) (w : World) (h : Plain.inB x lo hi = v) : Calls Tryz.prog 56 #[.int .i64 x, .int .i64 lo, .int .i64 hi] w fun e w' => e = .returned (.bool v) ∧ w' = w := by
 subst h
 exact l1In_any x lo hi w
theorem placeV_none {p : PD} {b q : Int} (h : bodV p b = []) : placeV (bodV p b) q = (-1, false) := by rw [h]; rfl
set_option maxRecDepth 100000 in
set_option maxHeartbeats 4000000 in
theorem specPlace_any (s s' : Option Addr) (c c' lo hi : Nat) (p : PD) (b q : Int) (w : World) (h : ProgR w lo hi s s' p) (hB : hi ≤ w.heap.size) (hf : Fits p) :
  Calls Tryz.prog 62 #[.agg #[.slice s p.caps.length c, .slice s' p.bods.length c'], .int .i64 b, .int .i64 q] w fun e w' => e = .returned (.tuple #[.int .i64 (placeV (bodV p b) q).1, .bool (placeV (bodV p b) q).2]) ∧ Below w.heap.size w w' := by
 have HP := hidP h
 have HF := hidP hf
 have hfn := hf.2.1
 clear h hf
 obtain ⟨W, hW, bx, kb, zb⟩ := Bo2.new w (.slice s p.caps.length c) (.slice s' p.bods.length c') 44
 have HB2 := hidP bx
 have HK := hidP kb
 obtain ⟨x0, x1⟩ := bx
 clear kb
 go_enter Tryz.func62, Tryz.ntmps62
 go_wp2_with fail
 refine (specProg_any s s' c c' lo hi p W (ProgR.keep' HP.out (Keep.of_below HK.out hB)) (by omega) HF.out).mono ?_
 rintro e w1 ⟨rfl, hb1⟩
 have K1 := hidP (HK.out.trans (hb1.mono (by omega)))
 clear x0 x1
 obtain ⟨x0, x1⟩ := HB2.out.keep (Keep.of_below hb1 (by omega))
 have hz1 := hb1.size
 clear hb1
 cases hp : progB p
 ·have E := hidP (placeV_none (q := q) (bodV_no (p := p) (b := b) (fun h => by rw [hp] at h; cases h.1)))
  clear hp
  go_wp2
  refine bodyPost_ret (v := .tuple #[.int .i64 (-1), .bool false]) (by simp [results, Tryz.results62, go_sem]) rfl ?_
  exact ⟨by rw [E.out], K1.out⟩
 ·have E := hidP hp
  have hbn := (progB_len hp).1
  clear hp
  cases hq : Plain.inB b 0 ((p.bods.length : Int) - 1)
  ·have E2 := hidP (placeV_none (q := q) (bodV_no (p := p) (b := b) (fun h => by simp only [Plain.inB, decide_eq_false_iff_not] at hq; exact hq ⟨h.2.1, by omega⟩)))
   have HQ := hidP hq
   clear hq
   go_wp2_with (go_at_call 56; refine (l1In_is11 _ _ _ false _ HQ.out).mono ?_; rintro e w2 ⟨rfl, h2⟩; rw [h2]; clear h2 w2)
   refine bodyPost_ret (v := .tuple #[.int .i64 (-1), .bool false]) (by simp [results, Tryz.results62, go_sem]) rfl ?_
   exact ⟨by rw [E2.out], K1.out⟩
  ·have HQ := hidP hq
   simp only [Plain.inB, decide_eq_true_eq] at hq
   obtain ⟨q0, q1⟩ := hq
   obtain ⟨j, rfl⟩ : ∃ j : Nat, b = j := ⟨b.toNat, by omega⟩
   have E2 := hidP (bodV_yes E.out q0 (by omega : (j : Int) < p.bods.length))
   have HR := hidP (bodV_rt p (j : Int))
   obtain ⟨g, off, rfl, hg, s1, c1, hcell, hin⟩ := bods_at ((ProgR.keep' HP.out (Keep.of_below K1.out hB)).2) (i := j) (by omega)
   have e3 : p.bods.getD j [] = bodV p (j : Int) := by rw [E2.out]; rfl
   rw [e3] at hcell hin
   clear e3 E2
   obtain ⟨l, hl⟩ : ∃ l, bodV p (j : Int) = l := ⟨_, rfl⟩
   have HL := hidP hl
   rw [hl] at hcell hin HR
   clear hl
   have HIN := hidP hin
   have hl24 := HR.out.len
   clear hin
   have b1 : (j : Int) < (p.bods.length : Int) := by omega
   go_wp2_with (go_at_call 56; refine (l1In_is11 _ _ _ true _ HQ.out).mono ?_; rintro e w2 ⟨rfl, h2⟩; rw [h2]; clear h2 w2)
   refine (l11Starts_any s1 c1 lo hi l w1 HIN.out (by omega) HR.out).mono ?_
   rintro e w2 ⟨⟨g2, cap2, rfl, ho2, hg2⟩, hb2⟩
   have K2 := hidP (K1.out.trans (hb2.mono (by omega)))
   have hz2 := hb2.size
   have cells : ∀ i, i ≤ l.length → w2.cell? ⟨g2, i, none⟩ = some (.int .i64 (stV l i)) := fun i hi => by
    have := OwnN.cell (w := w2) (base := w1.heap.size) (g := g2) (cap := cap2) (ls := stL l (l.length + 1)) (by rw [stL_len]; exact ho2) (i := i) (by rw [stL_len]; omega)
    rw [stL_at l (by omega : i < l.length + 1)] at this
    exact this
   have HC := hidP cells
   have c0 := cells l.length (Nat.le_refl _)
   have hbd := stV_big HR.out (Nat.le_refl l.length)
   clear hb2 ho2 cells HIN hcell x0 x1
   obtain ⟨sn, hsn⟩ : ∃ sn, stV l l.length = sn := ⟨_, rfl⟩
   have HSN := hidP hsn
   rw [hsn] at c0 hbd
   clear hsn
   cases hq2 : Plain.inB q 0 (sn - 1)
   ·have E3 := hidP (placeV_no HR.out (q := q) (fun h => by rw [HSN.out] at h; simp only [Plain.inB, decide_eq_false_iff_not] at hq2; exact hq2 ⟨h.1, by omega⟩))
    have HQ2 := hidP hq2
    clear hq2
    go_wp2_with (go_at_call 56; refine (l1In_is11 _ _ _ false _ HQ2.out).mono ?_; rintro e w3 ⟨rfl, h2⟩; rw [h2]; clear h2 w3)
    refine bodyPost_ret (v := .tuple #[.int .i64 (-1), .bool false]) (by simp [results, Tryz.results62, go_sem]) rfl ?_
    exact ⟨by rw [HL.out, E3.out], K2.out⟩
   ·have HQ2 := hidP hq2
    simp only [Plain.inB, decide_eq_true_eq] at hq2
    obtain ⟨r0, r1⟩ := hq2
    go_wp2_with (go_at_call 56; refine (l1In_is11 _ _ _ true _ HQ2.out).mono ?_; rintro e w3 ⟨rfl, h2⟩; rw [h2]; clear h2 w3)
    go_loopw [10] (fun i wr => ∃ k : Nat, k ≤ l.length ∧ i = .int .i64 k ∧ stV l k ≤ q ∧ wr = w2) (fun i _ => l.length - (intOf i).toNat)
    case atStart => exact ⟨0, Nat.zero_le _, rfl, r0, rfl⟩
    case round =>
     obtain ⟨k, hk, rfl, hkq, rfl⟩ := hrel
     by_cases hlt : k < l.length
     ·have ck := HC.out k hk
      have ck1 := HC.out (k + 1) hlt
      have b2 : (k : Int) < (l.length : Int) := by omega
      by_cases hs : q < stV l (k + 1)
      ·have EP := hidP (placeV_at HR.out hlt hkq hs)
       generalize stV l k = a1 at ck hkq EP
       generalize stV l (k + 1) = a2 at ck1 hs
       go_wp2_with fail
       go_quiet (fail)
       go_wp2
       refine bodyPost_ret (v := .tuple #[.int .i64 k, .bool (q == a1)]) (by simp [results, Tryz.results62, go_sem]) rfl ?_
       refine ⟨?_, K2.out.trans ((below_drewN wr nq).mono K2.out.size)⟩
       rw [HL.out, EP.out]
       simp [BEq.comm (a := q), Bool.beq_eq_decide_eq, eq_comm]
      ·have hk2 : stV l (k + 1) ≤ q := by omega
       have HK2 := hidP hk2
       generalize stV l (k + 1) = a2 at ck1 hs hk2
       go_wp2
       go_roundw
       case rel => exact ⟨k + 1, by omega, by go_num, HK2.out, by first | trivial | rfl⟩
       case measure => simp [intOf]; omega
     ·have : k = l.length := by omega
      subst this
      rw [HSN.out] at hkq
      omega
end
section
set_option linter.unusedSimpArgs false
set_option linter.unusedVariables false
set_option maxRecDepth 100000
open Go.RowKit
theorem toStep_any (o r a b n : Int) (w : World) : Calls Tryz.prog 105 #[.agg #[.int .i64 o, .int .i64 r, .int .i64 a, .int .i64 b, .int .i64 n]] w fun e w' => e = .returned (.agg #[.int .i64 o, .int .i64 r, .int .i64 a, .int .i64 b, .int .i64 n]) ∧ Below w.heap.size w w' := by
 go_enter Tryz.func105, Tryz.ntmps105
 go_wp2
 exact bodyPost_ret (v := .agg #[.int .i64 o, .int .i64 r, .int .i64 a, .int .i64 b, .int .i64 n]) (by simp [results, Tryz.results105, go_sem]) rfl ⟨rfl, (((Below.refl _ _).alloc (Nat.le_refl _) _).alloc (by simp) _).alloc (by simp; omega) _⟩
end
section
set_option linter.unusedSimpArgs false
set_option linter.unusedVariables false
set_option maxRecDepth 100000
open Go.RowKit
theorem mk25x55 (n : Nat) (hn : n ≤ 1048576) (w : World) : (Instr.makeSlice 114 (.int .i64 (n : Int)) (.int .i64 (n : Int))).run Tryz.prog w = .ok (.slice (some ⟨w.heap.size, 0, none⟩) n n) (w.alloc (.cells (madeCells #[.int .i64 0, .int .i64 0, .int .i64 0, .int .i64 0, .int .i64 0] (n * 5)) 157)) := by
 have h := run_make (P := Tryz.prog) w 114 157 _ (.agg #[.int .i64 0, .int .i64 0, .int .i64 0, .int .i64 0, .int .i64 0]) Tryz.underlying114 rfl rfl .i64 .i64 n n (by omega) (Int.le_refl _) (by show (40 : Int) * _ ≤ _; omega) (by omega)
 have e : (Value.agg #[.int .i64 0, .int .i64 0, .int .i64 0, .int .i64 0, .int .i64 0]).cells = #[.int .i64 0, .int .i64 0, .int .i64 0, .int .i64 0, .int .i64 0] := rfl
 have e' : ∀ t, Tryz.prog.info? 157 = some t → t.size = 5 := by intro t h; cases h; rfl
 rw [e, e' _ rfl] at h
 simpa using h
set_option maxHeartbeats 400000 in
theorem toStepS_none (s : Option Addr) (c : Nat) (w : World) :
  Calls Tryz.prog 69 #[.slice s 0 c] w fun e w' => e = .returned (.slice (some ⟨w.heap.size, 0, none⟩) 0 0) ∧ Below w.heap.size w w' ∧ w.heap.size < w'.heap.size := by
 have hmk := mk25x55 0 (by omega)
 simp only [Int.natCast_zero] at hmk
 go_enter Tryz.func69, Tryz.ntmps69
 go_wp2
 clear hmk
 go_loopw [4] (fun i wr => i = .int .i64 0 ∧ Below w.heap.size w wr ∧ w.heap.size < wr.heap.size) (fun _ _ => 0)
 case atStart => exact ⟨rfl, (Below.refl _ _).alloc (Nat.le_refl _) _, by simp⟩
 case round =>
  obtain ⟨rfl, hb, hsz⟩ := hrel
  go_wp2
  go_ret
  exact ⟨rfl, hb, hsz⟩
end
section
set_option linter.unusedSimpArgs false
set_option linter.unusedVariables false
set_option maxRecDepth 100000
open Go.RowKit
def CR (w : World) (lo hi g off : Nat) (l : List I5) : Prop := ∃ s c, w.cell? ⟨g, off, none⟩ = some (.slice s l.length c) ∧ InsR w lo hi s l
def CsR (w : World) (lo hi : Nat) (s : Option Addr) (l : List (List I5)) : Prop :=
 l = [] ∨ ∃ g off, s = some ⟨g, off, none⟩ ∧ lo ≤ g ∧ g < hi ∧ ∀ (i : Nat) (x : List I5), l[i]? = some x → CR w lo hi g (off + i) x
structure KD where
 pc : Int
 regs : List Int
 vw : List Int
 st : Int
def KR (w : World) (lo hi g off : Nat) (k : KD) : Prop :=
 ∃ s c s' c', w.cell? ⟨g, off, none⟩ = some (.int .i64 k.pc) ∧ w.cell? ⟨g, off + 1, none⟩ = some (.slice s k.regs.length c) ∧ w.cell? ⟨g, off + 2, none⟩ = some (.slice s' k.vw.length c') ∧ w.cell? ⟨g, off + 3, none⟩ = some (.int .i64 k.st) ∧ IntsR w lo hi s k.regs ∧ IntsR w lo hi s' k.vw
def KsR (w : World) (lo hi : Nat) (s : Option Addr) (l : List KD) : Prop :=
 l = [] ∨ ∃ g off, s = some ⟨g, off, none⟩ ∧ lo ≤ g ∧ g < hi ∧ ∀ (i : Nat) (k : KD), l[i]? = some k → KR w lo hi g (off + i * 4) k
structure MD where
 codes : List (List I5)
 cores : List KD
 mem : List (List WD)
 tr : List ND
def MaR (w : World) (lo hi : Nat) (s1 s2 s3 s4 : Option Addr) (d : MD) : Prop := CsR w lo hi s1 d.codes ∧ KsR w lo hi s2 d.cores ∧ MemR w lo hi s3 d.mem ∧ NtsR w lo hi s4 d.tr
theorem CR.keep {w w' : World} {lo hi g off : Nat} {l : List I5} (h : CR w lo hi g off l) (hb : Keep lo hi w w') (hc : ∀ j, w'.cell? ⟨g, j, none⟩ = w.cell? ⟨g, j, none⟩) : CR w' lo hi g off l := by
 obtain ⟨s, c, h1, h2⟩ := h
 exact ⟨s, c, (hc _).trans h1, h2.keep hb⟩
theorem KR.keep {w w' : World} {lo hi g off : Nat} {k : KD} (h : KR w lo hi g off k) (hb : Keep lo hi w w') (hc : ∀ j, w'.cell? ⟨g, j, none⟩ = w.cell? ⟨g, j, none⟩) : KR w' lo hi g off k := by
 obtain ⟨s, c, s', c', h1, h2, h3, h4, h5, h6⟩ := h
 exact ⟨s, c, s', c', (hc _).trans h1, (hc _).trans h2, (hc _).trans h3, (hc _).trans h4, h5.keep hb, h6.keep hb⟩
theorem CsR.keep {w w' : World} {lo hi : Nat} {s : Option Addr} {l : List (List I5)} (h : CsR w lo hi s l) (hb : Keep lo hi w w') : CsR w' lo hi s l := by
 rcases h with h | ⟨g, o, hs, h1, h2, hc⟩
 ·exact .inl h
 ·exact .inr ⟨g, o, hs, h1, h2, fun i r hi => (hc i r hi).keep hb (fun j => hb.cell h1 h2)⟩
theorem KsR.keep {w w' : World} {lo hi : Nat} {s : Option Addr} {l : List (KD)} (h : KsR w lo hi s l) (hb : Keep lo hi w w') : KsR w' lo hi s l := by
 rcases h with h | ⟨g, o, hs, h1, h2, hc⟩
 ·exact .inl h
 ·exact .inr ⟨g, o, hs, h1, h2, fun i r hi => (hc i r hi).keep hb (fun j => hb.cell h1 h2)⟩
theorem CsR.at {w : World} {lo hi : Nat} {s : Option Addr} {l : List (List I5)} (h : CsR w lo hi s l) {i : Nat} {x : List I5} (hi' : l[i]? = some x) : ∃ g off s' c', s = some ⟨g, off, none⟩ ∧ lo ≤ g ∧ g < hi ∧ w.cell? ⟨g, off + i, none⟩ = some (.slice s' x.length c') ∧ InsR w lo hi s' x := by
 rcases h with rfl | ⟨g, o, hs, a, b, hc⟩
 ·simp at hi'
 ·obtain ⟨s', c', e1, e2⟩ := hc i x hi'
  exact ⟨g, o, s', c', hs, a, b, e1, e2⟩
theorem KsR.at {w : World} {lo hi : Nat} {s : Option Addr} {l : List KD} (h : KsR w lo hi s l) {i : Nat} {x : KD} (hi' : l[i]? = some x) : ∃ g off s1 c1 s2 c2, s = some ⟨g, off, none⟩ ∧ lo ≤ g ∧ g < hi ∧ w.cell? ⟨g, off + i * 4, none⟩ = some (.int .i64 x.pc) ∧ w.cell? ⟨g, off + i * 4 + 1, none⟩ = some (.slice s1 x.regs.length c1) ∧ w.cell? ⟨g, off + i * 4 + 2, none⟩ = some (.slice s2 x.vw.length c2) ∧ w.cell? ⟨g, off + i * 4 + 3, none⟩ = some (.int .i64 x.st) ∧ IntsR w lo hi s1 x.regs ∧ IntsR w lo hi s2 x.vw := by
 rcases h with rfl | ⟨g, o, hs, a, b, hc⟩
 ·simp at hi'
 ·obtain ⟨s', c', s2, c2, e⟩ := hc i x hi'
  exact ⟨g, o, s', c', s2, c2, hs, a, b, e⟩
theorem MaR.keep {w w' : World} {lo hi : Nat} {s1 s2 s3 s4 : Option Addr} {d : MD} (h : MaR w lo hi s1 s2 s3 s4 d) (hb : Keep lo hi w w') : MaR w' lo hi s1 s2 s3 s4 d := ⟨h.1.keep hb, h.2.1.keep hb, h.2.2.1.keep hb, h.2.2.2.keep hb⟩
/- how great they are -/
def szC : List (List I5) → Nat
 | [] => 0
 | x :: r => x.length + szC r
def szK : List KD → Nat
 | [] => 0
 | x :: r => x.regs.length + x.vw.length + szK r
theorem szC_take : ∀ (l : List (List I5)) (k : Nat) (x : List I5), l[k]? = some x → szC (l.take (k + 1)) = szC (l.take k) + x.length
 | [], k, x, h => by simp at h
 | y :: r, 0, x, h => by simp at h; subst h; simp [szC]
 | y :: r, k + 1, x, h => by
  have := szC_take r k x (by simpa using h)
  simp [szC, this]
  omega
theorem szK_take : ∀ (l : List KD) (k : Nat) (x : KD), l[k]? = some x → szK (l.take (k + 1)) = szK (l.take k) + (x.regs.length + x.vw.length)
 | [], k, x, h => by simp at h
 | y :: r, 0, x, h => by simp at h; subst h; simp [szK]
 | y :: r, k + 1, x, h => by
  have := szK_take r k x (by simpa using h)
  simp [szK, this]
  omega
theorem szC_at : ∀ (l : List (List I5)) (k : Nat) (x : List I5), l[k]? = some x → x.length ≤ szC l
 | [], k, x, h => by simp at h
 | y :: r, 0, x, h => by simp at h; subst h; simp [szC]
 | y :: r, k + 1, x, h => by
  have := szC_at r k x (by simpa using h)
  simp [szC]
  omega
theorem szK_at : ∀ (l : List KD) (k : Nat) (x : KD), l[k]? = some x → x.regs.length + x.vw.length ≤ szK l
 | [], k, x, h => by simp at h
 | y :: r, 0, x, h => by simp at h; subst h; simp [szK]
 | y :: r, k + 1, x, h => by
  have := szK_at r k x (by simpa using h)
  simp [szK]
  omega
structure MaLens (d : MD) : Prop where
 cn : d.codes.length ≤ maxLen
 c : ∀ (i : Nat) (x : List I5), d.codes[i]? = some x → x.length ≤ maxLen
 kn : d.cores.length ≤ maxLen
 k : ∀ (i : Nat) (x : KD), d.cores[i]? = some x → x.regs.length ≤ maxLen ∧ x.vw.length ≤ maxLen
 m : MLens d.mem
 t : d.tr.length ≤ maxLen
structure MaFits (d : MD) : Prop where
 c : d.codes.length + szC d.codes ≤ 1048576
 k : d.cores.length + szK d.cores ≤ 1048576
 m : d.mem.length + szR d.mem ≤ 2000000
 t : d.tr.length ≤ 2000000
def MaSz (d : MD) : Nat := d.codes.length + szC d.codes + (d.cores.length + szK d.cores) + (d.mem.length + szR d.mem) + d.tr.length
theorem MaFits.of {d : MD} (h : MaSz d ≤ 1048576) : MaFits d := by
 unfold MaSz at h
 exact ⟨by omega, by omega, by omega, by omega⟩
end
section
set_option linter.unusedSimpArgs false
set_option linter.unusedVariables false
set_option maxRecDepth 100000
open Go.RowKit
end
end Go.Proofs.YtcfehbfjillnoaaGreat
