/- The code of a body: what codeOf of the program answers. Conditions: bodies that are right, at most 2^20 channels. Marks in a row of integers. -/
import Derived.Test.YthkpkdehicoikaaGreatJ35
import Derived.Test.YthkpkdehicoikaaGreatJ37
import Derived.Test.YthkpkdehicoikaaGreatE10Imp
import Derived.Deep.RegionHeld3
import Derived.Deep.QuietTactic
import Derived.BigQuiet
import Derived.Test.YthkpkdehicoikaaGreatJ11
namespace Go.Proofs.YthkpkdehicoikaaGreat
section
set_option linter.unusedSimpArgs false
set_option linter.unusedVariables false
set_option maxRecDepth 100000
open Go.RowKit

theorem wp5g {o : Oper} {a : Act} {K : Act → World → Prop} {Q : Exit → Act → World → Prop} (s x : Operand) (ho : o.op = .call { callee := .builtin .append, args := #[s, x], argTypes := #[44, 44] })
    (w : World) (base : Nat) (v : Value) (L1 : List I5) (hs : a.eval s = v) (hown : OwnT5 w base v L1) (base2 g2 n2 c2 : Nat) (L2 : List I5) (hx : a.eval x = .slice (some ⟨g2, 0, none⟩) n2 c2) (h2 : OwnT5 w base2 (.slice (some ⟨g2, 0, none⟩) n2 c2) L2) (hl2 : L2.length = n2)
    (hl : 0 < n2) (hn : L1.length + n2 ≤ 1000) (N : Nat) (hN : L1.length + n2 = N) (hbase : base ≤ w.heap.size)
    (h : ∀ g c w', OwnT5 w' base (.slice (some ⟨g, 0, none⟩) N c) (L1 ++ L2) → Below base w w' → (∀ k, k < w.heap.size → v.ownBlock ≠ some k → w'.heap[k]? = w.heap[k]?) → K (a.put o.dst (.slice (some ⟨g, 0, none⟩) N c)) w') : Oper.wp Tryz.prog o a w K Q := by
  obtain ⟨i0, hi0, hz0, hz1, hz2⟩ := infoSt
  subst hN hl2
  refine wp_append_lies w s x 44 ho base 64 i0 _ 5 40 Tryz.underlying44 hi0 hz0 hz1 hz2 rfl (by decide) v L1.length _ hs hown ⟨g2, 0, none⟩ L2.length c2 ((fl5 L2).map (Value.int .i64)) hx (by rw [List.length_map, fl5_len]) (fun j u hj => ?_) (fun u hu => by obtain ⟨z, -, rfl⟩ := List.mem_map.1 hu; rfl) hl (by unfold maxLen; omega) (by omega) hbase _ rfl ?_
  · rw [List.getElem?_map] at hj
    obtain ⟨z, hz, rfl⟩ := Option.map_eq_some_iff.1 hj
    have ea : Addr.add ⟨g2, 0, none⟩ j = ⟨g2, j, none⟩ := by
      by_cases h : j = 0
      · subst h; rfl
      · simp [Addr.add, h]
    rw [ea]
    exact h2.cellAt hz
  intro g cap w' q1 q2 q3 q4
  refine h g cap w' ?_ (Below.grown (Below.refl _ _) q2 hbase (fun j hj => (World.ownsRow.lt hown _ hj).1)) (fun k hk hne => q2.block k hk (fun e => hne e.symm))
  show w'.ownsRow base 64 5 _ (L1 ++ L2).length ((fl5 (L1 ++ L2)).map (Value.int .i64))
  rw [fl5_app, List.map_append, List.length_append]
  exact q1
theorem step5g {ops : Array Oper} {o : Oper} {a : Act} {K : Act → World → Prop} {Q : Exit → Act → World → Prop} {E : Prop} (hgd : o.guard = none) (s x : Operand) (ho : o.op = .call { callee := .builtin .append, args := #[s, x], argTypes := #[44, 44] })
    (w : World) (base : Nat) (v : Value) (L1 : List I5) (hs : a.eval s = v) (hown : OwnT5 w base v L1) (base2 g2 n2 c2 : Nat) (L2 : List I5) (hx : a.eval x = .slice (some ⟨g2, 0, none⟩) n2 c2) (h2 : OwnT5 w base2 (.slice (some ⟨g2, 0, none⟩) n2 c2) L2) (hl2 : L2.length = n2)
    (hl : 0 < n2) (hn : L1.length + n2 ≤ 1000) (N : Nat) (hN : L1.length + n2 = N) (hbase : base ≤ w.heap.size)
    (h : ∀ g c w', OwnT5 w' base (.slice (some ⟨g, 0, none⟩) N c) (L1 ++ L2) → Below base w w' → (∀ k, k < w.heap.size → v.ownBlock ≠ some k → w'.heap[k]? = w.heap[k]?) → K (a.put o.dst (.slice (some ⟨g, 0, none⟩) N c)) w') : if Region.wanted o (yielded ops a.tmps) = true then Oper.wp Tryz.prog o a w K Q else E := by
  have hw : Region.wanted o (yielded ops a.tmps) = true := by simp [Region.wanted, hgd]
  rw [if_pos hw]
  exact wp5g s x ho w base v L1 hs hown base2 g2 n2 c2 L2 hx h2 hl2 hl hn N hN hbase h
theorem implEmit_n (o r a x n fr : Int) (ss sk : Option Addr) (sc kc lo hi lo' hi' : Nat) (caps starts : List Int) (m : Nat) (hm : starts.length = m) (w : World) (hcp : IntsR w lo hi sk caps) (hhi : hi ≤ w.heap.size) (hcl : caps.length ≤ 2000000) (hst : IntsR w lo' hi' ss starts) (hhi' : hi' ≤ w.heap.size) :
    Calls Tryz.prog 53 #[.slice sk caps.length kc, .agg #[.int .i64 o, .int .i64 r, .int .i64 a, .int .i64 x, .int .i64 n], .int .i64 fr, .slice ss m sc] w fun e w' => ∃ v, e = .returned v ∧ OwnT5 w' w.heap.size v (emitM caps starts o r a x n fr) ∧ Below w.heap.size w w' := by
  subst hm
  exact implEmit_any o r a x n fr ss sk sc kc lo hi lo' hi' caps starts w hcp hhi hcl hst hhi'
set_option maxHeartbeats 2000000 in
theorem haveBases_yes (s : Option Addr) (c lo hi : Nat) (p : PD) (w : World) (hp : progB p = true) (h : IntsR w lo hi s p.caps) (hB : hi ≤ w.heap.size) :
    Calls Tryz.prog 23 #[.slice s p.caps.length c] w fun e w' => e = .returned (.bool true) ∧ Below w.heap.size w w' := by
  have hl := (progB_len hp).2.2.1
  have HI := hidP h
  have HP := hidP hp
  clear h hp
  by_cases h0 : p.caps.length = 0
  · have h1 : ((p.caps.length : Int) == 0) = true := by simp [h0]
    clear h0
    go_enter Tryz.func23, Tryz.ntmps23
    go_wp2
    go_ret
    exact ⟨rfl, Below.refl _ _⟩
  · have h1 : ((p.caps.length : Int) == 0) = false := beq_eq_false_iff_ne.2 (by omega)
    have h2 : (baseV p.caps 0 != -1) = true := by simpa using base_ok HP.out (Int.le_refl 0) (by omega)
    obtain ⟨bv, hbv⟩ : ∃ bv, baseV p.caps 0 = bv := ⟨_, rfl⟩
    have HBV := hidP hbv
    rw [hbv] at h2
    clear hbv h0
    go_enter Tryz.func23, Tryz.ntmps23
    go_wp2_with (go_at_call 51; refine (implBase_any s c lo hi p.caps 0 w HI.out hB (by omega)).mono ?_; rintro e w1 ⟨rfl, hb1⟩; rw [HBV.out])
    go_ret
    exact ⟨rfl, hb1⟩

set_option maxRecDepth 100000 in
set_option maxHeartbeats 4000000 in
theorem codeOf_any (sk s : Option Addr) (kc c lo' hi' lo hi : Nat) (cs : List Int) (l : List I5) (w : World) (hcp : IntsR w lo' hi' sk cs) (hB' : hi' ≤ w.heap.size) (hcl : cs.length ≤ 1048576) (h : InsR w lo hi s l) (hB : hi ≤ w.heap.size) (hr : Rt l)
    (hpos : ∀ k, k < l.length → 0 < (emX cs (stL l l.length) (l.getD k z5) (stV l k)).length) :
    Calls Tryz.prog 24 #[.slice sk cs.length kc, .slice s l.length c] w fun e w' => ∃ v, e = .returned v ∧ OwnT5 w' w.heap.size v (cdM cs l l.length) ∧ Below w.heap.size w w' := by
  have HCP := hidP hcp
  have HI := hidP h
  have HR := hidP hr
  have HPO := hidP hpos
  have hl24 := hr.len
  clear hcp h hr hpos
  go_enter Tryz.func24, Tryz.ntmps24
  go_wp2_with fail
  refine (startsOf_any s c lo hi l w HI.out hB HR.out).mono ?_
  rintro e w1 ⟨⟨gs, cps, rfl, ho1⟩, hb1⟩
  have hos : OwnN w1 w.heap.size (.slice (some ⟨gs, 0, none⟩) (stL l l.length).length cps) (stL l l.length) := by rw [stL_len]; exact ho1
  have HS := hidP (ownN_intsR hos)
  have hgs := own_block_lt ho1 (k := gs) rfl
  have hsc : ∀ i, i < l.length → w1.cell? ⟨gs, i, none⟩ = some (.int .i64 (stV l i)) := fun i hi => by
    have := hos.cell (i := i) (by rw [stL_len]; exact hi)
    rw [stL_at l hi] at this
    exact this
  have HSC := hidP hsc
  have K1 := hidP hb1
  have hz1 := hb1.size
  clear ho1 hos hb1 hsc
  go_wp2
  go_loopw [6, 13] (fun v i wr => ∃ k : Nat, k ≤ l.length ∧ i = .int .i64 k ∧ OwnT5 wr w1.heap.size v (cdM cs l k) ∧ Below w1.heap.size w1 wr) (fun _ i _ => l.length - (intOf i).toNat)
  case atStart => exact ⟨0, Nat.zero_le _, rfl, World.ownsRow_nil _ _ _ _, Below.refl _ _⟩
  case round =>
    obtain ⟨k, hk, rfl, ho, hb⟩ := hrel
    have HO := hidP ho
    have HB := hidP hb
    have hs := hb.size
    by_cases hlt : k < l.length
    · obtain ⟨gl, off, hs', hlo, hgl, hc⟩ := insR_at HI.out hlt
      subst hs'
      obtain ⟨f0, f1, f2, f3, f4⟩ := (hc k hlt).keep (K1.out.trans (hb.mono hz1)) (by omega)
      clear ho hb hc
      have hp1 := HPO.out k hlt
      have EC := hidP (show cdM cs l (k + 1) = cdM cs l k ++ emX cs (stL l l.length) (l.getD k z5) (stV l k) from rfl)
      generalize l.getD k z5 = x at f0 f1 f2 f3 f4 hp1 EC
      obtain ⟨xo, xr, xa, xb, xn⟩ := x
      have b0 : (0 : Int) ≤ (k : Int) := by omega
      have b1 : (k : Int) < (l.length : Int) := by omega
      have b3 : (k : Int) < (k : Int) + 1 := by omega
      obtain ⟨st, hst⟩ : ∃ st, stV l k = st := ⟨_, rfl⟩
      have f5 := (HB.out.cell (p := ⟨gs, k, none⟩) hgs.2).trans (HSC.out k hlt)
      rw [hst] at f5 hp1
      have HST := hidP hst
      clear hst
      obtain ⟨L, hL⟩ : ∃ L, emX cs (stL l l.length) ⟨xo, xr, xa, xb, xn⟩ st = L := ⟨_, rfl⟩
      have HL := hidP (show emitM cs (stL l l.length) xo xr xa xb xn st = L from hL)
      have hLn : L.length ≤ 40 := by rw [← HL.out]; exact emitM_len _ _ _ _ _ _ _ _
      have hcn := cdM_len cs l k
      rw [hL] at hp1
      have EL := hidP hL
      clear hL
      obtain ⟨W, hW, bx, kb, zb⟩ := Bo5.new wr (.int .i64 xo) (.int .i64 xr) (.int .i64 xa) (.int .i64 xb) (.int .i64 xn) 48
      have HX := hidP bx
      have KB := hidP kb
      have hzW : wr.heap.size + 1 ≤ W.heap.size := by omega
      clear zb
      have HCW := hidP (HCP.out.keep (Keep.of_below (K1.out.trans ((HB.out.trans (KB.out.mono hs)).mono hz1)) hB'))
      have HSW := hidP (HS.out.keep (Keep.of_below (HB.out.trans (KB.out.mono hs)) (Nat.le_refl _)))
      have HOW := hidP (HO.out.keep KB.out)
      have g0 := bx.c0
      have g1 := bx.c1
      have g2 := bx.c2
      have g3 := bx.c3
      have g4 := bx.c4
      have g5 := (KB.out.cell (p := ⟨gs, k, none⟩) (show gs < wr.heap.size by omega)).trans f5
      have hbx : ∀ kk, (u6 : Value).ownBlock = some kk → kk < wr.heap.size := fun kk e => (World.ownsRow.lt HO.out _ e).2
      have HBX := hidP hbx
      clear bx kb hbx
      have side1 : hi' ≤ W.heap.size := by omega
      have side2 : w1.heap.size ≤ W.heap.size := by omega
      have side3 : cs.length ≤ 2000000 := by omega
      have side4 : (cdM cs l k).length + L.length ≤ 1000 := by omega
      have side5 : gs < W.heap.size := by omega
      have side6 : gs < wr.heap.size := by omega
      have EST := hidP (show some (Value.int .i64 (stV l k)) = some (Value.int .i64 st) by rw [HST.out])
      go_wp2_with fail
      clear hW f0 f1 f2 f3 f4 f5
      go_region_held3 (fun w' => w'.cell? ⟨wr.heap.size, 0, none⟩ = some (.int .i64 xo) ∧ w'.cell? ⟨wr.heap.size, 1, none⟩ = some (.int .i64 xr) ∧ w'.cell? ⟨wr.heap.size, 2, none⟩ = some (.int .i64 xa) ∧ w'.cell? ⟨wr.heap.size, 3, none⟩ = some (.int .i64 xb) ∧ w'.cell? ⟨wr.heap.size, 4, none⟩ = some (.int .i64 xn) ∧ w'.cell? ⟨gs, k, none⟩ = some (.int .i64 st)) (go_keep) (first | (go_at_call 53; refine (implEmit_n xo xr xa xb xn st (some ⟨gs, 0, none⟩) sk cps kc lo' hi' w.heap.size w1.heap.size cs (stL l l.length) l.length (stL_len l _) W.drew (show IntsR W.drew lo' hi' sk cs from HCW.out) side1 side3 (show IntsR W.drew w.heap.size w1.heap.size (some ⟨gs, 0, none⟩) (stL l l.length) from HSW.out) side2).mono ?_; rintro e y1 ⟨v1, rfl, hv1, hbu⟩; rw [HL.out] at hv1; have kbu : Below W.heap.size W y1 := ⟨hbu.os, hbu.tape, hbu.output, hbu.size, hbu.block⟩; have hzu := kbu.size; obtain ⟨q2, c2, e2, hq2a, hq2b⟩ := World.ownsRow.form hv1 hp1; subst e2; have HV1 := hidP hv1; have HOU := hidP (HOW.out.keep kbu); have KBU := hidP kbu; clear g0 g1 g2 g3 g4 g5 hv1 hbu kbu; obtain ⟨g0, g1, g2, g3, g4⟩ := HX.out.keep (Keep.of_below KBU.out hzW); have g5 := (KBU.out.cell (p := ⟨gs, k, none⟩) side5).trans ((KB.out.cell (p := ⟨gs, k, none⟩) side6).trans ((HB.out.cell (p := ⟨gs, k, none⟩) hgs.2).trans ((HSC.out k hlt).trans EST.out)))) | (refine step5g rfl _ _ rfl y1 w1.heap.size u6 (cdM cs l k) rfl HOU.out _ q2 L.length c2 L rfl HV1.out rfl hp1 side4 _ rfl (Nat.le_trans side2 hzu) ?_; intro g7 c7 w7 ho7 hb7 hk7; have HO7 := hidP ho7; have KB7 : Hid (Below w1.heap.size W w7) := (KBU.out.mono side2).trans ⟨hb7.os, hb7.tape, hb7.output, hb7.size, hb7.block⟩; have kx : w7.heap[wr.heap.size]? = y1.heap[wr.heap.size]? := hk7 wr.heap.size (Nat.lt_of_lt_of_le hzW hzu) (fun e => absurd (HBX.out _ e) (Nat.lt_irrefl _)); have cx : ∀ o, w7.cell? ⟨wr.heap.size, o, none⟩ = y1.cell? ⟨wr.heap.size, o, none⟩ := fun o => World.cell?_of_block kx; have i0 := (cx 0).trans g0; have i1 := (cx 1).trans g1; have i2 := (cx 2).trans g2; have i3 := (cx 3).trans g3; have i4 := (cx 4).trans g4; have i5 := (KB7.out.cell (p := ⟨gs, k, none⟩) hgs.2).trans ((KB.out.cell (p := ⟨gs, k, none⟩) side6).trans ((HB.out.cell (p := ⟨gs, k, none⟩) hgs.2).trans ((HSC.out k hlt).trans EST.out))); clear ho7 hb7 hk7 kx cx) | fail)
      have E7 := hidP (show cdM cs l k ++ L = cdM cs l (k + 1) by rw [EC.out, HST.out, EL.out])
      clear i0 i1 i2 i3 i4 i5
      go_wp2
      go_roundw
      case rel => exact ⟨k + 1, by omega, by go_num, by rw [← E7.out]; exact HO7.out, (HB.out.trans (KB.out.mono hs)).trans KB7.out⟩
      case measure => simp [intOf]; omega
    · have hkn : k = l.length := by omega
      subst hkn
      go_wp2
      go_ret
      exact ⟨_, rfl, HO.out.low hz1, K1.out.trans (HB.out.mono hz1)⟩
end

section
set_option linter.unusedSimpArgs false
set_option linter.unusedVariables false
set_option maxRecDepth 100000
open Go.RowKit

def relN (q : Int) : Nat → List Int
  | 0 => []
  | n + 1 => relN q n ++ [q + n]
theorem relN_len (q : Int) : ∀ n, (relN q n).length = n
  | 0 => rfl
  | n + 1 => by simp [relN, relN_len q n]
theorem relN_at (q : Int) : ∀ (n i : Nat), i < n → (relN q n)[i]? = some (q + i)
  | 0, i, h => absurd h (by omega)
  | n + 1, i, h => by
    rcases Nat.lt_or_ge i n with g | g
    · rw [relN, List.getElem?_append_left (by rw [relN_len]; exact g)]
      exact relN_at q n i g
    · have e : i = n := by omega
      subst e
      rw [relN, List.getElem?_append_right (by rw [relN_len]; exact Nat.le_refl _), relN_len]
      simp
set_option maxHeartbeats 2000000 in
theorem markN_any (base : Nat) (v : Value) (b : List Int) (q : Int) (w : World) (h : OwnN w base v b) (hn : b.length ≤ 1048577) (hq : 0 ≤ q) (hq' : q ≤ 1000000000000000) :
    Calls Tryz.prog 29 #[v, .int .i64 q] w fun e w' => e = .returned (.int .i64 (q + b.length)) ∧ OwnN w' base v (relN q b.length) ∧ w'.heap.size = w.heap.size ∧ w'.os = w.os ∧ w'.tape = w.tape ∧ w'.output = w.output ∧ (∀ k, v.ownBlock ≠ some k → w'.heap[k]? = w.heap[k]?) := by
  obtain ⟨s, c, rfl⟩ : ∃ s c, v = .slice s b.length c := by
    rcases h.2 with ⟨h1, h2⟩ | ⟨g, cap, cur, a, -⟩
    · exact ⟨none, 0, by rw [h1, h2]⟩
    · exact ⟨_, _, a⟩
  have H : Hid (OwnN w base (.slice s b.length c) b) := h
  clear h
  go_enter Tryz.func29, Tryz.ntmps29
  go_wp2
  go_loopw [1, 5] (fun a i wr => ∃ k : Nat, k ≤ b.length ∧ i = .int .i64 k ∧ a = .int .i64 (q + k) ∧ OwnN wr base (.slice s b.length c) (relN q k ++ b.drop k) ∧ wr.heap.size = w.heap.size ∧ wr.os = w.os ∧ wr.tape = w.tape ∧ wr.output = w.output ∧ (∀ k, (Value.slice s b.length c).ownBlock ≠ some k → wr.heap[k]? = w.heap[k]?)) (fun _ i _ => b.length - (intOf i).toNat)
  case atStart => exact ⟨0, Nat.zero_le _, rfl, by simp, by simpa [relN] using H.out, rfl, rfl, rfl, rfl, fun _ _ => rfl⟩
  case round =>
    obtain ⟨k, hk, rfl, rfl, ho, hr0⟩ := hrel
    have HO : Hid (OwnN wr base (.slice s b.length c) (relN q k ++ b.drop k)) := ho
    have HR := (show Hid _ from hr0)
    have hlen : (relN q k ++ b.drop k).length = b.length := by rw [List.length_append, relN_len, List.length_drop]; omega
    clear ho hr0
    by_cases hlt : k < b.length
    · have hr : wr.ownsRow base 3 1 (.slice s b.length c) b.length ((relN q k ++ b.drop k).map (Value.int .i64)) := by have h := HO.out; unfold OwnN at h; rw [hlen] at h; exact h
      obtain ⟨g, hs⟩ : ∃ g, s = some ⟨g, 0, none⟩ := by
        obtain ⟨g, cap, e, -⟩ := World.ownsRow.form hr (by omega)
        injection e with e1 e2 e3
        exact ⟨g, e1⟩
      subst hs
      have HRo := (show Hid _ from hr)
      obtain ⟨u0, c0⟩ : ∃ u, wr.cell? ⟨g, k, none⟩ = some u := by
        rw [World.ownsRow.cellAt hr k (by omega)]
        exact ⟨_, List.getElem?_eq_getElem (by rw [List.length_map, hlen]; omega)⟩
      have hfz : ∀ j, wr.frozen? ⟨g, j, none⟩ = false := fun j => World.ownsRow.frozenAt hr j
      clear hr hlen
      have b0 : (0 : Int) ≤ (k : Int) := by omega
      have b1 : (k : Int) < (b.length : Int) := by omega
      go_wp2
      go_roundw
      case rel =>
        obtain ⟨r1, r2, r3, r4, r5⟩ := HR.out
        have hd : b.drop k = b[k] :: b.drop (k + 1) := List.drop_eq_getElem_cons hlt
        have p5 := (World.ownsRow.stored HRo.out k (.int .i64 (q + k))).1
        have e0 : ((relN q k ++ b.drop k).map (Value.int .i64)).set k (.int .i64 (q + k)) = (relN q (k + 1) ++ b.drop (k + 1)).map (Value.int .i64) := by
          have e1 := setApp (b.drop k) 0 (q + k) (relN q k)
          rw [relN_len, Nat.add_zero] at e1
          rw [← List.map_set, e1, hd, List.set_cons_zero, relN, List.append_assoc]
          rfl
        have e2 : (relN q (k + 1) ++ b.drop (k + 1)).length = b.length := by rw [List.length_append, relN_len, List.length_drop]; omega
        rw [e0] at p5
        refine ⟨k + 1, by omega, by go_num, by go_num, ?_, by simpa using r1, r2, r3, r4, fun j hj => ?_⟩
        · unfold OwnN
          rw [e2]
          exact p5
        · exact (Below.heap_setCell _ _ _ j (fun e => hj (by rw [e]; rfl))).trans (r5 j hj)
      case measure => simp [intOf]; omega
    · go_wp2
      go_ret
      have e : k = b.length := by omega
      subst e
      have ho := HO.out
      rw [List.drop_length, List.append_nil] at ho
      exact ⟨rfl, ho, HR.out⟩
theorem markN_exc {lo hi : Nat} {v : Value} {l : List Int} {w : World} (q : Int) (h : NB w lo hi v l) (hn : l.length ≤ 1048577) (hq : 0 ≤ q) (hq' : q ≤ 1000000000000000) :
    Calls Tryz.prog 29 #[v, .int .i64 q] w fun e w' => e = .returned (.int .i64 (q + l.length)) ∧ NB w' lo hi v (relN q l.length) ∧ Exc lo hi w w' := by
  refine (markN_any lo v l q w h.o hn hq hq').mono ?_
  rintro e w' ⟨rfl, o, z, a, b, c, f⟩
  exact ⟨rfl, ⟨o, h.h⟩, a, b, c, by omega, fun k hk hc => f k (fun e => by have := (World.ownsRow.lt h.o _ e).1; have := h.h k e; omega)⟩
end

end Go.Proofs.YthkpkdehicoikaaGreat
