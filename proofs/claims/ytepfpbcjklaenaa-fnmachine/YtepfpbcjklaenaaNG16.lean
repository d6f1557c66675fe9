/- stepIn of the program. Condition: late is a number of 64 bits. MachineOk of the program. Conditions: the machine is counted. CoreStep of the program. Conditions: the machine is counted, late is a number of 64 bits. MemoryNew of the program and of the specification. No condition. New cores put behind a row of them, and new machines. Conditions: fewer than 2^30 of them. -/
import Derived.Test.YtepfpbcjklaenaaNG01
import Derived.Test.YtepfpbcjklaenaaNG00
import Derived.Test.YtepfpbcjklaenaaNG08
import Derived.Test.YtepfpbcjklaenaaNG15
import Derived.Test.YtepfpbcjklaenaaNG06
import Derived.Test.YtepfpbcjklaenaaNG10
import Derived.Test.YtepfpbcjklaenaaNKOkB
import Derived.Test.YtepfpbcjklaenaaNG02
import Derived.Test.YtepfpbcjklaenaaNC7Leaf
import Derived.Deep.RegionWith
import Derived.Test.YtepfpbcjklaenaaNG09
import Derived.Test.YtepfpbcjklaenaaNG04
import Derived.Test.YtepfpbcjklaenaaNG03
namespace Go.Proofs.Ytepfpbcjklaenaa
section
set_option linter.unusedSimpArgs false
set_option linter.unusedVariables false
set_option maxRecDepth 100000
open Go.RowKit
set_option maxHeartbeats 1000000 in
theorem stepIn_no {Hq : Nat → Prop} {w : World} {B bm nk ck : Nat} {sk : Option Addr} {vc vm vt : Value} {LC : List CV} {LK : List KV} {S : List RS} {d : MD} (who late : Int) (h : MQ w B Hq vc (.slice sk nk ck) vm vt LC LK S d) (m1 : w.cell? ⟨bm, 1, none⟩ = some (.slice sk nk ck)) (m3 : w.cell? ⟨bm, 3, none⟩ = some vt) (fm : ∀ j, w.frozen? ⟨bm, j, none⟩ = false) (bx : BxT w bm) (hB : B ≤ w.heap.size) (hn : nk = d.cores.length) (hw : ¬ (0 ≤ who ∧ who < (d.cores.length : Int))) :
  Calls Try.prog 28 #[.pointer (some ⟨bm, 0, none⟩), .agg #[.int .i64 who, .int .i64 late]] w (TurnQ w B Hq bm vc (.slice sk nk ck) vm LC (stepM d who late)) := by
 rw [stepM_none late hw]
 have zm := bx.lt
 have H := hidM1 h
 have HW : Hid (¬ (0 ≤ who ∧ who < (nk : Int))) := by rw [hn]; exact hw
 have M3 := hidM1 m3
 have FM := hidM1 fm
 clear h hn hw m3 fm
 go_enter Try.func28, Try.ntmps28
 go_wp2_with fail
 obtain ⟨V, hV⟩ : ∃ V, w.alloc (.cells #[.int .i64 who, .int .i64 late] 40) = V := ⟨_, rfl⟩
 have kv : Below w.heap.size w V := by subst hV; exact (Below.refl _ _).alloc (Nat.le_refl _) _
 have zV : w.heap.size < V.heap.size := by subst hV; simp
 have t0 : V.cell? ⟨w.heap.size, 0, none⟩ = some (.int .i64 who) := by subst hV; simp [go_sem]
 rw [hV]
 have hne := ext_ne V
 have u0 := Ext.fit t0 zV
 have u1 := Ext.fit ((kv.cell (p := ⟨bm, 1, none⟩) zm).trans m1) (by omega)
 refine regionExt V (by kernel_rfl) (by kernel_rfl) ?_
 repeat (go_big_quiet_step ((rename_i X; go_at_call 51; refine (isOneOf_is _ _ false _ (by have := HW.out; unfold Plain.oneB; simp; omega)).mono ?_; rintro e w3 ⟨rfl, hw3⟩; exact ⟨rfl, by rw [hw3]; exact X.on (Below.refl _ _)⟩)))
 refine wpQuiet_nil ?_
 rintro w3 ⟨X3, rfl⟩
 have KB := hidM1 (kv.trans (X3.b.mono (by omega)))
 clear hne u0 u1 kv t0 hV
 go_wp2
 go_ret
 have hm := KB.out.block bm zm
 exact ⟨rfl, vt, LK, S, H.out.keep (fun b _ h1 => KB.out.block b h1) KB.out.size, (World.cell?_of_block hm).trans M3.out, fun j _ => World.cell?_of_block hm, fun j => (World.frozen?_of_block hm).trans (FM.out j), bx.same hm, KB.out.mono hB, fun b h1 _ _ => KB.out.block b h1⟩
set_option maxHeartbeats 2000000 in
theorem stepIn_yes {Hq : Nat → Prop} {w : World} {B bm p gc cc gk ck gs cs gr cr gv cv gO cO cT who : Nat} {sT : Option Addr} {vc vk vm vt : Value} {LC : List CV} {LK : List KV} {S : List RS} {d : MD} {k : KD} {code : List I5} {s : I5} {late : Int} (h : MQ w B Hq vc vk vm vt LC LK S d) (ha : At8 d who k code s) (O : Op8 w B vc vk vm vt LK d who p k code s gc cc gk ck gs cs gr cr gv cv gO cO sT cT) (m0 : w.cell? ⟨bm, 0, none⟩ = some vc) (m1 : w.cell? ⟨bm, 1, none⟩ = some vk) (m2 : w.cell? ⟨bm, 2, none⟩ = some vm) (m3 : w.cell? ⟨bm, 3, none⟩ = some vt) (fm : ∀ j, w.frozen? ⟨bm, j, none⟩ = false) (bx : BxT w bm) (bB : B ≤ bm) (hB : B ≤ w.heap.size) (hmach : machB d = true) (hlate : late ≤ 9223372036854775807) :
  Calls Try.prog 28 #[.pointer (some ⟨bm, 0, none⟩), .agg #[.int .i64 who, .int .i64 late]] w (TurnQ w B Hq bm vc vk vm LC (stepM d who late)) := by
 have zm := bx.lt
 have ek := O.ek
 subst ek
 obtain ⟨X, hX⟩ : ∃ X, stepM d who late = X := ⟨_, rfl⟩
 rw [hX]
 have HX := hidM1 hX
 have wk := O.wk
 have b0 : (0 : Int) ≤ (who : Int) := by omega
 have hl : (who : Int) < (LK.length : Int) := by omega
 have zk := O.zk
 have H := hidM1 h
 have HA := hidM1 ha
 have HO := hidM1 O
 have M0 := hidM1 m0
 have M1 := hidM1 m1
 have M2 := hidM1 m2
 have M3 := hidM1 m3
 have FM := hidM1 fm
 have HM := hidM1 hmach
 clear h ha O m0 m1 m2 m3 fm hX hmach
 go_enter Try.func28, Try.ntmps28
 go_wp2_with fail
 obtain ⟨V, hV⟩ : ∃ V, w.alloc (.cells #[.int .i64 who, .int .i64 late] 40) = V := ⟨_, rfl⟩
 have kv : Below w.heap.size w V := by subst hV; exact (Below.refl _ _).alloc (Nat.le_refl _) _
 have zV : w.heap.size < V.heap.size := by subst hV; simp
 have t0 : V.cell? ⟨w.heap.size, 0, none⟩ = some (.int .i64 who) := by subst hV; simp [go_sem]
 have t1 : V.cell? ⟨w.heap.size, 1, none⟩ = some (.int .i64 late) := by subst hV; simp [go_sem]
 rw [hV]
 clear hV
 have hne := ext_ne V
 have u0 := Ext.fit t0 zV
 have u1 := Ext.fit ((kv.cell (p := ⟨bm, 1, none⟩) zm).trans M1.out) (by omega)
 refine regionExt V (by kernel_rfl) (by kernel_rfl) ?_
 repeat (go_big_quiet_step ((rename_i X; go_at_call 51; refine (isOneOf_is _ _ true _ (by unfold Plain.oneB; simp; omega)).mono ?_; rintro e w3 ⟨rfl, hw3⟩; exact ⟨rfl, by rw [hw3]; exact X.on (Below.refl _ _)⟩)))
 refine wpQuiet_nil ?_
 rintro w3 ⟨X3, rfl⟩
 obtain ⟨U, hU⟩ : ∃ U, X3.w = U := ⟨_, rfl⟩
 have hb := X3.b
 rw [hU] at hb ⊢
 have kU : Below w.heap.size w U := kv.trans (hb.mono (by omega))
 have sU := hb.size
 have t0u := (hb.cell (p := ⟨w.heap.size, 0, none⟩) zV).trans t0
 have t1u := (hb.cell (p := ⟨w.heap.size, 1, none⟩) zV).trans t1
 clear hne u0 u1 kv t0 t1 hU X3 hb
 go_wp2_with fail
 have hne := ext_ne U
 have u0 := Ext.fit t0u (by omega)
 have u1 := Ext.fit ((kU.cell (p := ⟨bm, 1, none⟩) zm).trans M1.out) (by omega)
 refine regionExt U (by kernel_rfl) (by kernel_rfl) ?_
 repeat (go_big_quiet_step (fail))
 refine wpQuiet_nil ?_
 rintro w3 ⟨X3, rfl⟩
 obtain ⟨T, hT⟩ : ∃ T, X3.w = T := ⟨_, rfl⟩
 have hb := X3.b
 rw [hT] at hb ⊢
 have kT : Below w.heap.size w T := kU.trans (hb.mono (by omega))
 have sT' := hb.size
 have t0t := (hb.cell (p := ⟨w.heap.size, 0, none⟩) (by show w.heap.size < _; omega)).trans t0u
 have t1t := (hb.cell (p := ⟨w.heap.size, 1, none⟩) (by show w.heap.size < _; omega)).trans t1u
 clear hne u0 u1 kU t0u t1u hT X3 hb
 go_wp2_with fail
 have hne := extP_ne T (fun _ => False)
 have u0 := ExtP.fit (E := fun _ => False) t0t (by omega) (fun e => e)
 have u1 := ExtP.fit (E := fun _ => False) t1t (by omega) (fun e => e)
 have u2 := ExtP.fit (E := fun _ => False) ((kT.cell (p := ⟨gk, who * 4 + 2, none⟩) zk).trans HO.out.k2) (by omega) (fun e => e)
 refine regionMix T (CP T (fun _ => False)) 8 9 (by kernel_rfl) (by kernel_rfl) (fun _ _ d _ _ h => by cases d <;> exact h) (CP.drew _ _) ?_
 unfold CP
 dsimp only [List.take, List.drop]
 repeat (go_big_quiet_step (fail))
 refine wpQuiet_nil ?_
 clear hne u0 u1 u2
 unfold wpListC
 go_wp2
 refine And.intro (fun _ hc => CP.below hc ((Below.refl _ _).alloc (Nat.le_refl _) _)) ?_
 refine listC_late _ _ _ _ (by decide) ?_
 go_wp2_with fail
 obtain ⟨Y, hY⟩ : ∃ Y, (T.alloc (.cells #[.slice (some ⟨gv, 0, none⟩) 24 cv, .pointer (some ⟨gk, who * 4, none⟩), .pointer (some ⟨bm, 0, none⟩), .int .i64 who, .int .i64 late] 90)).drew = Y := ⟨_, rfl⟩
 have kY : Below T.heap.size T Y := by subst hY; exact Below.drew ((Below.refl _ _).alloc (Nat.le_refl _) _)
 have sY : T.heap.size < Y.heap.size := by subst hY; show T.heap.size < (T.alloc _).heap.size; simp
 have y0 : Y.cell? ⟨T.heap.size, 0, none⟩ = some (.slice (some ⟨gv, 0, none⟩) 24 cv) := by subst hY; show (T.alloc _).cell? _ = _; simp [go_sem]
 have y1 : Y.cell? ⟨T.heap.size, 1, none⟩ = some (.pointer (some ⟨gk, who * 4, none⟩)) := by subst hY; show (T.alloc _).cell? _ = _; simp [go_sem]
 have y2 : Y.cell? ⟨T.heap.size, 2, none⟩ = some (.pointer (some ⟨bm, 0, none⟩)) := by subst hY; show (T.alloc _).cell? _ = _; simp [go_sem]
 have y3 : Y.cell? ⟨T.heap.size, 3, none⟩ = some (.int .i64 who) := by subst hY; show (T.alloc _).cell? _ = _; simp [go_sem]
 have y4 : Y.cell? ⟨T.heap.size, 4, none⟩ = some (.int .i64 late) := by subst hY; show (T.alloc _).cell? _ = _; simp [go_sem]
 rw [hY]
 clear hY
 have kW : Below w.heap.size w Y := kT.trans (kY.mono (by omega))
 have OY := HO.out.below kW
 have cm : ∀ j, Y.cell? ⟨bm, j, none⟩ = w.cell? ⟨bm, j, none⟩ := fun j => kW.cell (p := ⟨bm, j, none⟩) zm
 have RY : Rn Y T.heap.size bm gk gc gs gr gv who code.length cv cr cs late vc (.slice (some ⟨gk, 0, none⟩) LK.length ck) vm vt d.codes.length cc p k.st := ⟨y0, y1, y2, y3, y4, (cm 0).trans M0.out, (cm 1).trans M1.out, (cm 2).trans M2.out, (cm 3).trans M3.out, fun j => (kW.frozen (p := ⟨bm, j, none⟩) zm).trans (FM.out j), OY.ec, OY.c0, by rw [← OY.hp]; exact OY.k0, OY.k1, OY.k3, OY.fk, OY.wc, sY, by omega, OY.zk, OY.zc, OY.zr⟩
 have TN := turn_any (H.out.keep (w' := Y) (fun b _ h1 => kW.block b h1) kW.size) HA.out OY RY (bx.same (kW.block bm zm)) bB (by omega) HM.out hlate (MQ.far H.out HO.out zm T.heap.size (by omega))
 rw [HX.out] at TN
 have HT := hidM1 TN
 have KW := hidM1 kW
 clear TN OY RY y0 y1 y2 y3 y4 t0t t1t kT kY cm kW
 refine Calls.mono HT.out ?_
 rintro e w6 ⟨rfl, vt6, LK6, S6, q6, c3, cj, fj, bx6, b6, f6⟩
 have Q6 := hidM1 q6
 have C3 := hidM1 c3
 have CJ := hidM1 cj
 have FJ := hidM1 fj
 have BX6 := hidM1 bx6
 have B6 := hidM1 b6
 have F6 := hidM1 f6
 clear q6 c3 cj fj bx6 b6 f6
 go_wp2
 go_ret
 exact ⟨rfl, vt6, LK6, S6, Q6.out, C3.out, fun j hj => (CJ.out j hj).trans (KW.out.cell (p := ⟨bm, j, none⟩) zm), FJ.out, BX6.out, (KW.out.mono hB).trans B6.out, fun b h1 h2 h3 => (F6.out b (by have := KW.out.size; omega) h2 h3).trans (KW.out.block b h1)⟩
theorem stepIn_any {Hq : Nat → Prop} {w : World} {B bm : Nat} {vc vk vm vt : Value} {LC : List CV} {LK : List KV} {S : List RS} {d : MD} (who late : Int) (h : MQ w B Hq vc vk vm vt LC LK S d) (m0 : w.cell? ⟨bm, 0, none⟩ = some vc) (m1 : w.cell? ⟨bm, 1, none⟩ = some vk) (m2 : w.cell? ⟨bm, 2, none⟩ = some vm) (m3 : w.cell? ⟨bm, 3, none⟩ = some vt) (fm : ∀ j, w.frozen? ⟨bm, j, none⟩ = false) (bx : BxT w bm) (bB : B ≤ bm) (hB : B ≤ w.heap.size) (hmach : machB d = true) (hlate : late ≤ 9223372036854775807) :
  Calls Try.prog 28 #[.pointer (some ⟨bm, 0, none⟩), .agg #[.int .i64 who, .int .i64 late]] w (TurnQ w B Hq bm vc vk vm LC (stepM d who late)) := by
 by_cases hw : 0 ≤ who ∧ who < (d.cores.length : Int)
 ·obtain ⟨n, rfl⟩ : ∃ n : Nat, who = (n : Int) := ⟨who.toNat, by omega⟩
  obtain ⟨k, code, s, ha⟩ := mach_at hmach (who := n) (by omega)
  obtain ⟨p, gc, cc, gk, ck, gs, cs, gr, cr, gv, cv, gO, cO, st, ct, O⟩ := h.open ha
  exact stepIn_yes h ha O m0 m1 m2 m3 fm bx bB hB hmach hlate
 ·have lk : LK.length = d.cores.length := by rw [← h.ek, List.length_map]
  obtain ⟨sk, ck, hvk⟩ := ownSl h.k.row
  subst hvk
  exact stepIn_no who late h m1 m3 fm bx hB lk hw
end
section
set_option linter.unusedSimpArgs false
set_option linter.unusedVariables false
set_option maxRecDepth 100000
open Go.RowKit
set_option maxHeartbeats 2000000 in
theorem implMachineOk_any (s1 s2 s3 s4 : Option Addr) (c1 c2 c3 c4 lo hi : Nat) (d : MD) (w : World) (h : MaR w lo hi s1 s2 s3 s4 d) (hB : hi ≤ w.heap.size) (hf : MaFits d) :
  Calls Try.prog 15 #[.agg #[.slice s1 d.codes.length c1, .slice s2 d.cores.length c2, .slice s3 d.mem.length c3, .slice s4 d.tr.length c4]] w fun e w' => e = .returned (.bool (machB d)) ∧ Below w.heap.size w w' := by
 have H : Hid (MaR w lo hi s1 s2 s3 s4 d) := h
 have F1 : d.codes.length + szC d.codes ≤ 1048576 := hf.c
 have F2 : d.cores.length + szK d.cores ≤ 1048576 := by have := hf.k; omega
 have F3 : d.mem.length + szR d.mem ≤ 2000000 := hf.m
 have F4 : d.tr.length ≤ 2000000 := hf.t
 clear h hf
 go_enter Try.func15, Try.ntmps15
 go_wp2_with fail
 obtain ⟨W, hW, bx, kb, zb⟩ := B4.new w (.slice s1 d.codes.length c1) (.slice s2 d.cores.length c2) (.slice s3 d.mem.length c3) (.slice s4 d.tr.length c4) 34
 rw [hW]
 clear hW
 have A0 : Hid (B4 W w.heap.size (.slice s1 d.codes.length c1) (.slice s2 d.cores.length c2) (.slice s3 d.mem.length c3) (.slice s4 d.tr.length c4)) := bx
 have K0 : Hid (Below w.heap.size w W) := kb
 clear bx kb
 refine (codesOk_any s1 c1 lo hi d.codes W (H.out.keep (Keep.of_below K0.out hB)).1 (by omega) F1).mono ?_
 rintro e w1 ⟨rfl, hb1⟩
 have A1 : Hid (B4 w1 w.heap.size (.slice s1 d.codes.length c1) (.slice s2 d.cores.length c2) (.slice s3 d.mem.length c3) (.slice s4 d.tr.length c4)) := A0.out.keep (hb1.mono (Nat.le_refl _)) A0.out.z
 have K1 : Hid (Below w.heap.size w w1) := K0.out.trans (hb1.mono (by omega))
 obtain ⟨p0, p1, p2, p3, p4⟩ := A1.out
 clear hb1
 cases hc : codesB d.codes
 ·have E : Hid (machB d = false) := by show _ = _; unfold machB; rw [hc]; rfl
  clear hc
  go_wp2
  go_ret
  exact ⟨ret_bool' E.out.symm, K1.out⟩
 have HC : Hid (codesB d.codes = true) := hc
 clear hc
 go_wp2_with fail
 have R1 : Hid (MaR w1 lo hi s1 s2 s3 s4 d) := H.out.keep (Keep.of_below K1.out hB)
 refine (coresOk_any s2 s1 s3 c2 c1 c3 lo hi d.cores d.codes d.mem _ R1.out.2.1 R1.out.1 R1.out.2.2.1 (by omega) F2 F1).mono ?_
 rintro e w2 ⟨rfl, hb2⟩
 all_goals
  have hb3 : Below w1.heap.size w1 w2 := ⟨hb2.os, hb2.tape, hb2.output, hb2.size, hb2.block⟩
  have A2 : Hid (B4 w2 w.heap.size (.slice s1 d.codes.length c1) (.slice s2 d.cores.length c2) (.slice s3 d.mem.length c3) (.slice s4 d.tr.length c4)) := A1.out.keep hb3 A1.out.z
  have K2 : Hid (Below w.heap.size w w2) := K1.out.trans (hb3.mono (by omega))
  clear p1 p2 p3 p4 hb2 hb3 R1
  obtain ⟨p0, p1, p2, p3, p4⟩ := A2.out
  cases hc : coresB d.mem d.cores d.codes
  ·have E : Hid (machB d = false) := by show _ = _; unfold machB; rw [hc]; simp
   clear hc
   go_wp2
   go_ret
   exact ⟨ret_bool' E.out.symm, K2.out⟩
  have HK : Hid (coresB d.mem d.cores d.codes = true) := hc
  clear hc
  have R2 : Hid (MaR w2 lo hi s1 s2 s3 s4 d) := H.out.keep (Keep.of_below K2.out hB)
  go_wp2_with fail
  refine (traceOk_any s4 c4 lo hi d.cores.length d.tr _ R2.out.2.2.2 (by omega) F4 (by omega)).mono ?_
  rintro e w3 ⟨rfl, hb4⟩
  all_goals
   have hb5 : Below w2.heap.size w2 w3 := ⟨hb4.os, hb4.tape, hb4.output, hb4.size, hb4.block⟩
   have A3 : Hid (B4 w3 w.heap.size (.slice s1 d.codes.length c1) (.slice s2 d.cores.length c2) (.slice s3 d.mem.length c3) (.slice s4 d.tr.length c4)) := A2.out.keep hb5 A2.out.z
   have K3 : Hid (Below w.heap.size w w3) := K2.out.trans (hb5.mono (by omega))
   clear p1 p2 p3 p4 hb4 hb5 R2
   obtain ⟨p0, p1, p2, p3, p4⟩ := A3.out
   cases hc : trB d.tr d.cores.length
   ·have E : Hid (machB d = false) := by show _ = _; unfold machB; rw [hc]; simp
    clear hc
    go_wp2
    go_ret
    exact ⟨ret_bool' E.out.symm, K3.out⟩
   have HT : Hid (trB d.tr d.cores.length = true) := hc
   clear hc
   have R3 : Hid (MaR w3 lo hi s1 s2 s3 s4 d) := H.out.keep (Keep.of_below K3.out hB)
   have z3 := K3.out.size
   go_wp2_with fail
   refine (implMemoryOk_any s3 c3 lo hi d.mem _ R3.out.2.2.1 (by omega) F3).mono ?_
   rintro e w4 ⟨rfl, hb6⟩
   have K4 : Hid (Below w.heap.size w w4) := K3.out.trans (hb6.mono (by omega))
   have E : Hid (machB d = memB d.mem) := by show _ = _; unfold machB; rw [HC.out, HK.out, HT.out]; rfl
   clear hb6
   go_wp2
   go_ret
   exact ⟨ret_bool' E.out.symm, K4.out⟩
end
section
set_option linter.unusedSimpArgs false
set_option linter.unusedVariables false
set_option maxRecDepth 100000
open Go.RowKit
def noMd : MD := ⟨[], [], [], []⟩
def noMP : MP := ⟨none, 0, [], none, 0, [], none, 0, [], none, 0⟩
theorem noMa (w : World) (lo hi : Nat) : MaO w lo hi noMP noMd := ⟨GO.nil _ _ _ _ _, GO.nil _ _ _ _ _, MO.nil _ _ _ _, ⟨rfl, .inl rfl⟩, by simp [MP.as, noMP, noMd, gAs, mAs, MP.x4, VS.wide, vAs]⟩
/- what CoreStep answers -/
def coreM (d : MD) (who late : Int) : MD × Int := if machB d = true then stepM d who late else (noMd, 1)
/- the boxes of CoreStep: machine, pick, answer -/
structure Bc3 (V : World) (z : Nat) (m0 m1 m2 m3 : Value) (who late : Int) : Prop where
 m0 : V.cell? ⟨z, 0, none⟩ = some m0
 m1 : V.cell? ⟨z, 1, none⟩ = some m1
 m2 : V.cell? ⟨z, 2, none⟩ = some m2
 m3 : V.cell? ⟨z, 3, none⟩ = some m3
 x0 : V.cell? ⟨z + 1, 0, none⟩ = some (.int .i64 who)
 x1 : V.cell? ⟨z + 1, 1, none⟩ = some (.int .i64 late)
 a0 : V.cell? ⟨z + 1 + 1, 0, none⟩ = some (.slice none 0 0)
 a1 : V.cell? ⟨z + 1 + 1, 1, none⟩ = some (.slice none 0 0)
 a2 : V.cell? ⟨z + 1 + 1, 2, none⟩ = some (.slice none 0 0)
 a3 : V.cell? ⟨z + 1 + 1, 3, none⟩ = some (.slice none 0 0)
 fa : ∀ j, V.frozen? ⟨z + 1 + 1, j, none⟩ = false
 z : z + 1 + 1 < V.heap.size
theorem Bc3.below {V V' : World} {z : Nat} {m0 m1 m2 m3 : Value} {who late : Int} (h : Bc3 V z m0 m1 m2 m3 who late) {n : Nat} (hb : Below n V V') (hn : z + 1 + 1 < n) : Bc3 V' z m0 m1 m2 m3 who late := by
 have c : ∀ b j, b < n → V'.cell? ⟨b, j, none⟩ = V.cell? ⟨b, j, none⟩ := fun b j h1 => hb.cell (p := ⟨b, j, none⟩) h1
 have hs := hb.size
 have hz := h.z
 exact ⟨(c _ _ (by omega)).trans h.m0, (c _ _ (by omega)).trans h.m1, (c _ _ (by omega)).trans h.m2, (c _ _ (by omega)).trans h.m3, (c _ _ (by omega)).trans h.x0, (c _ _ (by omega)).trans h.x1, (c _ _ (by omega)).trans h.a0, (c _ _ (by omega)).trans h.a1, (c _ _ (by omega)).trans h.a2, (c _ _ (by omega)).trans h.a3, fun j => (hb.frozen (p := ⟨z + 1 + 1, j, none⟩) hn).trans (h.fa j), by omega⟩
theorem bc3_new {w W : World} {m0 m1 m2 m3 : Value} {who late : Int} {T0 T1 T2 : TypeId} (hW : ((w.alloc (.cells #[m0, m1, m2, m3] T0)).alloc (.cells #[.int .i64 who, .int .i64 late] T1)).alloc (.cells #[.slice none 0 0, .slice none 0 0, .slice none 0 0, .slice none 0 0] T2) = W) : Bc3 W w.heap.size m0 m1 m2 m3 who late ∧ Below w.heap.size w W := by
 subst hW
 refine ⟨⟨?_, ?_, ?_, ?_, ?_, ?_, ?_, ?_, ?_, ?_, fun j => ?_, ?_⟩, ((((Below.refl _ _).alloc (Nat.le_refl _) _).alloc (by simp) _).alloc (by simp; omega) _)⟩
 all_goals simp [go_sem]
/- the answer laid into its box -/
theorem Bc3.put {V : World} {z : Nat} {m0 m1 m2 m3 a b c d : Value} {who late : Int} (h : Bc3 V z m0 m1 m2 m3 who late) : ∃ Z, (((V.setCell ⟨z + 1 + 1, 0, none⟩ a).setCell ⟨z + 1 + 1, 1, none⟩ b).setCell ⟨z + 1 + 1, 2, none⟩ c).setCell ⟨z + 1 + 1, 3, none⟩ d = Z ∧ Z.cell? ⟨z + 1 + 1, 0, none⟩ = some a ∧ Z.cell? ⟨z + 1 + 1, 1, none⟩ = some b ∧ Z.cell? ⟨z + 1 + 1, 2, none⟩ = some c ∧ Z.cell? ⟨z + 1 + 1, 3, none⟩ = some d ∧ (∀ q, q ≠ z + 1 + 1 → Z.heap[q]? = V.heap[q]?) ∧ Z.heap.size = V.heap.size ∧ ∀ (B : Nat) (A : World), Below B A V → B ≤ z + 1 + 1 → Below B A Z := by
 have n01 : ∀ i j : Nat, i ≠ j → ∀ (X : World) (v : Value), (X.setCell ⟨z + 1 + 1, i, none⟩ v).cell? ⟨z + 1 + 1, j, none⟩ = X.cell? ⟨z + 1 + 1, j, none⟩ := fun i j hij X v => by
  apply World.cell?_setCell_other
  intro e
  injection e with _ e
  exact hij e
 have sm : ∀ (i : Nat) (X : World) (v u : Value), X.cell? ⟨z + 1 + 1, i, none⟩ = some u → (X.setCell ⟨z + 1 + 1, i, none⟩ v).cell? ⟨z + 1 + 1, i, none⟩ = some v := fun i X v u hu => World.cell?_setCell_same' X _ _ (by rw [hu]; rfl)
 refine ⟨_, rfl, ?_, ?_, ?_, ?_, fun q hq => ?_, by simp, fun B A hb hB => ?_⟩
 ·rw [n01 3 0 (by omega), n01 2 0 (by omega), n01 1 0 (by omega)]; exact sm 0 _ _ _ h.a0
 ·rw [n01 3 1 (by omega), n01 2 1 (by omega)]; exact sm 1 _ _ _ ((n01 0 1 (by omega) _ _).trans h.a1)
 ·rw [n01 3 2 (by omega)]; exact sm 2 _ _ _ ((n01 1 2 (by omega) _ _).trans ((n01 0 2 (by omega) _ _).trans h.a2))
 ·exact sm 3 _ _ _ ((n01 2 3 (by omega) _ _).trans ((n01 1 3 (by omega) _ _).trans ((n01 0 3 (by omega) _ _).trans h.a3)))
 ·exact (Below.heap_setCell _ ⟨z + 1 + 1, _, none⟩ _ q hq).trans ((Below.heap_setCell _ ⟨z + 1 + 1, _, none⟩ _ q hq).trans ((Below.heap_setCell _ ⟨z + 1 + 1, _, none⟩ _ q hq).trans (Below.heap_setCell _ ⟨z + 1 + 1, _, none⟩ _ q hq)))
 ·exact (((hb.setCell (p := ⟨z + 1 + 1, _, none⟩) hB _).setCell (p := ⟨z + 1 + 1, _, none⟩) hB _).setCell (p := ⟨z + 1 + 1, _, none⟩) hB _).setCell (p := ⟨z + 1 + 1, _, none⟩) hB _
def CoreQ (w : World) (x : MD × Int) (e : Ending) (w' : World) : Prop := ∃ p : MP, e = .returned (.tuple #[.agg #[.slice p.s1 x.1.codes.length p.c1, .slice p.s2 x.1.cores.length p.c2, .slice p.s3 x.1.mem.length p.c3, .slice p.s4 x.1.tr.length p.c4], .int .i64 x.2]) ∧ MaO w' w.heap.size w'.heap.size p x.1 ∧ Below w.heap.size w w'
end
section
set_option linter.unusedSimpArgs false
set_option linter.unusedVariables false
set_option maxRecDepth 100000
open Go.RowKit
def zRow : List WD := [⟨0, List.replicate 24 0⟩]
def newM (k : Nat) : List (List WD) := List.replicate k zRow
theorem newM_len (k : Nat) : (newM k).length = k := by simp [newM]
theorem newM_succ (k : Nat) : newM (k + 1) = newM k ++ [zRow] := List.replicate_succ'
/- the three blocks of a new row -/
def W3 (w : World) : World := ((w.alloc (.cells (madeCells #[.int .i64 0] 24) 3)).alloc (.cells #[.int .i64 0, .slice (some ⟨w.heap.size, 0, none⟩) 24 24] 48)).alloc (.cells #[.slice (some ⟨w.heap.size + 1, 0, none⟩) 1 1] 44)
theorem W3_below (w : World) : Below w.heap.size w (W3 w) := (((Below.refl _ _).alloc (Nat.le_refl _) _).alloc (by simp) _).alloc (by simp; omega) _
theorem W3_size (w : World) : (W3 w).heap.size = w.heap.size + 3 := by simp [W3]
theorem W3_row (w : World) : RO (W3 w) w.heap.size (W3 w).heap.size ⟨some ⟨w.heap.size + 1, 0, none⟩, 1, [⟨some ⟨w.heap.size, 0, none⟩, 24, 24⟩]⟩ zRow := by
 have h := RO.push (w := W3 w) (w' := W3 w) (lo := w.heap.size) (hi := (W3 w).heap.size) (G := w.heap.size + 1) (O := 0) (c := 1) (vs := []) (l := []) ⟨some ⟨w.heap.size, 0, none⟩, 24, 24⟩ ⟨0, List.replicate 24 0⟩ (RO.nil _ _ _ _ _) ⟨by omega, by rw [W3_size]; omega⟩ (fun a _ _ => ⟨rfl, rfl⟩) (by simp [W3, go_sem]) (by simp [W3, go_sem]) (by simp [W3, go_sem]) ?_ ?_ (vAs_nodup (g := w.heap.size) (o := 0) rfl) (fun x hx => by simp at hx)
 ·exact h
 ·refine ⟨by simp, .inr ⟨w.heap.size, 0, rfl, Nat.le_refl _, by rw [W3_size]; omega, fun i hi' => ?_⟩⟩
  simp at hi'
  rw [Nat.zero_add]
  refine ⟨?_, by simp [W3, go_sem]⟩
  have e : (W3 w).cell? ⟨w.heap.size, i, none⟩ = (madeCells #[.int .i64 0] 24)[i]? := by simp [W3, go_sem]
  show _ = some (Value.int .i64 ((List.replicate 24 (0 : Int)).getD i 0))
  rw [e, ← Array.getElem?_toList, toList_madeCells_one, List.getElem?_replicate, if_pos hi', List.getD_eq_getElem?_getD, List.getElem?_replicate, if_pos hi']
  rfl
 ·intro a ha
  obtain ⟨i, -, rfl⟩ := mem_vAs.1 ha
  show w.heap.size ≠ w.heap.size + 1
  omega
set_option maxHeartbeats 2000000 in
theorem implNew_any (w : World) : Calls Try.prog 24 #[] w fun e w' => ∃ s c S, e = .returned (.agg #[.slice s 24 c]) ∧ MO w' w.heap.size w'.heap.size s S (newM 24) ∧ Below w.heap.size w w' := by
 have hmk : ∀ w : World, (Instr.makeSlice 41 (.int .i64 24) (.int .i64 24)).run Try.prog w = .ok (.slice (some ⟨w.heap.size, 0, none⟩) 24 24) (w.alloc (.cells (madeCells #[.int .i64 0] 24) 3)) := fun w => mkInt 24 (by omega) w
 go_enter Try.func24, Try.ntmps24
 go_wp2
 go_loopw [2] (fun i wr => ∃ (k : Nat) (v : Value) (S : List RS), k ≤ 24 ∧ i = .int .i64 k ∧ S.length = k ∧ OM wr (w.heap.size + 2) v S (newM k) ∧ wr.cell? ⟨w.heap.size + 1, 0, none⟩ = some v ∧ (wr.cell? ⟨w.heap.size, 0, none⟩).isSome = true ∧ (∀ j, wr.frozen? ⟨w.heap.size + 1, j, none⟩ = false) ∧ (∀ j, wr.frozen? ⟨w.heap.size, j, none⟩ = false) ∧ w.heap.size + 1 < wr.heap.size ∧ Below w.heap.size w wr) (fun i _ => 24 - (intOf i).toNat)
 case atStart => exact ⟨0, .slice none 0 0, [], Nat.zero_le _, rfl, rfl, OM.nil _ _, by simp [go_sem], by simp [go_sem], fun j => by simp [go_sem], fun j => by simp [go_sem], by simp, ((Below.refl _ _).alloc (Nat.le_refl _) _).alloc (by simp) _⟩
 case round =>
  obtain ⟨k, v, S, hk, rfl, hS, ho, c1, c0, f1, f0, hz, hb⟩ := hrel
  obtain ⟨s, c, hv, -⟩ := ho.mo
  rw [newM_len] at hv
  subst hv
  have HO : Hid (OM wr (w.heap.size + 2) (.slice s k c) S (newM k)) := ho
  have HB : Hid (Below w.heap.size w wr) := hb
  have HS : Hid (S.length = k) := hS
  have hzz : w.heap.size < wr.heap.size := by omega
  have hz2 : w.heap.size + 2 ≤ wr.heap.size := by omega
  obtain ⟨u0, c0'⟩ := Option.isSome_iff_exists.1 c0
  clear ho hb hS c0
  by_cases hlt : k < 24
  ·have b0 : (k : Int) < 24 := by omega
   go_wp2
   have HOX : Hid (OM (W3 wr.drew) (w.heap.size + 2) (.slice s k c) S (newM k)) := (HO.out.below (Below.drew (Below.refl _ _))).below (W3_below _)
   go_region_law (refine step_rowW rfl _ _ rfl (W3 wr.drew) (w.heap.size + 2) (.slice s k c) S.length (S.map RS.val) rfl HOX.out.row (wr.heap.size + 1 + 1) (.slice (some ⟨wr.heap.size + 1, 0, none⟩) 1 1) rfl rfl (by simp [W3, go_sem]) (by have := HS.out; omega) (by rw [W3_size]; show w.heap.size + 2 ≤ wr.heap.size + 3; omega) ?_; intro g1 cap1 w1 ho1 hg1 hn1 hl1; have hb1 : Below (w.heap.size + 2) wr w1 := ((Below.drew (Below.refl _ _)).trans ((W3_below wr.drew).mono (show w.heap.size + 2 ≤ wr.heap.size by omega))).trans (Below.grown (Below.refl _ _) hg1 (by rw [W3_size]; show w.heap.size + 2 ≤ wr.heap.size + 3; omega) (fun j hj => (World.ownsRow.lt HOX.out.row _ hj).1)); have t1 := (hb1.cell (p := ⟨w.heap.size + 1, 0, none⟩) (show w.heap.size + 1 < w.heap.size + 2 by omega)).trans c1; have t2 := (hb1.frozen (p := ⟨w.heap.size + 1, 0, none⟩) (show w.heap.size + 1 < w.heap.size + 2 by omega)).trans (f1 0); have HO1 := (show Hid _ from ho1); have HG1 := (show Hid _ from hg1); have HN1 := (show Hid _ from hn1); have HB1 := (show Hid _ from hb1); clear ho1 hg1 hn1 hb1)
   all_goals
    have HP := (HO.out.below (Below.drew (Below.refl _ _))).push _ zRow (W3_below _) (W3_row wr.drew) (show w.heap.size + 2 ≤ wr.heap.size by omega) HO1.out HG1.out HN1.out
    have HP1 : Hid (OM w1 (w.heap.size + 2) (.slice (some ⟨g1, 0, none⟩) (S.length + 1) cap1) (S ++ [⟨some ⟨wr.heap.size + 1, 0, none⟩, 1, [⟨some ⟨wr.heap.size, 0, none⟩, 24, 24⟩]⟩]) (newM (k + 1))) := by
     show OM _ _ _ _ _
     rw [newM_succ]
     have e : (S ++ [(⟨some ⟨wr.heap.size + 1, 0, none⟩, 1, [⟨some ⟨wr.heap.size, 0, none⟩, 24, 24⟩]⟩ : RS)]).length = S.length + 1 := by simp
     rw [← e]
     exact HP
    have t3 := (HB1.out.cell (p := ⟨w.heap.size, 0, none⟩) (show w.heap.size < w.heap.size + 2 by omega)).trans c0'
    have hz1 := HB1.out.size
    clear HP
    go_wp2
    go_roundw
    case rel =>
     refine ⟨k + 1, .slice (some ⟨g1, 0, none⟩) (S.length + 1) cap1, _, by omega, by go_num, by simp [HS.out], HP1.out.keepB (fun b hb => Below.heap_setCell _ _ _ b (by show b ≠ w.heap.size + 1; omega)) (by simp), setC_at (by rw [t1]; rfl), ?_, fun j => ?_, fun j => ?_, by simp; omega, ?_⟩
     ·rw [setC_blk (by omega), t3]; rfl
     ·rw [World.frozen?_setCell, HB1.out.frozen (p := ⟨w.heap.size + 1, j, none⟩) (show w.heap.size + 1 < w.heap.size + 2 by omega)]; exact f1 j
     ·rw [World.frozen?_setCell, HB1.out.frozen (p := ⟨w.heap.size, j, none⟩) (show w.heap.size < w.heap.size + 2 by omega)]; exact f0 j
     ·exact (HB.out.trans (HB1.out.mono (by omega))).setCell (p := ⟨w.heap.size + 1, 0, none⟩) (by show w.heap.size ≤ w.heap.size + 1; omega) _
    case measure => simp [intOf]; omega
  ·have e24 : k = 24 := by omega
   subst e24
   go_wp2
   obtain ⟨s', c', ev, hmo⟩ := HO.out.mo
   injection ev with e1 e2 e3
   subst e1
   refine bodyPost_ret (v := .agg #[.slice s 24 c]) (by simp [results, Try.results24, go_sem, c0']) rfl ⟨s, c, S, rfl, ?_, ?_⟩
   ·refine MO.mono (lo := w.heap.size + 2) (hi := wr.heap.size) ?_ (by omega) (by simp)
    exact hmo.keep (fun b h1 h2 => Below.heap_setCell _ _ _ b (by show b ≠ w.heap.size; omega))
   ·exact HB.out.setCell (p := ⟨w.heap.size, 0, none⟩) (Nat.le_refl _) _
set_option maxHeartbeats 2000000 in
theorem specNew_any (w : World) : Calls Try.prog 26 #[] w fun e w' => ∃ s c S, e = .returned (.agg #[.slice s 24 c]) ∧ MO w' w.heap.size w'.heap.size s S (newM 24) ∧ Below w.heap.size w w' := by
 have hmk : ∀ w : World, (Instr.makeSlice 41 (.int .i64 24) (.int .i64 24)).run Try.prog w = .ok (.slice (some ⟨w.heap.size, 0, none⟩) 24 24) (w.alloc (.cells (madeCells #[.int .i64 0] 24) 3)) := fun w => mkInt 24 (by omega) w
 go_enter Try.func26, Try.ntmps26
 go_wp2
 go_loopw [2] (fun i wr => ∃ (k : Nat) (v : Value) (S : List RS), k ≤ 24 ∧ i = .int .i64 k ∧ S.length = k ∧ OM wr (w.heap.size + 2) v S (newM k) ∧ wr.cell? ⟨w.heap.size + 1, 0, none⟩ = some v ∧ (wr.cell? ⟨w.heap.size, 0, none⟩).isSome = true ∧ (∀ j, wr.frozen? ⟨w.heap.size + 1, j, none⟩ = false) ∧ (∀ j, wr.frozen? ⟨w.heap.size, j, none⟩ = false) ∧ w.heap.size + 1 < wr.heap.size ∧ Below w.heap.size w wr) (fun i _ => 24 - (intOf i).toNat)
 case atStart => exact ⟨0, .slice none 0 0, [], Nat.zero_le _, rfl, rfl, OM.nil _ _, by simp [go_sem], by simp [go_sem], fun j => by simp [go_sem], fun j => by simp [go_sem], by simp, ((Below.refl _ _).alloc (Nat.le_refl _) _).alloc (by simp) _⟩
 case round =>
  obtain ⟨k, v, S, hk, rfl, hS, ho, c1, c0, f1, f0, hz, hb⟩ := hrel
  obtain ⟨s, c, hv, -⟩ := ho.mo
  rw [newM_len] at hv
  subst hv
  have HO : Hid (OM wr (w.heap.size + 2) (.slice s k c) S (newM k)) := ho
  have HB : Hid (Below w.heap.size w wr) := hb
  have HS : Hid (S.length = k) := hS
  have hzz : w.heap.size < wr.heap.size := by omega
  have hz2 : w.heap.size + 2 ≤ wr.heap.size := by omega
  obtain ⟨u0, c0'⟩ := Option.isSome_iff_exists.1 c0
  clear ho hb hS c0
  by_cases hlt : k < 24
  ·have b0 : (k : Int) < 24 := by omega
   go_wp2
   have HOX : Hid (OM (W3 wr.drew) (w.heap.size + 2) (.slice s k c) S (newM k)) := (HO.out.below (Below.drew (Below.refl _ _))).below (W3_below _)
   go_region_law (refine step_rowW rfl _ _ rfl (W3 wr.drew) (w.heap.size + 2) (.slice s k c) S.length (S.map RS.val) rfl HOX.out.row (wr.heap.size + 1 + 1) (.slice (some ⟨wr.heap.size + 1, 0, none⟩) 1 1) rfl rfl (by simp [W3, go_sem]) (by have := HS.out; omega) (by rw [W3_size]; show w.heap.size + 2 ≤ wr.heap.size + 3; omega) ?_; intro g1 cap1 w1 ho1 hg1 hn1 hl1; have hb1 : Below (w.heap.size + 2) wr w1 := ((Below.drew (Below.refl _ _)).trans ((W3_below wr.drew).mono (show w.heap.size + 2 ≤ wr.heap.size by omega))).trans (Below.grown (Below.refl _ _) hg1 (by rw [W3_size]; show w.heap.size + 2 ≤ wr.heap.size + 3; omega) (fun j hj => (World.ownsRow.lt HOX.out.row _ hj).1)); have t1 := (hb1.cell (p := ⟨w.heap.size + 1, 0, none⟩) (show w.heap.size + 1 < w.heap.size + 2 by omega)).trans c1; have t2 := (hb1.frozen (p := ⟨w.heap.size + 1, 0, none⟩) (show w.heap.size + 1 < w.heap.size + 2 by omega)).trans (f1 0); have HO1 := (show Hid _ from ho1); have HG1 := (show Hid _ from hg1); have HN1 := (show Hid _ from hn1); have HB1 := (show Hid _ from hb1); clear ho1 hg1 hn1 hb1)
   all_goals
    have HP := (HO.out.below (Below.drew (Below.refl _ _))).push _ zRow (W3_below _) (W3_row wr.drew) (show w.heap.size + 2 ≤ wr.heap.size by omega) HO1.out HG1.out HN1.out
    have HP1 : Hid (OM w1 (w.heap.size + 2) (.slice (some ⟨g1, 0, none⟩) (S.length + 1) cap1) (S ++ [⟨some ⟨wr.heap.size + 1, 0, none⟩, 1, [⟨some ⟨wr.heap.size, 0, none⟩, 24, 24⟩]⟩]) (newM (k + 1))) := by
     show OM _ _ _ _ _
     rw [newM_succ]
     have e : (S ++ [(⟨some ⟨wr.heap.size + 1, 0, none⟩, 1, [⟨some ⟨wr.heap.size, 0, none⟩, 24, 24⟩]⟩ : RS)]).length = S.length + 1 := by simp
     rw [← e]
     exact HP
    have t3 := (HB1.out.cell (p := ⟨w.heap.size, 0, none⟩) (show w.heap.size < w.heap.size + 2 by omega)).trans c0'
    have hz1 := HB1.out.size
    clear HP
    go_wp2
    go_roundw
    case rel =>
     refine ⟨k + 1, .slice (some ⟨g1, 0, none⟩) (S.length + 1) cap1, _, by omega, by go_num, by simp [HS.out], HP1.out.keepB (fun b hb => Below.heap_setCell _ _ _ b (by show b ≠ w.heap.size + 1; omega)) (by simp), setC_at (by rw [t1]; rfl), ?_, fun j => ?_, fun j => ?_, by simp; omega, ?_⟩
     ·rw [setC_blk (by omega), t3]; rfl
     ·rw [World.frozen?_setCell, HB1.out.frozen (p := ⟨w.heap.size + 1, j, none⟩) (show w.heap.size + 1 < w.heap.size + 2 by omega)]; exact f1 j
     ·rw [World.frozen?_setCell, HB1.out.frozen (p := ⟨w.heap.size, j, none⟩) (show w.heap.size < w.heap.size + 2 by omega)]; exact f0 j
     ·exact (HB.out.trans (HB1.out.mono (by omega))).setCell (p := ⟨w.heap.size + 1, 0, none⟩) (by show w.heap.size ≤ w.heap.size + 1; omega) _
    case measure => simp [intOf]; omega
  ·have e24 : k = 24 := by omega
   subst e24
   go_wp2
   obtain ⟨s', c', ev, hmo⟩ := HO.out.mo
   injection ev with e1 e2 e3
   subst e1
   refine bodyPost_ret (v := .agg #[.slice s 24 c]) (by simp [results, Try.results26, go_sem, c0']) rfl ⟨s, c, S, rfl, ?_, ?_⟩
   ·refine MO.mono (lo := w.heap.size + 2) (hi := wr.heap.size) ?_ (by omega) (by simp)
    exact hmo.keep (fun b h1 h2 => Below.heap_setCell _ _ _ b (by show b ≠ w.heap.size; omega))
   ·exact HB.out.setCell (p := ⟨w.heap.size, 0, none⟩) (Nat.le_refl _) _
end
section
set_option linter.unusedSimpArgs false
set_option linter.unusedVariables false
set_option maxRecDepth 100000
open Go.RowKit
/- new cores -/
def zKD : KD := ⟨0, List.replicate 8 0, List.replicate 24 0, 0⟩
theorem made0 {w : World} {base n : Nat} (hb : base ≤ w.heap.size) (hn : n ≤ 1048576) : OwnN (w.alloc (.cells (madeCells #[.int .i64 0] n) 3)) base (.slice (some ⟨w.heap.size, 0, none⟩) n n) (List.replicate n 0) := by
 have h0 := World.ownsRow_lit (base := base) (e := 3) (size := 1) w (madeCells #[.int .i64 0] n) n hb (by unfold maxLen; omega) (by rw [size_madeCells, Nat.mul_one])
 rw [toList_madeCells_one] at h0
 show World.ownsRow _ _ _ _ _ _ _
 rw [List.length_replicate, List.map_replicate]
 exact h0
def WA (w : World) : World := (w.alloc (.cells (madeCells #[.int .i64 0] 8) 3)).alloc (.cells (madeCells #[.int .i64 0] 24) 3)
def WB (w : World) : World := (w.alloc (.cells (madeCells #[.int .i64 0] 24) 3)).alloc (.cells (madeCells #[.int .i64 0] 8) 3)
def yA (w : World) : KV := ⟨zKD, .slice (some ⟨w.heap.size, 0, none⟩) 8 8, .slice (some ⟨w.heap.size + 1, 0, none⟩) 24 24⟩
def yB (w : World) : KV := ⟨zKD, .slice (some ⟨w.heap.size + 1, 0, none⟩) 8 8, .slice (some ⟨w.heap.size, 0, none⟩) 24 24⟩
theorem WA_below (w : World) : Below w.heap.size w (WA w) := ((Below.refl _ _).alloc (Nat.le_refl _) _).alloc (by simp) _
theorem WB_below (w : World) : Below w.heap.size w (WB w) := ((Below.refl _ _).alloc (Nat.le_refl _) _).alloc (by simp) _
theorem WA_size (w : World) : (WA w).heap.size = w.heap.size + 2 := by simp [WA]
theorem WB_size (w : World) : (WB w).heap.size = w.heap.size + 2 := by simp [WB]
theorem WA_own {w : World} {base : Nat} (hb : base ≤ w.heap.size) : OwnN (WA w) base (yA w).r (yA w).d.regs ∧ OwnN (WA w) base (yA w).v (yA w).d.vw := by
 refine ⟨ownKeep' (made0 (n := 8) hb (by omega)) (fun k hk => Below.heap_alloc _ _ _ ?_), ?_⟩
 ·have hk2 : some w.heap.size = some k := hk
  injection hk2 with hk2
  simp
  omega
 ·have h := made0 (w := w.alloc (.cells (madeCells #[.int .i64 0] 8) 3)) (base := base) (n := 24) (by simp; omega) (by omega)
  rw [World.size_alloc] at h
  exact h
theorem WB_own {w : World} {base : Nat} (hb : base ≤ w.heap.size) : OwnN (WB w) base (yB w).r (yB w).d.regs ∧ OwnN (WB w) base (yB w).v (yB w).d.vw := by
 refine ⟨?_, ownKeep' (made0 (n := 24) hb (by omega)) (fun k hk => Below.heap_alloc _ _ _ ?_)⟩
 ·have h := made0 (w := w.alloc (.cells (madeCells #[.int .i64 0] 24) 3)) (base := base) (n := 8) (by simp; omega) (by omega)
  rw [World.size_alloc] at h
  exact h
 ·have hk2 : some w.heap.size = some k := hk
  injection hk2 with hk2
  simp
  omega
theorem new_sep {w : World} {base : Nat} {v : Value} {L : List KV} (h : OwnK w base v L) {y : KV} (hy : y = yA w ∨ y = yB w) : ∀ (i : Nat) (z : KV) (k : Nat), L[i]? = some z → (y.r.ownBlock = some k ∨ y.v.ownBlock = some k) → ¬ (z.r.ownBlock = some k ∨ z.v.ownBlock = some k) := fun i z k hz hk hk' => by
 have h1 : w.heap.size ≤ k := by
  rcases hy with rfl | rfl <;> rcases hk with hk | hk
  ·have e : some w.heap.size = some k := hk
   injection e with e; omega
  ·have e : some (w.heap.size + 1) = some k := hk
   injection e with e; omega
  ·have e : some (w.heap.size + 1) = some k := hk
   injection e with e; omega
  ·have e : some w.heap.size = some k := hk
   injection e with e; omega
 rcases hk' with hk' | hk'
 ·have := (World.ownsRow.lt (h.inn i z hz).1 _ hk').2
  omega
 ·have := (World.ownsRow.lt (h.inn i z hz).2 _ hk').2
  omega
theorem new_two {w : World} {y : KV} (hy : y = yA w ∨ y = yB w) : ∀ k, y.r.ownBlock = some k → y.v.ownBlock ≠ some k := fun k hk hk' => by
 rcases hy with rfl | rfl
 ·have e : some w.heap.size = some k := hk
  have e' : some (w.heap.size + 1) = some k := hk'
  injection e with e
  injection e' with e'
  omega
 ·have e : some (w.heap.size + 1) = some k := hk
  have e' : some w.heap.size = some k := hk'
  injection e with e
  injection e' with e'
  omega
def newMd (l : List (List I5)) : MD := ⟨l, List.replicate l.length zKD, newM 24, []⟩
def newMa (l : List (List I5)) : MD := if codesB l then newMd l else noMd
theorem view_new : viewB (newM 24) (List.replicate 24 0) = true := by decide +kernel
theorem mem_new : memB (newM 24) = true := by decide +kernel
theorem code_pos {x : List I5} (h : codeB x = true) : 1 ≤ x.length := by
 unfold codeB at h
 simp at h
 omega
theorem mach_new (l : List (List I5)) : machB (newMd l) = codesB l := by
 cases hc : codesB l with
 | false => unfold machB; simp [newMd, hc]
 | true =>
  have ha : l.all codeB = true := by unfold codesB at hc; simp at hc ⊢; exact hc.2
  have hz : coresB (newM 24) (List.replicate l.length zKD) l = true := by
   unfold coresB
   rw [decide_eq_true (by simp)]
   simp only [Bool.true_and]
   refine all_yes (fun i t ht => ?_)
   obtain ⟨h1, h2⟩ := List.getElem?_zip_eq_some.1 ht
   have e1 : t.1 = zKD := by
    rw [List.getElem?_replicate] at h1
    split at h1
    ·injection h1 with h1; exact h1.symm
    ·cases h1
   have hp := code_pos (List.all_eq_true.1 ha t.2 (List.mem_of_getElem? h2))
   unfold coreB
   rw [e1]
   simp only [zKD, List.length_replicate]
   rw [view_new]
   simp [Plain.inB, Plain.oneB]
   omega
  have ht : trB [] (List.replicate l.length zKD).length = true := by simp [trB]
  unfold machB
  simp only [newMd]
  rw [hc, hz, ht, mem_new]
  rfl
theorem szK_new : ∀ n, szK (List.replicate n zKD) = n * 32
 | 0 => rfl
 | n + 1 => by
  rw [List.replicate_succ]
  show zKD.regs.length + zKD.vw.length + szK (List.replicate n zKD) = (n + 1) * 32
  rw [szK_new n]
  show 8 + 24 + n * 32 = (n + 1) * 32
  omega
theorem szR_new : szR (newM 24) = 600 := by decide +kernel
theorem fits_new {l : List (List I5)} (h : l.length + szC l ≤ 1048576) (h4 : l.length ≤ 4) : MaFits (newMd l) := by
 refine ⟨h, ?_, ?_, by simp [newMd]⟩
 ·simp only [newMd, szK_new, List.length_replicate]
  omega
 ·simp only [newMd, szR_new, newM_len]
  omega
theorem MaO.of3 {w : World} {lo hi a1 b1 a2 b2 a3 b3 : Nat} {p : MP} {d : MD} (hc : GO w a1 b1 p.s1 TC p.RC (d.codes.map codeV)) (hm : MO w a2 b2 p.s3 p.S d.mem) (hk : GO w a3 b3 p.s2 TK p.RK (d.cores.map coreV)) (ht : d.tr = []) (l1 : lo ≤ a1) (l2 : b1 ≤ a2) (l3 : b2 ≤ a3) (l4 : b3 ≤ hi) (l5 : a1 ≤ b1 := by omega) (l6 : a2 ≤ b2 := by omega) (l7 : a3 ≤ b3 := by omega) : MaO w lo hi p d := by
 have hv : vAs (p.x4 d) = [] := by simp [MP.x4, VS.wide, vAs, ht]
 refine ⟨hc.mono (by omega) (by omega), hk.mono (by omega) (by omega), hm.mono (by omega) (by omega), ⟨by simp [MP.x4, VS.wide, ht, fl2], .inl (by simp [ht, fl2])⟩, ?_⟩
 unfold MP.as
 rw [hv, List.append_nil]
 refine List.nodup_append.2 ⟨hc.d, List.nodup_append.2 ⟨hk.d, hm.d, fun a ha b hb e => ?_⟩, fun a ha b hb e => ?_⟩
 ·subst e
  have := (hk.blk ha).1
  have := (hm.blk hb).2
  omega
 ·subst e
  have := (hc.blk ha).2
  rcases List.mem_append.1 hb with hb | hb
  ·have := (hk.blk hb).1
   omega
  ·have := (hm.blk hb).1
   omega
end
end Go.Proofs.Ytepfpbcjklaenaa
