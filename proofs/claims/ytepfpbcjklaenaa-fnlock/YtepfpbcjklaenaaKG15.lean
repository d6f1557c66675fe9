/- stepIn of the program. Condition: late is a number of 64 bits. MachineOk of the program. Conditions: the machine is counted. CoreStep of the program. Conditions: the machine is counted, late is a number of 64 bits. -/
import Derived.Test.YtepfpbcjklaenaaKG02
import Derived.Test.YtepfpbcjklaenaaKG00
import Derived.Test.YtepfpbcjklaenaaKG08
import Derived.Test.YtepfpbcjklaenaaKG14
import Derived.Test.YtepfpbcjklaenaaKG06
import Derived.Test.YtepfpbcjklaenaaKG07
import Derived.Test.YtepfpbcjklaenaaKKOkB
import Derived.Test.YtepfpbcjklaenaaKKMQ
import Derived.Test.YtepfpbcjklaenaaKG04
import Derived.Test.YtepfpbcjklaenaaKKApp
import Derived.Test.YtepfpbcjklaenaaKG01
import Derived.Test.YtepfpbcjklaenaaKC7Leaf
import Derived.Test.YtepfpbcjklaenaaKKTn4
import Derived.Test.YtepfpbcjklaenaaKMemOk
import Derived.Deep.RegionWith
namespace Go.Proofs.Ytepfpbcjklaenaa
section
set_option linter.unusedSimpArgs false
set_option linter.unusedVariables false
set_option maxRecDepth 100000
open Go.RowKit
set_option maxHeartbeats 1000000 in
theorem stepIn_no {Hq : Nat → Prop} {w : World} {B bm nk ck : Nat} {sk : Option Addr} {vc vm vt : Value} {LC : List CV} {LK : List KV} {S : List RS} {d : MD} (who late : Int) (h : MQ w B Hq vc (.slice sk nk ck) vm vt LC LK S d) (m1 : w.cell? ⟨bm, 1, none⟩ = some (.slice sk nk ck)) (m3 : w.cell? ⟨bm, 3, none⟩ = some vt) (fm : ∀ j, w.frozen? ⟨bm, j, none⟩ = false) (bx : BxT w bm) (hB : B ≤ w.heap.size) (hn : nk = d.cores.length) (hw : ¬ (0 ≤ who ∧ who < (d.cores.length : Int))) :
  Calls Try.prog 28 #[.pointer (some ⟨bm, 0, none⟩), .agg #[.int .i64 who, .int .i64 late]] w (TurnQ w B Hq bm vc (.slice sk nk ck) vm LC (stepM d who late)) := by
 rw [stepM_none late hw]
 have zm := bx.lt
 have H := hidM1 h
 have HW : Hid (¬ (0 ≤ who ∧ who < (nk : Int))) := by rw [hn]; exact hw
 have M3 := hidM1 m3
 have FM := hidM1 fm
 clear h hn hw m3 fm
 go_enter Try.func28, Try.ntmps28
 go_wp2_with fail
 obtain ⟨V, hV⟩ : ∃ V, w.alloc (.cells #[.int .i64 who, .int .i64 late] 40) = V := ⟨_, rfl⟩
 have kv : Below w.heap.size w V := by subst hV; exact (Below.refl _ _).alloc (Nat.le_refl _) _
 have zV : w.heap.size < V.heap.size := by subst hV; simp
 have t0 : V.cell? ⟨w.heap.size, 0, none⟩ = some (.int .i64 who) := by subst hV; simp [go_sem]
 rw [hV]
 have hne := ext_ne V
 have u0 := Ext.fit t0 zV
 have u1 := Ext.fit ((kv.cell (p := ⟨bm, 1, none⟩) zm).trans m1) (by omega)
 refine regionExt V (by kernel_rfl) (by kernel_rfl) ?_
 repeat (go_big_quiet_step ((rename_i X; go_at_call 51; refine (isOneOf_is _ _ false _ (by have := HW.out; unfold Plain.oneB; simp; omega)).mono ?_; rintro e w3 ⟨rfl, hw3⟩; exact ⟨rfl, by rw [hw3]; exact X.on (Below.refl _ _)⟩)))
 refine wpQuiet_nil ?_
 rintro w3 ⟨X3, rfl⟩
 have KB := hidM1 (kv.trans (X3.b.mono (by omega)))
 clear hne u0 u1 kv t0 hV
 go_wp2
 go_ret
 have hm := KB.out.block bm zm
 exact ⟨rfl, vt, LK, S, H.out.keep (fun b _ h1 => KB.out.block b h1) KB.out.size, (World.cell?_of_block hm).trans M3.out, fun j _ => World.cell?_of_block hm, fun j => (World.frozen?_of_block hm).trans (FM.out j), bx.same hm, KB.out.mono hB, fun b h1 _ _ => KB.out.block b h1⟩
set_option maxHeartbeats 2000000 in
theorem stepIn_yes {Hq : Nat → Prop} {w : World} {B bm p gc cc gk ck gs cs gr cr gv cv gO cO cT who : Nat} {sT : Option Addr} {vc vk vm vt : Value} {LC : List CV} {LK : List KV} {S : List RS} {d : MD} {k : KD} {code : List I5} {s : I5} {late : Int} (h : MQ w B Hq vc vk vm vt LC LK S d) (ha : At8 d who k code s) (O : Op8 w B vc vk vm vt LK d who p k code s gc cc gk ck gs cs gr cr gv cv gO cO sT cT) (m0 : w.cell? ⟨bm, 0, none⟩ = some vc) (m1 : w.cell? ⟨bm, 1, none⟩ = some vk) (m2 : w.cell? ⟨bm, 2, none⟩ = some vm) (m3 : w.cell? ⟨bm, 3, none⟩ = some vt) (fm : ∀ j, w.frozen? ⟨bm, j, none⟩ = false) (bx : BxT w bm) (bB : B ≤ bm) (hB : B ≤ w.heap.size) (hmach : machB d = true) (hlate : late ≤ 9223372036854775807) :
  Calls Try.prog 28 #[.pointer (some ⟨bm, 0, none⟩), .agg #[.int .i64 who, .int .i64 late]] w (TurnQ w B Hq bm vc vk vm LC (stepM d who late)) := by
 have zm := bx.lt
 have ek := O.ek
 subst ek
 obtain ⟨X, hX⟩ : ∃ X, stepM d who late = X := ⟨_, rfl⟩
 rw [hX]
 have HX := hidM1 hX
 have wk := O.wk
 have b0 : (0 : Int) ≤ (who : Int) := by omega
 have hl : (who : Int) < (LK.length : Int) := by omega
 have zk := O.zk
 have H := hidM1 h
 have HA := hidM1 ha
 have HO := hidM1 O
 have M0 := hidM1 m0
 have M1 := hidM1 m1
 have M2 := hidM1 m2
 have M3 := hidM1 m3
 have FM := hidM1 fm
 have HM := hidM1 hmach
 clear h ha O m0 m1 m2 m3 fm hX hmach
 go_enter Try.func28, Try.ntmps28
 go_wp2_with fail
 obtain ⟨V, hV⟩ : ∃ V, w.alloc (.cells #[.int .i64 who, .int .i64 late] 40) = V := ⟨_, rfl⟩
 have kv : Below w.heap.size w V := by subst hV; exact (Below.refl _ _).alloc (Nat.le_refl _) _
 have zV : w.heap.size < V.heap.size := by subst hV; simp
 have t0 : V.cell? ⟨w.heap.size, 0, none⟩ = some (.int .i64 who) := by subst hV; simp [go_sem]
 have t1 : V.cell? ⟨w.heap.size, 1, none⟩ = some (.int .i64 late) := by subst hV; simp [go_sem]
 rw [hV]
 clear hV
 have hne := ext_ne V
 have u0 := Ext.fit t0 zV
 have u1 := Ext.fit ((kv.cell (p := ⟨bm, 1, none⟩) zm).trans M1.out) (by omega)
 refine regionExt V (by kernel_rfl) (by kernel_rfl) ?_
 repeat (go_big_quiet_step ((rename_i X; go_at_call 51; refine (isOneOf_is _ _ true _ (by unfold Plain.oneB; simp; omega)).mono ?_; rintro e w3 ⟨rfl, hw3⟩; exact ⟨rfl, by rw [hw3]; exact X.on (Below.refl _ _)⟩)))
 refine wpQuiet_nil ?_
 rintro w3 ⟨X3, rfl⟩
 obtain ⟨U, hU⟩ : ∃ U, X3.w = U := ⟨_, rfl⟩
 have hb := X3.b
 rw [hU] at hb ⊢
 have kU : Below w.heap.size w U := kv.trans (hb.mono (by omega))
 have sU := hb.size
 have t0u := (hb.cell (p := ⟨w.heap.size, 0, none⟩) zV).trans t0
 have t1u := (hb.cell (p := ⟨w.heap.size, 1, none⟩) zV).trans t1
 clear hne u0 u1 kv t0 t1 hU X3 hb
 go_wp2_with fail
 have hne := ext_ne U
 have u0 := Ext.fit t0u (by omega)
 have u1 := Ext.fit ((kU.cell (p := ⟨bm, 1, none⟩) zm).trans M1.out) (by omega)
 refine regionExt U (by kernel_rfl) (by kernel_rfl) ?_
 repeat (go_big_quiet_step (fail))
 refine wpQuiet_nil ?_
 rintro w3 ⟨X3, rfl⟩
 obtain ⟨T, hT⟩ : ∃ T, X3.w = T := ⟨_, rfl⟩
 have hb := X3.b
 rw [hT] at hb ⊢
 have kT : Below w.heap.size w T := kU.trans (hb.mono (by omega))
 have sT' := hb.size
 have t0t := (hb.cell (p := ⟨w.heap.size, 0, none⟩) (by show w.heap.size < _; omega)).trans t0u
 have t1t := (hb.cell (p := ⟨w.heap.size, 1, none⟩) (by show w.heap.size < _; omega)).trans t1u
 clear hne u0 u1 kU t0u t1u hT X3 hb
 go_wp2_with fail
 have hne := extP_ne T (fun _ => False)
 have u0 := ExtP.fit (E := fun _ => False) t0t (by omega) (fun e => e)
 have u1 := ExtP.fit (E := fun _ => False) t1t (by omega) (fun e => e)
 have u2 := ExtP.fit (E := fun _ => False) ((kT.cell (p := ⟨gk, who * 4 + 2, none⟩) zk).trans HO.out.k2) (by omega) (fun e => e)
 refine regionMix T (CP T (fun _ => False)) 8 9 (by kernel_rfl) (by kernel_rfl) (fun _ _ d _ _ h => by cases d <;> exact h) (CP.drew _ _) ?_
 unfold CP
 dsimp only [List.take, List.drop]
 repeat (go_big_quiet_step (fail))
 refine wpQuiet_nil ?_
 clear hne u0 u1 u2
 unfold wpListC
 go_wp2
 refine And.intro (fun _ hc => CP.below hc ((Below.refl _ _).alloc (Nat.le_refl _) _)) ?_
 refine listC_late _ _ _ _ (by decide) ?_
 go_wp2_with fail
 obtain ⟨Y, hY⟩ : ∃ Y, (T.alloc (.cells #[.slice (some ⟨gv, 0, none⟩) 24 cv, .pointer (some ⟨gk, who * 4, none⟩), .pointer (some ⟨bm, 0, none⟩), .int .i64 who, .int .i64 late] 90)).drew = Y := ⟨_, rfl⟩
 have kY : Below T.heap.size T Y := by subst hY; exact Below.drew ((Below.refl _ _).alloc (Nat.le_refl _) _)
 have sY : T.heap.size < Y.heap.size := by subst hY; show T.heap.size < (T.alloc _).heap.size; simp
 have y0 : Y.cell? ⟨T.heap.size, 0, none⟩ = some (.slice (some ⟨gv, 0, none⟩) 24 cv) := by subst hY; show (T.alloc _).cell? _ = _; simp [go_sem]
 have y1 : Y.cell? ⟨T.heap.size, 1, none⟩ = some (.pointer (some ⟨gk, who * 4, none⟩)) := by subst hY; show (T.alloc _).cell? _ = _; simp [go_sem]
 have y2 : Y.cell? ⟨T.heap.size, 2, none⟩ = some (.pointer (some ⟨bm, 0, none⟩)) := by subst hY; show (T.alloc _).cell? _ = _; simp [go_sem]
 have y3 : Y.cell? ⟨T.heap.size, 3, none⟩ = some (.int .i64 who) := by subst hY; show (T.alloc _).cell? _ = _; simp [go_sem]
 have y4 : Y.cell? ⟨T.heap.size, 4, none⟩ = some (.int .i64 late) := by subst hY; show (T.alloc _).cell? _ = _; simp [go_sem]
 rw [hY]
 clear hY
 have kW : Below w.heap.size w Y := kT.trans (kY.mono (by omega))
 have OY := HO.out.below kW
 have cm : ∀ j, Y.cell? ⟨bm, j, none⟩ = w.cell? ⟨bm, j, none⟩ := fun j => kW.cell (p := ⟨bm, j, none⟩) zm
 have RY : Rn Y T.heap.size bm gk gc gs gr gv who code.length cv cr cs late vc (.slice (some ⟨gk, 0, none⟩) LK.length ck) vm vt d.codes.length cc p k.st := ⟨y0, y1, y2, y3, y4, (cm 0).trans M0.out, (cm 1).trans M1.out, (cm 2).trans M2.out, (cm 3).trans M3.out, fun j => (kW.frozen (p := ⟨bm, j, none⟩) zm).trans (FM.out j), OY.ec, OY.c0, by rw [← OY.hp]; exact OY.k0, OY.k1, OY.k3, OY.fk, OY.wc, sY, by omega, OY.zk, OY.zc, OY.zr⟩
 have TN := turn_any (H.out.keep (w' := Y) (fun b _ h1 => kW.block b h1) kW.size) HA.out OY RY (bx.same (kW.block bm zm)) bB (by omega) HM.out hlate (MQ.far H.out HO.out zm T.heap.size (by omega))
 rw [HX.out] at TN
 have HT := hidM1 TN
 have KW := hidM1 kW
 clear TN OY RY y0 y1 y2 y3 y4 t0t t1t kT kY cm kW
 refine Calls.mono HT.out ?_
 rintro e w6 ⟨rfl, vt6, LK6, S6, q6, c3, cj, fj, bx6, b6, f6⟩
 have Q6 := hidM1 q6
 have C3 := hidM1 c3
 have CJ := hidM1 cj
 have FJ := hidM1 fj
 have BX6 := hidM1 bx6
 have B6 := hidM1 b6
 have F6 := hidM1 f6
 clear q6 c3 cj fj bx6 b6 f6
 go_wp2
 go_ret
 exact ⟨rfl, vt6, LK6, S6, Q6.out, C3.out, fun j hj => (CJ.out j hj).trans (KW.out.cell (p := ⟨bm, j, none⟩) zm), FJ.out, BX6.out, (KW.out.mono hB).trans B6.out, fun b h1 h2 h3 => (F6.out b (by have := KW.out.size; omega) h2 h3).trans (KW.out.block b h1)⟩
theorem stepIn_any {Hq : Nat → Prop} {w : World} {B bm : Nat} {vc vk vm vt : Value} {LC : List CV} {LK : List KV} {S : List RS} {d : MD} (who late : Int) (h : MQ w B Hq vc vk vm vt LC LK S d) (m0 : w.cell? ⟨bm, 0, none⟩ = some vc) (m1 : w.cell? ⟨bm, 1, none⟩ = some vk) (m2 : w.cell? ⟨bm, 2, none⟩ = some vm) (m3 : w.cell? ⟨bm, 3, none⟩ = some vt) (fm : ∀ j, w.frozen? ⟨bm, j, none⟩ = false) (bx : BxT w bm) (bB : B ≤ bm) (hB : B ≤ w.heap.size) (hmach : machB d = true) (hlate : late ≤ 9223372036854775807) :
  Calls Try.prog 28 #[.pointer (some ⟨bm, 0, none⟩), .agg #[.int .i64 who, .int .i64 late]] w (TurnQ w B Hq bm vc vk vm LC (stepM d who late)) := by
 by_cases hw : 0 ≤ who ∧ who < (d.cores.length : Int)
 ·obtain ⟨n, rfl⟩ : ∃ n : Nat, who = (n : Int) := ⟨who.toNat, by omega⟩
  obtain ⟨k, code, s, ha⟩ := mach_at hmach (who := n) (by omega)
  obtain ⟨p, gc, cc, gk, ck, gs, cs, gr, cr, gv, cv, gO, cO, st, ct, O⟩ := h.open ha
  exact stepIn_yes h ha O m0 m1 m2 m3 fm bx bB hB hmach hlate
 ·have lk : LK.length = d.cores.length := by rw [← h.ek, List.length_map]
  obtain ⟨sk, ck, hvk⟩ := ownSl h.k.row
  subst hvk
  exact stepIn_no who late h m1 m3 fm bx hB lk hw
end
section
set_option linter.unusedSimpArgs false
set_option linter.unusedVariables false
set_option maxRecDepth 100000
open Go.RowKit
set_option maxHeartbeats 2000000 in
theorem implMachineOk_any (s1 s2 s3 s4 : Option Addr) (c1 c2 c3 c4 lo hi : Nat) (d : MD) (w : World) (h : MaR w lo hi s1 s2 s3 s4 d) (hB : hi ≤ w.heap.size) (hf : MaFits d) :
  Calls Try.prog 15 #[.agg #[.slice s1 d.codes.length c1, .slice s2 d.cores.length c2, .slice s3 d.mem.length c3, .slice s4 d.tr.length c4]] w fun e w' => e = .returned (.bool (machB d)) ∧ Below w.heap.size w w' := by
 have H : Hid (MaR w lo hi s1 s2 s3 s4 d) := h
 have F1 : d.codes.length + szC d.codes ≤ 1048576 := hf.c
 have F2 : d.cores.length + szK d.cores ≤ 1048576 := by have := hf.k; omega
 have F3 : d.mem.length + szR d.mem ≤ 2000000 := hf.m
 have F4 : d.tr.length ≤ 2000000 := hf.t
 clear h hf
 go_enter Try.func15, Try.ntmps15
 go_wp2_with fail
 obtain ⟨W, hW, bx, kb, zb⟩ := B4.new w (.slice s1 d.codes.length c1) (.slice s2 d.cores.length c2) (.slice s3 d.mem.length c3) (.slice s4 d.tr.length c4) 34
 rw [hW]
 clear hW
 have A0 : Hid (B4 W w.heap.size (.slice s1 d.codes.length c1) (.slice s2 d.cores.length c2) (.slice s3 d.mem.length c3) (.slice s4 d.tr.length c4)) := bx
 have K0 : Hid (Below w.heap.size w W) := kb
 clear bx kb
 refine (codesOk_any s1 c1 lo hi d.codes W (H.out.keep (Keep.of_below K0.out hB)).1 (by omega) F1).mono ?_
 rintro e w1 ⟨rfl, hb1⟩
 have A1 : Hid (B4 w1 w.heap.size (.slice s1 d.codes.length c1) (.slice s2 d.cores.length c2) (.slice s3 d.mem.length c3) (.slice s4 d.tr.length c4)) := A0.out.keep (hb1.mono (Nat.le_refl _)) A0.out.z
 have K1 : Hid (Below w.heap.size w w1) := K0.out.trans (hb1.mono (by omega))
 obtain ⟨p0, p1, p2, p3, p4⟩ := A1.out
 clear hb1
 cases hc : codesB d.codes
 ·have E : Hid (machB d = false) := by show _ = _; unfold machB; rw [hc]; rfl
  clear hc
  go_wp2
  go_ret
  exact ⟨ret_bool' E.out.symm, K1.out⟩
 have HC : Hid (codesB d.codes = true) := hc
 clear hc
 go_wp2_with fail
 have R1 : Hid (MaR w1 lo hi s1 s2 s3 s4 d) := H.out.keep (Keep.of_below K1.out hB)
 refine (coresOk_any s2 s1 s3 c2 c1 c3 lo hi d.cores d.codes d.mem _ R1.out.2.1 R1.out.1 R1.out.2.2.1 (by omega) F2 F1).mono ?_
 rintro e w2 ⟨rfl, hb2⟩
 all_goals
  have hb3 : Below w1.heap.size w1 w2 := ⟨hb2.os, hb2.tape, hb2.output, hb2.size, hb2.block⟩
  have A2 : Hid (B4 w2 w.heap.size (.slice s1 d.codes.length c1) (.slice s2 d.cores.length c2) (.slice s3 d.mem.length c3) (.slice s4 d.tr.length c4)) := A1.out.keep hb3 A1.out.z
  have K2 : Hid (Below w.heap.size w w2) := K1.out.trans (hb3.mono (by omega))
  clear p1 p2 p3 p4 hb2 hb3 R1
  obtain ⟨p0, p1, p2, p3, p4⟩ := A2.out
  cases hc : coresB d.mem d.cores d.codes
  ·have E : Hid (machB d = false) := by show _ = _; unfold machB; rw [hc]; simp
   clear hc
   go_wp2
   go_ret
   exact ⟨ret_bool' E.out.symm, K2.out⟩
  have HK : Hid (coresB d.mem d.cores d.codes = true) := hc
  clear hc
  have R2 : Hid (MaR w2 lo hi s1 s2 s3 s4 d) := H.out.keep (Keep.of_below K2.out hB)
  go_wp2_with fail
  refine (traceOk_any s4 c4 lo hi d.cores.length d.tr _ R2.out.2.2.2 (by omega) F4 (by omega)).mono ?_
  rintro e w3 ⟨rfl, hb4⟩
  all_goals
   have hb5 : Below w2.heap.size w2 w3 := ⟨hb4.os, hb4.tape, hb4.output, hb4.size, hb4.block⟩
   have A3 : Hid (B4 w3 w.heap.size (.slice s1 d.codes.length c1) (.slice s2 d.cores.length c2) (.slice s3 d.mem.length c3) (.slice s4 d.tr.length c4)) := A2.out.keep hb5 A2.out.z
   have K3 : Hid (Below w.heap.size w w3) := K2.out.trans (hb5.mono (by omega))
   clear p1 p2 p3 p4 hb4 hb5 R2
   obtain ⟨p0, p1, p2, p3, p4⟩ := A3.out
   cases hc : trB d.tr d.cores.length
   ·have E : Hid (machB d = false) := by show _ = _; unfold machB; rw [hc]; simp
    clear hc
    go_wp2
    go_ret
    exact ⟨ret_bool' E.out.symm, K3.out⟩
   have HT : Hid (trB d.tr d.cores.length = true) := hc
   clear hc
   have R3 : Hid (MaR w3 lo hi s1 s2 s3 s4 d) := H.out.keep (Keep.of_below K3.out hB)
   have z3 := K3.out.size
   go_wp2_with fail
   refine (implMemoryOk_any s3 c3 lo hi d.mem _ R3.out.2.2.1 (by omega) F3).mono ?_
   rintro e w4 ⟨rfl, hb6⟩
   have K4 : Hid (Below w.heap.size w w4) := K3.out.trans (hb6.mono (by omega))
   have E : Hid (machB d = memB d.mem) := by show _ = _; unfold machB; rw [HC.out, HK.out, HT.out]; rfl
   clear hb6
   go_wp2
   go_ret
   exact ⟨ret_bool' E.out.symm, K4.out⟩
end
section
set_option linter.unusedSimpArgs false
set_option linter.unusedVariables false
set_option maxRecDepth 100000
open Go.RowKit
def noMd : MD := ⟨[], [], [], []⟩
def noMP : MP := ⟨none, 0, [], none, 0, [], none, 0, [], none, 0⟩
theorem noMa (w : World) (lo hi : Nat) : MaO w lo hi noMP noMd := ⟨GO.nil _ _ _ _ _, GO.nil _ _ _ _ _, MO.nil _ _ _ _, ⟨rfl, .inl rfl⟩, by simp [MP.as, noMP, noMd, gAs, mAs, MP.x4, VS.wide, vAs]⟩
end
end Go.Proofs.Ytepfpbcjklaenaa
