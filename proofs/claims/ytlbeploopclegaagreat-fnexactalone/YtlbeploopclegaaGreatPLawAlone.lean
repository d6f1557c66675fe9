/- The law FnExactAlone of the given statements: at every argument Alone of the program answers as the specification's, writes into no argument and keeps nothing of one; its answer owns its memory. No condition. -/
import Derived.Test.YtlbeploopclegaaGreatPG03
import Derived.Test.YtlbeploopclegaaGreatPG05
import Derived.Test.YtlbeploopclegaaGreatPKEq
import Derived.Test.YtlbeploopclegaaGreatPKMark
import Derived.Test.YtlbeploopclegaaGreatPAlWalk
import Derived.Test.YtlbeploopclegaaGreatPAlSpec
import Derived.Deep.RegionHeld3
namespace Go.Proofs.YtlbeploopclegaaGreat
set_option linter.unusedSimpArgs false
set_option linter.unusedVariables false
set_option maxRecDepth 100000
open Go.ChangeShapes Go.WideShapes Go.ChangeAt Go.RowKit Go.Deep
set_option maxRecDepth 100000 in
set_option maxHeartbeats 8000000 in
theorem walkExactAlone (s1 s2 s3 s4 : Option Addr) (c1 c2 c3 c4 : Nat) (d : MD) (l1 l2 : Int) (w : World) (h0 : MaR w 0 w.heap.size s1 s2 s3 s4 d) (m0 : MaLens d) :
  Calls Tryz.prog 3 #[.agg #[.slice s1 d.codes.length c1,.slice s2 d.cores.length c2,.slice s3 d.mem.length c3,.slice s4 d.tr.length c4],.int .i64 l1,.int .i64 l2] w fun e w'=>e=.returned (.bool true)∧Below w.heap.size w w':=by
 have HA0:Hid (MaR w 0 w.heap.size s1 s2 s3 s4 d):=h0
 have HM0:Hid (MaLens d):=m0
 clear h0 m0
 go_enter Tryz.func3,Tryz.ntmps3
 go_wp2_with fail
 have HK:Hid (Below w.heap.size w w):=Below.refl _ _
 obtain ⟨V1,hV1,bx1,kb1,zb1⟩:=Bo4.new w (.slice s1 d.codes.length c1) (.slice s2 d.cores.length c2) (.slice s3 d.mem.length c3) (.slice s4 d.tr.length c4) 29
 rw [hV1]
 clear hV1
 have JK:=hidM1 (HK.out.trans (kb1.mono (by omega)))
 clear HK
 have HK:=JK
 clear JK
 have HA:Hid (Bo4 w.heap.size V1 (.slice s1 d.codes.length c1) (.slice s2 d.cores.length c2) (.slice s3 d.mem.length c3) (.slice s4 d.tr.length c4)):=bx1
 clear bx1 kb1
 refine (szMachine_any s1 s2 s3 s4 c1 c2 c3 c4 0 w.heap.size d V1 (HA0.out.keep (Keep.of_below HK.out (Nat.le_refl _))) (by omega) HM0.out).mono ?_
 rintro e w2 ⟨⟨u,rfl,hu⟩,hb2⟩
 have z2:=hb2.size
 have JK:=hidM1 (HK.out.trans (hb2.mono (by omega)))
 have JA:=hidM1 (HA.out.keep (Keep.of_below hb2 (by omega)))
 clear HK HA
 have HK:=JK
 have HA:=JA
 clear JK JA
 clear hb2
 obtain ⟨Ac0,Ac1,Ac2,Ac3⟩:=HA.out
 have Az:w.heap.size < w2.heap.size:=by omega
 rcases hu with hu | ⟨hu,hf⟩
 ·go_wp2
  go_ret
  exact ⟨rfl,HK.out⟩
 have hun:¬ u < 0:=by omega
 have FK:Hid (MaSz d≤1048576):=hf.1
 have FF:Hid (MaFits d):=MaFits.of hf.1
 clear hf
 have FX:=hidM1 (aloneM_fits d l1 l2 FK.out)
 have CI:=hidM1 (fun (s1 s2 s3 s4:Option Addr) (c1 c2 c3 c4 lo hi:Nat) (w:World) (h:MaR w lo hi s1 s2 s3 s4 d) (hB:hi≤w.heap.size)=>implAlone_any s1 s2 s3 s4 c1 c2 c3 c4 lo hi d l1 l2 w h hB FK.out)
 have CSp:=hidM1 (fun (s1 s2 s3 s4:Option Addr) (c1 c2 c3 c4 lo hi:Nat) (w:World) (h:MaR w lo hi s1 s2 s3 s4 d) (hB:hi≤w.heap.size)=>specAlone_any s1 s2 s3 s4 c1 c2 c3 c4 lo hi d l1 l2 w h hB FK.out)
 obtain ⟨X,hX⟩:∃ X,aloneM d l1 l2=X:=⟨_,rfl⟩
 rw [hX] at FX CI CSp
 clear hX
 go_wp2_with fail
 refine (toMachine_own s1 s2 s3 s4 c1 c2 c3 c4 0 w.heap.size d w2 (HA0.out.keep (Keep.of_below HK.out (Nat.le_refl _))) (by omega) FK.out).mono ?_
 rintro e w3 ⟨xa,rfl,ho3,hb3,z3⟩
 clear Ac0 Ac1 Ac2 Ac3 Az
 have JK:=hidM1 (HK.out.trans (hb3.mono (by omega)))
 have JA:=hidM1 (HA.out.keep (Keep.of_below hb3 (by omega)))
 clear HK HA
 have HK:=JK
 have HA:=JA
 clear JK JA
 have HRa:Hid (MaR w3 w2.heap.size w3.heap.size xa.s1 xa.s2 xa.s3 xa.s4 d):=ho3.ma
 clear hb3 ho3
 obtain ⟨Ac0,Ac1,Ac2,Ac3⟩:=HA.out
 have Az:w.heap.size < w3.heap.size:=by omega
 go_wp2_with fail
 refine (CSp.out _ _ _ _ _ _ _ _ _ _ w3 HRa.out (by omega)).mono ?_
 rintro e w4 ⟨xw,rfl,ho4,hb4⟩
 have z4:=hb4.size
 clear Ac0 Ac1 Ac2 Ac3 Az
 have JK:=hidM1 (HK.out.trans (hb4.mono (by omega)))
 have JA:=hidM1 (HA.out.keep (Keep.of_below hb4 (by omega)))
 have JRa:=hidM1 (HRa.out.keep (Keep.of_below hb4 (by omega)))
 clear HK HA HRa
 have HK:=JK
 have HA:=JA
 have HRa:=JRa
 clear JK JA JRa
 have HRw:Hid (MaR w4 w3.heap.size w4.heap.size xw.s1 xw.s2 xw.s3 xw.s4 X):=ho4.ma
 clear hb4 ho4
 obtain ⟨Ac0,Ac1,Ac2,Ac3⟩:=HA.out
 have Az:w.heap.size < w4.heap.size:=by omega
 go_wp2_with fail
 obtain ⟨V5,hV5,bx5,kb5,zb5⟩:=Bo4.new w4 (.slice xw.s1 X.codes.length xw.c1) (.slice xw.s2 X.cores.length xw.c2) (.slice xw.s3 X.mem.length xw.c3) (.slice xw.s4 X.tr.length xw.c4) 38
 rw [hV5]
 clear hV5
 clear Ac0 Ac1 Ac2 Ac3 Az
 have JK:=hidM1 (HK.out.trans (kb5.mono (by omega)))
 have JA:=hidM1 (HA.out.keep (Keep.of_below kb5 (by omega)))
 have JRa:=hidM1 (HRa.out.keep (Keep.of_below kb5 (by omega)))
 have JRw:=hidM1 (HRw.out.keep (Keep.of_below kb5 (by omega)))
 clear HK HA HRa HRw
 have HK:=JK
 have HA:=JA
 have HRa:=JRa
 have HRw:=JRw
 clear JK JA JRa JRw
 have HXw:Hid (Bo4 w4.heap.size V5 (.slice xw.s1 X.codes.length xw.c1) (.slice xw.s2 X.cores.length xw.c2) (.slice xw.s3 X.mem.length xw.c3) (.slice xw.s4 X.tr.length xw.c4)):=bx5
 clear bx5 kb5
 obtain ⟨Ac0,Ac1,Ac2,Ac3⟩:=HA.out
 have Az:w.heap.size < V5.heap.size:=by omega
 obtain ⟨Xwc0,Xwc1,Xwc2,Xwc3⟩:=HXw.out
 have Xwz:w4.heap.size < V5.heap.size:=by omega
 clear HRa
 refine (toMachine_own s1 s2 s3 s4 c1 c2 c3 c4 0 w.heap.size d V5 (HA0.out.keep (Keep.of_below HK.out (Nat.le_refl _))) (by omega) FK.out).mono ?_
 rintro e w6 ⟨xx,rfl,ho6,hb6,z6⟩
 clear Ac0 Ac1 Ac2 Ac3 Az
 clear Xwc0 Xwc1 Xwc2 Xwc3 Xwz
 have JK:=hidM1 (HK.out.trans (hb6.mono (by omega)))
 have JA:=hidM1 (HA.out.keep (Keep.of_below hb6 (by omega)))
 have JRw:=hidM1 (HRw.out.keep (Keep.of_below hb6 (by omega)))
 have JXw:=hidM1 (HXw.out.keep (Keep.of_below hb6 (by omega)))
 clear HK HA HRw HXw
 have HK:=JK
 have HA:=JA
 have HRw:=JRw
 have HXw:=JXw
 clear JK JA JRw JXw
 have HRx:Hid (MaR w6 V5.heap.size w6.heap.size xx.s1 xx.s2 xx.s3 xx.s4 d):=ho6.ma
 have HOx:Hid (MaO w6 V5.heap.size w6.heap.size xx d):=ho6
 clear hb6 ho6
 obtain ⟨Ac0,Ac1,Ac2,Ac3⟩:=HA.out
 have Az:w.heap.size < w6.heap.size:=by omega
 obtain ⟨Xwc0,Xwc1,Xwc2,Xwc3⟩:=HXw.out
 have Xwz:w4.heap.size < w6.heap.size:=by omega
 go_wp2_with fail
 obtain ⟨V7,hV7,bx7,kb7,zb7⟩:=Bo4.new w6 (.slice xx.s1 d.codes.length xx.c1) (.slice xx.s2 d.cores.length xx.c2) (.slice xx.s3 d.mem.length xx.c3) (.slice xx.s4 d.tr.length xx.c4) 38
 rw [hV7]
 clear hV7
 clear Ac0 Ac1 Ac2 Ac3 Az
 clear Xwc0 Xwc1 Xwc2 Xwc3 Xwz
 have JK:=hidM1 (HK.out.trans (kb7.mono (by omega)))
 have JA:=hidM1 (HA.out.keep (Keep.of_below kb7 (by omega)))
 have JRw:=hidM1 (HRw.out.keep (Keep.of_below kb7 (by omega)))
 have JXw:=hidM1 (HXw.out.keep (Keep.of_below kb7 (by omega)))
 have JRx:=hidM1 (HRx.out.keep (Keep.of_below kb7 (by omega)))
 have JOx:=hidM1 (HOx.out.keep (Keep.of_below kb7 (by omega)))
 clear HK HA HRw HXw HRx HOx
 have HK:=JK
 have HA:=JA
 have HRw:=JRw
 have HXw:=JXw
 have HRx:=JRx
 have HOx:=JOx
 clear JK JA JRw JXw JRx JOx
 have HXx:Hid (Bo4 w6.heap.size V7 (.slice xx.s1 d.codes.length xx.c1) (.slice xx.s2 d.cores.length xx.c2) (.slice xx.s3 d.mem.length xx.c3) (.slice xx.s4 d.tr.length xx.c4)):=bx7
 clear bx7 kb7
 obtain ⟨Ac0,Ac1,Ac2,Ac3⟩:=HA.out
 have Az:w.heap.size < V7.heap.size:=by omega
 obtain ⟨Xwc0,Xwc1,Xwc2,Xwc3⟩:=HXw.out
 have Xwz:w4.heap.size < V7.heap.size:=by omega
 obtain ⟨Xxc0,Xxc1,Xxc2,Xxc3⟩:=HXx.out
 have Xxz:w6.heap.size < V7.heap.size:=by omega
 refine (CI.out _ _ _ _ _ _ _ _ _ _ V7 HRx.out (by omega)).mono ?_
 rintro e w8 ⟨xg,rfl,ho8,hb8⟩
 have z8:=hb8.size
 clear Ac0 Ac1 Ac2 Ac3 Az
 clear Xwc0 Xwc1 Xwc2 Xwc3 Xwz
 clear Xxc0 Xxc1 Xxc2 Xxc3 Xxz
 have JK:=hidM1 (HK.out.trans (hb8.mono (by omega)))
 have JA:=hidM1 (HA.out.keep (Keep.of_below hb8 (by omega)))
 have JRw:=hidM1 (HRw.out.keep (Keep.of_below hb8 (by omega)))
 have JXw:=hidM1 (HXw.out.keep (Keep.of_below hb8 (by omega)))
 have JRx:=hidM1 (HRx.out.keep (Keep.of_below hb8 (by omega)))
 have JOx:=hidM1 (HOx.out.keep (Keep.of_below hb8 (by omega)))
 have JXx:=hidM1 (HXx.out.keep (Keep.of_below hb8 (by omega)))
 clear HK HA HRw HXw HRx HOx HXx
 have HK:=JK
 have HA:=JA
 have HRw:=JRw
 have HXw:=JXw
 have HRx:=JRx
 have HOx:=JOx
 have HXx:=JXx
 clear JK JA JRw JXw JRx JOx JXx
 have HRg:Hid (MaR w8 V7.heap.size w8.heap.size xg.s1 xg.s2 xg.s3 xg.s4 X):=ho8.ma
 have HOg:Hid (MaSh w8 V7.heap.size w8.heap.size xg X):=ho8.sh
 clear hb8 ho8
 obtain ⟨Ac0,Ac1,Ac2,Ac3⟩:=HA.out
 have Az:w.heap.size < w8.heap.size:=by omega
 obtain ⟨Xwc0,Xwc1,Xwc2,Xwc3⟩:=HXw.out
 have Xwz:w4.heap.size < w8.heap.size:=by omega
 obtain ⟨Xxc0,Xxc1,Xxc2,Xxc3⟩:=HXx.out
 have Xxz:w6.heap.size < w8.heap.size:=by omega
 go_wp2_with fail
 obtain ⟨V9,hV9,bx9,kb9,zb9⟩:=Bo4.new w8 (.slice xg.s1 X.codes.length xg.c1) (.slice xg.s2 X.cores.length xg.c2) (.slice xg.s3 X.mem.length xg.c3) (.slice xg.s4 X.tr.length xg.c4) 38
 rw [hV9]
 clear hV9
 clear Ac0 Ac1 Ac2 Ac3 Az
 clear Xwc0 Xwc1 Xwc2 Xwc3 Xwz
 clear Xxc0 Xxc1 Xxc2 Xxc3 Xxz
 have JK:=hidM1 (HK.out.trans (kb9.mono (by omega)))
 have JA:=hidM1 (HA.out.keep (Keep.of_below kb9 (by omega)))
 have JRw:=hidM1 (HRw.out.keep (Keep.of_below kb9 (by omega)))
 have JXw:=hidM1 (HXw.out.keep (Keep.of_below kb9 (by omega)))
 have JRx:=hidM1 (HRx.out.keep (Keep.of_below kb9 (by omega)))
 have JOx:=hidM1 (HOx.out.keep (Keep.of_below kb9 (by omega)))
 have JXx:=hidM1 (HXx.out.keep (Keep.of_below kb9 (by omega)))
 have JRg:=hidM1 (HRg.out.keep (Keep.of_below kb9 (by omega)))
 have JOg:=hidM1 (HOg.out.keep (Keep.of_below kb9 (by omega)))
 clear HK HA HRw HXw HRx HOx HXx HRg HOg
 have HK:=JK
 have HA:=JA
 have HRw:=JRw
 have HXw:=JXw
 have HRx:=JRx
 have HOx:=JOx
 have HXx:=JXx
 have HRg:=JRg
 have HOg:=JOg
 clear JK JA JRw JXw JRx JOx JXx JRg JOg
 have HXg:Hid (Bo4 w8.heap.size V9 (.slice xg.s1 X.codes.length xg.c1) (.slice xg.s2 X.cores.length xg.c2) (.slice xg.s3 X.mem.length xg.c3) (.slice xg.s4 X.tr.length xg.c4)):=bx9
 clear bx9 kb9
 obtain ⟨Ac0,Ac1,Ac2,Ac3⟩:=HA.out
 have Az:w.heap.size < V9.heap.size:=by omega
 obtain ⟨Xwc0,Xwc1,Xwc2,Xwc3⟩:=HXw.out
 have Xwz:w4.heap.size < V9.heap.size:=by omega
 obtain ⟨Xxc0,Xxc1,Xxc2,Xxc3⟩:=HXx.out
 have Xxz:w6.heap.size < V9.heap.size:=by omega
 obtain ⟨Xgc0,Xgc1,Xgc2,Xgc3⟩:=HXg.out
 have Xgz:w8.heap.size < V9.heap.size:=by omega
 refine (eqMachine_alike _ _ _ _ _ _ _ _ _ _ _ _ _ _ _ _ _ _ _ _ X V9 HRg.out HRw.out (by omega) (by omega) FX.out).mono ?_
 rintro e w10 ⟨rfl,hb10⟩
 have z10:=hb10.size
 clear Ac0 Ac1 Ac2 Ac3 Az
 clear Xwc0 Xwc1 Xwc2 Xwc3 Xwz
 clear Xxc0 Xxc1 Xxc2 Xxc3 Xxz
 clear Xgc0 Xgc1 Xgc2 Xgc3 Xgz
 have JK:=hidM1 (HK.out.trans (hb10.mono (by omega)))
 have JA:=hidM1 (HA.out.keep (Keep.of_below hb10 (by omega)))
 have JRw:=hidM1 (HRw.out.keep (Keep.of_below hb10 (by omega)))
 have JXw:=hidM1 (HXw.out.keep (Keep.of_below hb10 (by omega)))
 have JRx:=hidM1 (HRx.out.keep (Keep.of_below hb10 (by omega)))
 have JOx:=hidM1 (HOx.out.keep (Keep.of_below hb10 (by omega)))
 have JXx:=hidM1 (HXx.out.keep (Keep.of_below hb10 (by omega)))
 have JRg:=hidM1 (HRg.out.keep (Keep.of_below hb10 (by omega)))
 have JOg:=hidM1 (HOg.out.keep (Keep.of_below hb10 (by omega)))
 have JXg:=hidM1 (HXg.out.keep (Keep.of_below hb10 (by omega)))
 clear HK HA HRw HXw HRx HOx HXx HRg HOg HXg
 have HK:=JK
 have HA:=JA
 have HRw:=JRw
 have HXw:=JXw
 have HRx:=JRx
 have HOx:=JOx
 have HXx:=JXx
 have HRg:=JRg
 have HOg:=JOg
 have HXg:=JXg
 clear JK JA JRw JXw JRx JOx JXx JRg JOg JXg
 clear hb10
 obtain ⟨Ac0,Ac1,Ac2,Ac3⟩:=HA.out
 have Az:w.heap.size < w10.heap.size:=by omega
 obtain ⟨Xwc0,Xwc1,Xwc2,Xwc3⟩:=HXw.out
 have Xwz:w4.heap.size < w10.heap.size:=by omega
 obtain ⟨Xxc0,Xxc1,Xxc2,Xxc3⟩:=HXx.out
 have Xxz:w6.heap.size < w10.heap.size:=by omega
 obtain ⟨Xgc0,Xgc1,Xgc2,Xgc3⟩:=HXg.out
 have Xgz:w8.heap.size < w10.heap.size:=by omega
 go_wp2_with fail
 go_region_held3 (fun w'=>w'.cell? ⟨w6.heap.size,0,none⟩=some (.slice xx.s1 d.codes.length xx.c1)∧w'.cell? ⟨w6.heap.size,1,none⟩=some (.slice xx.s2 d.cores.length xx.c2)∧w'.cell? ⟨w6.heap.size,2,none⟩=some (.slice xx.s3 d.mem.length xx.c3)∧w'.cell? ⟨w6.heap.size,3,none⟩=some (.slice xx.s4 d.tr.length xx.c4)∧w'.cell? ⟨w.heap.size,0,none⟩=some (.slice s1 d.codes.length c1)∧w'.cell? ⟨w.heap.size,1,none⟩=some (.slice s2 d.cores.length c2)∧w'.cell? ⟨w.heap.size,2,none⟩=some (.slice s3 d.mem.length c3)∧w'.cell? ⟨w.heap.size,3,none⟩=some (.slice s4 d.tr.length c4)) (go_keep) (first | (go_at_call 7;refine (toMachine_own s1 s2 s3 s4 c1 c2 c3 c4 0 w.heap.size d w10.drew (HA0.out.keep (Keep.of_below HK.out.drew (Nat.le_refl _))) (by show w.heap.size≤w10.heap.size;omega) FK.out).mono ?_;rintro e w11 ⟨xq,rfl,ho11,hb11,hz11⟩;have kx:Below w10.heap.size w10 w11:=(Below.drew (Below.refl _ _)).trans hb11;have kz:=kx.size;have XX:=HXx.out.keep (Keep.of_below kx (by omega));have AA:=HA.out.keep (Keep.of_below kx (by omega));have t0:=XX.c0;have t1:=XX.c1;have t2:=XX.c2;have t3:=XX.c3;have t4:=AA.c0;have t5:=AA.c1;have t6:=AA.c2;have t7:=AA.c3) | (go_at_call 9;refine (eqMachine_alike xx.s1 xx.s2 xx.s3 xx.s4 xq.s1 xq.s2 xq.s3 xq.s4 _ _ _ _ _ _ _ _ V5.heap.size w6.heap.size w10.heap.size w11.heap.size d w11 (HRx.out.keep (Keep.of_below kx (by omega))) (ho11.ma) (by omega) (Nat.le_refl _) FF.out).mono ?_;rintro e w12 ⟨rfl,hb12⟩;have ky:Below w10.heap.size w10 w12:=kx.trans (hb12.mono (by omega));have XY:=XX.keep (Keep.of_below hb12 (by omega));have AY:=AA.keep (Keep.of_below hb12 (by omega));have u0:=XY.c0;have u1:=XY.c1;have u2:=XY.c2;have u3:=XY.c3;have u4:=AY.c0;have u5:=AY.c1;have u6:=AY.c2;have u7:=AY.c3))
 have z12:=ky.size
 clear t0 u0 t1 u1 t2 u2 t3 u3 t4 u4 t5 u5 t6 u6 t7 u7 XX AA XY AY hb11 hb12 ho11 hz11 kx kz
 clear Ac0 Ac1 Ac2 Ac3 Az
 clear Xwc0 Xwc1 Xwc2 Xwc3 Xwz
 clear Xxc0 Xxc1 Xxc2 Xxc3 Xxz
 clear Xgc0 Xgc1 Xgc2 Xgc3 Xgz
 have JK:=hidM1 (HK.out.trans (ky.mono (by omega)))
 have JA:=hidM1 (HA.out.keep (Keep.of_below ky (by omega)))
 have JRw:=hidM1 (HRw.out.keep (Keep.of_below ky (by omega)))
 have JXw:=hidM1 (HXw.out.keep (Keep.of_below ky (by omega)))
 have JRx:=hidM1 (HRx.out.keep (Keep.of_below ky (by omega)))
 have JOx:=hidM1 (HOx.out.keep (Keep.of_below ky (by omega)))
 have JXx:=hidM1 (HXx.out.keep (Keep.of_below ky (by omega)))
 have JRg:=hidM1 (HRg.out.keep (Keep.of_below ky (by omega)))
 have JOg:=hidM1 (HOg.out.keep (Keep.of_below ky (by omega)))
 have JXg:=hidM1 (HXg.out.keep (Keep.of_below ky (by omega)))
 clear HK HA HRw HXw HRx HOx HXx HRg HOg HXg
 have HK:=JK
 have HA:=JA
 have HRw:=JRw
 have HXw:=JXw
 have HRx:=JRx
 have HOx:=JOx
 have HXx:=JXx
 have HRg:=JRg
 have HOg:=JOg
 have HXg:=JXg
 clear JK JA JRw JXw JRx JOx JXx JRg JOg JXg
 clear ky
 obtain ⟨Ac0,Ac1,Ac2,Ac3⟩:=HA.out
 have Az:w.heap.size < w12.heap.size:=by omega
 obtain ⟨Xwc0,Xwc1,Xwc2,Xwc3⟩:=HXw.out
 have Xwz:w4.heap.size < w12.heap.size:=by omega
 obtain ⟨Xxc0,Xxc1,Xxc2,Xxc3⟩:=HXx.out
 have Xxz:w6.heap.size < w12.heap.size:=by omega
 obtain ⟨Xgc0,Xgc1,Xgc2,Xgc3⟩:=HXg.out
 have Xgz:w8.heap.size < w12.heap.size:=by omega
 go_wp2_with fail
 refine (markMachine_any xx d _ _ 1 w12 HOx.out.sh (by omega) FF.out (by omega) (by omega)).mono ?_
 rintro e w13 ⟨rfl,hm13,ex13,-⟩
 have z13:=ex13.size
 obtain ⟨N,hN⟩:∃ n:Nat,xx.len d=n:=⟨_,rfl⟩
 rw [hN]
 clear hN
 have hN0:¬ 1+(N:Int) < 0:=by omega
 clear Ac0 Ac1 Ac2 Ac3 Az
 clear Xwc0 Xwc1 Xwc2 Xwc3 Xwz
 clear Xxc0 Xxc1 Xxc2 Xxc3 Xxz
 clear Xgc0 Xgc1 Xgc2 Xgc3 Xgz
 have JK:=hidM1 (HK.out.trans (ex13.below (by omega) (by omega)))
 have JA:=hidM1 (HA.out.keep (Keep.of_exc ex13 (by omega) (by omega)))
 have JRw:=hidM1 (HRw.out.keep (Keep.of_exc ex13 (by omega) (by omega)))
 have JXw:=hidM1 (HXw.out.keep (Keep.of_exc ex13 (by omega) (by omega)))
 have JXx:=hidM1 (HXx.out.keep (Keep.of_exc ex13 (by omega) (by omega)))
 have JRg:=hidM1 (HRg.out.keep (Keep.of_exc ex13 (by omega) (by omega)))
 have JOg:=hidM1 (HOg.out.keep (Keep.of_exc ex13 (by omega) (by omega)))
 have JXg:=hidM1 (HXg.out.keep (Keep.of_exc ex13 (by omega) (by omega)))
 clear HK HA HRw HXw HRx HOx HXx HRg HOg HXg
 have HK:=JK
 have HA:=JA
 have HRw:=JRw
 have HXw:=JXw
 have HXx:=JXx
 have HRg:=JRg
 have HOg:=JOg
 have HXg:=JXg
 clear JK JA JRw JXw JXx JRg JOg JXg
 clear ex13 hm13
 obtain ⟨Ac0,Ac1,Ac2,Ac3⟩:=HA.out
 have Az:w.heap.size < w13.heap.size:=by omega
 obtain ⟨Xwc0,Xwc1,Xwc2,Xwc3⟩:=HXw.out
 have Xwz:w4.heap.size < w13.heap.size:=by omega
 obtain ⟨Xxc0,Xxc1,Xxc2,Xxc3⟩:=HXx.out
 have Xxz:w6.heap.size < w13.heap.size:=by omega
 obtain ⟨Xgc0,Xgc1,Xgc2,Xgc3⟩:=HXg.out
 have Xgz:w8.heap.size < w13.heap.size:=by omega
 go_wp2_with fail
 refine (eqMachine_alike _ _ _ _ _ _ _ _ _ _ _ _ _ _ _ _ _ _ _ _ X w13 HRg.out HRw.out (by omega) (by omega) FX.out).mono ?_
 rintro e w14 ⟨rfl,hb14⟩
 have z14:=hb14.size
 clear Ac0 Ac1 Ac2 Ac3 Az
 clear Xwc0 Xwc1 Xwc2 Xwc3 Xwz
 clear Xxc0 Xxc1 Xxc2 Xxc3 Xxz
 clear Xgc0 Xgc1 Xgc2 Xgc3 Xgz
 have JK:=hidM1 (HK.out.trans (hb14.mono (by omega)))
 have JA:=hidM1 (HA.out.keep (Keep.of_below hb14 (by omega)))
 have JRw:=hidM1 (HRw.out.keep (Keep.of_below hb14 (by omega)))
 have JXw:=hidM1 (HXw.out.keep (Keep.of_below hb14 (by omega)))
 have JXx:=hidM1 (HXx.out.keep (Keep.of_below hb14 (by omega)))
 have JRg:=hidM1 (HRg.out.keep (Keep.of_below hb14 (by omega)))
 have JOg:=hidM1 (HOg.out.keep (Keep.of_below hb14 (by omega)))
 have JXg:=hidM1 (HXg.out.keep (Keep.of_below hb14 (by omega)))
 clear HK HA HRw HXw HXx HRg HOg HXg
 have HK:=JK
 have HA:=JA
 have HRw:=JRw
 have HXw:=JXw
 have HXx:=JXx
 have HRg:=JRg
 have HOg:=JOg
 have HXg:=JXg
 clear JK JA JRw JXw JXx JRg JOg JXg
 clear hb14
 obtain ⟨Ac0,Ac1,Ac2,Ac3⟩:=HA.out
 have Az:w.heap.size < w14.heap.size:=by omega
 obtain ⟨Xwc0,Xwc1,Xwc2,Xwc3⟩:=HXw.out
 have Xwz:w4.heap.size < w14.heap.size:=by omega
 obtain ⟨Xxc0,Xxc1,Xxc2,Xxc3⟩:=HXx.out
 have Xxz:w6.heap.size < w14.heap.size:=by omega
 obtain ⟨Xgc0,Xgc1,Xgc2,Xgc3⟩:=HXg.out
 have Xgz:w8.heap.size < w14.heap.size:=by omega
 go_wp2_with fail
 refine (markMachine_any xg X _ _ 1 w14 HOg.out (by omega) FX.out (by omega) (by omega)).mono ?_
 rintro e w15 ⟨rfl,hm15,ex15,-⟩
 have z15:=ex15.size
 obtain ⟨M,hM⟩:∃ n:Nat,xg.len X=n:=⟨_,rfl⟩
 rw [hM]
 have HLM:Hid (xg.len X=M):=hM
 clear hM
 have hM0:¬ 1+(M:Int) < 0:=by omega
 have hMM:((1+(M:Int)) !=(1+(M:Int)))=false:=by simp
 clear Ac0 Ac1 Ac2 Ac3 Az
 clear Xwc0 Xwc1 Xwc2 Xwc3 Xwz
 clear Xxc0 Xxc1 Xxc2 Xxc3 Xxz
 clear Xgc0 Xgc1 Xgc2 Xgc3 Xgz
 have JK:=hidM1 (HK.out.trans (ex15.below (by omega) (by omega)))
 have JA:=hidM1 (HA.out.keep (Keep.of_exc ex15 (by omega) (by omega)))
 have JRw:=hidM1 (HRw.out.keep (Keep.of_exc ex15 (by omega) (by omega)))
 have JXw:=hidM1 (HXw.out.keep (Keep.of_exc ex15 (by omega) (by omega)))
 have JXx:=hidM1 (HXx.out.keep (Keep.of_exc ex15 (by omega) (by omega)))
 have JXg:=hidM1 (HXg.out.keep (Keep.of_exc ex15 (by omega) (by omega)))
 clear HK HA HRw HXw HXx HRg HOg HXg
 have HK:=JK
 have HA:=JA
 have HRw:=JRw
 have HXw:=JXw
 have HXx:=JXx
 have HXg:=JXg
 clear JK JA JRw JXw JXx JXg
 have HD:Hid (MaMk w15 V7.heap.size w8.heap.size xg X 1):=hm15
 clear ex15 hm15
 obtain ⟨Ac0,Ac1,Ac2,Ac3⟩:=HA.out
 have Az:w.heap.size < w15.heap.size:=by omega
 obtain ⟨Xwc0,Xwc1,Xwc2,Xwc3⟩:=HXw.out
 have Xwz:w4.heap.size < w15.heap.size:=by omega
 obtain ⟨Xxc0,Xxc1,Xxc2,Xxc3⟩:=HXx.out
 have Xxz:w6.heap.size < w15.heap.size:=by omega
 obtain ⟨Xgc0,Xgc1,Xgc2,Xgc3⟩:=HXg.out
 have Xgz:w8.heap.size < w15.heap.size:=by omega
 go_wp2_with fail
 refine (heldMachine_any xg X _ _ 1 w15 HD.out (by omega) FX.out (by omega) (by omega)).mono ?_
 rintro e w16 ⟨rfl,hb16⟩
 have z16:=hb16.size
 clear Ac0 Ac1 Ac2 Ac3 Az
 clear Xwc0 Xwc1 Xwc2 Xwc3 Xwz
 clear Xxc0 Xxc1 Xxc2 Xxc3 Xxz
 clear Xgc0 Xgc1 Xgc2 Xgc3 Xgz
 have JK:=hidM1 (HK.out.trans (hb16.mono (by omega)))
 have JA:=hidM1 (HA.out.keep (Keep.of_below hb16 (by omega)))
 have JRw:=hidM1 (HRw.out.keep (Keep.of_below hb16 (by omega)))
 have JXw:=hidM1 (HXw.out.keep (Keep.of_below hb16 (by omega)))
 have JXx:=hidM1 (HXx.out.keep (Keep.of_below hb16 (by omega)))
 have JXg:=hidM1 (HXg.out.keep (Keep.of_below hb16 (by omega)))
 have JD:=hidM1 (HD.out.keep (Keep.of_below hb16 (by omega)))
 clear HK HA HRw HXw HXx HXg HD
 have HK:=JK
 have HA:=JA
 have HRw:=JRw
 have HXw:=JXw
 have HXx:=JXx
 have HXg:=JXg
 have HD:=JD
 clear JK JA JRw JXw JXx JXg JD
 clear hb16
 rw [HLM.out]
 obtain ⟨Ac0,Ac1,Ac2,Ac3⟩:=HA.out
 have Az:w.heap.size < w16.heap.size:=by omega
 obtain ⟨Xwc0,Xwc1,Xwc2,Xwc3⟩:=HXw.out
 have Xwz:w4.heap.size < w16.heap.size:=by omega
 obtain ⟨Xxc0,Xxc1,Xxc2,Xxc3⟩:=HXx.out
 have Xxz:w6.heap.size < w16.heap.size:=by omega
 obtain ⟨Xgc0,Xgc1,Xgc2,Xgc3⟩:=HXg.out
 have Xgz:w8.heap.size < w16.heap.size:=by omega
 go_wp2_with fail
 refine (toMachine_own s1 s2 s3 s4 c1 c2 c3 c4 0 w.heap.size d w16 (HA0.out.keep (Keep.of_below HK.out (Nat.le_refl _))) (by omega) FK.out).mono ?_
 rintro e w17 ⟨xc,rfl,ho17,hb17,z17⟩
 clear Ac0 Ac1 Ac2 Ac3 Az
 clear Xwc0 Xwc1 Xwc2 Xwc3 Xwz
 clear Xxc0 Xxc1 Xxc2 Xxc3 Xxz
 clear Xgc0 Xgc1 Xgc2 Xgc3 Xgz
 have JK:=hidM1 (HK.out.trans (hb17.mono (by omega)))
 have JA:=hidM1 (HA.out.keep (Keep.of_below hb17 (by omega)))
 have JRw:=hidM1 (HRw.out.keep (Keep.of_below hb17 (by omega)))
 have JXw:=hidM1 (HXw.out.keep (Keep.of_below hb17 (by omega)))
 have JXx:=hidM1 (HXx.out.keep (Keep.of_below hb17 (by omega)))
 have JXg:=hidM1 (HXg.out.keep (Keep.of_below hb17 (by omega)))
 have JD:=hidM1 (HD.out.keep (Keep.of_below hb17 (by omega)))
 clear HK HA HRw HXw HXx HXg HD
 have HK:=JK
 have HA:=JA
 have HRw:=JRw
 have HXw:=JXw
 have HXx:=JXx
 have HXg:=JXg
 have HD:=JD
 clear JK JA JRw JXw JXx JXg JD
 have HRc:Hid (MaR w17 w16.heap.size w17.heap.size xc.s1 xc.s2 xc.s3 xc.s4 d):=ho17.ma
 clear hb17 ho17
 obtain ⟨Ac0,Ac1,Ac2,Ac3⟩:=HA.out
 have Az:w.heap.size < w17.heap.size:=by omega
 obtain ⟨Xwc0,Xwc1,Xwc2,Xwc3⟩:=HXw.out
 have Xwz:w4.heap.size < w17.heap.size:=by omega
 obtain ⟨Xxc0,Xxc1,Xxc2,Xxc3⟩:=HXx.out
 have Xxz:w6.heap.size < w17.heap.size:=by omega
 obtain ⟨Xgc0,Xgc1,Xgc2,Xgc3⟩:=HXg.out
 have Xgz:w8.heap.size < w17.heap.size:=by omega
 go_wp2_with fail
 refine (CI.out _ _ _ _ _ _ _ _ _ _ w17 HRc.out (by omega)).mono ?_
 rintro e w18 ⟨xk,rfl,ho18,hb18⟩
 have z18:=hb18.size
 clear Ac0 Ac1 Ac2 Ac3 Az
 clear Xwc0 Xwc1 Xwc2 Xwc3 Xwz
 clear Xxc0 Xxc1 Xxc2 Xxc3 Xxz
 clear Xgc0 Xgc1 Xgc2 Xgc3 Xgz
 have JK:=hidM1 (HK.out.trans (hb18.mono (by omega)))
 have JA:=hidM1 (HA.out.keep (Keep.of_below hb18 (by omega)))
 have JRw:=hidM1 (HRw.out.keep (Keep.of_below hb18 (by omega)))
 have JXw:=hidM1 (HXw.out.keep (Keep.of_below hb18 (by omega)))
 have JXx:=hidM1 (HXx.out.keep (Keep.of_below hb18 (by omega)))
 have JXg:=hidM1 (HXg.out.keep (Keep.of_below hb18 (by omega)))
 have JD:=hidM1 (HD.out.keep (Keep.of_below hb18 (by omega)))
 have JRc:=hidM1 (HRc.out.keep (Keep.of_below hb18 (by omega)))
 clear HK HA HRw HXw HXx HXg HD HRc
 have HK:=JK
 have HA:=JA
 have HRw:=JRw
 have HXw:=JXw
 have HXx:=JXx
 have HXg:=JXg
 have HD:=JD
 have HRc:=JRc
 clear JK JA JRw JXw JXx JXg JD JRc
 have HRk:Hid (MaR w18 w17.heap.size w18.heap.size xk.s1 xk.s2 xk.s3 xk.s4 X):=ho18.ma
 clear hb18 ho18
 obtain ⟨Ac0,Ac1,Ac2,Ac3⟩:=HA.out
 have Az:w.heap.size < w18.heap.size:=by omega
 obtain ⟨Xwc0,Xwc1,Xwc2,Xwc3⟩:=HXw.out
 have Xwz:w4.heap.size < w18.heap.size:=by omega
 obtain ⟨Xxc0,Xxc1,Xxc2,Xxc3⟩:=HXx.out
 have Xxz:w6.heap.size < w18.heap.size:=by omega
 obtain ⟨Xgc0,Xgc1,Xgc2,Xgc3⟩:=HXg.out
 have Xgz:w8.heap.size < w18.heap.size:=by omega
 go_wp2_with fail
 obtain ⟨V19,hV19,bx19,kb19,zb19⟩:=Bo4.new w18 (.slice xk.s1 X.codes.length xk.c1) (.slice xk.s2 X.cores.length xk.c2) (.slice xk.s3 X.mem.length xk.c3) (.slice xk.s4 X.tr.length xk.c4) 38
 rw [hV19]
 clear hV19
 clear Ac0 Ac1 Ac2 Ac3 Az
 clear Xwc0 Xwc1 Xwc2 Xwc3 Xwz
 clear Xxc0 Xxc1 Xxc2 Xxc3 Xxz
 clear Xgc0 Xgc1 Xgc2 Xgc3 Xgz
 have JK:=hidM1 (HK.out.trans (kb19.mono (by omega)))
 have JA:=hidM1 (HA.out.keep (Keep.of_below kb19 (by omega)))
 have JRw:=hidM1 (HRw.out.keep (Keep.of_below kb19 (by omega)))
 have JXw:=hidM1 (HXw.out.keep (Keep.of_below kb19 (by omega)))
 have JXx:=hidM1 (HXx.out.keep (Keep.of_below kb19 (by omega)))
 have JXg:=hidM1 (HXg.out.keep (Keep.of_below kb19 (by omega)))
 have JD:=hidM1 (HD.out.keep (Keep.of_below kb19 (by omega)))
 have JRc:=hidM1 (HRc.out.keep (Keep.of_below kb19 (by omega)))
 have JRk:=hidM1 (HRk.out.keep (Keep.of_below kb19 (by omega)))
 clear HK HA HRw HXw HXx HXg HD HRc HRk
 have HK:=JK
 have HA:=JA
 have HRw:=JRw
 have HXw:=JXw
 have HXx:=JXx
 have HXg:=JXg
 have HD:=JD
 have HRc:=JRc
 have HRk:=JRk
 clear JK JA JRw JXw JXx JXg JD JRc JRk
 have HXk:Hid (Bo4 w18.heap.size V19 (.slice xk.s1 X.codes.length xk.c1) (.slice xk.s2 X.cores.length xk.c2) (.slice xk.s3 X.mem.length xk.c3) (.slice xk.s4 X.tr.length xk.c4)):=bx19
 clear bx19 kb19
 obtain ⟨Ac0,Ac1,Ac2,Ac3⟩:=HA.out
 have Az:w.heap.size < V19.heap.size:=by omega
 obtain ⟨Xwc0,Xwc1,Xwc2,Xwc3⟩:=HXw.out
 have Xwz:w4.heap.size < V19.heap.size:=by omega
 obtain ⟨Xxc0,Xxc1,Xxc2,Xxc3⟩:=HXx.out
 have Xxz:w6.heap.size < V19.heap.size:=by omega
 obtain ⟨Xgc0,Xgc1,Xgc2,Xgc3⟩:=HXg.out
 have Xgz:w8.heap.size < V19.heap.size:=by omega
 obtain ⟨Xkc0,Xkc1,Xkc2,Xkc3⟩:=HXk.out
 have Xkz:w18.heap.size < V19.heap.size:=by omega
 refine (eqMachine_alike _ _ _ _ _ _ _ _ _ _ _ _ _ _ _ _ _ _ _ _ X V19 HRk.out HRw.out (by omega) (by omega) FX.out).mono ?_
 rintro e w20 ⟨rfl,hb20⟩
 have z20:=hb20.size
 clear Ac0 Ac1 Ac2 Ac3 Az
 clear Xwc0 Xwc1 Xwc2 Xwc3 Xwz
 clear Xxc0 Xxc1 Xxc2 Xxc3 Xxz
 clear Xgc0 Xgc1 Xgc2 Xgc3 Xgz
 clear Xkc0 Xkc1 Xkc2 Xkc3 Xkz
 have JK:=hidM1 (HK.out.trans (hb20.mono (by omega)))
 have JA:=hidM1 (HA.out.keep (Keep.of_below hb20 (by omega)))
 have JRw:=hidM1 (HRw.out.keep (Keep.of_below hb20 (by omega)))
 have JXw:=hidM1 (HXw.out.keep (Keep.of_below hb20 (by omega)))
 have JXx:=hidM1 (HXx.out.keep (Keep.of_below hb20 (by omega)))
 have JXg:=hidM1 (HXg.out.keep (Keep.of_below hb20 (by omega)))
 have JD:=hidM1 (HD.out.keep (Keep.of_below hb20 (by omega)))
 have JRc:=hidM1 (HRc.out.keep (Keep.of_below hb20 (by omega)))
 have JRk:=hidM1 (HRk.out.keep (Keep.of_below hb20 (by omega)))
 have JXk:=hidM1 (HXk.out.keep (Keep.of_below hb20 (by omega)))
 clear HK HA HRw HXw HXx HXg HD HRc HRk HXk
 have HK:=JK
 have HA:=JA
 have HRw:=JRw
 have HXw:=JXw
 have HXx:=JXx
 have HXg:=JXg
 have HD:=JD
 have HRc:=JRc
 have HRk:=JRk
 have HXk:=JXk
 clear JK JA JRw JXw JXx JXg JD JRc JRk JXk
 clear hb20
 obtain ⟨Ac0,Ac1,Ac2,Ac3⟩:=HA.out
 have Az:w.heap.size < w20.heap.size:=by omega
 obtain ⟨Xwc0,Xwc1,Xwc2,Xwc3⟩:=HXw.out
 have Xwz:w4.heap.size < w20.heap.size:=by omega
 obtain ⟨Xxc0,Xxc1,Xxc2,Xxc3⟩:=HXx.out
 have Xxz:w6.heap.size < w20.heap.size:=by omega
 obtain ⟨Xgc0,Xgc1,Xgc2,Xgc3⟩:=HXg.out
 have Xgz:w8.heap.size < w20.heap.size:=by omega
 obtain ⟨Xkc0,Xkc1,Xkc2,Xkc3⟩:=HXk.out
 have Xkz:w18.heap.size < w20.heap.size:=by omega
 go_wp2_with fail
 refine (heldMachine_any xg X _ _ 1 w20 HD.out (by omega) FX.out (by omega) (by omega)).mono ?_
 rintro e w21 ⟨rfl,hb21⟩
 have z21:=hb21.size
 clear Ac0 Ac1 Ac2 Ac3 Az
 clear Xwc0 Xwc1 Xwc2 Xwc3 Xwz
 clear Xxc0 Xxc1 Xxc2 Xxc3 Xxz
 clear Xgc0 Xgc1 Xgc2 Xgc3 Xgz
 clear Xkc0 Xkc1 Xkc2 Xkc3 Xkz
 have JK:=hidM1 (HK.out.trans (hb21.mono (by omega)))
 have JA:=hidM1 (HA.out.keep (Keep.of_below hb21 (by omega)))
 have JRw:=hidM1 (HRw.out.keep (Keep.of_below hb21 (by omega)))
 have JXw:=hidM1 (HXw.out.keep (Keep.of_below hb21 (by omega)))
 have JXx:=hidM1 (HXx.out.keep (Keep.of_below hb21 (by omega)))
 have JXg:=hidM1 (HXg.out.keep (Keep.of_below hb21 (by omega)))
 have JD:=hidM1 (HD.out.keep (Keep.of_below hb21 (by omega)))
 have JRc:=hidM1 (HRc.out.keep (Keep.of_below hb21 (by omega)))
 have JRk:=hidM1 (HRk.out.keep (Keep.of_below hb21 (by omega)))
 have JXk:=hidM1 (HXk.out.keep (Keep.of_below hb21 (by omega)))
 clear HK HA HRw HXw HXx HXg HD HRc HRk HXk
 have HK:=JK
 have HA:=JA
 have HRw:=JRw
 have HXw:=JXw
 have HXx:=JXx
 have HXg:=JXg
 have HD:=JD
 have HRc:=JRc
 have HRk:=JRk
 have HXk:=JXk
 clear JK JA JRw JXw JXx JXg JD JRc JRk JXk
 clear hb21
 rw [HLM.out]
 obtain ⟨Ac0,Ac1,Ac2,Ac3⟩:=HA.out
 have Az:w.heap.size < w21.heap.size:=by omega
 obtain ⟨Xwc0,Xwc1,Xwc2,Xwc3⟩:=HXw.out
 have Xwz:w4.heap.size < w21.heap.size:=by omega
 obtain ⟨Xxc0,Xxc1,Xxc2,Xxc3⟩:=HXx.out
 have Xxz:w6.heap.size < w21.heap.size:=by omega
 obtain ⟨Xgc0,Xgc1,Xgc2,Xgc3⟩:=HXg.out
 have Xgz:w8.heap.size < w21.heap.size:=by omega
 obtain ⟨Xkc0,Xkc1,Xkc2,Xkc3⟩:=HXk.out
 have Xkz:w18.heap.size < w21.heap.size:=by omega
 go_wp2
 go_ret
 exact ⟨rfl,HK.out⟩
set_option maxRecDepth 100000 in
theorem liftedExactAlone (os : Os) (started : os.Started) (H : Type) (enc : TypeId × Value → H) :
  ReturnsInHanded {} Tryz.checked os 3 .any (Rows.fnExactAloneSpec.pre6 enc Tryz.prog Tryz.f3 Rows.fnExactAloneRow.domain false) (Rows.fnExactAloneSpec.post enc Tryz.prog Tryz.f3 false true false false):=by
 refine returnsInHanded_of_change (C:=Tryz.checked) ownP started (by kernel_rfl) Tryz.func3
  (ChangeSpec.witness6 (enc:=enc) (C:=Tryz.checked) false ⟨#[],#[.agg #[.slice none 0 0,.slice none 0 0,.slice none 0 0,.slice none 0 0],.int .i64 0,.int .i64 0],[]⟩ 8 (by kernel_rfl) (by kernel_rfl) (by kernel_rfl) (by kernel_rfl)) ?_
 intro W base args ds gs before hval0 hW hcnd _
 have hval:∀ (j:Nat) t v,Tryz.f3.params[j]? =some t→args[j]? =some v→Value.okWide Tryz.prog W .any base t v:=hval0
 have hW':=hW
 obtain ⟨p,q,hA0,hV,rfl,hfz,hnd⟩:=hW
 have hA:DataW.TrodAll enc Tryz.prog W 0 (fun _=>true) true Tryz.f3.params.toList args.toList ds p:=hA0
 rw [Tryz.params3] at hA hval
 obtain ⟨v0,v1,v2,d0,d1,d2,p0,p1,p2,hargs,rfl,rfl,h0,h1,h2⟩:=trodAll_three hA
 obtain rfl:args=#[v0,v1,v2]:=by cases args;simp_all
 obtain ⟨rfl,rfl⟩:=trodVars_none hV
 have k0:=h0
 have lt0:∀ x∈p0,x.block < W.heap.size:=by obtain ⟨m,hm⟩:=k0;exact DataW.trod_lt m _ _ _ hm
 have k1:=h1
 have lt1:∀ x∈p1,x.block < W.heap.size:=by obtain ⟨m,hm⟩:=k1;exact DataW.trod_lt m _ _ _ hm
 have k2:=h2
 have lt2:∀ x∈p2,x.block < W.heap.size:=by obtain ⟨m,hm⟩:=k2;exact DataW.trod_lt m _ _ _ hm
 obtain ⟨s1,s2,s3,s4,c1,c2,c3,c4,pd,rfl,m0,hR⟩:=open_machine (hval 0 29 v0 rfl rfl) h0
 obtain ⟨l1,rfl,-,-,hwf1⟩:=open_int Tryz.underlying3 (hval 1 3 v1 rfl rfl) h1
 obtain ⟨l2,rfl,-,-,hwf2⟩:=open_int Tryz.underlying3 (hval 2 3 v2 rfl rfl) h2
 clear hA0 hval0
 refine (walkExactAlone s1 s2 s3 s4 c1 c2 c3 c4 pd l1 l2 W hR m0).mono fun e W' ⟨he,bel⟩=>?_
 subst he
 exact ⟨_,rfl,_,_,_,[],_,[],hW',trodAll_mk1 (shut_bool Tryz.underlying4 _),trodAll_mk3 (Below.trod laidOutP (by kernel_rfl) (of_decide_eq_true (by kernel_rfl)) k0 bel lt0) (Below.trod laidOutP (by kernel_rfl) (of_decide_eq_true (by kernel_rfl)) k1 bel lt1) (Below.trod laidOutP (by kernel_rfl) (of_decide_eq_true (by kernel_rfl)) k2 bel lt2),rfl,bel.frame _,fun h=>by cases h⟩
theorem fnExactAlone_holds:Rows.FnExactAloneSaid:=
 OpenClaim.holds_of_wide 3 Tryz.f3 rfl rfl rfl rfl rfl rfl rfl ⟨rfl,rfl,rfl,rfl,rfl⟩ rfl rfl rfl rfl rfl (by kernel_rfl) Tryz.func3 (by kernel_rfl)
  (of_decide_eq_true (by kernel_rfl)) (by unfold Func.isWrapper;first | (rw [if_pos (by decide+kernel)];kernel_rfl) | (rw [if_neg (by decide+kernel)];exact ⟨rfl,rfl⟩))
  (fun os started H enc _=>liftedExactAlone os started H enc)
#print axioms fnExactAlone_holds
end Go.Proofs.YtlbeploopclegaaGreat
