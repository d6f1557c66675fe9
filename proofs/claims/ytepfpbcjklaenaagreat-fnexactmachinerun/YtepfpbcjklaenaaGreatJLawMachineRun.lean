/- The law FnExactMachineRun of the given statements: at every argument MachineRun of the program answers as the specification's, writes into no argument and keeps nothing of one; its answer owns its memory. No condition. -/
import Derived.Test.YtepfpbcjklaenaaGreatJG04
import Derived.Test.YtepfpbcjklaenaaGreatJG05
import Derived.Test.YtepfpbcjklaenaaGreatJG09
import Derived.Test.YtepfpbcjklaenaaGreatJKRnM
import Derived.Test.YtepfpbcjklaenaaGreatJKRnS
import Derived.Test.YtepfpbcjklaenaaGreatJKRnF
import Derived.Deep.RegionHeld3
import Derived.Deep.DeepCutAuto
namespace Go.Proofs.YtepfpbcjklaenaaGreat
set_option linter.unusedSimpArgs false
set_option linter.unusedVariables false
set_option maxRecDepth 100000
open Go.ChangeShapes Go.WideShapes Go.ChangeAt Go.RowKit Go.Deep
set_option maxRecDepth 100000 in
set_option maxHeartbeats 8000000 in
theorem walkExactMachineRun (s1 s2 s3 s4 : Option Addr) (c1 c2 c3 c4 : Nat) (d : MD) (s5 : Option Addr) (c5 : Nat) (l : List ND) (w : World) (h0 : MaR w 0 w.heap.size s1 s2 s3 s4 d) (m0 : MaLens d) (h5 : NtsR w 0 w.heap.size s5 l) (m5 : l.length ≤ maxLen) (hlt : ∀ x ∈ l, x.v ≤ 9223372036854775807) :
  Calls Tryz.prog 3 #[.agg #[.slice s1 d.codes.length c1,.slice s2 d.cores.length c2,.slice s3 d.mem.length c3,.slice s4 d.tr.length c4],.slice s5 l.length c5] w fun e w'=>e=.returned (.bool true)∧Below w.heap.size w w':=by
 have HA0:Hid (MaR w 0 w.heap.size s1 s2 s3 s4 d):=h0
 have HM0:Hid (MaLens d):=m0
 have HL0:=hidM1 h5
 have HM5:=hidM1 m5
 have HLT:=hidM1 hlt
 clear h0 m0 h5 m5 hlt
 go_enter Tryz.func3,Tryz.ntmps3
 go_upto_region 1 with fail
 have K:=hidM1 (Below.refl w.heap.size w)
 obtain ⟨V1,hV1,bx1,kb1,zb1⟩:=Bo4.new w (.slice s1 d.codes.length c1) (.slice s2 d.cores.length c2) (.slice s3 d.mem.length c3) (.slice s4 d.tr.length c4) 29
 rw [hV1]
 clear hV1
 have z1:=kb1.size
 have y1:w.heap.size < V1.heap.size:=by omega
 clear zb1
 have JK:=hidM1 (K.out.trans (kb1.mono (by omega)))
 clear K
 have K:=JK
 clear JK
 have A:=hidM1 bx1
 clear bx1 kb1
 obtain ⟨Ac0,Ac1,Ac2,Ac3⟩:=A.out
 have Az:w.heap.size < V1.heap.size:=by omega
 go_wp2_with fail
 refine (szMachine_any s1 s2 s3 s4 c1 c2 c3 c4 0 w.heap.size d V1 (HA0.out.keep (Keep.of_below K.out (Nat.le_refl _))) (by omega) HM0.out).mono ?_
 rintro e w2 ⟨⟨u,rfl,hu⟩,hb2⟩
 have z2:=hb2.size
 clear Ac0 Ac1 Ac2 Ac3 Az
 have JK:=hidM1 (K.out.trans (hb2.mono (by omega)))
 have JA:=hidM1 (A.out.keep (Keep.of_below hb2 (by omega)))
 clear K A
 have K:=JK
 have A:=JA
 clear JK JA
 clear hb2
 rcases hu with hu | ⟨hu,hf,hue⟩
 ·go_wp2
  go_ret
  exact ⟨rfl,K.out⟩
 have hun:¬ u < 0:=by omega
 have FK:=hidM1 hf
 have FF:=hidM1 (MaFits.of hf)
 clear hf
 go_wp2_with fail
 refine (szPickS_all s5 l.length c5 u w2 HM5.out (by omega) hue).mono ?_
 rintro e w3 ⟨rfl,hw3⟩
 have hw3':=hw3.symm
 clear hw3
 subst hw3'
 by_cases hql:u < (l.length:Int)
 ·rw [if_pos hql]
  go_wp2
  go_ret
  exact ⟨rfl,K.out⟩
 rw [if_neg hql]
 have hul:¬ (u - (l.length:Int)) < 0:=by omega
 have LL:Hid (l.length≤1048576):=by show _≤_;omega
 obtain ⟨RS,hRS⟩:∃ R,runMb d l=R:=⟨_,rfl⟩
 obtain ⟨RC,hRC⟩:∃ R,runMc d l=R:=⟨_,rfl⟩
 have FX:Hid (MaFits RS):=by rw [← hRS];exact runMb_fits l FK.out
 have LC:Hid (RC.length≤4000):=by rw [← hRC];exact runMc_len d l
 have CI:=hidM1 (fun (s1 s2 s3 s4 s5:Option Addr) (c1 c2 c3 c4 c5 lo hi lo' hi':Nat) (w:World) (h:MaR w lo hi s1 s2 s3 s4 d) (h':NtsR w lo' hi' s5 l) (hB:hi≤w.heap.size) (hB':hi'≤w.heap.size)=>implMRun_any s1 s2 s3 s4 s5 c1 c2 c3 c4 c5 lo hi lo' hi' d l w h h' hB hB' FK.out LL.out HLT.out)
 rw [hRS,hRC] at CI
 have CSp:=hidM1 (fun (s1 s2 s3 s4 s5:Option Addr) (c1 c2 c3 c4 c5 lo hi lo' hi':Nat) (w:World) (h:MaR w lo hi s1 s2 s3 s4 d) (h':NtsR w lo' hi' s5 l) (hB:hi≤w.heap.size) (hB':hi'≤w.heap.size)=>specMRun_any s1 s2 s3 s4 s5 c1 c2 c3 c4 c5 lo hi lo' hi' d l w h h' hB hB' FK.out LL.out HLT.out)
 rw [hRS,hRC] at CSp
 clear hRS hRC hue hu hql
 obtain ⟨Ac0,Ac1,Ac2,Ac3⟩:=A.out
 have Az:w.heap.size < w2.heap.size:=by omega
 go_wp2_with fail
 refine (toMachine_own s1 s2 s3 s4 c1 c2 c3 c4 0 w.heap.size d w2 (HA0.out.keep (Keep.of_below K.out (Nat.le_refl _))) (by omega) FK.out).mono ?_
 rintro e w4 ⟨xa,rfl,ho4,hb4,zz4⟩
 have z4:=hb4.size
 clear Ac0 Ac1 Ac2 Ac3 Az
 have JK:=hidM1 (K.out.trans (hb4.mono (by omega)))
 have JA:=hidM1 (A.out.keep (Keep.of_below hb4 (by omega)))
 clear K A
 have K:=JK
 have A:=JA
 clear JK JA
 clear zz4
 have Ra:=hidM1 ho4.ma
 clear hb4 ho4
 go_wp2_with fail
 refine (toPickS_ex s5 c5 0 w.heap.size l w4 (HL0.out.keep (Keep.of_below K.out (Nat.le_refl _))) (by omega) LL.out).mono ?_
 rintro e w5 ⟨gb,rfl,ho5,hb5,zz5⟩
 have z5:=hb5.size
 have JK:=hidM1 (K.out.trans (hb5.mono (by omega)))
 have JA:=hidM1 (A.out.keep (Keep.of_below hb5 (by omega)))
 have JRa:=hidM1 (Ra.out.keep (Keep.of_below hb5 (by omega)))
 clear K A Ra
 have K:=JK
 have A:=JA
 have Ra:=JRa
 clear JK JA JRa
 clear zz5
 have Pb:=hidM1 ho5
 clear hb5 ho5
 go_wp2_with fail
 refine (CSp.out xa.s1 xa.s2 xa.s3 xa.s4 (some ⟨gb,0,none⟩) _ _ _ _ _ _ _ _ _ w5 Ra.out Pb.out.r (by omega) (by omega)).mono ?_
 rintro e w6 ⟨xw,tw,ew,rfl,ho6,hn6,sp6,hb6⟩
 have z6:=hb6.size
 have JK:=hidM1 (K.out.trans (hb6.mono (by omega)))
 have JA:=hidM1 (A.out.keep (Keep.of_below hb6 (by omega)))
 have JRa:=hidM1 (Ra.out.keep (Keep.of_below hb6 (by omega)))
 have JPb:=hidM1 (Pb.out.keep (Keep.of_below hb6 (by omega)))
 clear K A Ra Pb
 have K:=JK
 have A:=JA
 have Ra:=JRa
 have Pb:=JPb
 clear JK JA JRa JPb
 have Rw:=hidM1 ho6.ma
 have Iw:=hidM1 (OwnN.intsM hn6)
 clear hb6 ho6 hn6 sp6
 go_upto_region 9 with fail
 obtain ⟨V7,hV7,bx7,kb7,zb7⟩:=Bo4.new w6 (.slice xw.s1 RS.codes.length xw.c1) (.slice xw.s2 RS.cores.length xw.c2) (.slice xw.s3 RS.mem.length xw.c3) (.slice xw.s4 RS.tr.length xw.c4) 40
 rw [hV7]
 clear hV7
 have z7:=kb7.size
 have y7:w6.heap.size < V7.heap.size:=by omega
 clear zb7
 have JK:=hidM1 (K.out.trans (kb7.mono (by omega)))
 have JA:=hidM1 (A.out.keep (Keep.of_below kb7 (by omega)))
 have JRa:=hidM1 (Ra.out.keep (Keep.of_below kb7 (by omega)))
 have JPb:=hidM1 (Pb.out.keep (Keep.of_below kb7 (by omega)))
 have JRw:=hidM1 (Rw.out.keep (Keep.of_below kb7 (by omega)))
 have JIw:=hidM1 (Iw.out.keep (Keep.of_below kb7 (by omega)))
 clear K A Ra Pb Rw Iw
 have K:=JK
 have A:=JA
 have Ra:=JRa
 have Pb:=JPb
 have Rw:=JRw
 have Iw:=JIw
 clear JK JA JRa JPb JRw JIw
 have Bw:=hidM1 bx7
 clear bx7 kb7
 clear Ra
 clear Pb
 obtain ⟨Ac0,Ac1,Ac2,Ac3⟩:=A.out
 have Az:w.heap.size < V7.heap.size:=by omega
 go_wp2_with fail
 refine (toMachine_own s1 s2 s3 s4 c1 c2 c3 c4 0 w.heap.size d V7 (HA0.out.keep (Keep.of_below K.out (Nat.le_refl _))) (by omega) FK.out).mono ?_
 rintro e w8 ⟨xx,rfl,ho8,hb8,zz8⟩
 have z8:=hb8.size
 clear Ac0 Ac1 Ac2 Ac3 Az
 have JK:=hidM1 (K.out.trans (hb8.mono (by omega)))
 have JA:=hidM1 (A.out.keep (Keep.of_below hb8 (by omega)))
 have JRw:=hidM1 (Rw.out.keep (Keep.of_below hb8 (by omega)))
 have JIw:=hidM1 (Iw.out.keep (Keep.of_below hb8 (by omega)))
 have JBw:=hidM1 (Bw.out.keep (Keep.of_below hb8 (by omega)))
 clear K A Rw Iw Bw
 have K:=JK
 have A:=JA
 have Rw:=JRw
 have Iw:=JIw
 have Bw:=JBw
 clear JK JA JRw JIw JBw
 clear zz8
 have Rx:=hidM1 ho8.ma
 have Ox:=hidM1 ho8.sh
 clear hb8 ho8
 go_upto_region 10 with fail
 obtain ⟨V9,hV9,bx9,kb9,zb9⟩:=Bo4.new w8 (.slice xx.s1 d.codes.length xx.c1) (.slice xx.s2 d.cores.length xx.c2) (.slice xx.s3 d.mem.length xx.c3) (.slice xx.s4 d.tr.length xx.c4) 40
 rw [hV9]
 clear hV9
 have z9:=kb9.size
 have y9:w8.heap.size < V9.heap.size:=by omega
 clear zb9
 have JK:=hidM1 (K.out.trans (kb9.mono (by omega)))
 have JA:=hidM1 (A.out.keep (Keep.of_below kb9 (by omega)))
 have JRw:=hidM1 (Rw.out.keep (Keep.of_below kb9 (by omega)))
 have JIw:=hidM1 (Iw.out.keep (Keep.of_below kb9 (by omega)))
 have JBw:=hidM1 (Bw.out.keep (Keep.of_below kb9 (by omega)))
 have JRx:=hidM1 (Rx.out.keep (Keep.of_below kb9 (by omega)))
 have JOx:=hidM1 (Ox.out.keep (Keep.of_below kb9 (by omega)))
 clear K A Rw Iw Bw Rx Ox
 have K:=JK
 have A:=JA
 have Rw:=JRw
 have Iw:=JIw
 have Bw:=JBw
 have Rx:=JRx
 have Ox:=JOx
 clear JK JA JRw JIw JBw JRx JOx
 have Bx:=hidM1 bx9
 clear bx9 kb9
 go_wp2_with fail
 refine (toPickS_ex s5 c5 0 w.heap.size l V9 (HL0.out.keep (Keep.of_below K.out (Nat.le_refl _))) (by omega) LL.out).mono ?_
 rintro e w10 ⟨gy,rfl,ho10,hb10,zz10⟩
 have z10:=hb10.size
 have JK:=hidM1 (K.out.trans (hb10.mono (by omega)))
 have JA:=hidM1 (A.out.keep (Keep.of_below hb10 (by omega)))
 have JRw:=hidM1 (Rw.out.keep (Keep.of_below hb10 (by omega)))
 have JIw:=hidM1 (Iw.out.keep (Keep.of_below hb10 (by omega)))
 have JBw:=hidM1 (Bw.out.keep (Keep.of_below hb10 (by omega)))
 have JRx:=hidM1 (Rx.out.keep (Keep.of_below hb10 (by omega)))
 have JOx:=hidM1 (Ox.out.keep (Keep.of_below hb10 (by omega)))
 have JBx:=hidM1 (Bx.out.keep (Keep.of_below hb10 (by omega)))
 clear K A Rw Iw Bw Rx Ox Bx
 have K:=JK
 have A:=JA
 have Rw:=JRw
 have Iw:=JIw
 have Bw:=JBw
 have Rx:=JRx
 have Ox:=JOx
 have Bx:=JBx
 clear JK JA JRw JIw JBw JRx JOx JBx
 clear zz10
 have Py:=hidM1 ho10
 clear hb10 ho10
 go_upto_region 11 with fail
 obtain ⟨Bxc0,Bxc1,Bxc2,Bxc3⟩:=Bx.out
 have Bxz:w8.heap.size < w10.heap.size:=by omega
 go_wp2_with fail
 refine (CI.out xx.s1 xx.s2 xx.s3 xx.s4 (some ⟨gy,0,none⟩) _ _ _ _ _ _ _ _ _ w10 Rx.out Py.out.r (by omega) (by omega)).mono ?_
 rintro e w11 ⟨xg,tg,eg,rfl,ho11,hn11,sp11,hb11⟩
 have z11:=hb11.size
 clear Bxc0 Bxc1 Bxc2 Bxc3 Bxz
 have JK:=hidM1 (K.out.trans (hb11.mono (by omega)))
 have JA:=hidM1 (A.out.keep (Keep.of_below hb11 (by omega)))
 have JRw:=hidM1 (Rw.out.keep (Keep.of_below hb11 (by omega)))
 have JIw:=hidM1 (Iw.out.keep (Keep.of_below hb11 (by omega)))
 have JBw:=hidM1 (Bw.out.keep (Keep.of_below hb11 (by omega)))
 have JRx:=hidM1 (Rx.out.keep (Keep.of_below hb11 (by omega)))
 have JOx:=hidM1 (Ox.out.keep (Keep.of_below hb11 (by omega)))
 have JBx:=hidM1 (Bx.out.keep (Keep.of_below hb11 (by omega)))
 have JPy:=hidM1 (Py.out.keep (Keep.of_below hb11 (by omega)))
 clear K A Rw Iw Bw Rx Ox Bx Py
 have K:=JK
 have A:=JA
 have Rw:=JRw
 have Iw:=JIw
 have Bw:=JBw
 have Rx:=JRx
 have Ox:=JOx
 have Bx:=JBx
 have Py:=JPy
 clear JK JA JRw JIw JBw JRx JOx JBx JPy
 have Rg:=hidM1 ho11.ma
 have Ig:=hidM1 (OwnN.intsM hn11)
 have Sg:=hidM1 (SN8.of ho11 hn11 sp11)
 clear hb11 ho11 hn11 sp11
 go_upto_region 12 with fail
 obtain ⟨V12,hV12,bx12,kb12,zb12⟩:=Bo4.new w11 (.slice xg.s1 RS.codes.length xg.c1) (.slice xg.s2 RS.cores.length xg.c2) (.slice xg.s3 RS.mem.length xg.c3) (.slice xg.s4 RS.tr.length xg.c4) 40
 rw [hV12]
 clear hV12
 have z12:=kb12.size
 have y12:w11.heap.size < V12.heap.size:=by omega
 clear zb12
 have JK:=hidM1 (K.out.trans (kb12.mono (by omega)))
 have JA:=hidM1 (A.out.keep (Keep.of_below kb12 (by omega)))
 have JRw:=hidM1 (Rw.out.keep (Keep.of_below kb12 (by omega)))
 have JIw:=hidM1 (Iw.out.keep (Keep.of_below kb12 (by omega)))
 have JBw:=hidM1 (Bw.out.keep (Keep.of_below kb12 (by omega)))
 have JRx:=hidM1 (Rx.out.keep (Keep.of_below kb12 (by omega)))
 have JOx:=hidM1 (Ox.out.keep (Keep.of_below kb12 (by omega)))
 have JBx:=hidM1 (Bx.out.keep (Keep.of_below kb12 (by omega)))
 have JPy:=hidM1 (Py.out.keep (Keep.of_below kb12 (by omega)))
 have JRg:=hidM1 (Rg.out.keep (Keep.of_below kb12 (by omega)))
 have JIg:=hidM1 (Ig.out.keep (Keep.of_below kb12 (by omega)))
 have JSg:=hidM1 (Sg.out.keep (Keep.of_below kb12 (by omega)))
 clear K A Rw Iw Bw Rx Ox Bx Py Rg Ig Sg
 have K:=JK
 have A:=JA
 have Rw:=JRw
 have Iw:=JIw
 have Bw:=JBw
 have Rx:=JRx
 have Ox:=JOx
 have Bx:=JBx
 have Py:=JPy
 have Rg:=JRg
 have Ig:=JIg
 have Sg:=JSg
 clear JK JA JRw JIw JBw JRx JOx JBx JPy JRg JIg JSg
 have Bg:=hidM1 bx12
 clear bx12 kb12
 obtain ⟨Bgc0,Bgc1,Bgc2,Bgc3⟩:=Bg.out
 have Bgz:w11.heap.size < V12.heap.size:=by omega
 obtain ⟨Bwc0,Bwc1,Bwc2,Bwc3⟩:=Bw.out
 have Bwz:w6.heap.size < V12.heap.size:=by omega
 go_wp2_with fail
 refine (eqMachine_alike _ _ _ _ _ _ _ _ _ _ _ _ _ _ _ _ _ _ _ _ RS V12 Rg.out Rw.out (by omega) (by omega) FX.out).mono ?_
 rintro e w13 ⟨rfl,hb13⟩
 have z13:=hb13.size
 clear Bgc0 Bgc1 Bgc2 Bgc3 Bwc0 Bwc1 Bwc2 Bwc3 Bgz Bwz
 have JK:=hidM1 (K.out.trans (hb13.mono (by omega)))
 have JA:=hidM1 (A.out.keep (Keep.of_below hb13 (by omega)))
 have JRw:=hidM1 (Rw.out.keep (Keep.of_below hb13 (by omega)))
 have JIw:=hidM1 (Iw.out.keep (Keep.of_below hb13 (by omega)))
 have JBw:=hidM1 (Bw.out.keep (Keep.of_below hb13 (by omega)))
 have JRx:=hidM1 (Rx.out.keep (Keep.of_below hb13 (by omega)))
 have JOx:=hidM1 (Ox.out.keep (Keep.of_below hb13 (by omega)))
 have JBx:=hidM1 (Bx.out.keep (Keep.of_below hb13 (by omega)))
 have JPy:=hidM1 (Py.out.keep (Keep.of_below hb13 (by omega)))
 have JRg:=hidM1 (Rg.out.keep (Keep.of_below hb13 (by omega)))
 have JIg:=hidM1 (Ig.out.keep (Keep.of_below hb13 (by omega)))
 have JSg:=hidM1 (Sg.out.keep (Keep.of_below hb13 (by omega)))
 have JBg:=hidM1 (Bg.out.keep (Keep.of_below hb13 (by omega)))
 clear K A Rw Iw Bw Rx Ox Bx Py Rg Ig Sg Bg
 have K:=JK
 have A:=JA
 have Rw:=JRw
 have Iw:=JIw
 have Bw:=JBw
 have Rx:=JRx
 have Ox:=JOx
 have Bx:=JBx
 have Py:=JPy
 have Rg:=JRg
 have Ig:=JIg
 have Sg:=JSg
 have Bg:=JBg
 clear JK JA JRw JIw JBw JRx JOx JBx JPy JRg JIg JSg JBg
 clear hb13
 go_wp2_with fail
 refine (eqN_true eg ew Ig.out Iw.out (by omega) (by omega) (by have:=LC.out;omega)).mono ?_
 rintro e w14 ⟨rfl,hb14⟩
 have z14:=hb14.size
 have JK:=hidM1 (K.out.trans (hb14.mono (by omega)))
 have JA:=hidM1 (A.out.keep (Keep.of_below hb14 (by omega)))
 have JRw:=hidM1 (Rw.out.keep (Keep.of_below hb14 (by omega)))
 have JIw:=hidM1 (Iw.out.keep (Keep.of_below hb14 (by omega)))
 have JBw:=hidM1 (Bw.out.keep (Keep.of_below hb14 (by omega)))
 have JRx:=hidM1 (Rx.out.keep (Keep.of_below hb14 (by omega)))
 have JOx:=hidM1 (Ox.out.keep (Keep.of_below hb14 (by omega)))
 have JBx:=hidM1 (Bx.out.keep (Keep.of_below hb14 (by omega)))
 have JPy:=hidM1 (Py.out.keep (Keep.of_below hb14 (by omega)))
 have JRg:=hidM1 (Rg.out.keep (Keep.of_below hb14 (by omega)))
 have JIg:=hidM1 (Ig.out.keep (Keep.of_below hb14 (by omega)))
 have JSg:=hidM1 (Sg.out.keep (Keep.of_below hb14 (by omega)))
 have JBg:=hidM1 (Bg.out.keep (Keep.of_below hb14 (by omega)))
 clear K A Rw Iw Bw Rx Ox Bx Py Rg Ig Sg Bg
 have K:=JK
 have A:=JA
 have Rw:=JRw
 have Iw:=JIw
 have Bw:=JBw
 have Rx:=JRx
 have Ox:=JOx
 have Bx:=JBx
 have Py:=JPy
 have Rg:=JRg
 have Ig:=JIg
 have Sg:=JSg
 have Bg:=JBg
 clear JK JA JRw JIw JBw JRx JOx JBx JPy JRg JIg JSg JBg
 clear hb14
 go_upto_region 14 with fail
 obtain ⟨Bxc0,Bxc1,Bxc2,Bxc3⟩:=Bx.out
 have Bxz:w8.heap.size < w14.heap.size:=by omega
 obtain ⟨Ac0,Ac1,Ac2,Ac3⟩:=A.out
 have Az:w.heap.size < w14.heap.size:=by omega
 go_region_held3 (fun w'=>w'.cell? ⟨w8.heap.size,0,none⟩=some (.slice xx.s1 d.codes.length xx.c1)∧w'.cell? ⟨w8.heap.size,1,none⟩=some (.slice xx.s2 d.cores.length xx.c2)∧w'.cell? ⟨w8.heap.size,2,none⟩=some (.slice xx.s3 d.mem.length xx.c3)∧w'.cell? ⟨w8.heap.size,3,none⟩=some (.slice xx.s4 d.tr.length xx.c4)∧w'.cell? ⟨w.heap.size,0,none⟩=some (.slice s1 d.codes.length c1)∧w'.cell? ⟨w.heap.size,1,none⟩=some (.slice s2 d.cores.length c2)∧w'.cell? ⟨w.heap.size,2,none⟩=some (.slice s3 d.mem.length c3)∧w'.cell? ⟨w.heap.size,3,none⟩=some (.slice s4 d.tr.length c4)) (go_keep) (first | (go_at_call 7;refine (toMachine_own s1 s2 s3 s4 c1 c2 c3 c4 0 w.heap.size d w14.drew (HA0.out.keep (Keep.of_below K.out.drew (Nat.le_refl _))) (by show w.heap.size≤w14.heap.size;omega) FK.out).mono ?_;rintro e w15 ⟨xq,rfl,ho15,hb15,hz15⟩;have kx:Below w14.heap.size w14 w15:=(Below.drew (Below.refl _ _)).trans hb15;have kz:=kx.size;have XX:=Bx.out.keep (Keep.of_below kx (by omega));have AA:=A.out.keep (Keep.of_below kx (by omega));have t0:=XX.c0;have t1:=XX.c1;have t2:=XX.c2;have t3:=XX.c3;have t4:=AA.c0;have t5:=AA.c1;have t6:=AA.c2;have t7:=AA.c3) | (go_at_call 10;refine (eqMachine_alike xx.s1 xx.s2 xx.s3 xx.s4 xq.s1 xq.s2 xq.s3 xq.s4 _ _ _ _ _ _ _ _ _ _ w14.heap.size w15.heap.size d w15 (Rx.out.keep (Keep.of_below kx (by omega))) (ho15.ma) (by omega) (Nat.le_refl _) FF.out).mono ?_;rintro e w16 ⟨rfl,hb16⟩;have ky:Below w14.heap.size w14 w16:=kx.trans (hb16.mono (by omega));have XY:=XX.keep (Keep.of_below hb16 (by omega));have AY:=AA.keep (Keep.of_below hb16 (by omega));have u0:=XY.c0;have u1:=XY.c1;have u2:=XY.c2;have u3:=XY.c3;have u4:=AY.c0;have u5:=AY.c1;have u6:=AY.c2;have u7:=AY.c3))
 have z16:=ky.size
 clear t0 u0 t1 u1 t2 u2 t3 u3 t4 u4 t5 u5 t6 u6 t7 u7 XX AA XY AY hb15 hb16 ho15 hz15 kx kz
 clear Bxc0 Bxc1 Bxc2 Bxc3 Ac0 Ac1 Ac2 Ac3 Bxz Az
 have JK:=hidM1 (K.out.trans (ky.mono (by omega)))
 have JA:=hidM1 (A.out.keep (Keep.of_below ky (by omega)))
 have JRw:=hidM1 (Rw.out.keep (Keep.of_below ky (by omega)))
 have JIw:=hidM1 (Iw.out.keep (Keep.of_below ky (by omega)))
 have JBw:=hidM1 (Bw.out.keep (Keep.of_below ky (by omega)))
 have JRx:=hidM1 (Rx.out.keep (Keep.of_below ky (by omega)))
 have JOx:=hidM1 (Ox.out.keep (Keep.of_below ky (by omega)))
 have JBx:=hidM1 (Bx.out.keep (Keep.of_below ky (by omega)))
 have JPy:=hidM1 (Py.out.keep (Keep.of_below ky (by omega)))
 have JRg:=hidM1 (Rg.out.keep (Keep.of_below ky (by omega)))
 have JIg:=hidM1 (Ig.out.keep (Keep.of_below ky (by omega)))
 have JSg:=hidM1 (Sg.out.keep (Keep.of_below ky (by omega)))
 have JBg:=hidM1 (Bg.out.keep (Keep.of_below ky (by omega)))
 clear K A Rw Iw Bw Rx Ox Bx Py Rg Ig Sg Bg
 have K:=JK
 have A:=JA
 have Rw:=JRw
 have Iw:=JIw
 have Bw:=JBw
 have Rx:=JRx
 have Ox:=JOx
 have Bx:=JBx
 have Py:=JPy
 have Rg:=JRg
 have Ig:=JIg
 have Sg:=JSg
 have Bg:=JBg
 clear JK JA JRw JIw JBw JRx JOx JBx JPy JRg JIg JSg JBg
 clear ky
 go_wp2_with fail
 refine (toPickS_ex s5 c5 0 w.heap.size l w16 (HL0.out.keep (Keep.of_below K.out (Nat.le_refl _))) (by omega) LL.out).mono ?_
 rintro e w17 ⟨gz,rfl,ho17,hb17,zz17⟩
 have z17:=hb17.size
 have JK:=hidM1 (K.out.trans (hb17.mono (by omega)))
 have JA:=hidM1 (A.out.keep (Keep.of_below hb17 (by omega)))
 have JRw:=hidM1 (Rw.out.keep (Keep.of_below hb17 (by omega)))
 have JIw:=hidM1 (Iw.out.keep (Keep.of_below hb17 (by omega)))
 have JBw:=hidM1 (Bw.out.keep (Keep.of_below hb17 (by omega)))
 have JRx:=hidM1 (Rx.out.keep (Keep.of_below hb17 (by omega)))
 have JOx:=hidM1 (Ox.out.keep (Keep.of_below hb17 (by omega)))
 have JBx:=hidM1 (Bx.out.keep (Keep.of_below hb17 (by omega)))
 have JPy:=hidM1 (Py.out.keep (Keep.of_below hb17 (by omega)))
 have JRg:=hidM1 (Rg.out.keep (Keep.of_below hb17 (by omega)))
 have JIg:=hidM1 (Ig.out.keep (Keep.of_below hb17 (by omega)))
 have JSg:=hidM1 (Sg.out.keep (Keep.of_below hb17 (by omega)))
 have JBg:=hidM1 (Bg.out.keep (Keep.of_below hb17 (by omega)))
 clear K A Rw Iw Bw Rx Ox Bx Py Rg Ig Sg Bg
 have K:=JK
 have A:=JA
 have Rw:=JRw
 have Iw:=JIw
 have Bw:=JBw
 have Rx:=JRx
 have Ox:=JOx
 have Bx:=JBx
 have Py:=JPy
 have Rg:=JRg
 have Ig:=JIg
 have Sg:=JSg
 have Bg:=JBg
 clear JK JA JRw JIw JBw JRx JOx JBx JPy JRg JIg JSg JBg
 clear zz17
 have Pz:=hidM1 ho17
 clear hb17 ho17
 go_wp2_with fail
 refine (eqPickS_alike _ _ _ _ _ _ _ _ l w17 Py.out.r Pz.out.r (by omega) (by omega) (by have:=LL.out;omega)).mono ?_
 rintro e w18 ⟨rfl,hb18⟩
 have z18:=hb18.size
 have JK:=hidM1 (K.out.trans (hb18.mono (by omega)))
 have JA:=hidM1 (A.out.keep (Keep.of_below hb18 (by omega)))
 have JRw:=hidM1 (Rw.out.keep (Keep.of_below hb18 (by omega)))
 have JIw:=hidM1 (Iw.out.keep (Keep.of_below hb18 (by omega)))
 have JBw:=hidM1 (Bw.out.keep (Keep.of_below hb18 (by omega)))
 have JRx:=hidM1 (Rx.out.keep (Keep.of_below hb18 (by omega)))
 have JOx:=hidM1 (Ox.out.keep (Keep.of_below hb18 (by omega)))
 have JBx:=hidM1 (Bx.out.keep (Keep.of_below hb18 (by omega)))
 have JPy:=hidM1 (Py.out.keep (Keep.of_below hb18 (by omega)))
 have JRg:=hidM1 (Rg.out.keep (Keep.of_below hb18 (by omega)))
 have JIg:=hidM1 (Ig.out.keep (Keep.of_below hb18 (by omega)))
 have JSg:=hidM1 (Sg.out.keep (Keep.of_below hb18 (by omega)))
 have JBg:=hidM1 (Bg.out.keep (Keep.of_below hb18 (by omega)))
 have JPz:=hidM1 (Pz.out.keep (Keep.of_below hb18 (by omega)))
 clear K A Rw Iw Bw Rx Ox Bx Py Rg Ig Sg Bg Pz
 have K:=JK
 have A:=JA
 have Rw:=JRw
 have Iw:=JIw
 have Bw:=JBw
 have Rx:=JRx
 have Ox:=JOx
 have Bx:=JBx
 have Py:=JPy
 have Rg:=JRg
 have Ig:=JIg
 have Sg:=JSg
 have Bg:=JBg
 have Pz:=JPz
 clear JK JA JRw JIw JBw JRx JOx JBx JPy JRg JIg JSg JBg JPz
 clear hb18
 clear Pz
 obtain ⟨Bxc0,Bxc1,Bxc2,Bxc3⟩:=Bx.out
 have Bxz:w8.heap.size < w18.heap.size:=by omega
 go_wp2_with fail
 refine (markMachine_any xx d _ _ 1 w18 Ox.out (by omega) FF.out (by omega) (by omega)).mono ?_
 rintro e w19 ⟨rfl,-,ex19,-⟩
 have z19:=ex19.size
 clear Bxc0 Bxc1 Bxc2 Bxc3 Bxz
 clear Rx
 clear Ox
 have JK:=hidM1 (K.out.trans (ex19.below (by omega) (by omega)))
 have JA:=hidM1 (A.out.keep (Keep.of_exc ex19 (by omega) (by omega)))
 have JRw:=hidM1 (Rw.out.keep (Keep.of_exc ex19 (by omega) (by omega)))
 have JIw:=hidM1 (Iw.out.keep (Keep.of_exc ex19 (by omega) (by omega)))
 have JBw:=hidM1 (Bw.out.keep (Keep.of_exc ex19 (by omega) (by omega)))
 have JBx:=hidM1 (Bx.out.keep (Keep.of_exc ex19 (by omega) (by omega)))
 have JPy:=hidM1 (Py.out.keep (Keep.of_exc ex19 (by omega) (by omega)))
 have JRg:=hidM1 (Rg.out.keep (Keep.of_exc ex19 (by omega) (by omega)))
 have JIg:=hidM1 (Ig.out.keep (Keep.of_exc ex19 (by omega) (by omega)))
 have JSg:=hidM1 (Sg.out.keep (Keep.of_exc ex19 (by omega) (by omega)))
 have JBg:=hidM1 (Bg.out.keep (Keep.of_exc ex19 (by omega) (by omega)))
 clear K A Rw Iw Bw Bx Py Rg Ig Sg Bg
 have K:=JK
 have A:=JA
 have Rw:=JRw
 have Iw:=JIw
 have Bw:=JBw
 have Bx:=JBx
 have Py:=JPy
 have Rg:=JRg
 have Ig:=JIg
 have Sg:=JSg
 have Bg:=JBg
 clear JK JA JRw JIw JBw JBx JPy JRg JIg JSg JBg
 clear ex19
 obtain ⟨N,hN⟩:∃ n:Nat,xx.len d=n:=⟨_,rfl⟩
 have HN:Hid (N≤20000000):=by rw [← hN];exact mplen_le xx FF.out
 rw [hN]
 clear hN
 go_wp2_with fail
 refine (markPk8 (1+(N:Int)) Py.out LL.out (by omega) (by have:=HN.out;omega)).mono ?_
 rintro e w20 ⟨rfl,ex20⟩
 have z20:=ex20.size
 clear Py
 have JK:=hidM1 (K.out.trans (ex20.below (by omega) (by omega)))
 have JA:=hidM1 (A.out.keep (Keep.of_exc ex20 (by omega) (by omega)))
 have JRw:=hidM1 (Rw.out.keep (Keep.of_exc ex20 (by omega) (by omega)))
 have JIw:=hidM1 (Iw.out.keep (Keep.of_exc ex20 (by omega) (by omega)))
 have JBw:=hidM1 (Bw.out.keep (Keep.of_exc ex20 (by omega) (by omega)))
 have JBx:=hidM1 (Bx.out.keep (Keep.of_exc ex20 (by omega) (by omega)))
 have JRg:=hidM1 (Rg.out.keep (Keep.of_exc ex20 (by omega) (by omega)))
 have JIg:=hidM1 (Ig.out.keep (Keep.of_exc ex20 (by omega) (by omega)))
 have JSg:=hidM1 (Sg.out.keep (Keep.of_exc ex20 (by omega) (by omega)))
 have JBg:=hidM1 (Bg.out.keep (Keep.of_exc ex20 (by omega) (by omega)))
 clear K A Rw Iw Bw Bx Rg Ig Sg Bg
 have K:=JK
 have A:=JA
 have Rw:=JRw
 have Iw:=JIw
 have Bw:=JBw
 have Bx:=JBx
 have Rg:=JRg
 have Ig:=JIg
 have Sg:=JSg
 have Bg:=JBg
 clear JK JA JRw JIw JBw JBx JRg JIg JSg JBg
 clear ex20
 have hN0:¬ 1+(N:Int)+((l.length * 2:Nat):Int) < 0:=by omega
 obtain ⟨Bgc0,Bgc1,Bgc2,Bgc3⟩:=Bg.out
 have Bgz:w11.heap.size < w20.heap.size:=by omega
 obtain ⟨Bwc0,Bwc1,Bwc2,Bwc3⟩:=Bw.out
 have Bwz:w6.heap.size < w20.heap.size:=by omega
 go_wp2_with fail
 refine (eqMachine_alike _ _ _ _ _ _ _ _ _ _ _ _ _ _ _ _ _ _ _ _ RS w20 Rg.out Rw.out (by omega) (by omega) FX.out).mono ?_
 rintro e w21 ⟨rfl,hb21⟩
 have z21:=hb21.size
 clear Bgc0 Bgc1 Bgc2 Bgc3 Bwc0 Bwc1 Bwc2 Bwc3 Bgz Bwz
 have JK:=hidM1 (K.out.trans (hb21.mono (by omega)))
 have JA:=hidM1 (A.out.keep (Keep.of_below hb21 (by omega)))
 have JRw:=hidM1 (Rw.out.keep (Keep.of_below hb21 (by omega)))
 have JIw:=hidM1 (Iw.out.keep (Keep.of_below hb21 (by omega)))
 have JBw:=hidM1 (Bw.out.keep (Keep.of_below hb21 (by omega)))
 have JBx:=hidM1 (Bx.out.keep (Keep.of_below hb21 (by omega)))
 have JRg:=hidM1 (Rg.out.keep (Keep.of_below hb21 (by omega)))
 have JIg:=hidM1 (Ig.out.keep (Keep.of_below hb21 (by omega)))
 have JSg:=hidM1 (Sg.out.keep (Keep.of_below hb21 (by omega)))
 have JBg:=hidM1 (Bg.out.keep (Keep.of_below hb21 (by omega)))
 clear K A Rw Iw Bw Bx Rg Ig Sg Bg
 have K:=JK
 have A:=JA
 have Rw:=JRw
 have Iw:=JIw
 have Bw:=JBw
 have Bx:=JBx
 have Rg:=JRg
 have Ig:=JIg
 have Sg:=JSg
 have Bg:=JBg
 clear JK JA JRw JIw JBw JBx JRg JIg JSg JBg
 clear hb21
 go_wp2_with fail
 refine (eqN_true eg ew Ig.out Iw.out (by omega) (by omega) (by have:=LC.out;omega)).mono ?_
 rintro e w22 ⟨rfl,hb22⟩
 have z22:=hb22.size
 have JK:=hidM1 (K.out.trans (hb22.mono (by omega)))
 have JA:=hidM1 (A.out.keep (Keep.of_below hb22 (by omega)))
 have JRw:=hidM1 (Rw.out.keep (Keep.of_below hb22 (by omega)))
 have JIw:=hidM1 (Iw.out.keep (Keep.of_below hb22 (by omega)))
 have JBw:=hidM1 (Bw.out.keep (Keep.of_below hb22 (by omega)))
 have JBx:=hidM1 (Bx.out.keep (Keep.of_below hb22 (by omega)))
 have JRg:=hidM1 (Rg.out.keep (Keep.of_below hb22 (by omega)))
 have JIg:=hidM1 (Ig.out.keep (Keep.of_below hb22 (by omega)))
 have JSg:=hidM1 (Sg.out.keep (Keep.of_below hb22 (by omega)))
 have JBg:=hidM1 (Bg.out.keep (Keep.of_below hb22 (by omega)))
 clear K A Rw Iw Bw Bx Rg Ig Sg Bg
 have K:=JK
 have A:=JA
 have Rw:=JRw
 have Iw:=JIw
 have Bw:=JBw
 have Bx:=JBx
 have Rg:=JRg
 have Ig:=JIg
 have Sg:=JSg
 have Bg:=JBg
 clear JK JA JRw JIw JBw JBx JRg JIg JSg JBg
 clear hb22
 obtain ⟨Bgc0,Bgc1,Bgc2,Bgc3⟩:=Bg.out
 have Bgz:w11.heap.size < w22.heap.size:=by omega
 go_wp2_with fail
 refine (markSN8 Sg.out (by omega) FX.out).mono ?_
 rintro e w23 ⟨rfl,hm23,ex23⟩
 have z23:=ex23.size
 clear Bgc0 Bgc1 Bgc2 Bgc3 Bgz
 clear Rg
 clear Ig
 clear Sg
 have JK:=hidM1 (K.out.trans (ex23.below (by omega) (by omega)))
 have JA:=hidM1 (A.out.keep (Keep.of_exc ex23 (by omega) (by omega)))
 have JRw:=hidM1 (Rw.out.keep (Keep.of_exc ex23 (by omega) (by omega)))
 have JIw:=hidM1 (Iw.out.keep (Keep.of_exc ex23 (by omega) (by omega)))
 have JBw:=hidM1 (Bw.out.keep (Keep.of_exc ex23 (by omega) (by omega)))
 have JBx:=hidM1 (Bx.out.keep (Keep.of_exc ex23 (by omega) (by omega)))
 have JBg:=hidM1 (Bg.out.keep (Keep.of_exc ex23 (by omega) (by omega)))
 clear K A Rw Iw Bw Bx Bg
 have K:=JK
 have A:=JA
 have Rw:=JRw
 have Iw:=JIw
 have Bw:=JBw
 have Bx:=JBx
 have Bg:=JBg
 clear JK JA JRw JIw JBw JBx JBg
 have Mg:=hidM1 hm23
 clear ex23 hm23
 obtain ⟨M,hM⟩:∃ n:Nat,xg.len RS=n:=⟨_,rfl⟩
 have HM:Hid (M≤20000000∧xg.len RS=M):=⟨by rw [← hM];exact mplen_le xg FX.out,hM⟩
 rw [hM]
 clear hM
 go_wp2_with fail
 refine (markMN8 (1+(M:Int)) Mg.out (by have:=LC.out;show RC.length≤_;omega) (by omega) (by have:=HM.out;omega)).mono ?_
 rintro e w24 ⟨rfl,hm24,ex24⟩
 have z24:=ex24.size
 clear Mg
 have JK:=hidM1 (K.out.trans (ex24.below (by omega) (by omega)))
 have JA:=hidM1 (A.out.keep (Keep.of_exc ex24 (by omega) (by omega)))
 have JRw:=hidM1 (Rw.out.keep (Keep.of_exc ex24 (by omega) (by omega)))
 have JIw:=hidM1 (Iw.out.keep (Keep.of_exc ex24 (by omega) (by omega)))
 have JBw:=hidM1 (Bw.out.keep (Keep.of_exc ex24 (by omega) (by omega)))
 have JBx:=hidM1 (Bx.out.keep (Keep.of_exc ex24 (by omega) (by omega)))
 have JBg:=hidM1 (Bg.out.keep (Keep.of_exc ex24 (by omega) (by omega)))
 clear K A Rw Iw Bw Bx Bg
 have K:=JK
 have A:=JA
 have Rw:=JRw
 have Iw:=JIw
 have Bw:=JBw
 have Bx:=JBx
 have Bg:=JBg
 clear JK JA JRw JIw JBw JBx JBg
 have Hg:=hidM1 hm24
 clear ex24 hm24
 have hM0:¬ 1+(M:Int) < 0:=by omega
 have hM1:¬ 1+(M:Int)+(RC.length:Int) < 0:=by omega
 have hMM:((1+(M:Int)+(RC.length:Int)) !=(1+(M:Int)+(RC.length:Int)))=false:=by simp
 obtain ⟨Bgc0,Bgc1,Bgc2,Bgc3⟩:=Bg.out
 have Bgz:w11.heap.size < w24.heap.size:=by omega
 go_wp2_with fail
 refine (heldMachine_any xg RS _ _ 1 w24 Hg.out.m.o (by omega) FX.out (by omega) (by omega)).mono ?_
 rintro e w25 ⟨rfl,hb25⟩
 have z25:=hb25.size
 clear Bgc0 Bgc1 Bgc2 Bgc3 Bgz
 have JK:=hidM1 (K.out.trans (hb25.mono (by omega)))
 have JA:=hidM1 (A.out.keep (Keep.of_below hb25 (by omega)))
 have JRw:=hidM1 (Rw.out.keep (Keep.of_below hb25 (by omega)))
 have JIw:=hidM1 (Iw.out.keep (Keep.of_below hb25 (by omega)))
 have JBw:=hidM1 (Bw.out.keep (Keep.of_below hb25 (by omega)))
 have JBx:=hidM1 (Bx.out.keep (Keep.of_below hb25 (by omega)))
 have JBg:=hidM1 (Bg.out.keep (Keep.of_below hb25 (by omega)))
 have JHg:=hidM1 (Hg.out.keep (Keep.of_below hb25 (by omega)))
 clear K A Rw Iw Bw Bx Bg Hg
 have K:=JK
 have A:=JA
 have Rw:=JRw
 have Iw:=JIw
 have Bw:=JBw
 have Bx:=JBx
 have Bg:=JBg
 have Hg:=JHg
 clear JK JA JRw JIw JBw JBx JBg JHg
 clear hb25
 rw [HM.out.2]
 go_wp2_with fail
 refine (heldHN8 Hg.out (by have:=LC.out;show RC.length≤_;omega) (by omega) (by have:=HM.out;omega)).mono ?_
 rintro e w26 ⟨rfl,hw26⟩
 have hw26':=hw26.symm
 clear hw26
 subst hw26'
 go_upto_region 35 with fail
 obtain ⟨Ac0,Ac1,Ac2,Ac3⟩:=A.out
 have Az:w.heap.size < w25.heap.size:=by omega
 go_wp2_with fail
 refine (toMachine_own s1 s2 s3 s4 c1 c2 c3 c4 0 w.heap.size d w25 (HA0.out.keep (Keep.of_below K.out (Nat.le_refl _))) (by omega) FK.out).mono ?_
 rintro e w27 ⟨xk,rfl,ho27,hb27,zz27⟩
 have z27:=hb27.size
 clear Ac0 Ac1 Ac2 Ac3 Az
 have JK:=hidM1 (K.out.trans (hb27.mono (by omega)))
 have JA:=hidM1 (A.out.keep (Keep.of_below hb27 (by omega)))
 have JRw:=hidM1 (Rw.out.keep (Keep.of_below hb27 (by omega)))
 have JIw:=hidM1 (Iw.out.keep (Keep.of_below hb27 (by omega)))
 have JBw:=hidM1 (Bw.out.keep (Keep.of_below hb27 (by omega)))
 have JBx:=hidM1 (Bx.out.keep (Keep.of_below hb27 (by omega)))
 have JBg:=hidM1 (Bg.out.keep (Keep.of_below hb27 (by omega)))
 have JHg:=hidM1 (Hg.out.keep (Keep.of_below hb27 (by omega)))
 clear K A Rw Iw Bw Bx Bg Hg
 have K:=JK
 have A:=JA
 have Rw:=JRw
 have Iw:=JIw
 have Bw:=JBw
 have Bx:=JBx
 have Bg:=JBg
 have Hg:=JHg
 clear JK JA JRw JIw JBw JBx JBg JHg
 clear zz27
 have Rk:=hidM1 ho27.ma
 clear hb27 ho27
 go_wp2_with fail
 refine (toPickS_ex s5 c5 0 w.heap.size l w27 (HL0.out.keep (Keep.of_below K.out (Nat.le_refl _))) (by omega) LL.out).mono ?_
 rintro e w28 ⟨gl,rfl,ho28,hb28,zz28⟩
 have z28:=hb28.size
 have JK:=hidM1 (K.out.trans (hb28.mono (by omega)))
 have JA:=hidM1 (A.out.keep (Keep.of_below hb28 (by omega)))
 have JRw:=hidM1 (Rw.out.keep (Keep.of_below hb28 (by omega)))
 have JIw:=hidM1 (Iw.out.keep (Keep.of_below hb28 (by omega)))
 have JBw:=hidM1 (Bw.out.keep (Keep.of_below hb28 (by omega)))
 have JBx:=hidM1 (Bx.out.keep (Keep.of_below hb28 (by omega)))
 have JBg:=hidM1 (Bg.out.keep (Keep.of_below hb28 (by omega)))
 have JHg:=hidM1 (Hg.out.keep (Keep.of_below hb28 (by omega)))
 have JRk:=hidM1 (Rk.out.keep (Keep.of_below hb28 (by omega)))
 clear K A Rw Iw Bw Bx Bg Hg Rk
 have K:=JK
 have A:=JA
 have Rw:=JRw
 have Iw:=JIw
 have Bw:=JBw
 have Bx:=JBx
 have Bg:=JBg
 have Hg:=JHg
 have Rk:=JRk
 clear JK JA JRw JIw JBw JBx JBg JHg JRk
 clear zz28
 have Pl:=hidM1 ho28
 clear hb28 ho28
 go_wp2_with fail
 refine (CI.out xk.s1 xk.s2 xk.s3 xk.s4 (some ⟨gl,0,none⟩) _ _ _ _ _ _ _ _ _ w28 Rk.out Pl.out.r (by omega) (by omega)).mono ?_
 rintro e w29 ⟨xh,th,eh,rfl,ho29,hn29,sp29,hb29⟩
 have z29:=hb29.size
 have JK:=hidM1 (K.out.trans (hb29.mono (by omega)))
 have JA:=hidM1 (A.out.keep (Keep.of_below hb29 (by omega)))
 have JRw:=hidM1 (Rw.out.keep (Keep.of_below hb29 (by omega)))
 have JIw:=hidM1 (Iw.out.keep (Keep.of_below hb29 (by omega)))
 have JBw:=hidM1 (Bw.out.keep (Keep.of_below hb29 (by omega)))
 have JBx:=hidM1 (Bx.out.keep (Keep.of_below hb29 (by omega)))
 have JBg:=hidM1 (Bg.out.keep (Keep.of_below hb29 (by omega)))
 have JHg:=hidM1 (Hg.out.keep (Keep.of_below hb29 (by omega)))
 have JRk:=hidM1 (Rk.out.keep (Keep.of_below hb29 (by omega)))
 have JPl:=hidM1 (Pl.out.keep (Keep.of_below hb29 (by omega)))
 clear K A Rw Iw Bw Bx Bg Hg Rk Pl
 have K:=JK
 have A:=JA
 have Rw:=JRw
 have Iw:=JIw
 have Bw:=JBw
 have Bx:=JBx
 have Bg:=JBg
 have Hg:=JHg
 have Rk:=JRk
 have Pl:=JPl
 clear JK JA JRw JIw JBw JBx JBg JHg JRk JPl
 have Rh:=hidM1 ho29.ma
 have Ih:=hidM1 (OwnN.intsM hn29)
 clear hb29 ho29 hn29 sp29
 go_upto_region 36 with fail
 obtain ⟨V30,hV30,bx30,kb30,zb30⟩:=Bo4.new w29 (.slice xh.s1 RS.codes.length xh.c1) (.slice xh.s2 RS.cores.length xh.c2) (.slice xh.s3 RS.mem.length xh.c3) (.slice xh.s4 RS.tr.length xh.c4) 40
 rw [hV30]
 clear hV30
 have z30:=kb30.size
 have y30:w29.heap.size < V30.heap.size:=by omega
 clear zb30
 have JK:=hidM1 (K.out.trans (kb30.mono (by omega)))
 have JA:=hidM1 (A.out.keep (Keep.of_below kb30 (by omega)))
 have JRw:=hidM1 (Rw.out.keep (Keep.of_below kb30 (by omega)))
 have JIw:=hidM1 (Iw.out.keep (Keep.of_below kb30 (by omega)))
 have JBw:=hidM1 (Bw.out.keep (Keep.of_below kb30 (by omega)))
 have JBx:=hidM1 (Bx.out.keep (Keep.of_below kb30 (by omega)))
 have JBg:=hidM1 (Bg.out.keep (Keep.of_below kb30 (by omega)))
 have JHg:=hidM1 (Hg.out.keep (Keep.of_below kb30 (by omega)))
 have JRk:=hidM1 (Rk.out.keep (Keep.of_below kb30 (by omega)))
 have JPl:=hidM1 (Pl.out.keep (Keep.of_below kb30 (by omega)))
 have JRh:=hidM1 (Rh.out.keep (Keep.of_below kb30 (by omega)))
 have JIh:=hidM1 (Ih.out.keep (Keep.of_below kb30 (by omega)))
 clear K A Rw Iw Bw Bx Bg Hg Rk Pl Rh Ih
 have K:=JK
 have A:=JA
 have Rw:=JRw
 have Iw:=JIw
 have Bw:=JBw
 have Bx:=JBx
 have Bg:=JBg
 have Hg:=JHg
 have Rk:=JRk
 have Pl:=JPl
 have Rh:=JRh
 have Ih:=JIh
 clear JK JA JRw JIw JBw JBx JBg JHg JRk JPl JRh JIh
 have Bh:=hidM1 bx30
 clear bx30 kb30
 obtain ⟨Bhc0,Bhc1,Bhc2,Bhc3⟩:=Bh.out
 have Bhz:w29.heap.size < V30.heap.size:=by omega
 obtain ⟨Bwc0,Bwc1,Bwc2,Bwc3⟩:=Bw.out
 have Bwz:w6.heap.size < V30.heap.size:=by omega
 go_wp2_with fail
 refine (eqMachine_alike _ _ _ _ _ _ _ _ _ _ _ _ _ _ _ _ _ _ _ _ RS V30 Rh.out Rw.out (by omega) (by omega) FX.out).mono ?_
 rintro e w31 ⟨rfl,hb31⟩
 have z31:=hb31.size
 clear Bhc0 Bhc1 Bhc2 Bhc3 Bwc0 Bwc1 Bwc2 Bwc3 Bhz Bwz
 have JK:=hidM1 (K.out.trans (hb31.mono (by omega)))
 have JA:=hidM1 (A.out.keep (Keep.of_below hb31 (by omega)))
 have JRw:=hidM1 (Rw.out.keep (Keep.of_below hb31 (by omega)))
 have JIw:=hidM1 (Iw.out.keep (Keep.of_below hb31 (by omega)))
 have JBw:=hidM1 (Bw.out.keep (Keep.of_below hb31 (by omega)))
 have JBx:=hidM1 (Bx.out.keep (Keep.of_below hb31 (by omega)))
 have JBg:=hidM1 (Bg.out.keep (Keep.of_below hb31 (by omega)))
 have JHg:=hidM1 (Hg.out.keep (Keep.of_below hb31 (by omega)))
 have JRk:=hidM1 (Rk.out.keep (Keep.of_below hb31 (by omega)))
 have JPl:=hidM1 (Pl.out.keep (Keep.of_below hb31 (by omega)))
 have JRh:=hidM1 (Rh.out.keep (Keep.of_below hb31 (by omega)))
 have JIh:=hidM1 (Ih.out.keep (Keep.of_below hb31 (by omega)))
 have JBh:=hidM1 (Bh.out.keep (Keep.of_below hb31 (by omega)))
 clear K A Rw Iw Bw Bx Bg Hg Rk Pl Rh Ih Bh
 have K:=JK
 have A:=JA
 have Rw:=JRw
 have Iw:=JIw
 have Bw:=JBw
 have Bx:=JBx
 have Bg:=JBg
 have Hg:=JHg
 have Rk:=JRk
 have Pl:=JPl
 have Rh:=JRh
 have Ih:=JIh
 have Bh:=JBh
 clear JK JA JRw JIw JBw JBx JBg JHg JRk JPl JRh JIh JBh
 clear hb31
 go_wp2_with fail
 refine (eqN_true eh ew Ih.out Iw.out (by omega) (by omega) (by have:=LC.out;omega)).mono ?_
 rintro e w32 ⟨rfl,hb32⟩
 have z32:=hb32.size
 have JK:=hidM1 (K.out.trans (hb32.mono (by omega)))
 have JA:=hidM1 (A.out.keep (Keep.of_below hb32 (by omega)))
 have JRw:=hidM1 (Rw.out.keep (Keep.of_below hb32 (by omega)))
 have JIw:=hidM1 (Iw.out.keep (Keep.of_below hb32 (by omega)))
 have JBw:=hidM1 (Bw.out.keep (Keep.of_below hb32 (by omega)))
 have JBx:=hidM1 (Bx.out.keep (Keep.of_below hb32 (by omega)))
 have JBg:=hidM1 (Bg.out.keep (Keep.of_below hb32 (by omega)))
 have JHg:=hidM1 (Hg.out.keep (Keep.of_below hb32 (by omega)))
 have JRk:=hidM1 (Rk.out.keep (Keep.of_below hb32 (by omega)))
 have JPl:=hidM1 (Pl.out.keep (Keep.of_below hb32 (by omega)))
 have JRh:=hidM1 (Rh.out.keep (Keep.of_below hb32 (by omega)))
 have JIh:=hidM1 (Ih.out.keep (Keep.of_below hb32 (by omega)))
 have JBh:=hidM1 (Bh.out.keep (Keep.of_below hb32 (by omega)))
 clear K A Rw Iw Bw Bx Bg Hg Rk Pl Rh Ih Bh
 have K:=JK
 have A:=JA
 have Rw:=JRw
 have Iw:=JIw
 have Bw:=JBw
 have Bx:=JBx
 have Bg:=JBg
 have Hg:=JHg
 have Rk:=JRk
 have Pl:=JPl
 have Rh:=JRh
 have Ih:=JIh
 have Bh:=JBh
 clear JK JA JRw JIw JBw JBx JBg JHg JRk JPl JRh JIh JBh
 clear hb32
 obtain ⟨Bgc0,Bgc1,Bgc2,Bgc3⟩:=Bg.out
 have Bgz:w11.heap.size < w32.heap.size:=by omega
 go_wp2_with fail
 refine (heldMachine_any xg RS _ _ 1 w32 Hg.out.m.o (by omega) FX.out (by omega) (by omega)).mono ?_
 rintro e w33 ⟨rfl,hb33⟩
 have z33:=hb33.size
 clear Bgc0 Bgc1 Bgc2 Bgc3 Bgz
 have JK:=hidM1 (K.out.trans (hb33.mono (by omega)))
 have JA:=hidM1 (A.out.keep (Keep.of_below hb33 (by omega)))
 have JRw:=hidM1 (Rw.out.keep (Keep.of_below hb33 (by omega)))
 have JIw:=hidM1 (Iw.out.keep (Keep.of_below hb33 (by omega)))
 have JBw:=hidM1 (Bw.out.keep (Keep.of_below hb33 (by omega)))
 have JBx:=hidM1 (Bx.out.keep (Keep.of_below hb33 (by omega)))
 have JBg:=hidM1 (Bg.out.keep (Keep.of_below hb33 (by omega)))
 have JHg:=hidM1 (Hg.out.keep (Keep.of_below hb33 (by omega)))
 have JRk:=hidM1 (Rk.out.keep (Keep.of_below hb33 (by omega)))
 have JPl:=hidM1 (Pl.out.keep (Keep.of_below hb33 (by omega)))
 have JRh:=hidM1 (Rh.out.keep (Keep.of_below hb33 (by omega)))
 have JIh:=hidM1 (Ih.out.keep (Keep.of_below hb33 (by omega)))
 have JBh:=hidM1 (Bh.out.keep (Keep.of_below hb33 (by omega)))
 clear K A Rw Iw Bw Bx Bg Hg Rk Pl Rh Ih Bh
 have K:=JK
 have A:=JA
 have Rw:=JRw
 have Iw:=JIw
 have Bw:=JBw
 have Bx:=JBx
 have Bg:=JBg
 have Hg:=JHg
 have Rk:=JRk
 have Pl:=JPl
 have Rh:=JRh
 have Ih:=JIh
 have Bh:=JBh
 clear JK JA JRw JIw JBw JBx JBg JHg JRk JPl JRh JIh JBh
 clear hb33
 rw [HM.out.2]
 go_wp2_with fail
 refine (heldHN8 Hg.out (by have:=LC.out;show RC.length≤_;omega) (by omega) (by have:=HM.out;omega)).mono ?_
 rintro e w34 ⟨rfl,hw34⟩
 have hw34':=hw34.symm
 clear hw34
 subst hw34'
 go_wp2
 go_ret
 exact ⟨rfl,K.out⟩
set_option maxRecDepth 100000 in
theorem liftedExactMachineRun (os : Os) (started : os.Started) (H : Type) (enc : TypeId × Value → H) :
  ReturnsInHanded {} Tryz.checked os 3 .any (Rows.fnExactMachineRunSpec.pre6 enc Tryz.prog Tryz.f3 Rows.fnExactMachineRunRow.domain false) (Rows.fnExactMachineRunSpec.post enc Tryz.prog Tryz.f3 false true false false):=by
 refine returnsInHanded_of_change (C:=Tryz.checked) ownP started (by kernel_rfl) Tryz.func3
  (ChangeSpec.witness6 (enc:=enc) (C:=Tryz.checked) false ⟨#[],#[.agg #[.slice none 0 0,.slice none 0 0,.slice none 0 0,.slice none 0 0],.slice none 0 0],[]⟩ 8 (by kernel_rfl) (by kernel_rfl) (by kernel_rfl) (by kernel_rfl)) ?_
 intro W base args ds gs before hval0 hW hcnd _
 have hval:∀ (j:Nat) t v,Tryz.f3.params[j]? =some t→args[j]? =some v→Value.okWide Tryz.prog W .any base t v:=hval0
 have hW':=hW
 obtain ⟨p,q,hA0,hV,rfl,hfz,hnd⟩:=hW
 have hA:DataW.TrodAll enc Tryz.prog W 0 (fun _=>true) true Tryz.f3.params.toList args.toList ds p:=hA0
 rw [Tryz.params3] at hA hval
 obtain ⟨v0,v1,d0,d1,p0,p1,hargs,rfl,rfl,h0,h1⟩:=trodAll_two hA
 obtain rfl:args=#[v0,v1]:=by cases args;simp_all
 obtain ⟨rfl,rfl⟩:=trodVars_none hV
 have k0:=h0
 have lt0:∀ x∈p0,x.block < W.heap.size:=by obtain ⟨m,hm⟩:=k0;exact DataW.trod_lt m _ _ _ hm
 have k1:=h1
 have lt1:∀ x∈p1,x.block < W.heap.size:=by obtain ⟨m,hm⟩:=k1;exact DataW.trod_lt m _ _ _ hm
 obtain ⟨s1,s2,s3,s4,c1,c2,c3,c4,pd,rfl,m0,hR⟩:=open_machine (hval 0 29 v0 rfl rfl) h0
 obtain ⟨s5,c5,pl,rfl,m5,hR5,hb5⟩:=open_picks (hval 1 30 v1 rfl rfl) h1
 clear hA0 hval0
 refine (walkExactMachineRun s1 s2 s3 s4 c1 c2 c3 c4 pd s5 c5 pl W hR m0 hR5 m5 (fun x hx=>by obtain ⟨i,hi⟩:=List.getElem?_of_mem hx;exact (hb5 i x hi).2.2)).mono fun e W' ⟨he,bel⟩=>?_
 subst he
 exact ⟨_,rfl,_,_,_,[],_,[],hW',trodAll_mk1 (shut_bool Tryz.underlying4 _),trodAll_mk2 (Below.trod laidOutP (by kernel_rfl) (of_decide_eq_true (by kernel_rfl)) k0 bel lt0) (Below.trod laidOutP (by kernel_rfl) (of_decide_eq_true (by kernel_rfl)) k1 bel lt1),rfl,bel.frame _,fun h=>by cases h⟩
theorem fnExactMachineRun_holds:Rows.FnExactMachineRunSaid:=
 OpenClaim.holds_of_wide 3 Tryz.f3 rfl rfl rfl rfl rfl rfl rfl ⟨rfl,rfl,rfl,rfl,rfl⟩ rfl rfl rfl rfl rfl (by kernel_rfl) Tryz.func3 (by kernel_rfl)
  (of_decide_eq_true (by kernel_rfl)) (by unfold Func.isWrapper;first | (rw [if_pos (by decide+kernel)];kernel_rfl) | (rw [if_neg (by decide+kernel)];exact ⟨rfl,rfl⟩))
  (fun os started H enc _=>liftedExactMachineRun os started H enc)
#print axioms fnExactMachineRun_holds
end Go.Proofs.YtepfpbcjklaenaaGreat
