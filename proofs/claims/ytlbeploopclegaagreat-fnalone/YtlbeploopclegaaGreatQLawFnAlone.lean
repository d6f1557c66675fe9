/- The law FnAlone of the given statements: a core that goes on alone so often is as a part of it, and then the rest; nobody else's registers turn. No condition. -/
import Derived.Test.YtlbeploopclegaaGreatRows
import Derived.Test.YtlbeploopclegaaGreatQG26
import Derived.Test.YtlbeploopclegaaGreatQAlWalk
import Derived.Test.YtlbeploopclegaaGreatQG27
import Derived.Test.YtlbeploopclegaaGreatQG20
import Derived.Test.YtlbeploopclegaaGreatQG18
import Derived.Test.YtlbeploopclegaaGreatQKOkS
import Derived.Deep.RegionHeld3
import Derived.ProofKit
import Derived.OpenShut
import Derived.ShutString
import Derived.ChangeOld
import Derived.ChangeSlices
namespace Go.Proofs.YtlbeploopclegaaGreat
set_option linter.unusedSimpArgs false
set_option linter.unusedVariables false
set_option maxRecDepth 100000
open Go.ChangeShapes Go.WideShapes Go.ChangeAt Go.RowKit Go.Deep
structure Ev3 (w:World) (bM bN:Nat) (q q2:MP) (d D:MD) (X:World):Prop where
 P:Fm bM q d X
 G:Fm bN q2 D X
 K:Below w.heap.size w X
theorem Ev3.keep {w:World} {bM bN:Nat} {q q2:MP} {d D:MD} {X Y:World} (h:Ev3 w bM bN q q2 d D X) (k:Below X.heap.size X Y):Ev3 w bM bN q q2 d D Y:=
 ⟨h.P.keep k,h.G.keep k,h.K.trans (k.mono h.K.size)⟩
theorem MaO.low {w w':World} {q:MP} {d:MD} {lo:Nat} (h:MaO w' lo w'.heap.size q d):MaR w' 0 w'.heap.size q.s1 q.s2 q.s3 q.s4 d:=h.ma.mono (Nat.zero_le _) (Nat.le_refl _)
set_option maxRecDepth 100000 in
set_option maxHeartbeats 16000000 in
theorem walkFnAlone (s : Option Addr) (n c : Nat) (w : World) (hb : Bytes w w.heap.size s n) (hn : n ≤ maxLen) :
  Calls Tryz.prog 4 #[.slice s n c] w fun e w'=>e=.returned (.bool true)∧Below w.heap.size w w':=by
 by_cases hbig:1048576 < n
 ·clear hb
  go_enter Tryz.func4,Tryz.ntmps4
  go_wp2_with fail
  refine (big_any s n c w).mono ?_
  rintro e w1 ⟨rfl,hw⟩
  have hw':=hw.symm
  clear hw
  subst hw'
  rw [decide_eq_true hbig]
  go_wp2
  go_ret
  exact ⟨rfl,Below.refl _ _⟩
 have HB:=hidM1 hb
 have HN:=hidM1 hn
 have BG:=hidM1 hbig
 clear hb hn hbig
 go_enter Tryz.func4,Tryz.ntmps4
 go_wp2_with fail
 refine (big_any s n c w).mono ?_
 rintro e w1 ⟨rfl,hw⟩
 have hw':=hw.symm
 clear hw
 subst hw'
 rw [decide_eq_false BG.out]
 go_wp2_with fail
 refine (drawAl_any s n c w HB.out HN.out).mono ?_
 rintro e w1 ⟨q,d,who,steps,rfl,hma,hsz,hk,hs0,hs1,hb1⟩
 obtain ⟨A,hA,fA,kA⟩:=Fm.new w1 hma (Nat.le_refl _)
 have P:=hidM1 fA
 have K:=hidM1 (hb1.trans (kA.mono hb1.size))
 have SZ:=hidM1 hsz
 have ST:Hid (-2≤steps∧steps≤48):=⟨hs0,hs1⟩
 have HA:=hidM1 hA
 clear hma hsz hk hs0 hs1 hb1 hA fA kA
 go_upto_region 4 with fail
 try rw [HA.out]
 clear HA
 obtain ⟨bM,hbM⟩:∃ z,w1.heap.size=z:=⟨_,rfl⟩
 rw [hbM] at P ⊢
 clear hbM
 obtain ⟨D,hD⟩:∃ Y,aloneM d who steps=Y:=⟨_,rfl⟩
 have HD:=hidM1 hD
 have DZ0:=aloneM_sz who steps SZ.out
 have CALL0:=implAlone_any q.s1 q.s2 q.s3 q.s4 q.c1 q.c2 q.c3 q.c4 _ _ d who steps A P.out.r (Nat.le_refl _) (by have:=SZ.out;omega)
 rw [hD] at CALL0 DZ0
 clear hD
 have CALL:=hidM1 CALL0
 have DZ:=hidM1 DZ0
 clear CALL0 DZ0
 obtain ⟨⟨mz,m0,m1,m2,m3⟩,-⟩:=P.out.b
 go_wp2_with fail
 refine CALL.out.mono ?_
 rintro e w2 ⟨q2,rfl,hmo,hb2⟩
 obtain ⟨X1,hX1,f1,k1⟩:=Fm.new w2 hmo.ma (Nat.le_refl _)
 have kk:=hb2.trans (k1.mono hb2.size)
 have ev:Ev3 w bM w2.heap.size q q2 d D X1:=⟨P.out.keep kk,f1,K.out.trans (kk.mono K.out.size)⟩
 have E:=hidM1 ev
 have HX:=hidM1 hX1
 clear hmo hb2 hX1 f1 k1 kk CALL P K ev mz m0 m1 m2 m3
 go_upto_region 5 with fail
 try rw [HX.out]
 clear HX
 obtain ⟨bN,hbN⟩:∃ z,w2.heap.size=z:=⟨_,rfl⟩
 rw [hbN] at E ⊢
 clear hbN
 have CS:Hid (∀ X,Below X1.heap.size X1 X→Calls Tryz.prog 6 #[.agg #[.slice q.s1 d.codes.length q.c1,.slice q.s2 d.cores.length q.c2,.slice q.s3 d.mem.length q.c3,.slice q.s4 d.tr.length q.c4],.int .i64 who,.int .i64 steps] X fun e w'=>∃ p:MP,e=.returned (.agg #[.slice p.s1 D.codes.length p.c1,.slice p.s2 D.cores.length p.c2,.slice p.s3 D.mem.length p.c3,.slice p.s4 D.tr.length p.c4])∧Hid (MaR w' 0 w'.heap.size p.s1 p.s2 p.s3 p.s4 D)∧Below X.heap.size X w'):=fun X k=>by
  have h:=specAlone_any q.s1 q.s2 q.s3 q.s4 q.c1 q.c2 q.c3 q.c4 _ _ d who steps X (E.out.keep k).P.r (Nat.le_refl _) (by have:=SZ.out;omega)
  rw [HD.out] at h
  exact h.mono fun e w' ⟨p,he,ho,hb⟩=>⟨p,he,ho.low (w:=X),hb⟩
 obtain ⟨⟨mz,m0,m1,m2,m3⟩,-⟩:=E.out.P.b
 obtain ⟨⟨nz,n0,n1,n2,n3⟩,-⟩:=E.out.G.b
 have kd:Below X1.heap.size X1 X1.drew:=(Below.refl _ _).drew
 go_region_held3 (fun w'=>w'.cell? ⟨bN,0,none⟩=some (.slice q2.s1 D.codes.length q2.c1)∧w'.cell? ⟨bN,1,none⟩=some (.slice q2.s2 D.cores.length q2.c2)∧w'.cell? ⟨bN,2,none⟩=some (.slice q2.s3 D.mem.length q2.c3)∧w'.cell? ⟨bN,3,none⟩=some (.slice q2.s4 D.tr.length q2.c4)∧w'.cell? ⟨bM,0,none⟩=some (.slice q.s1 d.codes.length q.c1)∧w'.cell? ⟨bM,1,none⟩=some (.slice q.s2 d.cores.length q.c2)∧w'.cell? ⟨bM,2,none⟩=some (.slice q.s3 d.mem.length q.c3)∧w'.cell? ⟨bM,3,none⟩=some (.slice q.s4 d.tr.length q.c4)) (go_keep) (first | (go_at_call 6;refine (CS.out X1.drew kd).mono ?_;rintro e w3 ⟨q3,rfl,M3,hb3⟩;have k3:Below X1.heap.size X1 w3:=kd.trans hb3;have E3:=hidM1 (E.out.keep k3);have tn0:=E3.out.G.b.x.c0;have tn1:=E3.out.G.b.x.c1;have tn2:=E3.out.G.b.x.c2;have tn3:=E3.out.G.b.x.c3;have tm0:=E3.out.P.b.x.c0;have tm1:=E3.out.P.b.x.c1;have tm2:=E3.out.P.b.x.c2;have tm3:=E3.out.P.b.x.c3) | (go_at_call 14;refine (sameMach_eq q2.s1 q2.s2 q2.s3 q2.s4 q3.s1 q3.s2 q3.s3 q3.s4 q2.c1 q2.c2 q2.c3 q2.c4 q3.c1 q3.c2 q3.c3 q3.c4 _ _ _ _ D w3 E3.out.G.r M3.out (Nat.le_refl _) (Nat.le_refl _) (by have:=DZ.out;omega)).mono ?_;rintro e w4 ⟨rfl,hb4⟩;have E4:=hidM1 (E3.out.keep hb4);have un0:=E4.out.G.b.x.c0;have un1:=E4.out.G.b.x.c1;have un2:=E4.out.G.b.x.c2;have un3:=E4.out.G.b.x.c3;have um0:=E4.out.P.b.x.c0;have um1:=E4.out.P.b.x.c1;have um2:=E4.out.P.b.x.c2;have um3:=E4.out.P.b.x.c3) | fail)
 all_goals
  clear mz m0 m1 m2 m3 nz n0 n1 n2 n3 tn0 tm0 un0 um0 tn1 tm1 un1 um1 tn2 tm2 un2 um2 tn3 tm3 un3 um3 kd k3 hb3 hb4 E3 E CS M3
  have E:=E4
  clear E4
  obtain ⟨⟨mz,m0,m1,m2,m3⟩,-⟩:=E.out.P.b
  obtain ⟨⟨nz,n0,n1,n2,n3⟩,-⟩:=E.out.G.b
  go_wp2_with fail
  refine (specMachineOk_any q.s1 q.s2 q.s3 q.s4 q.c1 q.c2 q.c3 q.c4 _ _ d w4 E.out.P.r (Nat.le_refl _) (MaFits.of (by have:=SZ.out;omega))).mono ?_
  rintro e w5 ⟨rfl,hb5⟩
  have E5:=hidM1 (E.out.keep hb5)
  clear mz m0 m1 m2 m3 nz n0 n1 n2 n3 E hb5
  cases hm:machB d
  case' false=>
   have e0:D=noMd:=by rw [← HD.out];exact aloneM_none who steps hm
   subst e0
   obtain ⟨⟨nz,n0,n1,n2,n3⟩,-⟩:=E5.out.G.b
   have hn0:((noMd.cores.length:Nat):Int)=0:=rfl
   go_wp2
   go_ret
   exact ⟨rfl,E5.out.K⟩
  have HM:=hidM1 hm
  have CO:Hid (D.cores.length=d.cores.length∧∀ j:Nat,¬ (j:Int)=who→D.cores[j]? =d.cores[j]?):=by have h:=aloneM_cores who steps hm;rw [HD.out] at h;exact h
  have DO:Hid (machB D=true):=by have h:=aloneM_ok who steps hm;rw [HD.out] at h;exact h
  clear hm
  by_cases hst:0 < steps
  ·have wl:IntKind.i64.wrap (steps+1)=steps+1:=Go.IntWalk.i64_in _ (by have:=ST.out;omega)
   have hs1:¬ steps+1=0:=by omega
   have hsb:((0:Int) < steps)=True:=by simp [hst]
   go_wp2_with fail
   refine (at_one s n c w5 (HB.out.up E5.out.K) (by have:=BG.out;omega)).mono ?_
   rintro e w6 ⟨x,rfl,hx0,hx1,rfl⟩
   have KC:Hid (0≤x % (steps+1)∧x % (steps+1)≤steps∨x % (steps+1)=0):=.inl ⟨Int.emod_nonneg _ hs1,by have:=Int.emod_lt_of_pos x (show 0 < steps+1 by omega);omega⟩
   have wk0:IntKind.i64.wrap (x % (steps+1))=x % (steps+1):=Go.IntWalk.i64_in _ (by have:=KC.out;have:=ST.out;omega)
   go_upto_region 12 with fail
   try rw [wk0]
   obtain ⟨k,hkk⟩:∃ k,x % (steps+1)=k:=⟨_,rfl⟩
   rw [hkk] at KC ⊢
   clear hkk wk0 wl hs1 hsb hx0 hx1 hst
   have wk:IntKind.i64.wrap (steps - k)=steps - k:=Go.IntWalk.i64_in _ (by have:=KC.out;have:=ST.out;omega)
   obtain ⟨D1,hD1⟩:∃ Y,aloneM d who k=Y:=⟨_,rfl⟩
   have C1:Hid (∀ X Z,Ev3 w bM bN q q2 d D X→Below X.heap.size X Z→Calls Tryz.prog 8 #[.agg #[.slice q.s1 d.codes.length q.c1,.slice q.s2 d.cores.length q.c2,.slice q.s3 d.mem.length q.c3,.slice q.s4 d.tr.length q.c4],.int .i64 who,.int .i64 k] Z fun e w'=>∃ p:MP,e=.returned (.agg #[.slice p.s1 D1.codes.length p.c1,.slice p.s2 D1.cores.length p.c2,.slice p.s3 D1.mem.length p.c3,.slice p.s4 D1.tr.length p.c4])∧Hid (MaR w' 0 w'.heap.size p.s1 p.s2 p.s3 p.s4 D1)∧Below Z.heap.size Z w'):=fun X Z hE hz=>by
    have h:=implAlone_any q.s1 q.s2 q.s3 q.s4 q.c1 q.c2 q.c3 q.c4 _ _ d who k Z (hE.keep hz).P.r (Nat.le_refl _) (by have:=SZ.out;omega)
    rw [hD1] at h
    exact h.mono fun e w' ⟨p,he,ho,hb⟩=>⟨p,he,ho.low (w:=Z),hb⟩
   have C2:Hid (∀ (Z:World) (r:MP),MaR Z 0 Z.heap.size r.s1 r.s2 r.s3 r.s4 D1→Calls Tryz.prog 8 #[.agg #[.slice r.s1 D1.codes.length r.c1,.slice r.s2 D1.cores.length r.c2,.slice r.s3 D1.mem.length r.c3,.slice r.s4 D1.tr.length r.c4],.int .i64 who,.int .i64 (steps - k)] Z fun e w'=>∃ p:MP,e=.returned (.agg #[.slice p.s1 D.codes.length p.c1,.slice p.s2 D.cores.length p.c2,.slice p.s3 D.mem.length p.c3,.slice p.s4 D.tr.length p.c4])∧Hid (MaR w' 0 w'.heap.size p.s1 p.s2 p.s3 p.s4 D)∧Below Z.heap.size Z w'):=fun Z r hr=>by
    have z1:=aloneM_sz who k SZ.out
    rw [hD1] at z1
    have h:=implAlone_any r.s1 r.s2 r.s3 r.s4 r.c1 r.c2 r.c3 r.c4 _ _ D1 who (steps - k) Z hr (Nat.le_refl _) (by omega)
    have e1:aloneM D1 who (steps - k)=D:=by
     rw [← hD1,← HD.out]
     have p:=aloneM_parts (k:=k) (steps:=steps) (who:=who) HM.out KC.out (by have:=ST.out;omega)
     simpa using p
    rw [e1] at h
    exact h.mono fun e w' ⟨p,he,ho,hb⟩=>⟨p,he,ho.low (w:=Z),hb⟩
   clear hD1
   obtain ⟨⟨mz,m0,m1,m2,m3⟩,-⟩:=E5.out.P.b
   go_wp2_with fail
   clear mz m0 m1 m2 m3
   go_loopw [8] (fun i wr=>∃ j:Nat,j≤d.cores.length∧i=.int .i64 j∧Ev3 w bM bN q q2 d D wr) (fun i _=>d.cores.length - (intOf i).toNat)
   case atStart=>exact ⟨0,Nat.zero_le _,rfl,E5.out⟩
   case round=>
    clear E5
    obtain ⟨j,hj,rfl,hev⟩:=hrel
    have E6:=hidM1 hev
    clear hev
    obtain ⟨⟨mz,m0,m1,m2,m3⟩,-⟩:=E6.out.P.b
    clear m0 m2 m3
    have hcl:d.cores.length≤1048576:=by
     have q2:=SZ.out
     unfold MaSz at q2
     omega
    by_cases hlt:j < d.cores.length
    ·obtain ⟨t,ht⟩:∃ t,d.cores[j]? =some t:=⟨_,List.getElem?_eq_getElem hlt⟩
     obtain ⟨u,hu⟩:∃ u,D.cores[j]? =some u:=⟨_,List.getElem?_eq_getElem (by have:=CO.out.1;omega)⟩
     have TU:Hid (¬ (j:Int)=who→u=t):=fun hne=>by
      have e:=hu
      rw [CO.out.2 j hne,ht] at e
      injection e with e
      exact e.symm
     obtain ⟨⟨nz,n0,n1,n2,n3⟩,-⟩:=E6.out.G.b
     clear n0 n2 n3
     obtain ⟨g,o,u1,x1,u2,x2,es,-,hg,-,f1,-,-,i1,-⟩:=E6.out.P.r.2.1.at ht
     obtain ⟨g',o',v1,y1,v2,y2,es',-,hg',-,f1',-,-,i1',-⟩:=E6.out.G.r.2.1.at hu
     have I1:=hidM1 i1
     have I3:=hidM1 i1'
     have hT:t.regs.length≤1048576:=by
      have q0:=szK_at d.cores j t ht
      have q2:=SZ.out
      unfold MaSz at q2
      omega
     have HT:=hidM1 hT
     rw [es] at m1
     rw [es'] at n1
     have hDl:=CO.out.1
     have b0:(0:Int)≤(j:Int):=by omega
     have b1:(j:Int) < (d.cores.length:Int):=by omega
     have b2:(j:Int) < (D.cores.length:Int):=by omega
     clear ht hu i1 i1' hT es es' hDl
     go_wp2_with fail
     have hne:=ext_ne wr
     have um:=Ext.fit m1 mz
     have un:=Ext.fit n1 nz
     have uf:=Ext.fit f1 hg
     have ug:=Ext.fit f1' hg'
     clear m1 n1 f1 f1' mz nz hg hg'
     by_cases hjw:(j:Int)=who
     ·have hjb:((j:Int) !=who)=false:=by simp [hjw]
      clear TU I1 I3
      refine regionExt wr (by kernel_rfl) (by kernel_rfl) ?_
      repeat (go_big_quiet_step (fail))
      refine wpQuiet_nil ?_
      rintro w5 ⟨X5,rfl⟩
      have E7:=hidM1 (E6.out.keep X5.b)
      go_wp2
      go_roundw
      case rel=>exact ⟨j+1,by omega,by go_num,E7.out⟩
      case measure=>simp [intOf];omega
     ·have hut:=TU.out hjw
      subst hut
      have hjb:((j:Int) !=who)=true:=by simp [hjw]
      have CI:Hid (∀ X:Ext wr,Calls Tryz.prog 17 #[.slice u1 u.regs.length x1,.slice v1 u.regs.length y1] X.w fun e w'=>e=.returned (.bool true)∧Below X.w.heap.size X.w w'):=fun X=>by
       have hz:=X.b.size
       refine (sameInts_any u1 v1 u.regs u.regs x1 y1 X.w ((I1.out.keep (Keep.of_below X.b (Nat.le_refl _))).intsS hz) ((I3.out.keep (Keep.of_below X.b (Nat.le_refl _))).intsS hz) (by have:=HT.out;omega)).mono ?_
       rintro e w3 ⟨rfl,m,rfl⟩
       rw [decide_eq_true (rfl:u.regs=u.regs)]
       exact ⟨rfl,⟨rfl,rfl,rfl,Nat.le_refl _,fun _ _=>rfl⟩⟩
      clear TU I1 I3
      refine regionExt wr (by kernel_rfl) (by kernel_rfl) ?_
      repeat (go_big_quiet_step (first | (rename_i X;go_at_call 17;refine Calls.mono (CI.out X) ?_;rintro e w3 ⟨rfl,hb3⟩;exact ⟨rfl,X.on hb3⟩) | fail))
      refine wpQuiet_nil ?_
      rintro w5 ⟨X5,rfl⟩
      have E7:=hidM1 (E6.out.keep X5.b)
      go_wp2
      go_roundw
      case rel=>exact ⟨j+1,by omega,by go_num,E7.out⟩
      case measure=>simp [intOf];omega
    ·go_wp2_with fail
     clear m1 mz
     obtain ⟨⟨mz,m0,m1,m2,m3⟩,-⟩:=E6.out.P.b
     obtain ⟨⟨nz,n0,n1,n2,n3⟩,-⟩:=E6.out.G.b
     have kd:Below wr.heap.size wr wr.drew:=(Below.refl _ _).drew
     go_region_held3 (fun w'=>w'.cell? ⟨bN,0,none⟩=some (.slice q2.s1 D.codes.length q2.c1)∧w'.cell? ⟨bN,1,none⟩=some (.slice q2.s2 D.cores.length q2.c2)∧w'.cell? ⟨bN,2,none⟩=some (.slice q2.s3 D.mem.length q2.c3)∧w'.cell? ⟨bN,3,none⟩=some (.slice q2.s4 D.tr.length q2.c4)∧w'.cell? ⟨bM,0,none⟩=some (.slice q.s1 d.codes.length q.c1)∧w'.cell? ⟨bM,1,none⟩=some (.slice q.s2 d.cores.length q.c2)∧w'.cell? ⟨bM,2,none⟩=some (.slice q.s3 d.mem.length q.c3)∧w'.cell? ⟨bM,3,none⟩=some (.slice q.s4 d.tr.length q.c4)) (go_keep) (first | (go_at_call 8;refine (C2.out w7 q7 M7.out).mono ?_;rintro e w8 ⟨q8,rfl,M8,hb8⟩;have E8:=hidM1 (E7.out.keep hb8);have un0:=E8.out.G.b.x.c0;have un1:=E8.out.G.b.x.c1;have un2:=E8.out.G.b.x.c2;have un3:=E8.out.G.b.x.c3;have um0:=E8.out.P.b.x.c0;have um1:=E8.out.P.b.x.c1;have um2:=E8.out.P.b.x.c2;have um3:=E8.out.P.b.x.c3) | (go_at_call 8;refine (C1.out wr wr.drew E6.out kd).mono ?_;rintro e w7 ⟨q7,rfl,M7,hb7⟩;have E7:=hidM1 (E6.out.keep (kd.trans hb7));have tn0:=E7.out.G.b.x.c0;have tn1:=E7.out.G.b.x.c1;have tn2:=E7.out.G.b.x.c2;have tn3:=E7.out.G.b.x.c3;have tm0:=E7.out.P.b.x.c0;have tm1:=E7.out.P.b.x.c1;have tm2:=E7.out.P.b.x.c2;have tm3:=E7.out.P.b.x.c3) | (go_at_call 14;refine (sameMach_eq q8.s1 q8.s2 q8.s3 q8.s4 q2.s1 q2.s2 q2.s3 q2.s4 q8.c1 q8.c2 q8.c3 q8.c4 q2.c1 q2.c2 q2.c3 q2.c4 _ _ _ _ D w8 M8.out E8.out.G.r (Nat.le_refl _) (Nat.le_refl _) (by have:=DZ.out;omega)).mono ?_;rintro e w9 ⟨rfl,hb9⟩;have E9:=hidM1 (E8.out.keep hb9);have vn0:=E9.out.G.b.x.c0;have vn1:=E9.out.G.b.x.c1;have vn2:=E9.out.G.b.x.c2;have vn3:=E9.out.G.b.x.c3;have vm0:=E9.out.P.b.x.c0;have vm1:=E9.out.P.b.x.c1;have vm2:=E9.out.P.b.x.c2;have vm3:=E9.out.P.b.x.c3) | (go_at_call 18;refine (implMachineOk_any q2.s1 q2.s2 q2.s3 q2.s4 q2.c1 q2.c2 q2.c3 q2.c4 _ _ D w9 E9.out.G.r (Nat.le_refl _) (MaFits.of (by have:=DZ.out;omega))).mono ?_;rw [DO.out];rintro e w10 ⟨rfl,hb10⟩;have E10:=hidM1 (E9.out.keep hb10);have xn0:=E10.out.G.b.x.c0;have xn1:=E10.out.G.b.x.c1;have xn2:=E10.out.G.b.x.c2;have xn3:=E10.out.G.b.x.c3;have xm0:=E10.out.P.b.x.c0;have xm1:=E10.out.P.b.x.c1;have xm2:=E10.out.P.b.x.c2;have xm3:=E10.out.P.b.x.c3) | fail)
     all_goals
      go_wp2
      go_ret
      exact ⟨rfl,E10.out.K⟩
  ·have wk:IntKind.i64.wrap steps=steps:=Go.IntWalk.i64_in _ (by have:=ST.out;omega)
   go_upto_region 12 with fail
   obtain ⟨D1,hD1⟩:∃ Y,aloneM d who 0=Y:=⟨_,rfl⟩
   have C1:Hid (∀ X Z,Ev3 w bM bN q q2 d D X→Below X.heap.size X Z→Calls Tryz.prog 8 #[.agg #[.slice q.s1 d.codes.length q.c1,.slice q.s2 d.cores.length q.c2,.slice q.s3 d.mem.length q.c3,.slice q.s4 d.tr.length q.c4],.int .i64 who,.int .i64 0] Z fun e w'=>∃ p:MP,e=.returned (.agg #[.slice p.s1 D1.codes.length p.c1,.slice p.s2 D1.cores.length p.c2,.slice p.s3 D1.mem.length p.c3,.slice p.s4 D1.tr.length p.c4])∧Hid (MaR w' 0 w'.heap.size p.s1 p.s2 p.s3 p.s4 D1)∧Below Z.heap.size Z w'):=fun X Z hE hz=>by
    have h:=implAlone_any q.s1 q.s2 q.s3 q.s4 q.c1 q.c2 q.c3 q.c4 _ _ d who 0 Z (hE.keep hz).P.r (Nat.le_refl _) (by have:=SZ.out;omega)
    rw [hD1] at h
    exact h.mono fun e w' ⟨p,he,ho,hb⟩=>⟨p,he,ho.low (w:=Z),hb⟩
   have C2:Hid (∀ (Z:World) (r:MP),MaR Z 0 Z.heap.size r.s1 r.s2 r.s3 r.s4 D1→Calls Tryz.prog 8 #[.agg #[.slice r.s1 D1.codes.length r.c1,.slice r.s2 D1.cores.length r.c2,.slice r.s3 D1.mem.length r.c3,.slice r.s4 D1.tr.length r.c4],.int .i64 who,.int .i64 (steps)] Z fun e w'=>∃ p:MP,e=.returned (.agg #[.slice p.s1 D.codes.length p.c1,.slice p.s2 D.cores.length p.c2,.slice p.s3 D.mem.length p.c3,.slice p.s4 D.tr.length p.c4])∧Hid (MaR w' 0 w'.heap.size p.s1 p.s2 p.s3 p.s4 D)∧Below Z.heap.size Z w'):=fun Z r hr=>by
    have z1:=aloneM_sz who 0 SZ.out
    rw [hD1] at z1
    have h:=implAlone_any r.s1 r.s2 r.s3 r.s4 r.c1 r.c2 r.c3 r.c4 _ _ D1 who (steps) Z hr (Nat.le_refl _) (by omega)
    have e1:aloneM D1 who (steps)=D:=by
     rw [← hD1,← HD.out]
     have p:=aloneM_parts (k:=0) (steps:=steps) (who:=who) HM.out (.inr rfl) (by have:=ST.out;omega)
     simpa using p
    rw [e1] at h
    exact h.mono fun e w' ⟨p,he,ho,hb⟩=>⟨p,he,ho.low (w:=Z),hb⟩
   clear hD1
   obtain ⟨⟨mz,m0,m1,m2,m3⟩,-⟩:=E5.out.P.b
   go_wp2_with fail
   clear mz m0 m1 m2 m3
   go_loopw [8] (fun i wr=>∃ j:Nat,j≤d.cores.length∧i=.int .i64 j∧Ev3 w bM bN q q2 d D wr) (fun i _=>d.cores.length - (intOf i).toNat)
   case atStart=>exact ⟨0,Nat.zero_le _,rfl,E5.out⟩
   case round=>
    clear E5
    obtain ⟨j,hj,rfl,hev⟩:=hrel
    have E6:=hidM1 hev
    clear hev
    obtain ⟨⟨mz,m0,m1,m2,m3⟩,-⟩:=E6.out.P.b
    clear m0 m2 m3
    have hcl:d.cores.length≤1048576:=by
     have q2:=SZ.out
     unfold MaSz at q2
     omega
    by_cases hlt:j < d.cores.length
    ·obtain ⟨t,ht⟩:∃ t,d.cores[j]? =some t:=⟨_,List.getElem?_eq_getElem hlt⟩
     obtain ⟨u,hu⟩:∃ u,D.cores[j]? =some u:=⟨_,List.getElem?_eq_getElem (by have:=CO.out.1;omega)⟩
     have TU:Hid (¬ (j:Int)=who→u=t):=fun hne=>by
      have e:=hu
      rw [CO.out.2 j hne,ht] at e
      injection e with e
      exact e.symm
     obtain ⟨⟨nz,n0,n1,n2,n3⟩,-⟩:=E6.out.G.b
     clear n0 n2 n3
     obtain ⟨g,o,u1,x1,u2,x2,es,-,hg,-,f1,-,-,i1,-⟩:=E6.out.P.r.2.1.at ht
     obtain ⟨g',o',v1,y1,v2,y2,es',-,hg',-,f1',-,-,i1',-⟩:=E6.out.G.r.2.1.at hu
     have I1:=hidM1 i1
     have I3:=hidM1 i1'
     have hT:t.regs.length≤1048576:=by
      have q0:=szK_at d.cores j t ht
      have q2:=SZ.out
      unfold MaSz at q2
      omega
     have HT:=hidM1 hT
     rw [es] at m1
     rw [es'] at n1
     have hDl:=CO.out.1
     have b0:(0:Int)≤(j:Int):=by omega
     have b1:(j:Int) < (d.cores.length:Int):=by omega
     have b2:(j:Int) < (D.cores.length:Int):=by omega
     clear ht hu i1 i1' hT es es' hDl
     go_wp2_with fail
     have hne:=ext_ne wr
     have um:=Ext.fit m1 mz
     have un:=Ext.fit n1 nz
     have uf:=Ext.fit f1 hg
     have ug:=Ext.fit f1' hg'
     clear m1 n1 f1 f1' mz nz hg hg'
     by_cases hjw:(j:Int)=who
     ·have hjb:((j:Int) !=who)=false:=by simp [hjw]
      clear TU I1 I3
      refine regionExt wr (by kernel_rfl) (by kernel_rfl) ?_
      repeat (go_big_quiet_step (fail))
      refine wpQuiet_nil ?_
      rintro w5 ⟨X5,rfl⟩
      have E7:=hidM1 (E6.out.keep X5.b)
      go_wp2
      go_roundw
      case rel=>exact ⟨j+1,by omega,by go_num,E7.out⟩
      case measure=>simp [intOf];omega
     ·have hut:=TU.out hjw
      subst hut
      have hjb:((j:Int) !=who)=true:=by simp [hjw]
      have CI:Hid (∀ X:Ext wr,Calls Tryz.prog 17 #[.slice u1 u.regs.length x1,.slice v1 u.regs.length y1] X.w fun e w'=>e=.returned (.bool true)∧Below X.w.heap.size X.w w'):=fun X=>by
       have hz:=X.b.size
       refine (sameInts_any u1 v1 u.regs u.regs x1 y1 X.w ((I1.out.keep (Keep.of_below X.b (Nat.le_refl _))).intsS hz) ((I3.out.keep (Keep.of_below X.b (Nat.le_refl _))).intsS hz) (by have:=HT.out;omega)).mono ?_
       rintro e w3 ⟨rfl,m,rfl⟩
       rw [decide_eq_true (rfl:u.regs=u.regs)]
       exact ⟨rfl,⟨rfl,rfl,rfl,Nat.le_refl _,fun _ _=>rfl⟩⟩
      clear TU I1 I3
      refine regionExt wr (by kernel_rfl) (by kernel_rfl) ?_
      repeat (go_big_quiet_step (first | (rename_i X;go_at_call 17;refine Calls.mono (CI.out X) ?_;rintro e w3 ⟨rfl,hb3⟩;exact ⟨rfl,X.on hb3⟩) | fail))
      refine wpQuiet_nil ?_
      rintro w5 ⟨X5,rfl⟩
      have E7:=hidM1 (E6.out.keep X5.b)
      go_wp2
      go_roundw
      case rel=>exact ⟨j+1,by omega,by go_num,E7.out⟩
      case measure=>simp [intOf];omega
    ·go_wp2_with fail
     clear m1 mz
     obtain ⟨⟨mz,m0,m1,m2,m3⟩,-⟩:=E6.out.P.b
     obtain ⟨⟨nz,n0,n1,n2,n3⟩,-⟩:=E6.out.G.b
     have kd:Below wr.heap.size wr wr.drew:=(Below.refl _ _).drew
     go_region_held3 (fun w'=>w'.cell? ⟨bN,0,none⟩=some (.slice q2.s1 D.codes.length q2.c1)∧w'.cell? ⟨bN,1,none⟩=some (.slice q2.s2 D.cores.length q2.c2)∧w'.cell? ⟨bN,2,none⟩=some (.slice q2.s3 D.mem.length q2.c3)∧w'.cell? ⟨bN,3,none⟩=some (.slice q2.s4 D.tr.length q2.c4)∧w'.cell? ⟨bM,0,none⟩=some (.slice q.s1 d.codes.length q.c1)∧w'.cell? ⟨bM,1,none⟩=some (.slice q.s2 d.cores.length q.c2)∧w'.cell? ⟨bM,2,none⟩=some (.slice q.s3 d.mem.length q.c3)∧w'.cell? ⟨bM,3,none⟩=some (.slice q.s4 d.tr.length q.c4)) (go_keep) (first | (go_at_call 8;refine (C2.out w7 q7 M7.out).mono ?_;rintro e w8 ⟨q8,rfl,M8,hb8⟩;have E8:=hidM1 (E7.out.keep hb8);have un0:=E8.out.G.b.x.c0;have un1:=E8.out.G.b.x.c1;have un2:=E8.out.G.b.x.c2;have un3:=E8.out.G.b.x.c3;have um0:=E8.out.P.b.x.c0;have um1:=E8.out.P.b.x.c1;have um2:=E8.out.P.b.x.c2;have um3:=E8.out.P.b.x.c3) | (go_at_call 8;refine (C1.out wr wr.drew E6.out kd).mono ?_;rintro e w7 ⟨q7,rfl,M7,hb7⟩;have E7:=hidM1 (E6.out.keep (kd.trans hb7));have tn0:=E7.out.G.b.x.c0;have tn1:=E7.out.G.b.x.c1;have tn2:=E7.out.G.b.x.c2;have tn3:=E7.out.G.b.x.c3;have tm0:=E7.out.P.b.x.c0;have tm1:=E7.out.P.b.x.c1;have tm2:=E7.out.P.b.x.c2;have tm3:=E7.out.P.b.x.c3) | (go_at_call 14;refine (sameMach_eq q8.s1 q8.s2 q8.s3 q8.s4 q2.s1 q2.s2 q2.s3 q2.s4 q8.c1 q8.c2 q8.c3 q8.c4 q2.c1 q2.c2 q2.c3 q2.c4 _ _ _ _ D w8 M8.out E8.out.G.r (Nat.le_refl _) (Nat.le_refl _) (by have:=DZ.out;omega)).mono ?_;rintro e w9 ⟨rfl,hb9⟩;have E9:=hidM1 (E8.out.keep hb9);have vn0:=E9.out.G.b.x.c0;have vn1:=E9.out.G.b.x.c1;have vn2:=E9.out.G.b.x.c2;have vn3:=E9.out.G.b.x.c3;have vm0:=E9.out.P.b.x.c0;have vm1:=E9.out.P.b.x.c1;have vm2:=E9.out.P.b.x.c2;have vm3:=E9.out.P.b.x.c3) | (go_at_call 18;refine (implMachineOk_any q2.s1 q2.s2 q2.s3 q2.s4 q2.c1 q2.c2 q2.c3 q2.c4 _ _ D w9 E9.out.G.r (Nat.le_refl _) (MaFits.of (by have:=DZ.out;omega))).mono ?_;rw [DO.out];rintro e w10 ⟨rfl,hb10⟩;have E10:=hidM1 (E9.out.keep hb10);have xn0:=E10.out.G.b.x.c0;have xn1:=E10.out.G.b.x.c1;have xn2:=E10.out.G.b.x.c2;have xn3:=E10.out.G.b.x.c3;have xm0:=E10.out.P.b.x.c0;have xm1:=E10.out.P.b.x.c1;have xm2:=E10.out.P.b.x.c2;have xm3:=E10.out.P.b.x.c3) | fail)
     all_goals
      go_wp2
      go_ret
      exact ⟨rfl,E10.out.K⟩
set_option maxRecDepth 100000 in
theorem liftedFnAlone (os : Os) (started : os.Started) (H : Type) (enc : TypeId × Value → H) :
  ReturnsInHanded {} Tryz.checked os 4 .any (Rows.fnAloneSpec.pre6 enc Tryz.prog Tryz.f4 Rows.fnAloneRow.domain false) (Rows.fnAloneSpec.post enc Tryz.prog Tryz.f4 false true false false):=by
 refine returnsInHanded_of_change (C:=Tryz.checked) ownS started (by kernel_rfl) Tryz.func4
  (ChangeSpec.witness6 (enc:=enc) (C:=Tryz.checked) false ⟨#[],#[.slice none 0 0],[]⟩ 8 (by kernel_rfl) (by kernel_rfl) (by kernel_rfl) (by kernel_rfl)) ?_
 intro W base args ds gs before hval0 hW hcnd _
 have hval:∀ (j:Nat) t v,Tryz.f4.params[j]? =some t→args[j]? =some v→Value.okWide Tryz.prog W .any base t v:=hval0
 have hW':=hW
 obtain ⟨p,q,hA0,hV,rfl,hfz,hnd⟩:=hW
 have hA:DataW.TrodAll enc Tryz.prog W 0 (fun _=>true) true Tryz.f4.params.toList args.toList ds p:=hA0
 rw [Tryz.params4] at hA hval
 obtain ⟨v0,d0,hargs,rfl,h0⟩:=trodAll_one hA
 obtain rfl:args=#[v0]:=by cases args;simp_all
 obtain ⟨rfl,rfl⟩:=trodVars_none hV
 have k0:=h0
 have lt0:∀ x∈p,x.block < W.heap.size:=by obtain ⟨m,hm⟩:=k0;exact DataW.trod_lt m _ _ _ hm
 obtain ⟨s,n,c,rfl,hn,hB⟩:=bytes_read (hval 0 44 v0 rfl rfl) h0
 clear hA0 hval0
 refine (walkFnAlone s n c W hB hn).mono fun e W' ⟨he,bel⟩=>?_
 subst he
 exact ⟨_,rfl,_,_,_,[],_,[],hW',trodAll_mk1 (shut_bool Tryz.underlying4 _),trodAll_mk1 (Below.trod laidOutS (by kernel_rfl) (of_decide_eq_true (by kernel_rfl)) k0 bel lt0),rfl,bel.frame _,fun h=>by cases h⟩
theorem fnAlone_holds:Rows.FnAloneSaid:=
 OpenClaim.holds_of_wide 4 Tryz.f4 rfl rfl rfl rfl rfl rfl rfl ⟨rfl,rfl,rfl,rfl,rfl⟩ rfl rfl rfl rfl rfl (by kernel_rfl) Tryz.func4 (by kernel_rfl)
  (of_decide_eq_true (by kernel_rfl)) (by unfold Func.isWrapper;first | (rw [if_pos (by decide+kernel)];kernel_rfl) | (rw [if_neg (by decide+kernel)];exact ⟨rfl,rfl⟩))
  (fun os started H enc _=>liftedFnAlone os started H enc)
#print axioms fnAlone_holds
end Go.Proofs.YtlbeploopclegaaGreat
