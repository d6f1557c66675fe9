/- The law FnLaid of the given statements: drawn channels lie apart in memory; what lies there is a channel, or none. No condition. -/
import Derived.Test.YtkhjhibigldcgaaLG00
import Derived.Test.YtkhjhibigldcgaaLG04
import Derived.Test.YtkhjhibigldcgaaLG02
import Derived.Test.YtkhjhibigldcgaaLG07
import Derived.Test.YtkhjhibigldcgaaLG01
import Derived.Test.YtkhjhibigldcgaaLDrawM
import Derived.Test.YtkhjhibigldcgaaLDraw1
import Derived.Test.YtkhjhibigldcgaaLG08
import Derived.Test.YtkhjhibigldcgaaRows
import Derived.Test.YtkhjhibigldcgaaLG24
import Derived.Test.YtkhjhibigldcgaaLG25
import Derived.Test.YtkhjhibigldcgaaLN9ChanS
import Derived.Test.YtkhjhibigldcgaaLG03
import Derived.Test.YtkhjhibigldcgaaLG13
import Derived.Deep.RegionHeld3
import Derived.ProofKit
import Derived.OpenShut
import Derived.ShutString
import Derived.ChangeOld
import Derived.ChangeSlices
namespace Go.Proofs.Ytkhjhibigldcgaa
set_option linter.unusedSimpArgs false
set_option linter.unusedVariables false
set_option maxRecDepth 100000
open Go.ChangeShapes Go.WideShapes Go.ChangeAt Go.RowKit Go.Deep
theorem chanOk_yes (cap:Int) (s:Option Addr) (n c:Nat) (cl:Bool) (w:World) (h1:1≤cap∧cap≤4) (h2:(n:Int)≤cap):Calls Try.prog 14 #[.agg #[.int .i64 cap,.slice s n c,.bool cl]] w fun e w'=>e=.returned (.bool true)∧Below w.heap.size w w':=by
 have hd:decide (1≤cap∧cap≤4)=true:=by simp [h1]
 clear h1
 go_enter Try.func14,Try.ntmps14
 go_wp2_with (go_at_call 18;refine (capOkD_is _ true _ hd).mono ?_;rintro e w' ⟨rfl,rfl⟩)
 go_ret
 exact ⟨rfl,(Below.refl _ _).alloc (Nat.le_refl _) _⟩
theorem IntsR.intsS {w:World} {lo hi:Nat} {s:Option Addr} {l:List Int} (h:IntsR w lo hi s l) (hB:hi≤w.heap.size):Ints w s l:=by
 rcases h with e | ⟨g,o,e,-,h2,hc⟩
 ·exact .inl e
 ·exact .inr ⟨g,o,e,Nat.lt_of_lt_of_le h2 hB,hc⟩
structure Bm (X:World) (b:Nat) (v:Value):Prop where
 c:X.cell? ⟨b,0,none⟩=some v
 lt:b < X.heap.size
theorem Bm.keep {X Y:World} {b:Nat} {v:Value} (h:Bm X b v) (k:Below X.heap.size X Y):Bm Y b v:=⟨(k.cell (p:=⟨b,0,none⟩) h.lt).trans h.c,Nat.lt_of_lt_of_le h.lt k.size⟩
structure Bc (X:World) (b:Nat) (v0 v1 v2:Value):Prop where
 c0:X.cell? ⟨b,0,none⟩=some v0
 c1:X.cell? ⟨b,1,none⟩=some v1
 c2:X.cell? ⟨b,2,none⟩=some v2
 lt:b < X.heap.size
theorem Bc.keep {X Y:World} {b:Nat} {v0 v1 v2:Value} (h:Bc X b v0 v1 v2) (k:Below X.heap.size X Y):Bc Y b v0 v1 v2:=
 ⟨(k.cell (p:=⟨b,0,none⟩) h.lt).trans h.c0,(k.cell (p:=⟨b,1,none⟩) h.lt).trans h.c1,(k.cell (p:=⟨b,2,none⟩) h.lt).trans h.c2,Nat.lt_of_lt_of_le h.lt k.size⟩
theorem intsUp {X Y:World} {lo hi:Nat} {s:Option Addr} {l:List Int} (h:IntsR X lo hi s l) (hB:hi≤X.heap.size) (k:Below X.heap.size X Y):IntsR Y 0 Y.heap.size s l:=(h.keep (Keep.of_below k hB)).mono (Nat.zero_le _) (by have:=k.size;omega)
theorem memUp {X Y:World} {lo hi:Nat} {s:Option Addr} {l:List (List WD)} (h:MemR X lo hi s l) (hB:hi≤X.heap.size) (k:Below X.heap.size X Y):MemR Y 0 Y.heap.size s l:=(h.keep (Keep.of_below k hB)).mono (Nat.zero_le _) (by have:=k.size;omega)
structure Ed (w:World) (bM bA bB:Nat) (sm:Option Addr) (cm:Nat) (m:List (List WD)) (sk:Option Addr) (k:List Int) (cap:Int) (ls:List Int) (cl:Bool) (sa sb:Option Addr) (ca cb:Nat) (X:World):Prop where
 M:MemR X 0 X.heap.size sm m
 L:IntsR X 0 X.heap.size sk k
 bm:Bm X bM (.slice sm m.length cm)
 a:Bc X bA (.int .i64 cap) (.slice sa ls.length ca) (.bool cl)
 b:Bc X bB (.int .i64 cap) (.slice sb ls.length cb) (.bool cl)
 A:IntsR X 0 X.heap.size sa ls
 B:IntsR X 0 X.heap.size sb ls
 K:Below w.heap.size w X
theorem Ed.keep {w X Y:World} {bM bA bB cm ca cb:Nat} {sm sk sa sb:Option Addr} {m:List (List WD)} {k ls:List Int} {cap:Int} {cl:Bool} (h:Ed w bM bA bB sm cm m sk k cap ls cl sa sb ca cb X) (q:Below X.heap.size X Y):Ed w bM bA bB sm cm m sk k cap ls cl sa sb ca cb Y:=
 ⟨memUp h.M (Nat.le_refl _) q,intsUp h.L (Nat.le_refl _) q,h.bm.keep q,h.a.keep q,h.b.keep q,intsUp h.A (Nat.le_refl _) q,intsUp h.B (Nat.le_refl _) q,h.K.trans (q.mono h.K.size)⟩
set_option maxRecDepth 100000 in
set_option maxHeartbeats 16000000 in
theorem walkFnLaid (s : Option Addr) (n c : Nat) (w : World) (hb : Bytes w w.heap.size s n) (hn : n ≤ maxLen) :
  Calls Try.prog 3 #[.slice s n c] w fun e w'=>e=.returned (.bool true)∧Below w.heap.size w w':=by
 by_cases hbig:1048576 < n
 ·clear hb
  go_enter Try.func3,Try.ntmps3
  go_wp2_with fail
  refine (big_any s n c w).mono ?_
  rintro e w1 ⟨rfl,hw⟩
  have hw':=hw.symm
  clear hw
  subst hw'
  rw [decide_eq_true hbig]
  go_wp2
  go_ret
  exact ⟨rfl,Below.refl _ _⟩
 have HB:=hidM1 hb
 have HN:=hidM1 hn
 have BG:=hidM1 hbig
 clear hb hn hbig
 go_enter Try.func3,Try.ntmps3
 go_wp2_with fail
 refine (big_any s n c w).mono ?_
 rintro e w1 ⟨rfl,hw⟩
 have hw':=hw.symm
 clear hw
 subst hw'
 rw [decide_eq_false BG.out]
 go_wp2_with fail
 refine (drawBase_any s n c w HB.out HN.out).mono ?_
 rintro e w1 ⟨sl,cl,l,z,rfl,hi,hl,hb1⟩
 have LL:=hidM1 hl
 have I1:Hid (IntsR w1 w.heap.size w1.heap.size sl l):=hi
 have K1:Hid (Below w.heap.size w w1):=hb1
 clear hi hl hb1
 go_wp2_with fail
 refine (implBase_any sl cl w.heap.size w1.heap.size l z w1 I1.out (Nat.le_refl _) (by have:=LL.out;omega)).mono ?_
 rintro e w2 ⟨rfl,hb2⟩
 have K2:Hid (Below w.heap.size w w2):=K1.out.trans (hb2.mono K1.out.size)
 have I2:Hid (IntsR w2 0 w2.heap.size sl l):=intsUp I1.out (Nat.le_refl _) hb2
 clear hb2 I1 K1
 go_wp2_with fail
 refine (specBase_any sl cl 0 w2.heap.size l z w2 I2.out (Nat.le_refl _) (by have:=LL.out;omega)).mono ?_
 rintro e w3 ⟨rfl,hb3⟩
 have K3:Hid (Below w.heap.size w w3):=K2.out.trans (hb3.mono K2.out.size)
 have I3:Hid (IntsR w3 0 w3.heap.size sl l):=intsUp I2.out (Nat.le_refl _) hb3
 clear hb3 I2 K2
 have hne:(baseV l z !=baseV l z)=false:=by simp
 rcases Classical.em (0≤baseV l z) with hv | hv
 case' inr=>
  obtain ⟨bv,hbv⟩:∃ bv,baseV l z=bv:=⟨_,rfl⟩
  rw [hbv] at hv hne ⊢
  have hge:¬ (0≤bv):=hv
  clear hbv hv I3 LL
  go_wp2_with fail
  obtain ⟨U,hU⟩:∃ U,w3=U:=⟨_,rfl⟩
  have KU:Hid (Below w.heap.size w U):=by rw [← hU];exact K3.out
  rw [hU]
  clear hU K3 hge hne
 case' inl=>
  obtain ⟨kz,hkz,hlt⟩:=base_lt hv
  subst hkz
  have BV:=hidM1 hv
  have hcv:=base_cap hv
  have hr:=base_room hv
  obtain ⟨bv,hbv⟩:∃ bv,baseV l (kz:Int)=bv:=⟨_,rfl⟩
  have HBV:=hidM1 hbv
  rw [hbv] at hv hne hr ⊢
  obtain ⟨cv,hcv2⟩:∃ cv,l.getD kz 0=cv:=⟨_,rfl⟩
  rw [hcv2] at hcv hr
  have b0:(0:Int)≤(kz:Int):=by omega
  have b1:(kz:Int) < (l.length:Int):=by omega
  have hge:(0:Int)≤bv:=hv
  have w1':IntKind.i64.wrap (bv+cv)=bv+cv:=Go.IntWalk.i64_in _ (by omega)
  have w2':IntKind.i64.wrap (bv+cv+4)=bv+cv+4:=Go.IntWalk.i64_in _ (by omega)
  have hgt:((24:Int) < bv+cv+4)=False:=eq_false (by omega)
  have hcell:∃ g o,sl=some ⟨g,o,none⟩∧g < w3.heap.size∧∀ i,i < l.length→w3.cell? ⟨g,o+i,none⟩=some (.int .i64 (l.getD i 0)):=by
   rcases I3.out with e | ⟨g,o,e,-,h2,hc⟩
   ·rw [e] at hlt;simp at hlt
   ·exact ⟨g,o,e,h2,hc⟩
  obtain ⟨g,o,rfl,hg,hc⟩:=hcell
  have q0:=hc kz hlt
  rw [hcv2] at q0
  have HC:=hidM1 hc
  have HCV:=hidM1 hcv
  have HRR:=hidM1 hr
  clear hc hr hcv2 hcv
  by_cases hk0:kz=0
  case' pos=>
   subst hk0
   have hz0:bv=0:=by rw [← HBV.out];exact base_zero BV.out
   have hzb:(bv !=0)=false:=by simp [hz0]
   have q0:w3.cell? ⟨g,o,none⟩=some (.int .i64 cv):=q0
   have b1:(0:Int) < (l.length:Int):=by omega
   clear hz0 b0
   rw [show (((0:Nat):Nat):Int)=0 from rfl] at *
   go_wp2_with fail
   have hne:=ext_ne w3
   have u0:=Ext.fit q0 hg
   clear q0
   refine regionExt w3 (by kernel_rfl) (by kernel_rfl) ?_
   repeat (go_big_quiet_step (fail))
   refine wpQuiet_nil ?_
   rintro w5 ⟨X5,rfl⟩
   obtain ⟨U,hU⟩:∃ U,X5.w=U:=⟨_,rfl⟩
   have hb5:=X5.b
   rw [hU] at hb5 ⊢
   have KU:Hid (Below w.heap.size w U):=K3.out.trans (hb5.mono K3.out.size)
   clear hU X5 hb5
   go_wp2_with fail
   clear u0 hne I3 LL hgt w1' w2' hzb b1 hg hlt HC HCV HBV BV hge
  case' neg=>
   obtain ⟨jz,hjz⟩:∃ jz,kz=jz+1:=⟨kz - 1,by omega⟩
   have hpr:=base_prev (k:=jz) (by rw [← hjz];exact BV.out)
   rw [← hjz,HBV.out] at hpr
   have q1:=HC.out jz (by omega)
   obtain ⟨pv,hpv⟩:∃ pv,l.getD jz 0=pv:=⟨_,rfl⟩
   rw [hpv] at q1 hpr
   obtain ⟨av,hav⟩:∃ av,baseV l (jz:Int)=av:=⟨_,rfl⟩
   rw [hav] at hpr
   have hwz:IntKind.i64.wrap ((kz:Int) - 1)=(jz:Int):=by
    rw [Go.IntWalk.i64_in _ (by have:=LL.out;omega)]
    omega
   have hbb:=HRR.out
   have hbc:=HCV.out
   have w3':IntKind.i64.wrap (av+pv)=av+pv:=Go.IntWalk.i64_in _ (by omega)
   have w4':IntKind.i64.wrap (av+pv+4)=av+pv+4:=Go.IntWalk.i64_in _ (by omega)
   have heq:(av+pv+4 !=bv)=false:=by simp [hpr]
   have hps:((0:Int) < (kz:Int))=True:=eq_true (by omega)
   have hpsN:(0 < kz)=True:=eq_true (by omega)
   have hpsM:(kz=0)=False:=eq_false (by omega)
   have hps0:((kz:Int)==0)=false:=by simp;omega
   have CBx158:Hid (∀ X:Ext w3,Calls Try.prog 6 #[.slice (some ⟨g,o,none⟩) l.length cl,.int .i64 jz] X.w fun e w'=>e=.returned (.int .i64 av)∧Below X.w.heap.size X.w w'):=fun X=>by
    have h:=implBase_any (some ⟨g,o,none⟩) cl 0 X.w.heap.size l jz X.w (intsUp I3.out (Nat.le_refl _) X.b) (Nat.le_refl _) (by have:=LL.out;omega)
    rw [hav] at h
    exact h
   have b2:(0:Int)≤(jz:Int):=by omega
   have b3:(jz:Int) < (l.length:Int):=by omega
   have hk1:¬ (kz:Int)=0:=by omega
   clear hpr hav hpv hbb hbc hjz hk0
   go_wp2_with fail
   have hne:=ext_ne w3
   have u0:=Ext.fit q0 hg
   have u1:=Ext.fit q1 hg
   clear q0 q1
   refine regionExt w3 (by kernel_rfl) (by kernel_rfl) ?_
   repeat (go_big_quiet_step (first | (rename_i X;go_at_call 6;refine Calls.mono (CBx158.out X) ?_;rintro e w3 ⟨rfl,hb3⟩;exact ⟨rfl,X.on hb3⟩) | fail))
   refine wpQuiet_nil ?_
   rintro w5 ⟨X5,rfl⟩
   obtain ⟨U,hU⟩:∃ U,X5.w=U:=⟨_,rfl⟩
   have hb5:=X5.b
   rw [hU] at hb5 ⊢
   have KU:Hid (Below w.heap.size w U):=K3.out.trans (hb5.mono K3.out.size)
   clear hU X5 hb5
   go_wp2_with fail
   clear u0 u1 hne I3 LL hgt w1' w2' w3' w4' heq hps hps0 hpsN hpsM hk1 hwz b0 b1 b2 b3 hg hlt HC HCV HBV BV hge CBx158
 all_goals
  try clear hv
  try clear hbv
  try clear hne
  refine (drawCi_any s n c U (HB.out.up KU) HN.out).mono ?_
  rintro e wa ⟨sm,cm,m,sk,ck,k,i,rfl,hm,hk,hz,hl,hba⟩
  obtain ⟨A,hA⟩:∃ A,wa.alloc (.cells #[.slice sm m.length cm] 30)=A:=⟨_,rfl⟩
  have kA:Below wa.heap.size wa A:=by rw [← hA];exact (Below.refl _ _).alloc (Nat.le_refl _) _
  have B1:Hid (Bm A wa.heap.size (.slice sm m.length cm)):=by rw [← hA];exact ⟨by simp [go_sem],by simp⟩
  have M1:Hid (MemR A 0 A.heap.size sm m):=memUp hm (Nat.le_refl _) kA
  have L1:Hid (IntsR A 0 A.heap.size sk k):=intsUp hk (Nat.le_refl _) kA
  have KA:Hid (Below w.heap.size w A):=(KU.trans (hba.mono KU.size)).trans (kA.mono (by have h1:=KU.size;have h2:=hba.size;omega))
  have MZ:Hid (m.length+szR m≤40000):=hz
  have KL:Hid (k.length≤9):=hl
  have HA:=hidM1 hA
  clear hm hk hz hl hba kA KU hA
  go_upto_region 11 with fail
  try rw [HA.out]
  clear HA
  obtain ⟨bM,hbM⟩:∃ z,wa.heap.size=z:=⟨_,rfl⟩
  rw [hbM] at B1 ⊢
  clear hbM
  have CNO0:=chan_no (m:=m) (l:=k) (n:=i)
  have CYES0:=chan_yes (m:=m) (l:=k) (n:=i)
  have CI0:=implChanIn_any sm sk cm ck 0 A.heap.size 0 A.heap.size m k i A M1.out L1.out (Nat.le_refl _) (Nat.le_refl _) (by have:=KL.out;omega) (by have:=MZ.out;omega)
  have CS0:=fun (X:World) (q:Below A.heap.size A X)=>specChanIn_any sm sk cm ck 0 X.heap.size 0 X.heap.size m k i X (memUp M1.out (Nat.le_refl _) q) (intsUp L1.out (Nat.le_refl _) q) (Nat.le_refl _) (Nat.le_refl _) (by have:=KL.out;omega) (by have:=MZ.out;omega)
  obtain ⟨CH,hCH⟩:∃ CH,chanMx152 m k i=CH:=⟨_,rfl⟩
  rw [hCH] at CNO0 CYES0 CI0
  simp only [hCH] at CS0
  have CNO:=hidM1 CNO0
  have CYES:=hidM1 CYES0
  have CI:=hidM1 CI0
  have CS:=hidM1 CS0
  clear CNO0 CYES0 CI0 CS0 hCH
  have c0:=B1.out.c
  go_wp2_with fail
  refine CI.out.mono ?_
  rintro e wb ⟨va,rfl,hoa,hb4⟩
  obtain ⟨sa,ca,rfl⟩:=hoa.sl
  clear CI
  obtain ⟨C,hC⟩:∃ C,wb.alloc (.cells #[.int .i64 CH.cap,.slice sa CH.ls.length ca,.bool CH.cl] 34)=C:=⟨_,rfl⟩
  have kC:Below wb.heap.size wb C:=by rw [← hC];exact (Below.refl _ _).alloc (Nat.le_refl _) _
  have A2:Hid (Bc C wb.heap.size (.int .i64 CH.cap) (.slice sa CH.ls.length ca) (.bool CH.cl)):=by rw [← hC];exact ⟨by simp [go_sem],by simp [go_sem],by simp [go_sem],by simp⟩
  have I2:Hid (IntsR C 0 C.heap.size sa CH.ls):=intsUp (own_ints hoa) (Nat.le_refl _) kC
  have K2:Hid (Below A.heap.size A C):=hb4.trans (kC.mono hb4.size)
  have HC:=hidM1 hC
  clear hoa hb4 kC hC c0
  go_upto_region 12 with fail
  try rw [HC.out]
  clear HC
  obtain ⟨bA,hbA⟩:∃ z,wb.heap.size=z:=⟨_,rfl⟩
  rw [hbA] at A2 ⊢
  clear hbA
  have c0:=(B1.out.keep K2.out).c
  go_wp2_with fail
  refine (CS.out C K2.out).mono ?_
  rintro e wd ⟨vb,rfl,hob,hb5⟩
  obtain ⟨sb,cb,rfl⟩:=hob.sl
  obtain ⟨D,hD⟩:∃ D,wd.alloc (.cells #[.int .i64 CH.cap,.slice sb CH.ls.length cb,.bool CH.cl] 34)=D:=⟨_,rfl⟩
  have kD:Below wd.heap.size wd D:=by rw [← hD];exact (Below.refl _ _).alloc (Nat.le_refl _) _
  have kCD:Below C.heap.size C D:=hb5.trans (kD.mono hb5.size)
  have kAD:Below A.heap.size A D:=K2.out.trans (kCD.mono K2.out.size)
  have E:Hid (Ed w bM bA wd.heap.size sm cm m sk k CH.cap CH.ls CH.cl sa sb ca cb D):=by
   refine ⟨memUp M1.out (Nat.le_refl _) kAD,intsUp L1.out (Nat.le_refl _) kAD,B1.out.keep kAD,A2.out.keep kCD,?_,intsUp I2.out (Nat.le_refl _) kCD,intsUp (own_ints hob) (Nat.le_refl _) kD,KA.out.trans (kAD.mono KA.out.size)⟩
   rw [← hD]
   exact ⟨by simp [go_sem],by simp [go_sem],by simp [go_sem],by simp⟩
  have HD:=hidM1 hD
  clear hob hb5 kD hD c0 kCD kAD M1 L1 B1 A2 I2 K2 KA CS
  go_upto_region 13 with fail
  try rw [HD.out]
  clear HD
  obtain ⟨bB,hbB⟩:∃ z,wd.heap.size=z:=⟨_,rfl⟩
  rw [hbB] at E ⊢
  clear hbB
  have hne:=ext_ne D
  have uM:=Ext.fit E.out.bm.c E.out.bm.lt
  have a0:=Ext.fit E.out.a.c0 E.out.a.lt
  have a1:=Ext.fit E.out.a.c1 E.out.a.lt
  have a2:=Ext.fit E.out.a.c2 E.out.a.lt
  have d0:=Ext.fit E.out.b.c0 E.out.b.lt
  have d1:=Ext.fit E.out.b.c1 E.out.b.lt
  have d2:=Ext.fit E.out.b.c2 E.out.b.lt
  obtain ⟨lb,hlb⟩:∃ lb,lockB m k i=lb:=⟨_,rfl⟩
  have SI:Hid (∀ X:Ext D,Calls Try.prog 11 #[.slice sa CH.ls.length ca,.slice sb CH.ls.length cb] X.w fun e w'=>e=.returned (.bool true)∧Below X.w.heap.size X.w w'):=fun X=>by
   have hz:=X.b.size
   have e:=E.out.keep X.b
   refine (sameInts_any sa sb CH.ls CH.ls ca cb X.w (IntsR.intsS e.A (Nat.le_refl _)) (IntsR.intsS e.B (Nat.le_refl _)) ?_).mono ?_
   ·cases hk:CH.ok
    ·rw [CNO.out hk];decide
    ·obtain ⟨kn,-,-,-,h1,h2,h3⟩:=CYES.out hk
     omega
   rintro e w3 ⟨rfl,q,rfl⟩
   rw [decide_eq_true (rfl:CH.ls=CH.ls)]
   exact ⟨rfl,⟨rfl,rfl,rfl,Nat.le_refl _,fun _ _=>rfl⟩⟩
  have LI:Hid (∀ X:Ext D,Calls Try.prog 12 #[.agg #[.slice sm m.length cm],.slice sk k.length ck,.int .i64 i] X.w fun e w'=>e=.returned (.bool lb)∧Below X.w.heap.size X.w w'):=fun X=>by
   have e:=E.out.keep X.b
   have h:=implLocked_any sm sk cm ck 0 X.w.heap.size 0 X.w.heap.size m k i X.w e.M e.L (Nat.le_refl _) (Nat.le_refl _) (by have:=KL.out;omega) (by have:=MZ.out;omega)
   rw [hlb] at h
   exact h
  have LS:Hid (∀ X:Ext D,Calls Try.prog 13 #[.agg #[.slice sm m.length cm],.slice sk k.length ck,.int .i64 i] X.w fun e w'=>e=.returned (.bool lb)∧Below X.w.heap.size X.w w'):=fun X=>by
   have e:=E.out.keep X.b
   have h:=specLocked_any sm sk cm ck 0 X.w.heap.size 0 X.w.heap.size m k i X.w e.M e.L (Nat.le_refl _) (Nat.le_refl _) (by have:=KL.out;omega) (by have:=MZ.out;omega)
   rw [hlb] at h
   exact h
  obtain ⟨ok,hok⟩:∃ ok,CH.ok=ok:=⟨_,rfl⟩
  obtain ⟨cl',hcl⟩:∃ cl',CH.cl=cl':=⟨_,rfl⟩
  have HOK:=hidM1 hok
  have HCL:=hidM1 hcl
  rw [hcl] at a2 d2
  rw [hok]
  have e1:(ok !=ok)=false:=by simp
  have e2:(cl' !=cl')=false:=by simp
  have e3:(lb !=lb)=false:=by simp
  clear hlb hok hcl MZ
  refine regionExt D (by kernel_rfl) (by kernel_rfl) ?_
  repeat (go_big_quiet_step (first | (rename_i X;go_at_call 11;refine Calls.mono (SI.out X) ?_;rintro e w3 ⟨rfl,hb3⟩;exact ⟨rfl,X.on hb3⟩) | (rename_i X;go_at_call 12;refine Calls.mono (LI.out X) ?_;rintro e w3 ⟨rfl,hb3⟩;exact ⟨rfl,X.on hb3⟩) | (rename_i X;go_at_call 13;refine Calls.mono (LS.out X) ?_;rintro e w3 ⟨rfl,hb3⟩;exact ⟨rfl,X.on hb3⟩) | fail))
  refine wpQuiet_nil ?_
  rintro w5 ⟨X5,rfl⟩
  obtain ⟨Z,hZ⟩:∃ Z,X5.w=Z:=⟨_,rfl⟩
  have hb5:=X5.b
  rw [hZ] at hb5 ⊢
  have E5:=hidM1 (E.out.keep hb5)
  clear hZ X5 hb5 hne uM a0 a1 a2 d0 d1 d2 SI LI LS E e1 e2 e3
  have hne:=ext_ne Z
  have a0:=Ext.fit E5.out.a.c0 E5.out.a.lt
  have a1:=Ext.fit E5.out.a.c1 E5.out.a.lt
  have a2:=Ext.fit E5.out.a.c2 E5.out.a.lt
  cases ok
  ·have h0:=CNO.out HOK.out
   have hc0:CH.cap=0:=by rw [h0];rfl
   rw [hc0] at a0
   clear a1 a2 h0 hc0
   go_wp2_with fail
   refine regionExt Z (by kernel_rfl) (by kernel_rfl) ?_
   repeat (go_big_quiet_step (fail))
   refine wpQuiet_nil ?_
   rintro w5 ⟨X5,rfl⟩
   have hb5:=X5.b
   go_wp2
   go_ret
   exact ⟨rfl,E5.out.K.trans (hb5.mono E5.out.K.size)⟩
  ·obtain ⟨kn,rfl,hkn,hcap,h1,h2,h3⟩:=CYES.out HOK.out
   obtain ⟨cc,hcc⟩:∃ cc,k.getD kn 0=cc:=⟨_,rfl⟩
   have hrow:∃ g o,sk=some ⟨g,o,none⟩∧g < Z.heap.size∧Z.cell? ⟨g,o+kn,none⟩=some (.int .i64 cc):=by
    rcases E5.out.L with e | ⟨g,o,e,-,hg,hc⟩
    ·rw [e] at hkn;simp at hkn
    ·exact ⟨g,o,e,hg,by rw [← hcc];exact hc kn hkn⟩
   rw [hcc] at hcap h1 h2 h3
   obtain ⟨g,o,rfl,hg,hc⟩:=hrow
   have q0:=Ext.fit hc hg
   rw [hcap] at a0
   have OK:Hid (∀ X:Ext Z,Calls Try.prog 14 #[.agg #[.int .i64 cc,.slice sa CH.ls.length ca,.bool CH.cl]] X.w fun e w'=>e=.returned (.bool true)∧Below X.w.heap.size X.w w'):=fun X=>chanOk_yes cc sa CH.ls.length ca CH.cl X.w ⟨h1,h2⟩ h3
   have b0:(0:Int)≤(kn:Int):=by omega
   have b1:(kn:Int) < (k.length:Int):=by omega
   have ecc:(cc==cc)=true:=by simp
   have hc1:(cc==0)=false:=by simp;omega
   clear hcap h1 h2 h3 hcc hc hkn
   go_wp2_with fail
   refine regionExt Z (by kernel_rfl) (by kernel_rfl) ?_
   repeat (go_big_quiet_step (first | (rename_i X;go_at_call 14;refine Calls.mono (OK.out X) ?_;rintro e w3 ⟨rfl,hb3⟩;exact ⟨rfl,X.on hb3⟩) | fail))
   refine wpQuiet_nil ?_
   rintro w5 ⟨X5,rfl⟩
   have hb5:=X5.b
   go_wp2
   go_ret
   exact ⟨rfl,E5.out.K.trans (hb5.mono E5.out.K.size)⟩
set_option maxRecDepth 100000 in
theorem liftedFnLaid (os : Os) (started : os.Started) (H : Type) (enc : TypeId × Value → H) :
  ReturnsInHanded {} Try.checked os 3 .any (Rows.fnLaidSpec.pre6 enc Try.prog Try.f3 Rows.fnLaidRow.domain false) (Rows.fnLaidSpec.post enc Try.prog Try.f3 false true false false):=by
 refine returnsInHanded_of_change (C:=Try.checked) ownS started (by kernel_rfl) Try.func3
  (ChangeSpec.witness6 (enc:=enc) (C:=Try.checked) false ⟨#[],#[.slice none 0 0],[]⟩ 8 (by kernel_rfl) (by kernel_rfl) (by kernel_rfl) (by kernel_rfl)) ?_
 intro W base args ds gs before hval0 hW hcnd _
 have hval:∀ (j:Nat) t v,Try.f3.params[j]? =some t→args[j]? =some v→Value.okWide Try.prog W .any base t v:=hval0
 have hW':=hW
 obtain ⟨p,q,hA0,hV,rfl,hfz,hnd⟩:=hW
 have hA:DataW.TrodAll enc Try.prog W 0 (fun _=>true) true Try.f3.params.toList args.toList ds p:=hA0
 rw [Try.params3] at hA hval
 obtain ⟨v0,d0,hargs,rfl,h0⟩:=trodAll_one hA
 obtain rfl:args=#[v0]:=by cases args;simp_all
 obtain ⟨rfl,rfl⟩:=trodVars_none hV
 have k0:=h0
 have lt0:∀ x∈p,x.block < W.heap.size:=by obtain ⟨m,hm⟩:=k0;exact DataW.trod_lt m _ _ _ hm
 obtain ⟨s,n,c,rfl,hn,hB⟩:=bytes_read (hval 0 22 v0 rfl rfl) h0
 clear hA0 hval0
 refine (walkFnLaid s n c W hB hn).mono fun e W' ⟨he,bel⟩=>?_
 subst he
 exact ⟨_,rfl,_,_,_,[],_,[],hW',trodAll_mk1 (shut_bool Try.underlying4 _),trodAll_mk1 (Below.trod laidOutS (by kernel_rfl) (of_decide_eq_true (by kernel_rfl)) k0 bel lt0),rfl,bel.frame _,fun h=>by cases h⟩
theorem fnLaid_holds:Rows.FnLaidSaid:=
 OpenClaim.holds_of_wide 3 Try.f3 rfl rfl rfl rfl rfl rfl rfl ⟨rfl,rfl,rfl,rfl,rfl⟩ rfl rfl rfl rfl rfl (by kernel_rfl) Try.func3 (by kernel_rfl)
  (of_decide_eq_true (by kernel_rfl)) (by unfold Func.isWrapper;first | (rw [if_pos (by decide+kernel)];kernel_rfl) | (rw [if_neg (by decide+kernel)];exact ⟨rfl,rfl⟩))
  (fun os started H enc _=>liftedFnLaid os started H enc)
#print axioms fnLaid_holds
end Go.Proofs.Ytkhjhibigldcgaa
