/- Alone of the specification. Conditions: the machine lies in memory as the reading says. DrawMachineRun: a machine and picks, as they are read. Conditions: the code's bytes lie in memory. DrawAlone: a machine, who goes on and how often, as they are read. Conditions: the code's bytes lie in memory. -/
import Derived.Test.YtlbeploopclegaaGreatQG26
import Derived.Test.YtlbeploopclegaaGreatQG23
import Derived.Test.YtlbeploopclegaaGreatQKDupS
import Derived.Test.YtlbeploopclegaaGreatQKOkS
import Derived.Test.YtlbeploopclegaaGreatQG13
import Derived.Test.YtlbeploopclegaaGreatQG00
import Derived.Test.YtlbeploopclegaaGreatQG04
import Derived.Test.YtlbeploopclegaaGreatQG02
import Derived.Test.YtlbeploopclegaaGreatQG01
import Derived.Test.YtlbeploopclegaaGreatQG20
import Derived.Test.YtlbeploopclegaaGreatQDrawMd
namespace Go.Proofs.YtlbeploopclegaaGreat
section
set_option linter.unusedSimpArgs false
set_option linter.unusedVariables false
set_option maxRecDepth 100000
open Go.RowKit
theorem minS (a:Int) (w:World):Calls Tryz.prog 62 #[.int .i64 a,.int .i64 4000] w fun e w'=>e=.returned (.int .i64 (if a < 4000 then a else 4000))∧w'=w:=by
 by_cases h:a < 4000
 ·rw [if_pos h]
  go_enter Tryz.func62,Tryz.ntmps62
  go_wp2
  go_ret
  exact ⟨rfl,rfl⟩
 ·rw [if_neg h]
  go_enter Tryz.func62,Tryz.ntmps62
  go_wp2
  go_ret
  exact ⟨rfl,rfl⟩
theorem MQ0.offA {w:World} {B b:Nat} {vc vk vm vt a0 a1 a2 a3:Value} {LC:List CV} {LK:List KV} {S:List RS} {d:MD} (h:MQ0 w B vc vk vm vt LC LK S d) (ht:BxT w b):MQ0 ((((w.setCell ⟨b,0,none⟩ a0).setCell ⟨b,1,none⟩ a1).setCell ⟨b,2,none⟩ a2).setCell ⟨b,3,none⟩ a3) B vc vk vm vt LC LK S d:=
 (((h.offB ht).offB ht.set).offB ht.set.set).offB ht.set.set.set
/- no row lies in a box of a machine's type -/
theorem MQ0.toHx {w:World} {B b3 b6:Nat} {vc vk vm vt:Value} {LC:List CV} {LK:List KV} {S:List RS} {d:MD} (h:MQ0 w B vc vk vm vt LC LK S d) (hB:B≤w.heap.size) (t3:BxT w b3) (t6:BxT w b6):MQ w B (fun q=>B≤q∧q≠b3∧q≠b6) vc vk vm vt LC LK S d:=by
 have g:=(h.toH hB).hh
 have ow:∀ {e:TypeId} {size n:Nat} {u:Value} {xs:List Value} (b:Nat),w.ownsRow B e size u n xs→e≠38→BxT w b→∀ q,u.ownBlock=some q→q≠b:=fun b hu he ht q hq e=>own_bx hu he ht (by rw [hq,e])
 have tb:∀ (b:Nat),BxT w b→∀ a∈mAs S,a.block≠b:=fun b ht a ha e=>by
  obtain ⟨cs,f,c⟩:=ht
  rcases h.m.ty ha with ⟨cs',f',c'⟩ | ⟨cs',f',c'⟩
  ·rw [e,c] at c'
   injection c' with c'
   injection c' with _ c'
   exact absurd c' (by decide)
  ·rw [e,c] at c'
   injection c' with c'
   injection c' with _ c'
   exact absurd c' (by decide)
 have z3:=t3.lt
 have z6:=t6.lt
 refine ⟨h,⟨fun q e=>⟨g.c q e,ow b3 h.c.row (by decide) t3 q e,ow b6 h.c.row (by decide) t6 q e⟩,fun i x q hx e=>⟨g.ci i x q hx e,ow b3 (h.c.inn i x hx) (by decide) t3 q e,ow b6 (h.c.inn i x hx) (by decide) t6 q e⟩,fun q e=>⟨g.k q e,ow b3 h.k.row (by decide) t3 q e,ow b6 h.k.row (by decide) t6 q e⟩,fun i x q hx e=>⟨g.ki i x q hx e,?_,?_⟩,fun q e=>⟨g.m q e,ow b3 h.m.row (by decide) t3 q e,ow b6 h.m.row (by decide) t6 q e⟩,fun a ha=>⟨g.mi a ha,tb b3 t3 a ha,tb b6 t6 a ha⟩,fun q e=>⟨g.t q e,ow b3 h.t (by decide) t3 q e,ow b6 h.t (by decide) t6 q e⟩⟩,fun q hq=>⟨Nat.le_trans hB hq,by omega,by omega⟩⟩
 ·exact e.elim (fun e=>ow b3 (h.k.inn i x hx).1 (by decide) t3 q e) (fun e=>ow b3 (h.k.inn i x hx).2 (by decide) t3 q e)
 ·exact e.elim (fun e=>ow b6 (h.k.inn i x hx).1 (by decide) t6 q e) (fun e=>ow b6 (h.k.inn i x hx).2 (by decide) t6 q e)
structure Al (w V:World) (B b3 b6:Nat) (D:MD):Prop where
 q:∃ vc vk vm vt LC LK S,MQ0 V B vc vk vm vt LC LK S D∧X4 V b3 vc vk vm vt
 t3:BxT V b3
 t6:BxT V b6
 r:X4 V b6 (.slice none 0 0) (.slice none 0 0) (.slice none 0 0) (.slice none 0 0)
 k:Below B w V
 ok:machB D=true
 m:B≤V.heap.size
 b:B≤b3∧B≤b6∧b3≠b6
def L15Q (w:World) (B:Nat) (R:MD) (e:Ending) (w':World):Prop:=∃ (p:MP) (LC':List CV) (LK':List KV) (S':List RS),e=.returned (.agg #[.slice p.s1 R.codes.length p.c1,.slice p.s2 R.cores.length p.c2,.slice p.s3 R.mem.length p.c3,.slice p.s4 R.tr.length p.c4])∧MQ0 w' B (.slice p.s1 R.codes.length p.c1) (.slice p.s2 R.cores.length p.c2) (.slice p.s3 R.mem.length p.c3) (.slice p.s4 R.tr.length p.c4) LC' LK' S' R∧Below B w w'∧MaO w' B w'.heap.size p R
theorem l15q {w Z:World} {B:Nat} {D R:MD} {p:MP} {LC:List CV} {LK:List KV} {S:List RS} (e:D=R) (q:MQ0 Z B (.slice p.s1 D.codes.length p.c1) (.slice p.s2 D.cores.length p.c2) (.slice p.s3 D.mem.length p.c3) (.slice p.s4 D.tr.length p.c4) LC LK S D) (k:Below B w Z):L15Q w B R (.returned (.agg #[.slice p.s1 D.codes.length p.c1,.slice p.s2 D.cores.length p.c2,.slice p.s3 D.mem.length p.c3,.slice p.s4 D.tr.length p.c4])) Z:=by
 subst e
 obtain ⟨p',e1,e2,e3,e4,mo,-⟩:=q.mo
 exact ⟨p',LC,LK,S,by rw [e1,e2,e3,e4],by rw [← e1,← e2,← e3,← e4];exact q,k,mo⟩
set_option maxRecDepth 100000 in
set_option maxHeartbeats 4000000 in
theorem l15_any {w : World} {B who : Nat} {vc vk vm vt : Value} {LC : List CV} {LK : List KV} {S : List RS} {d : MD} (steps : Int) (h : MQ0 w B vc vk vm vt LC LK S d) (hB : B ≤ w.heap.size) (hm : machB d = true) (hw : who < d.cores.length) :
  Calls Tryz.prog 25 #[.agg #[vc,vk,vm,vt],.int .i64 who,.int .i64 steps] w (L15Q w B (alM (stN steps) d who)):=by
 have hst:(stN steps:Int)=(if (if steps < 4000 then steps else 4000) < 0 then 0 else (if steps < 4000 then steps else 4000)):=by unfold stN;split<;>split<;>omega
 obtain ⟨N,hN⟩:∃ N,stN steps=N:=⟨_,rfl⟩
 have hN4:N≤4000:=by rw [← hN];exact stN_le steps
 have HN:Hid (∀ k:Nat,((k:Int) < (if steps < 4000 then steps else 4000))↔k < N):=fun k=>by rw [← hN];unfold stN;split<;>omega
 obtain ⟨R,hR⟩:∃ R,alM N d who=R:=⟨_,rfl⟩
 have HR:=hidM1 hR
 rw [hN,hR]
 clear hN hR hst
 have HW:=hidM1 hw
 go_enter Tryz.func25,Tryz.ntmps25
 obtain ⟨W0,hW0,x0,k0,z0⟩:=X4.new w vc vk vm vt 38
 have s0:W0.heap.size=w.heap.size+1:=by rw [← hW0];simp
 have t0:BxT W0 w.heap.size:=by rw [← hW0];exact BxT.new w _
 obtain ⟨W,hW,x1,k1,z1⟩:=X4.new W0 (.slice none 0 0) (.slice none 0 0) (.slice none 0 0) (.slice none 0 0) 38
 have t1:BxT W W0.heap.size:=by rw [← hW];exact BxT.new W0 _
 have HWW:Hid ((w.alloc (.cells #[vc,vk,vm,vt] 38)).alloc (.cells #[.slice none 0 0,.slice none 0 0,.slice none 0 0,.slice none 0 0] 38)=W):=by
  show _=W
  rw [hW0]
  exact hW
 have kk:=k0.trans (k1.mono (by omega))
 rw [s0] at x1 t1
 have al:Al w W B w.heap.size (w.heap.size+1) d:=⟨⟨vc,vk,vm,vt,LC,LK,S,h.keep (fun b _ h1=>kk.block b h1) kk.size,x0.keep k1 z0⟩,t0.same (k1.block _ z0),t1,x1,kk.mono hB,hm,by have:=kk.size;omega,⟨hB,by omega,by omega⟩⟩
 have A:=hidM1 al
 clear h hW0 hW x0 x1 k0 k1 z0 z1 t0 t1 s0 kk al hm hB hw
 go_upto_region 1 with fail
 rw [HWW.out]
 clear HWW
 obtain ⟨b6,hb6⟩:∃ b,w.heap.size+1=b:=⟨_,rfl⟩
 obtain ⟨b3,hb3⟩:∃ b,w.heap.size=b:=⟨_,rfl⟩
 rw [hb6,hb3] at A
 rw [hb6,hb3]
 clear hb6 hb3
 go_wp2_with fail
 go_loopw [7] (fun i wr=>∃ (k:Nat) (D:MD),k≤N∧i=.int .i64 k∧Al w wr B b3 b6 D∧alM (N - k) D who=R∧D.cores.length=d.cores.length) (fun i _=>N - (intOf i).toNat)
 case atStart=>exact ⟨0,d,Nat.zero_le _,rfl,A.out,HR.out,rfl⟩
 case round=>
  clear A
  obtain ⟨k,D,hk,rfl,ha,hr,hl⟩:=hrel
  have A:=hidM1 ha
  have AR:=hidM1 hr
  have HL:=hidM1 hl
  clear ha hr hl
  go_wp2_with fail
  refine (minS steps wr).mono ?_
  rintro e w1 ⟨rfl,hw1⟩
  have hw1':=hw1.symm
  clear hw1
  subst hw1'
  have hit:=HN.out k
  obtain ⟨mm,hmm⟩:∃ m,(if steps < 4000 then steps else 4000)=m:=⟨_,rfl⟩
  rw [hmm] at hit ⊢
  clear hmm
  by_cases hlt:k < N
  ·have hlt':=hit.2 hlt
   clear hit
   obtain ⟨kd,code,s,ha⟩:=mach_at A.out.ok (who:=who) (by have:=HW.out;have:=HL.out;omega)
   obtain ⟨uc,uk,um,ut,LC',LK',S',q,xx⟩:=A.out.q
   obtain ⟨pu,e1,e2,e3,e4,-⟩:=q.mo
   subst e1 e2 e3 e4
   obtain ⟨p,gc,cc,gk,ck,gs,cs,gr,cr,gv,cv,gO,cO,st,ct,o⟩:=q.open ha
   have ek:=o.ek
   have hLK:LK'.length=D.cores.length:=by rw [← q.ek,List.length_map]
   have XX:=hidM1 xx
   obtain ⟨⟨xz,c0,c1,c2,c3⟩,xf⟩:=xx
   have Q:=hidM1 q
   have HA:=hidM1 ha
   have k3:=o.k3
   have zk:=o.zk
   have b0:(0:Int)≤(who:Int):=by omega
   have b1:(who:Int) < (LK'.length:Int):=by have:=HW.out;have:=HL.out;omega
   have c1':=c1
   rw [ek] at c1'
   clear o ha q hLK
   have HQX:=hidM1 (Q.out.toHx A.out.m A.out.t3 A.out.t6)
   by_cases hst:kd.st=0
   ·have STEP:=hidM1 (l8Step_any B _ _ _ _ LC' LK' S' D who kd code s 0 wr HQX.out HA.out A.out.m (by omega) hst)
    have EK:=hidM1 ek
    rw [hst] at k3
    have STEP2:=STEP
    rw [ek] at STEP2
    clear ek c1 hst HQX STEP
    go_wp2_with fail
    refine STEP2.out.mono ?_
    rintro e w2 ⟨⟨vc2,vk2,vm2,vt2,LC2,LK2,S2,rfl,q2,b2⟩,fr,hne⟩
    have X32:Hid (X4 w2 b3 (.slice pu.s1 D.codes.length pu.c1) (.slice pu.s2 D.cores.length pu.c2) (.slice pu.s3 D.mem.length pu.c3) (.slice pu.s4 D.tr.length pu.c4)):=XX.out.blk (fr b3 (fun e=>e.2.1 rfl)) b2.size
    have T32:Hid (BxT w2 b3):=A.out.t3.same (fr b3 (fun e=>e.2.1 rfl))
    have X62:Hid (X4 w2 b6 (.slice none 0 0) (.slice none 0 0) (.slice none 0 0) (.slice none 0 0)):=A.out.r.blk (fr b6 (fun e=>e.2.2 rfl)) b2.size
    have T62:Hid (BxT w2 b6):=A.out.t6.same (fr b6 (fun e=>e.2.2 rfl))
    have K2:=hidM1 (A.out.k.trans b2)
    have Z2:Hid (B≤w2.heap.size):=Nat.le_trans A.out.m b2.size
    have OK2:=hidM1 (stepM_ok who 0 A.out.ok)
    have CL:Hid ((stepM D who 0).1.cores.length=d.cores.length):=by
     have h1:=mach_len OK2.out
     have h2:=(stepM_sz who 0 A.out.ok).1
     have h3:=mach_len A.out.ok
     show _=_
     rw [h1,h2,← h3]
     exact HL.out
    have REF:=hidM1 (fun h0=>stepM_ref0 D who 0 h0)
    have ALG:Hid ((stepM D who 0).2=0→alM (N - (k+1)) (stepM D who 0).1 who=R):=fun h0=>by
     have e:N - k=N - (k+1)+1:=by omega
     have q:=AR.out
     rw [e,alM_go h0] at q
     exact q
    have ALN:Hid (¬ (stepM D who 0).2=0→D=R):=fun h0=>(alM_no h0).symm.trans AR.out
    obtain ⟨p2,e1,e2,e3,e4,-⟩:=q2.mo
    subst e1 e2 e3 e4
    have Q2:=hidM1 q2.toMQ0
    have NE:=hidM1 hne
    obtain ⟨Y,hY⟩:∃ Y,stepM D who 0=Y:=⟨_,rfl⟩
    rw [hY] at Q2 OK2 CL REF ALG ALN NE ⊢
    obtain ⟨D2,cw⟩:=Y
    try dsimp only at Q2 OK2 CL REF ALG ALN NE ⊢
    have n36:=A.out.b.2.2
    have BB:Hid (B≤b3∧B≤b6∧b3≠b6):=A.out.b
    clear q2 fr b2 hY STEP2 k3 zk xz c0 c2 c3 c1' xf hne A XX
    obtain ⟨V,hV,xV,kV,zV⟩:=X4.new w2 (.slice p2.s1 D2.codes.length p2.c1) (.slice p2.s2 D2.cores.length p2.c2) (.slice p2.s3 D2.mem.length p2.c3) (.slice p2.s4 D2.tr.length p2.c4) 38
    have HV:=hidM1 hV
    have XV:=hidM1 xV
    have X33:=hidM1 (X32.out.keep kV X32.out.x.z)
    have X63:=hidM1 (X62.out.keep kV X62.out.x.z)
    have T33:=hidM1 (T32.out.same (kV.block _ X32.out.x.z))
    have T63:=hidM1 (T62.out.same (kV.block _ X62.out.x.z))
    have Q3:=hidM1 (Q2.out.keep (fun b _ h1=>kV.block b h1) kV.size)
    have K3:=hidM1 (K2.out.trans (kV.mono Z2.out))
    have nb3:¬ w2.heap.size=b3:=by have:=X32.out.x.z;omega
    have nb3':¬ b3=w2.heap.size:=by have:=X32.out.x.z;omega
    have nb6:¬ w2.heap.size=b6:=by have:=X62.out.x.z;omega
    have n63:¬ b6=b3:=fun e=>n36 e.symm
    clear hV xV kV X32 X62 T32 T62 Q2 K2
    go_upto_region 7 with fail
    try rw [HV.out]
    clear HV
    by_cases h0:cw=0
    ·subst h0
     have HR2:=hidM1 (ALG.out rfl)
     obtain ⟨⟨yz,y0,y1,y2,y3⟩,-⟩:=XV.out
     obtain ⟨⟨xz,x0,x1,x2,x3⟩,xf⟩:=X33.out
     go_wp2_with fail
     obtain ⟨Z,hZ,xZ,sZ,fZ,bZ,tZ⟩:=X33.out.putA (.slice p2.s1 D2.codes.length p2.c1) (.slice p2.s2 D2.cores.length p2.c2) (.slice p2.s3 D2.mem.length p2.c3) (.slice p2.s4 D2.tr.length p2.c4)
     have QZ:Hid (MQ0 Z B (.slice p2.s1 D2.codes.length p2.c1) (.slice p2.s2 D2.cores.length p2.c2) (.slice p2.s3 D2.mem.length p2.c3) (.slice p2.s4 D2.tr.length p2.c4) LC2 LK2 S2 D2):=by rw [← hZ];exact Q3.out.offA T33.out
     try rw [hZ]
     go_roundw
     case rel=>exact ⟨k+1,D2,by omega,by go_num,⟨⟨_,_,_,_,_,_,_,QZ.out,xZ⟩,tZ T33.out,T63.out.same (fZ b6 n63),X63.out.blk (fZ b6 n63) (by omega),bZ _ _ K3.out BB.out.1,OK2.out,by have:=Z2.out;omega,BB.out⟩,HR2.out,CL.out⟩
     case measure=>simp [intOf];omega
    ·have RD:=hidM1 (ALN.out h0)
     have E2:=REF.out h0
     subst E2
     have e:=NE.out h0
     simp only [Ending.returned.injEq,Value.tuple.injEq,Array.mk.injEq,List.cons.injEq,Value.agg.injEq,and_true] at e
     have hcb:(cw !=0)=true:=by simp;omega
     have Q4:Hid (MQ0 V B (.slice pu.s1 D2.codes.length pu.c1) (.slice pu.s2 D2.cores.length pu.c2) (.slice pu.s3 D2.mem.length pu.c3) (.slice pu.s4 D2.tr.length pu.c4) LC2 LK2 S2 D2):=by
      have q:=Q3.out
      rw [e.1,e.2.1,e.2.2.1,e.2.2.2,← EK.out] at q
      exact q
     obtain ⟨⟨xz,x0,x1,x2,x3⟩,xf⟩:=X33.out
     clear e Q3
     obtain ⟨⟨yz,d0,d1,d2,d3⟩,df⟩:=X63.out
     go_wp2
     obtain ⟨Z,hZ,xZ,sZ,fZ,bZ,-⟩:=(X63.out).putA (.slice pu.s1 D2.codes.length pu.c1) (.slice pu.s2 D2.cores.length pu.c2) (.slice pu.s3 D2.mem.length pu.c3) (.slice pu.s4 D2.tr.length pu.c4)
     have QZ:Hid (MQ0 Z B (.slice pu.s1 D2.codes.length pu.c1) (.slice pu.s2 D2.cores.length pu.c2) (.slice pu.s3 D2.mem.length pu.c3) (.slice pu.s4 D2.tr.length pu.c4) LC2 LK2 S2 D2):=by rw [← hZ];exact (Q4.out).offA T63.out
     obtain ⟨⟨zz,g0,g1,g2,g3⟩,-⟩:=xZ
     refine bodyPost_ret (v:=.agg #[.slice pu.s1 D2.codes.length pu.c1,.slice pu.s2 D2.cores.length pu.c2,.slice pu.s3 D2.mem.length pu.c3,.slice pu.s4 D2.tr.length pu.c4]) ?_ rfl ?_
     ·rw [hZ]
      simp [results,Tryz.results25,go_sem,g0,g1,g2,g3]
     ·rw [hZ]
      exact l15q RD.out QZ.out (bZ _ _ K3.out (BB.out).2.1)
   ·have RD:Hid (D=R):=by
     have e:=AR.out
     rw [alM_no (by rw [stepM_over HA.out 0 hst];exact (by decide:¬ (3:Int)=0))] at e
     exact e
    have hsb:(kd.st !=0)=true:=by simp;omega
    have T6:=hidM1 A.out.t6
    clear HQX c1
    go_upto_region 5 with fail
    clear ek c1' c0 c2 c3 xz xf
    obtain ⟨⟨xz,c0,c1,c2,c3⟩,xf⟩:=XX.out
    have n36:=A.out.b.2.2
    have n63:¬ b6=b3:=fun e=>n36 e.symm
    obtain ⟨⟨yz,d0,d1,d2,d3⟩,df⟩:=A.out.r
    go_wp2
    obtain ⟨Z,hZ,xZ,sZ,fZ,bZ,-⟩:=(A.out.r).putA (.slice pu.s1 D.codes.length pu.c1) (.slice pu.s2 D.cores.length pu.c2) (.slice pu.s3 D.mem.length pu.c3) (.slice pu.s4 D.tr.length pu.c4)
    have QZ:Hid (MQ0 Z B (.slice pu.s1 D.codes.length pu.c1) (.slice pu.s2 D.cores.length pu.c2) (.slice pu.s3 D.mem.length pu.c3) (.slice pu.s4 D.tr.length pu.c4) LC' LK' S' D):=by rw [← hZ];exact (Q.out).offA A.out.t6
    obtain ⟨⟨zz,g0,g1,g2,g3⟩,-⟩:=xZ
    refine bodyPost_ret (v:=.agg #[.slice pu.s1 D.codes.length pu.c1,.slice pu.s2 D.cores.length pu.c2,.slice pu.s3 D.mem.length pu.c3,.slice pu.s4 D.tr.length pu.c4]) ?_ rfl ?_
    ·rw [hZ]
     simp [results,Tryz.results25,go_sem,g0,g1,g2,g3]
    ·rw [hZ]
     exact l15q RD.out QZ.out (bZ _ _ A.out.k (A.out.b).2.1)
  ·have hlt':¬ ((k:Int) < mm):=fun e=>hlt (hit.1 e)
   clear hit
   obtain ⟨uc,uk,um,ut,LC',LK',S',q,xx⟩:=A.out.q
   obtain ⟨pu,e1,e2,e3,e4,-⟩:=q.mo
   subst e1 e2 e3 e4
   have Q:=hidM1 q
   have RD:Hid (D=R):=by
    have e:=AR.out
    rw [show N - k=0 by omega] at e
    exact e
   have n36:=A.out.b.2.2
   have n63:¬ b6=b3:=fun e=>n36 e.symm
   obtain ⟨⟨xz,c0,c1,c2,c3⟩,xf⟩:=xx
   clear q
   obtain ⟨⟨yz,d0,d1,d2,d3⟩,df⟩:=A.out.r
   go_wp2
   obtain ⟨Z,hZ,xZ,sZ,fZ,bZ,-⟩:=(A.out.r).putA (.slice pu.s1 D.codes.length pu.c1) (.slice pu.s2 D.cores.length pu.c2) (.slice pu.s3 D.mem.length pu.c3) (.slice pu.s4 D.tr.length pu.c4)
   have QZ:Hid (MQ0 Z B (.slice pu.s1 D.codes.length pu.c1) (.slice pu.s2 D.cores.length pu.c2) (.slice pu.s3 D.mem.length pu.c3) (.slice pu.s4 D.tr.length pu.c4) LC' LK' S' D):=by rw [← hZ];exact (Q.out).offA A.out.t6
   obtain ⟨⟨zz,g0,g1,g2,g3⟩,-⟩:=xZ
   refine bodyPost_ret (v:=.agg #[.slice pu.s1 D.codes.length pu.c1,.slice pu.s2 D.cores.length pu.c2,.slice pu.s3 D.mem.length pu.c3,.slice pu.s4 D.tr.length pu.c4]) ?_ rfl ?_
   ·rw [hZ]
    simp [results,Tryz.results25,go_sem,g0,g1,g2,g3]
   ·rw [hZ]
    exact l15q RD.out QZ.out (bZ _ _ A.out.k (A.out.b).2.1)
set_option maxRecDepth 100000 in
set_option maxHeartbeats 4000000 in
theorem specAlone_any (s1 s2 s3 s4 : Option Addr) (c1 c2 c3 c4 lo hi : Nat) (d : MD) (who steps : Int) (w : World) (h : MaR w lo hi s1 s2 s3 s4 d) (hB : hi ≤ w.heap.size) (hf : MaSz d ≤ 1048576) :
  Calls Tryz.prog 6 #[.agg #[.slice s1 d.codes.length c1,.slice s2 d.cores.length c2,.slice s3 d.mem.length c3,.slice s4 d.tr.length c4],.int .i64 who,.int .i64 steps] w fun e w'=>∃ p:MP,e=.returned (.agg #[.slice p.s1 (aloneM d who steps).codes.length p.c1,.slice p.s2 (aloneM d who steps).cores.length p.c2,.slice p.s3 (aloneM d who steps).mem.length p.c3,.slice p.s4 (aloneM d who steps).tr.length p.c4])∧MaO w' w.heap.size w'.heap.size p (aloneM d who steps)∧Below w.heap.size w w':=by
 have H:=hidM1 h
 have HF:=hidM1 hf
 have wl:IntKind.i64.wrap ((d.cores.length:Int) - 1)=(d.cores.length:Int) - 1:=Go.IntWalk.i64_in _ (by unfold MaSz at hf;omega)
 obtain ⟨R,hR⟩:∃ R,aloneM d who steps=R:=⟨_,rfl⟩
 have HR:=hidM1 hR
 rw [hR]
 clear h hf hR
 go_enter Tryz.func6,Tryz.ntmps6
 obtain ⟨W0,hW0,x0,k0,z0⟩:=X4.new w (.slice s1 d.codes.length c1) (.slice s2 d.cores.length c2) (.slice s3 d.mem.length c3) (.slice s4 d.tr.length c4) 38
 have s0:W0.heap.size=w.heap.size+1:=by rw [← hW0];simp
 obtain ⟨W,hW,x1,k1,z1⟩:=X4.new W0 (.slice none 0 0) (.slice none 0 0) (.slice none 0 0) (.slice none 0 0) 38
 have HWW:Hid ((w.alloc (.cells #[.slice s1 d.codes.length c1,.slice s2 d.cores.length c2,.slice s3 d.mem.length c3,.slice s4 d.tr.length c4] 38)).alloc (.cells #[.slice none 0 0,.slice none 0 0,.slice none 0 0,.slice none 0 0] 38)=W):=by
  show _=W
  rw [hW0]
  exact hW
 rw [s0] at x1
 have X3:=hidM1 (x0.keep k1 z0)
 have X6:=hidM1 x1
 have KW:=hidM1 (k0.trans (k1.mono (by omega)))
 clear hW0 hW x0 x1 k0 k1 z0 z1 s0
 go_upto_region 1 with fail
 rw [HWW.out]
 clear HWW
 obtain ⟨b6,hb6⟩:∃ b,w.heap.size+1=b:=⟨_,rfl⟩
 obtain ⟨b3,hb3⟩:∃ b,w.heap.size=b:=⟨_,rfl⟩
 have BE:Hid (b3=w.heap.size∧b6=w.heap.size+1):=⟨hb3.symm,hb6.symm⟩
 rw [hb6] at X6 ⊢
 rw [hb3] at X3
 try rw [hb3]
 clear hb6 hb3
 obtain ⟨⟨xz,c0,c1',c2',c3'⟩,-⟩:=X3.out
 go_wp2_with fail
 refine (specMachineOk_any s1 s2 s3 s4 c1 c2 c3 c4 lo hi d W (H.out.keep (Keep.of_below KW.out hB)) (by have:=KW.out.size;omega) (MaFits.of HF.out)).mono ?_
 rintro e w1 ⟨rfl,hb1⟩
 have X31:=hidM1 (X3.out.keep hb1 xz)
 have X61:=hidM1 (X6.out.keep hb1 X6.out.x.z)
 have K1:=hidM1 (KW.out.trans (hb1.mono KW.out.size))
 clear hb1 xz c0 c1' c2' c3' X3 X6 KW
 cases hy:machB d with
 | false=>
  have ER:Hid (R=noMd):=by show _=_;rw [← HR.out];unfold aloneM;rw [if_neg (by rw [hy];decide)]
  obtain ⟨⟨yz,d0,d1,d2,d3⟩,df⟩:=X61.out
  go_wp2
  obtain ⟨Z,hZ,xZ,sZ,fZ,bZ,-⟩:=X61.out.putA (.slice none 0 0) (.slice none 0 0) (.slice none 0 0) (.slice none 0 0)
  obtain ⟨⟨zz,g0,g1,g2,g3⟩,-⟩:=xZ
  rw [ER.out]
  refine bodyPost_ret (v:=.agg #[.slice none 0 0,.slice none 0 0,.slice none 0 0,.slice none 0 0]) ?_ rfl ⟨noMP,rfl,?_,?_⟩
  ·rw [hZ]
   simp [results,Tryz.results6,go_sem,g0,g1,g2,g3]
  ·exact noMa _ _ _
  ·rw [hZ]
   exact bZ _ _ K1.out (by have:=BE.out;omega)
 | true=>
  have HY:=hidM1 hy
  clear hy
  obtain ⟨⟨xz,c0,c1',c2',c3'⟩,-⟩:=X31.out
  go_wp2_with fail
  obtain ⟨oo,hoo⟩:∃ b,Plain.inB who 0 ((d.cores.length:Int) - 1)=b:=⟨_,rfl⟩
  have OO:Hid ((oo=true∧0≤who∧who < (d.cores.length:Int))∨(oo=false∧¬ (0≤who∧who < (d.cores.length:Int)))):=by
   have h2:=hoo
   unfold Plain.inB at h2
   cases oo with
   | true=>exact .inl ⟨rfl,by simp at h2;omega⟩
   | false=>exact .inr ⟨rfl,by simp at h2;omega⟩
  refine (l1In_is _ _ _ oo _ hoo).mono ?_
  rintro e w3 ⟨rfl,hw3⟩
  rw [hw3]
  clear hw3 w3 hoo
  have COPY:=hidM1 (l8Copy_any s1 s2 s3 s4 c1 c2 c3 c4 lo hi d w1 (H.out.keep (Keep.of_below K1.out hB)) (by have:=K1.out.size;omega) HF.out)
  refine OO.out.elim (fun h=>?yes) (fun h=>?no)
  case' no=>
   obtain ⟨ho,hn⟩:=h
   subst ho
   have ER:Hid (d=R):=by show _=_;rw [← HR.out];unfold aloneM;rw [if_pos HY.out,if_neg hn]
   clear hn
   go_wp2_with fail
   refine COPY.out.mono ?_
   rintro e w2 ⟨vc,vk,vm,vt,LC,LK,S,rfl,q,hb2,-⟩
   obtain ⟨p,rfl,rfl,rfl,rfl,mo,-⟩:=q.mo
   have MO:Hid (MaO w2 w1.heap.size w2.heap.size p R):=by rw [← ER.out];exact mo
   have KB:=hidM1 hb2
   rw [ER.out]
   clear q mo hb2
  case' yes=>
   obtain ⟨ho,h0,h1⟩:=h
   subst ho
   obtain ⟨nw,rfl⟩:∃ n:Nat,who=(n:Int):=⟨who.toNat,by omega⟩
   have hnw:nw < d.cores.length:=by omega
   have ER:Hid (alM (stN steps) d nw=R):=by
    show _=_
    rw [← HR.out]
    unfold aloneM
    rw [if_pos HY.out,if_pos ⟨h0,h1⟩]
   go_wp2_with fail
   refine COPY.out.mono ?_
   rintro e w5 ⟨vc,vk,vm,vt,LC,LK,S,rfl,q,hb2,-⟩
   have GO:=hidM1 (l15_any steps q hb2.size HY.out hnw)
   rw [ER.out] at GO
   have KB5:=hidM1 hb2
   clear q hb2 h0 h1 hnw
   go_wp2_with fail
   refine GO.out.mono ?_
   rintro e w2 ⟨p,LC',LK',S',rfl,-,kb,mo⟩
   have MO:=hidM1 mo
   have KB:=hidM1 (KB5.out.trans kb)
   clear mo kb
  all_goals
   have X62:=hidM1 (X61.out.keep KB.out X61.out.x.z)
   have K2:=hidM1 (K1.out.trans (KB.out.mono K1.out.size))
   have ZB:Hid (w.heap.size≤w1.heap.size∧b6 < w1.heap.size):=⟨K1.out.size,X61.out.x.z⟩
   obtain ⟨⟨yz,d0,d1,d2,d3⟩,df⟩:=X62.out
   clear xz c0 c1' c2' c3'
   go_wp2
   obtain ⟨Z,hZ,xZ,sZ,fZ,bZ,-⟩:=X62.out.putA (.slice p.s1 R.codes.length p.c1) (.slice p.s2 R.cores.length p.c2) (.slice p.s3 R.mem.length p.c3) (.slice p.s4 R.tr.length p.c4)
   obtain ⟨⟨zz,g0,g1,g2,g3⟩,-⟩:=xZ
   refine bodyPost_ret (v:=.agg #[.slice p.s1 R.codes.length p.c1,.slice p.s2 R.cores.length p.c2,.slice p.s3 R.mem.length p.c3,.slice p.s4 R.tr.length p.c4]) ?_ rfl ⟨p,rfl,?_,?_⟩
   ·rw [hZ]
    simp [results,Tryz.results6,go_sem,g0,g1,g2,g3]
   ·rw [hZ]
    exact (MO.out.keep (fun k h3 h4=>fZ k (by have:=ZB.out;omega))).mono ZB.out.1 (by omega)
   ·rw [hZ]
    exact bZ _ _ K2.out (by have:=BE.out;omega)
end
section
set_option linter.unusedSimpArgs false
set_option linter.unusedVariables false
set_option maxRecDepth 100000
open Go.RowKit Go.Deep
/- a drawn machine in its box, the box of the answer below -/
structure Dq (w V:World) (p bx:Nat) (s:Option Addr) (n c:Nat) (q:MP) (d:MD):Prop where
 x:X4 V bx (.slice q.s1 d.codes.length q.c1) (.slice q.s2 d.cores.length q.c2) (.slice q.s3 d.mem.length q.c3) (.slice q.s4 d.tr.length q.c4)
 ma:MaR V (p+1) bx q.s1 q.s2 q.s3 q.s4 d
 cb:CB V p s n c
 bt:Below w.heap.size w V
 r:X4 V w.heap.size (.slice none 0 0) (.slice none 0 0) (.slice none 0 0) (.slice none 0 0)
 wp:w.heap.size < p
 pb:p < bx
theorem Dq.step {w V V':World} {p bx n c:Nat} {s:Option Addr} {q:MP} {d:MD} (h:Dq w V p bx s n c q d) (hc:CB V' p s n c) (hb:But p V V'):Dq w V' p bx s n c q d:=by
 have h1:=h.wp
 have h2:=h.pb
 have h3:=h.x.x.z
 exact ⟨h.x.but hb (by omega),h.ma.keep (hb.keepG (by omega) (by omega)),hc,h.bt.trans (hb.below (by omega) (by omega)),h.r.but hb (by omega),h1,h2⟩
theorem Dq.low {w V V':World} {p bx n c:Nat} {s:Option Addr} {q:MP} {d:MD} (h:Dq w V p bx s n c q d) (hb:Below V.heap.size V V'):Dq w V' p bx s n c q d:=
 h.step (h.cb.lowB hb (by have:=h.pb;have:=h.x.x.z;omega)) (But.of_below hb)
theorem Dq.new {w A w1 V:World} {p n c:Nat} {s:Option Addr} {q:MP} {d:MD} (hr:X4 A w.heap.size (.slice none 0 0) (.slice none 0 0) (.slice none 0 0) (.slice none 0 0)) (hA:Below w.heap.size w A) (hw:w.heap.size < p) (hp:p < A.heap.size) (hb:But p A w1) (hc:CB w1 p s n c) (ma:MaR w1 (A.heap.size+1) w1.heap.size q.s1 q.s2 q.s3 q.s4 d) (hV:w1.alloc (.cells #[.slice q.s1 d.codes.length q.c1,.slice q.s2 d.cores.length q.c2,.slice q.s3 d.mem.length q.c3,.slice q.s4 d.tr.length q.c4] 38)=V):Dq w V p w1.heap.size s n c q d∧V.heap.size=w1.heap.size+1:=by
 obtain ⟨V',hV',x,k,z⟩:=X4.new w1 (.slice q.s1 d.codes.length q.c1) (.slice q.s2 d.cores.length q.c2) (.slice q.s3 d.mem.length q.c3) (.slice q.s4 d.tr.length q.c4) 38
 have e:V'=V:=hV'.symm.trans hV
 subst e
 have hs:=hb.size
 refine ⟨⟨x,(ma.mono (by omega) (Nat.le_refl _)).keep (Keep.of_below k (Nat.le_refl _)),hc.lowB k (by omega),(hA.trans (hb.below (by omega) (by omega))).trans (k.mono (by omega)),(hr.but hb (by omega)).keep k (by omega),hw,by omega⟩,by rw [← hV'];simp⟩
end
section
set_option linter.unusedSimpArgs false
set_option linter.unusedVariables false
set_option maxRecDepth 100000
open Go.RowKit Go.Deep
theorem Dq.below {w X : World} {p bx n c : Nat} {s : Option Addr} {q : MP} {d : MD} (h : Dq w X p bx s n c q d) (m : Int) (h0 : 0 < m) (h1 : m ≤ 256) :
  Calls Tryz.prog 47 #[.pointer (some ⟨p,0,none⟩),.int .i64 m] X fun e w'=>∃ y:Int,e=.returned (.int .i64 y)∧Hid (0≤y∧y < m)∧Hid (Dq w w' p bx s n c q d)∧Hid (But p X w'):=by
 refine (below_cb p s n c m X h.cb h0 h1).mono ?_
 rintro e w' ⟨y,he,y0,y1,hc,hb⟩
 exact ⟨y,he,⟨y0,y1⟩,h.step hc hb,hb⟩
set_option maxRecDepth 100000 in
set_option maxHeartbeats 8000000 in
theorem drawAl_any (s : Option Addr) (n c : Nat) (w : World) (hb : Bytes w w.heap.size s n) (hn : n ≤ maxLen) :
  Calls Tryz.prog 13 #[.slice s n c] w fun e w'=>∃ (q:MP) (d:MD) (who steps:Int),e=.returned (.tuple #[.agg #[.slice q.s1 d.codes.length q.c1,.slice q.s2 d.cores.length q.c2,.slice q.s3 d.mem.length q.c3,.slice q.s4 d.tr.length q.c4],.int .i64 who,.int .i64 steps])∧MaR w' w.heap.size w'.heap.size q.s1 q.s2 q.s3 q.s4 d∧MaSz d≤21000∧d.cores.length≤4∧ -2≤steps∧steps≤48∧Below w.heap.size w w':=by
 have HB:=hidM1 hb
 have HN:=hidM1 hn
 clear hb hn
 go_enter Tryz.func13,Tryz.ntmps13
 obtain ⟨A,hA,xA,kA,zA⟩:=X4.new w (.slice none 0 0) (.slice none 0 0) (.slice none 0 0) (.slice none 0 0) 38
 have sA:A.heap.size=w.heap.size+1:=by rw [← hA];simp
 go_upto_region 1 with fail
 try rw [hA]
 have SA:=hidM1 sA
 clear hA sA
 have XA:=hidM1 xA
 have KA:=hidM1 kA
 clear xA kA
 go_wp2_with fail
 refine (new_cb s n c A (HB.out.up KA.out) HN.out).mono ?_
 rintro e w1 ⟨rfl,hc1,hb1,hs1⟩
 have X1:=hidM1 (XA.out.keep hb1 zA)
 have K1:=hidM1 (KA.out.trans (hb1.mono (by omega)))
 have C1:=hidM1 hc1
 have HS1:=hidM1 hs1
 clear hc1 hb1 hs1 XA KA HB HN
 go_wp2_with fail
 refine (drawM_any A.heap.size s n c w1 C1.out).mono ?_
 rintro e w2 ⟨q,d,rfl,hma,hsz,hk,hc2,hb2⟩
 have SZ:=hidM1 hsz
 have KK:=hidM1 hk
 have MA:=hidM1 hma
 have C2:=hidM1 hc2
 have B2:=hidM1 hb2
 clear hma hsz hk hc2 hb2 C1
 go_upto_region 3 with fail
 obtain ⟨V,hV⟩:∃ V,w2.alloc (.cells #[.slice q.s1 d.codes.length q.c1,.slice q.s2 d.cores.length q.c2,.slice q.s3 d.mem.length q.c3,.slice q.s4 d.tr.length q.c4] 38)=V:=⟨_,rfl⟩
 have dq:=Dq.new X1.out K1.out (p:=A.heap.size) (by omega) (by have:=HS1.out;omega) B2.out C2.out MA.out hV
 rw [hV]
 clear hV
 obtain ⟨p,hpp⟩:∃ p,A.heap.size=p:=⟨_,rfl⟩
 obtain ⟨bx,hbx⟩:∃ p,w2.heap.size=p:=⟨_,rfl⟩
 rw [hpp,hbx] at dq ⊢
 obtain ⟨dq,zV⟩:=dq
 have DQ:=hidM1 dq
 clear dq MA C2 B2 X1 K1 hpp hbx HS1 SA zA
 have hpb:=DQ.out.pb
 have hwp:=DQ.out.wp
 obtain ⟨⟨xz,xc0,xc1,xc2,xc3⟩,-⟩:=DQ.out.x
 have D1:=hidM1 (DQ.out.low ((Below.refl _ _).drew))
 clear DQ
 have nb:¬ bx=w.heap.size:=by omega
 have nb':¬ w.heap.size=bx:=by omega
 go_region_held3 (fun w'=>w'.cell? ⟨bx,0,none⟩=some (.slice q.s1 d.codes.length q.c1)∧w'.cell? ⟨bx,1,none⟩=some (.slice q.s2 d.cores.length q.c2)∧w'.cell? ⟨bx,2,none⟩=some (.slice q.s3 d.mem.length q.c3)∧w'.cell? ⟨bx,3,none⟩=some (.slice q.s4 d.tr.length q.c4)) (go_keep) (first | (go_at_call 47;with_reducible refine (D3.out.below 50 (by omega) (by omega)).mono ?_;rintro e w7 ⟨t,rfl,Bt,D4,Tt⟩;have x0t:=D4.out.x.x.c0;have x1t:=D4.out.x.x.c1;have x2t:=D4.out.x.x.c2;have x3t:=D4.out.x.x.c3;have zt:=D4.out.x.x.z;have r0':=D4.out.r.x.c0;have r1':=D4.out.r.x.c1;have r2':=D4.out.r.x.c2;have r3':=D4.out.r.x.c3;have rf':=D4.out.r.fz) | (go_at_call 47;with_reducible refine (D2.out.below 12 (by omega) (by omega)).mono ?_;rintro e w6 ⟨u,rfl,Bu,D3,Tu⟩;have x0u:=D3.out.x.x.c0;have x1u:=D3.out.x.x.c1;have x2u:=D3.out.x.x.c2;have x3u:=D3.out.x.x.c3;have zu:=D3.out.x.x.z) | (go_at_call 47;with_reducible refine (D1.out.below 4 (by omega) (by omega)).mono ?_;rintro e w5 ⟨y,rfl,By,D2,Ty⟩;have x0y:=D2.out.x.x.c0;have x1y:=D2.out.x.x.c1;have x2y:=D2.out.x.x.c2;have x3y:=D2.out.x.x.c3;have zy:=D2.out.x.x.z) | fail)
 all_goals
  clear xz xc0 xc1 xc2 xc3 D1 D2 D3
  go_wp2
  refine bodyPost_ret (v:=.tuple #[.agg #[.slice q.s1 d.codes.length q.c1,.slice q.s2 d.cores.length q.c2,.slice q.s3 d.mem.length q.c3,.slice q.s4 d.tr.length q.c4],.int .i64 (IntKind.i64.wrap (y - IntKind.i64.wrap (u.tdiv 11))),.int .i64 (IntKind.i64.wrap (t - 2))]) ?_ rfl ⟨q,d,IntKind.i64.wrap (y - IntKind.i64.wrap (u.tdiv 11)),IntKind.i64.wrap (t - 2),rfl,?_⟩
  ·simp [results,Tryz.results13,go_sem,r0',r1',r2',r3']
   try rfl
  ·obtain ⟨Y,hY,-,mY,sY,fY,bY⟩:=X4.put4 (.slice q.s1 d.codes.length q.c1) (.slice q.s2 d.cores.length q.c2) (.slice q.s3 d.mem.length q.c3) (.slice q.s4 d.tr.length q.c4) D4.out.r D4.out.ma (by omega)
   rw [hY]
   have kY:=bY _ _ D4.out.bt (Nat.le_refl _)
   have hxz:=D4.out.x.x.z
   have ht:IntKind.i64.wrap (t - 2)=t - 2:=Go.IntWalk.i64_in _ (by have:=Bt.out;omega)
   have hb:=Bt.out
   rw [ht]
   exact ⟨MaR.mono mY (by omega) (by omega),SZ.out,KK.out,by omega,by omega,kY⟩
end
end Go.Proofs.YtlbeploopclegaaGreat
