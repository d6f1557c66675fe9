/- A step of memory of the specification: a load. Condition: late is a number of 64 bits. A step of memory of the specification: a load. Condition: late is a number of 64 bits. -/
import Derived.Test.YtkhjhibigldcgaaGreatBG00
import Derived.Test.YtkhjhibigldcgaaGreatBG04
import Derived.Test.YtkhjhibigldcgaaGreatBMixOp
import Derived.Test.YtkhjhibigldcgaaGreatBG08
import Derived.Test.YtkhjhibigldcgaaGreatBG07
import Derived.Test.YtkhjhibigldcgaaGreatBG10
import Derived.Test.YtkhjhibigldcgaaGreatBG11
import Derived.Test.YtkhjhibigldcgaaGreatBG01
import Derived.Test.YtkhjhibigldcgaaGreatBG09
import Derived.Test.YtkhjhibigldcgaaGreatBG12
namespace Go.Proofs.YtkhjhibigldcgaaGreat
section
set_option linter.unusedSimpArgs false
set_option linter.unusedVariables false
set_option maxRecDepth 100000
open Go.RowKit
set_option maxHeartbeats 4000000 in
theorem mem5a {Hq : Nat → Prop} (B : Nat) (vc vk vm vt : Value) (LC : List CV) (LK : List KV) (S : List RS) (d : MD) (who : Nat) (k : KD) (code : List I5) (s : I5) (late : Int) (w : World) (h : MQ w B Hq vc vk vm vt LC LK S d) (ha : At8 d who k code s) (hb : B ≤ w.heap.size) (hlate : late ≤ 9223372036854775807) (ho : s.o = 5) (hav : 0 ≤ s.a) :
  Calls Tryz.prog 43 #[.agg #[vc,vk,vm,vt],.agg #[.int .i64 who,.int .i64 late],.agg #[.int .i64 s.o,.int .i64 s.r,.int .i64 s.a,.int .i64 s.b,.int .i64 s.n]] w fun e w'=>MemP w B Hq vc vk vm vt LC LK S d who late k s e w':=by
 obtain ⟨p,gc,cc,gk,ck,gs,cs,gr,cr,gv,cv,gO,cO,st,ct,O⟩:=h.open ha
 obtain ⟨n1,n2,n3,n4,n5,n6,n7,n8,n9,n10⟩:=O.ne h
 obtain ⟨ec,ek,em,et,hx,hp,wc,wk,c0,k0,k1,k2,k3,s0,s1,s2,s3,s4,rr,fk,fr,zc,zk,zs,zr,zv,zO,bk,br,bv,bO⟩:=O
 subst ec ek em et
 have H:=hidS h
 have H8:Hid (k.regs.length=8):=ha.regs
 have HVW:Hid (viewB d.mem k.vw=true):=ha.vw
 have HME:Hid (memB d.mem=true):=ha.mem
 have HX:=hidS hx
 have hok:=ha.ok
 unfold stX Plain.stepB at hok
 rw [decide_eq_true_eq] at hok
 obtain ⟨pc,regs,vw,st_⟩:=k
 obtain ⟨o,r,a,b,n⟩:=s
 simp only at ho hp hok k0 k3 rr s0 s1 s2 s3 s4 hav
 subst hp
 have HVW:Hid (viewB d.mem vw=true):=HVW
 have H8:Hid (regs.length=8):=H8
 subst ho
 obtain ⟨r',hr'⟩:∃ r':Nat,r=r':=⟨r.toNat,by omega⟩
 subst hr'
 have br0:(0:Int)≤(r':Int):=by omega
 have br1:(r':Int) < 8:=by omega
 have br2:r' < 8:=by omega
 obtain ⟨a',ha'⟩:∃ a':Nat,a=a':=⟨a.toNat,by omega⟩
 subst ha'
 have ba0:(0:Int)≤(a':Int):=by omega
 have ba1:(a':Int) < 8:=by omega
 have ba2:a' < 8:=by omega
 have hn0:0≤n:=by omega
 have hn23:n≤23:=by omega
 clear hok
 have b0:(0:Int)≤(who:Int):=by omega
 have b2:(who:Int) < (LK.length:Int):=by omega
 have zk1:gk < w.heap.size+1:=by omega
 have zk2:gk < w.heap.size+1+1:=by omega
 have zk3:gk < w.heap.size+1+1+1:=by omega
 have RR:=hidS rr
 have FK:=hidS fk
 have FR:=hidS fr
 have K0:=hidS k0
 have K1:=hidS k1
 have K2:=hidS k2
 have K3:=hidS k3
 clear h ha hx rr fk fr c0 s0 s1 s2 s3 s4
 go_enter Tryz.func43,Tryz.ntmps43
 obtain ⟨V,hV⟩:∃ V,((((w.alloc (.cells #[.slice (some ⟨gc,0,none⟩) d.codes.length cc,.slice (some ⟨gk,0,none⟩) LK.length ck,.slice (some ⟨gO,0,none⟩) d.mem.length cO,.slice st d.tr.length ct] 35)).alloc (.cells #[.int .i64 who,.int .i64 late] 75)).alloc (.cells #[.int .i64 5,.int .i64 r',.int .i64 a',.int .i64 b,.int .i64 n] 65)).alloc (.cells #[.slice none 0 0,.slice none 0 0,.slice none 0 0,.slice none 0 0] 35)).alloc (.cells #[.int .i64 p,.slice (some ⟨gr,0,none⟩) 8 cr,.slice (some ⟨gv,0,none⟩) 24 cv,.int .i64 st_] 42)=V:=⟨_,rfl⟩
 obtain ⟨BX,KV⟩:=boxesM hV
 have HBX:=(show Hid (Bm5 V w.heap.size _ _ _ _ _ _ _ _ _ _ _ _ _ _ _) from BX)
 have HKV:Hid (Below w.heap.size w V):=KV
 have HV:=hidS hV
 clear hV BX KV
 go_wp2_with fail
 rw [HV.out]
 obtain ⟨m0,m1,m2,m3,x0,x1,s0,s1,s2,s3,s4,a0,a1,a2,a3,e0,e1,e2,e3,fm,fa,ff,bt,zV⟩:=HBX.out
 have l0:=(HKV.out.cell (p:=⟨gk,who * 4,none⟩) zk).trans K0.out
 have l1:=(HKV.out.cell (p:=⟨gk,who * 4+1,none⟩) zk).trans K1.out
 have l2:=(HKV.out.cell (p:=⟨gk,who * 4+2,none⟩) zk).trans K2.out
 have l3:=(HKV.out.cell (p:=⟨gk,who * 4+3,none⟩) zk).trans K3.out
 obtain ⟨vr,hvr⟩:∃ v,regs.getD r' 0=v:=⟨_,rfl⟩
 have HVr:=hidS hvr
 clear hvr
 have lr:V.cell? ⟨gr,r',none⟩=some (.int .i64 vr):=by rw [← HVr.out];exact (HKV.out.cell (p:=⟨gr,r',none⟩) zr).trans (RR.out r' (by omega))
 obtain ⟨va,hva⟩:∃ v,regs.getD a' 0=v:=⟨_,rfl⟩
 have HVa:=hidS hva
 clear hva
 have la:V.cell? ⟨gr,a',none⟩=some (.int .i64 va):=by rw [← HVa.out];exact (HKV.out.cell (p:=⟨gr,a',none⟩) zr).trans (RR.out a' (by omega))
 have f2:∀ j,V.frozen? ⟨gk,j,none⟩=false:=fun j=>(HKV.out.frozen (p:=⟨gk,j,none⟩) zk).trans (FK.out j)
 have f3:∀ j,V.frozen? ⟨gr,j,none⟩=false:=fun j=>(HKV.out.frozen (p:=⟨gr,j,none⟩) zr).trans (FR.out j)
 have v0:w.heap.size < V.heap.size:=by omega
 have v1:w.heap.size+1 < V.heap.size:=by omega
 have v2:w.heap.size+1+1 < V.heap.size:=by omega
 have v3:w.heap.size+1+1+1 < V.heap.size:=by omega
 have v4:gO < V.heap.size:=by omega
 have v5:gr < V.heap.size:=by omega
 have v6:gk < V.heap.size:=by omega
 obtain ⟨cl,hcl⟩:∃ c,IntKind.i64.wrap (n+va)=c:=⟨_,rfl⟩
 go_region
 have CM:Hid (cellM ⟨p,regs,vw,st_⟩ ⟨5,r',a',b,n⟩=cl):=by
  show _=_
  unfold cellM wI regA
  rw [if_pos ⟨by show ¬ (5:Int)=8;omega,ba0⟩]
  simp only [Int.toNat_natCast]
  rw [HVa.out,hcl]
 obtain ⟨V2,hV2⟩:∃ V2,V.drew=V2:=⟨_,rfl⟩
 rw [hV2]
 have kv2:Below V.heap.size V V2:=by subst hV2;exact Below.drew (Below.refl _ _)
 have HBX:=(show Hid (Bm5 V2 w.heap.size _ _ _ _ _ _ _ _ _ _ _ _ _ _ _) from HBX.out.keep (fun b _ h2=>kv2.block b h2) kv2.size)
 have HKV:Hid (Below w.heap.size w V2):=HKV.out.trans (kv2.mono (by omega))
 clear m0 m1 m2 m3 x0 x1 s0 s1 s2 s3 s4 a0 a1 a2 a3 e0 e1 e2 e3 fm fa ff bt zV l0 l1 l2 l3 f2 f3 v0 v1 v2 v3 v4 v5 v6 lr la
 obtain ⟨m0,m1,m2,m3,x0,x1,s0,s1,s2,s3,s4,a0,a1,a2,a3,e0,e1,e2,e3,fm,fa,ff,bt,zV⟩:=HBX.out
 have l0:=(HKV.out.cell (p:=⟨gk,who * 4,none⟩) zk).trans K0.out
 have l1:=(HKV.out.cell (p:=⟨gk,who * 4+1,none⟩) zk).trans K1.out
 have l2:=(HKV.out.cell (p:=⟨gk,who * 4+2,none⟩) zk).trans K2.out
 have l3:=(HKV.out.cell (p:=⟨gk,who * 4+3,none⟩) zk).trans K3.out
 have lr:V2.cell? ⟨gr,r',none⟩=some (.int .i64 vr):=by rw [← HVr.out];exact (HKV.out.cell (p:=⟨gr,r',none⟩) zr).trans (RR.out r' (by omega))
 have la:V2.cell? ⟨gr,a',none⟩=some (.int .i64 va):=by rw [← HVa.out];exact (HKV.out.cell (p:=⟨gr,a',none⟩) zr).trans (RR.out a' (by omega))
 have f2:∀ j,V2.frozen? ⟨gk,j,none⟩=false:=fun j=>(HKV.out.frozen (p:=⟨gk,j,none⟩) zk).trans (FK.out j)
 have f3:∀ j,V2.frozen? ⟨gr,j,none⟩=false:=fun j=>(HKV.out.frozen (p:=⟨gr,j,none⟩) zr).trans (FR.out j)
 have v0:w.heap.size < V2.heap.size:=by omega
 have v1:w.heap.size+1 < V2.heap.size:=by omega
 have v2:w.heap.size+1+1 < V2.heap.size:=by omega
 have v3:w.heap.size+1+1+1 < V2.heap.size:=by omega
 have v4:gO < V2.heap.size:=by omega
 have v5:gr < V2.heap.size:=by omega
 have v6:gk < V2.heap.size:=by omega
 clear kv2 hV2 HV hcl
 have hno:¬ ((5:Int)≠5∧(d.mem.getD cl.toNat []).length=4000):=fun hh=>hh.1 rfl
 by_cases hin:0≤cl∧cl≤23
 ·obtain ⟨c,hc⟩:∃ c:Nat,cl=c:=⟨cl.toNat,by omega⟩
  have CM2:Hid (cellM ⟨p,regs,vw,st_⟩ ⟨5,r',a',b,n⟩=c):=by show _=_;rw [CM.out,hc]
  have HNO:Hid (¬ ((5:Int)≠5∧(d.mem.getD c []).length=4000)):=fun hh=>hh.1 rfl
  subst hc
  clear CM hno
  have CM:=CM2
  clear CM2
  have hc24:c < 24:=by omega
  obtain ⟨h24,lr,hlr,elr,h1,h4,-⟩:=memB_at HME.out hc24
  have hvl:vw.length=24:=by have:=(viewB_iff.1 HVW.out).1;omega
  obtain ⟨r2,hr2⟩:∃ r,S[c]? =some r:=⟨_,List.getElem?_eq_getElem (by have:=H.out.m.n;omega)⟩
  have MQ2:=(show Hid (MQ V2 B Hq _ _ _ _ LC LK S d) from H.out.keep (fun b _ hb1=>HKV.out.block b hb1) HKV.out.size)
  obtain ⟨sM,cM,eM,mR⟩:=MQ2.out.m.memw
  injection eM with eM e2 e3
  clear e2
  subst eM
  subst e3
  have vR:=(MQ2.out.k.inn who _ HX.out).2
  have vR':IntsR V2 B V2.heap.size (some ⟨gv,0,none⟩) vw:=ownN_intsR (c:=cv) (by rw [hvl];exact vR)
  obtain ⟨kk,rr2,ekk,hRt⟩:=right_of (m:=d.mem) (l:=vw) (cell:=(c:Int)) (by unfold rightB;rw [HME.out,HVW.out];simp;omega)
  have ekk:kk=c:=by omega
  subst ekk
  have ekr:rr2=lr:=by have:=hRt.hr;rw [hlr] at this;injection this with this;exact this.symm
  subst ekr
  obtain ⟨hj1,hj2⟩:=ldJ_lt late HME.out HVW.out hc24
  obtain ⟨rr3,hr3,hx3,-⟩:=ldX_at late HME.out HVW.out hc24
  have er3:rr3=rr2:=by rw [hlr] at hr3;injection hr3 with hr3;exact hr3.symm
  subst er3
  rw [elr] at hj2
  have LD:=l6Load_any (some ⟨gO,0,none⟩) (some ⟨gv,0,none⟩) cO cv B V2.heap.size B V2.heap.size d.mem vw kk rr3 late false (ldJ d.mem vw kk late) (ldX d.mem vw kk late) V2.drew mR vR' (Nat.le_refl _) (Nat.le_refl _) hRt hlate hj2 hx3
  rw [hvl,ldW_eq] at LD
  have HLD:=hidM LD
  clear LD hj1 hj2 hr3 hx3 hRt vR vR' mR elr hlr h1 h4 rr3 hr2 r2
  have HVL:=hidS hvl
  have H24:=hidS h24
  clear hvl h24
  go_wp2_with (go_at_call 13;refine (l1In_is _ _ _ true _ (by first | (unfold Plain.inB;simp;omega) | (simp;omega))).mono ?_;rintro e w' ⟨rfl,hw'⟩;rw [hw'];clear hw' w')
  have hne:=extP_ne V2 (fun _=>False)
  have u0:=ExtP.fit (E:=fun _=>False) e1 zV id
  have u1:=ExtP.fit (E:=fun _=>False) s1 v2 id
  have u2:=ExtP.fit (E:=fun _=>False) m2 v0 id
  have u3:=ExtP.fit (E:=fun _=>False) e2 zV id
  have u4:=ExtP.fit (E:=fun _=>False) x1 v1 id
  refine regionMix V2 (CP V2 (fun _=>False)) 11 15 (by kernel_rfl) (by kernel_rfl) (fun _ _ d _ _ h=>by cases d<;>exact h) (CP.drew _ _) ?_
  unfold CP
  dsimp only [List.take,List.drop]
  repeat (go_big_quiet_step (fail))
  refine wpQuiet_nil ?_
  clear hne u0 u1 u2 u3 u4
  unfold wpListC
  go_wp2_with (go_at_call 57;refine Calls.mono HLD.out ?_;rintro e w5 ⟨u,rfl,hu5,hb5⟩)
  refine And.intro (fun _ hc=>CP.below hc hb5) ?_
  unfold wpListC
  go_wp2
  refine And.intro (fun _ hc=>hc) ?_
  unfold wpListC
  go_wp2
  refine And.intro (fun _ hc=>hc) ?_
  unfold wpListC
  go_wp2
  refine And.intro (fun _ hc=>hc) ?_
  refine listC_late _ _ _ _ (by decide) ?_
  have kv5:Below V2.heap.size V2 w5:=(Below.drew (Below.refl _ _)).trans hb5
  obtain ⟨su,cu,eu⟩:=ownSl hu5
  have H5:=hidS hu5
  have ZW:Hid (V2.drew.heap.size=V2.heap.size):=rfl
  have WG:w.heap.size+1+1+1+1 < V2.heap.size:=zV
  have HBX:=(show Hid (Bm5 w5 w.heap.size _ _ _ _ _ _ _ _ _ _ _ _ _ _ _) from HBX.out.keep (fun b _ h2=>kv5.block b h2) kv5.size)
  have HKV:Hid (Below w.heap.size w w5):=HKV.out.trans (kv5.mono (by omega))
  clear m0 m1 m2 m3 x0 x1 s0 s1 s2 s3 s4 a0 a1 a2 a3 e0 e1 e2 e3 fm fa ff bt zV l0 l1 l2 l3 f2 f3 v0 v1 v2 v3 v4 v5 v6 lr la
  obtain ⟨m0,m1,m2,m3,x0,x1,s0,s1,s2,s3,s4,a0,a1,a2,a3,e0,e1,e2,e3,fm,fa,ff,bt,zV⟩:=HBX.out
  have l0:=(HKV.out.cell (p:=⟨gk,who * 4,none⟩) zk).trans K0.out
  have l1:=(HKV.out.cell (p:=⟨gk,who * 4+1,none⟩) zk).trans K1.out
  have l2:=(HKV.out.cell (p:=⟨gk,who * 4+2,none⟩) zk).trans K2.out
  have l3:=(HKV.out.cell (p:=⟨gk,who * 4+3,none⟩) zk).trans K3.out
  have lr:w5.cell? ⟨gr,r',none⟩=some (.int .i64 vr):=by rw [← HVr.out];exact (HKV.out.cell (p:=⟨gr,r',none⟩) zr).trans (RR.out r' (by omega))
  have la:w5.cell? ⟨gr,a',none⟩=some (.int .i64 va):=by rw [← HVa.out];exact (HKV.out.cell (p:=⟨gr,a',none⟩) zr).trans (RR.out a' (by omega))
  have f2:∀ j,w5.frozen? ⟨gk,j,none⟩=false:=fun j=>(HKV.out.frozen (p:=⟨gk,j,none⟩) zk).trans (FK.out j)
  have f3:∀ j,w5.frozen? ⟨gr,j,none⟩=false:=fun j=>(HKV.out.frozen (p:=⟨gr,j,none⟩) zr).trans (FR.out j)
  have v0:w.heap.size < w5.heap.size:=by omega
  have v1:w.heap.size+1 < w5.heap.size:=by omega
  have v2:w.heap.size+1+1 < w5.heap.size:=by omega
  have v3:w.heap.size+1+1+1 < w5.heap.size:=by omega
  have v4:gO < w5.heap.size:=by omega
  have v5:gr < w5.heap.size:=by omega
  have v6:gk < w5.heap.size:=by omega
  have KV5:=hidS kv5
  clear kv5 hu5 hb5
  obtain ⟨xv,hxv⟩:∃ xv,(ldX d.mem vw kk late).v=xv:=⟨_,rfl⟩
  have HXV:=hidS hxv
  rw [hxv]
  clear hxv
  obtain ⟨lu,hlu⟩:∃ l,(ldW d.mem vw kk late false)=l:=⟨_,rfl⟩
  have HLU:=hidS hlu
  rw [hlu] at eu H5
  clear hlu
  subst eu
  go_wp2_with fail
  refine bodyPost_ret (v:=.tuple #[.agg #[.slice (some ⟨gc,0,none⟩) d.codes.length cc,.slice (some ⟨gk,0,none⟩) LK.length ck,.slice (some ⟨gO,0,none⟩) d.mem.length cO,.slice st d.tr.length ct],.bool true,.bool false]) (by simp [results,Tryz.results43,go_sem,fa,a0,a1,a2,a3]) rfl ?_
  unfold MemP
  rw [CM.out,if_pos hin,Int.toNat_natCast,if_neg HNO.out]
  have MS:memS d late ⟨p,regs,vw,st_⟩ ⟨5,r',a',b,n⟩ kk=(d,⟨p,regs.set r' xv,lu,st_⟩):=by
   unfold memS
   rw [if_pos rfl]
   simp only [Int.toNat_natCast]
   rw [HXV.out,HLU.out]
  rw [MS]
  have Qa:=H.out.reg HX.out H8.out r' xv
  have zw5:=HKV.out.size
  have k5s:=KV5.out.size
  have zW5:=ZW.out
  have Qb:MQ ((w5.setCell ⟨gr,r',none⟩ (.int .i64 xv)).setCell ⟨w.heap.size+1+1+1+1,2,none⟩ (.slice su lu.length cu)) B Hq _ _ _ _ LC _ S _:=Qa.keep (fun b _ hb1=>by
   have hb1:b < w.heap.size:=by simpa using hb1
   exact (Below.heap_setCell _ ⟨w.heap.size+1+1+1+1,_,none⟩ _ b (by show b≠w.heap.size+1+1+1+1;omega)).trans (heap_pair (HKV.out.block b hb1))) (by simp;omega)
  have OU:OwnN ((w5.setCell ⟨gr,r',none⟩ (.int .i64 xv)).setCell ⟨w.heap.size+1+1+1+1,2,none⟩ (.slice su lu.length cu)) B (.slice su lu.length cu) lu:=ownLow' (ownKeep' H5.out (fun b hb2=>by
   have q:=(World.ownsRow.lt H5.out _ hb2).1
   exact (Below.heap_setCell _ ⟨w.heap.size+1+1+1+1,_,none⟩ _ b (by show b≠w.heap.size+1+1+1+1;omega)).trans (Below.heap_setCell _ ⟨gr,_,none⟩ _ b (by show b≠gr;omega)))) (by omega)
  have hfr:=Qa.fresh (w':=w5) (u:=.slice su lu.length cu) (l:=lu) (ownLow' H5.out (by simp;omega))
  have Qc:=MQ.put4 (F:=_) Qb (by rw [List.length_set]) (set_at HX.out) (.slice su lu.length cu) lu OU hfr (fun _ _=>rfl) (by simp)
  rw [putK_putK] at Qc
  have B2:=bt.2.1
  refine ⟨_,S,_,_,rfl,MQ.offB (MQ.offB (MQ.offB (MQ.offB Qc B2.set.set.set.set.set.set) B2.set.set.set.set.set.set.set) B2.set.set.set.set.set.set.set.set) B2.set.set.set.set.set.set.set.set.set,set_at (set_at HX.out),by rw [List.length_set,List.length_set],?_,fun b hXb=>?_⟩
  ·repeat' (first | with_reducible exact HKV.out.mono hb | (with_reducible refine Below.setCell ?_ (by first | exact br | exact bk | (show B≤w.heap.size+1+1+1+1;omega) | (show B≤w.heap.size+1+1+1;omega) | (show B≤w.heap.size;omega)) _))
  ·have hb1:=H.out.lt hXb
   have g1:b≠gr:=fun e=>hXb (e▸H.out.hh.ki who _ gr HX.out (.inl rfl))
   have g2:b≠gk:=fun e=>hXb (e▸H.out.hh.k gk rfl)
   repeat' (first | with_reducible exact HKV.out.block b hb1 | (with_reducible refine (Below.heap_setCell _ ⟨w.heap.size+1+1+1+1,_,none⟩ _ b (by show b≠w.heap.size+1+1+1+1;omega)).trans ?_) | (with_reducible refine (Below.heap_setCell _ ⟨w.heap.size+1+1+1,_,none⟩ _ b (by show b≠w.heap.size+1+1+1;omega)).trans ?_) | (with_reducible refine (Below.heap_setCell _ ⟨w.heap.size,_,none⟩ _ b (by show b≠w.heap.size;omega)).trans ?_) | (with_reducible refine (Below.heap_setCell _ ⟨gr,_,none⟩ _ b (by show b≠gr;omega)).trans ?_) | (with_reducible refine (Below.heap_setCell _ ⟨gk,_,none⟩ _ b (by show b≠gk;omega)).trans ?_))
 ·go_wp2_with (go_at_call 13;refine (l1In_is _ _ _ false _ (by first | (unfold Plain.inB;simp;omega) | (simp;omega))).mono ?_;rintro e w' ⟨rfl,hw'⟩;rw [hw'];clear hw' w')
  refine bodyPost_ret (v:=.tuple #[.agg #[.slice (some ⟨gc,0,none⟩) d.codes.length cc,.slice (some ⟨gk,0,none⟩) LK.length ck,.slice (some ⟨gO,0,none⟩) d.mem.length cO,.slice st d.tr.length ct],.bool false,.bool false]) (by simp [results,Tryz.results43,go_sem,fa,a0,a1,a2,a3]) rfl ?_
  unfold MemP
  rw [CM.out]
  rw [if_neg hin]
  refine ⟨rfl,?_⟩
  repeat' (first | with_reducible exact HKV.out | (with_reducible refine Below.setCell ?_ (by show w.heap.size≤w.heap.size+1+1+1;omega) _))
end
section
set_option linter.unusedSimpArgs false
set_option linter.unusedVariables false
set_option maxRecDepth 100000
open Go.RowKit
set_option maxHeartbeats 4000000 in
theorem mem5b {Hq : Nat → Prop} (B : Nat) (vc vk vm vt : Value) (LC : List CV) (LK : List KV) (S : List RS) (d : MD) (who : Nat) (k : KD) (code : List I5) (s : I5) (late : Int) (w : World) (h : MQ w B Hq vc vk vm vt LC LK S d) (ha : At8 d who k code s) (hb : B ≤ w.heap.size) (hlate : late ≤ 9223372036854775807) (ho : s.o = 5) (hav : ¬ 0 ≤ s.a) :
  Calls Tryz.prog 43 #[.agg #[vc,vk,vm,vt],.agg #[.int .i64 who,.int .i64 late],.agg #[.int .i64 s.o,.int .i64 s.r,.int .i64 s.a,.int .i64 s.b,.int .i64 s.n]] w fun e w'=>MemP w B Hq vc vk vm vt LC LK S d who late k s e w':=by
 obtain ⟨p,gc,cc,gk,ck,gs,cs,gr,cr,gv,cv,gO,cO,st,ct,O⟩:=h.open ha
 obtain ⟨n1,n2,n3,n4,n5,n6,n7,n8,n9,n10⟩:=O.ne h
 obtain ⟨ec,ek,em,et,hx,hp,wc,wk,c0,k0,k1,k2,k3,s0,s1,s2,s3,s4,rr,fk,fr,zc,zk,zs,zr,zv,zO,bk,br,bv,bO⟩:=O
 subst ec ek em et
 have H:=hidS h
 have H8:Hid (k.regs.length=8):=ha.regs
 have HVW:Hid (viewB d.mem k.vw=true):=ha.vw
 have HME:Hid (memB d.mem=true):=ha.mem
 have HX:=hidS hx
 have hok:=ha.ok
 unfold stX Plain.stepB at hok
 rw [decide_eq_true_eq] at hok
 obtain ⟨pc,regs,vw,st_⟩:=k
 obtain ⟨o,r,a,b,n⟩:=s
 simp only at ho hp hok k0 k3 rr s0 s1 s2 s3 s4 hav
 subst hp
 have HVW:Hid (viewB d.mem vw=true):=HVW
 have H8:Hid (regs.length=8):=H8
 subst ho
 obtain ⟨r',hr'⟩:∃ r':Nat,r=r':=⟨r.toNat,by omega⟩
 subst hr'
 have br0:(0:Int)≤(r':Int):=by omega
 have br1:(r':Int) < 8:=by omega
 have br2:r' < 8:=by omega
 have hav:a=-1:=by omega
 subst hav
 have hn0:0≤n:=by omega
 have hn23:n≤23:=by omega
 clear hok
 have b0:(0:Int)≤(who:Int):=by omega
 have b2:(who:Int) < (LK.length:Int):=by omega
 have zk1:gk < w.heap.size+1:=by omega
 have zk2:gk < w.heap.size+1+1:=by omega
 have zk3:gk < w.heap.size+1+1+1:=by omega
 have RR:=hidS rr
 have FK:=hidS fk
 have FR:=hidS fr
 have K0:=hidS k0
 have K1:=hidS k1
 have K2:=hidS k2
 have K3:=hidS k3
 clear h ha hx rr fk fr c0 s0 s1 s2 s3 s4
 go_enter Tryz.func43,Tryz.ntmps43
 obtain ⟨V,hV⟩:∃ V,((((w.alloc (.cells #[.slice (some ⟨gc,0,none⟩) d.codes.length cc,.slice (some ⟨gk,0,none⟩) LK.length ck,.slice (some ⟨gO,0,none⟩) d.mem.length cO,.slice st d.tr.length ct] 35)).alloc (.cells #[.int .i64 who,.int .i64 late] 75)).alloc (.cells #[.int .i64 5,.int .i64 r',.int .i64 (-1),.int .i64 b,.int .i64 n] 65)).alloc (.cells #[.slice none 0 0,.slice none 0 0,.slice none 0 0,.slice none 0 0] 35)).alloc (.cells #[.int .i64 p,.slice (some ⟨gr,0,none⟩) 8 cr,.slice (some ⟨gv,0,none⟩) 24 cv,.int .i64 st_] 42)=V:=⟨_,rfl⟩
 obtain ⟨BX,KV⟩:=boxesM hV
 have HBX:=(show Hid (Bm5 V w.heap.size _ _ _ _ _ _ _ _ _ _ _ _ _ _ _) from BX)
 have HKV:Hid (Below w.heap.size w V):=KV
 have HV:=hidS hV
 clear hV BX KV
 obtain ⟨m0,m1,m2,m3,x0,x1,s0,s1,s2,s3,s4,a0,a1,a2,a3,e0,e1,e2,e3,fm,fa,ff,bt,zV⟩:=HBX.out
 have l0:=(HKV.out.cell (p:=⟨gk,who * 4,none⟩) zk).trans K0.out
 have l1:=(HKV.out.cell (p:=⟨gk,who * 4+1,none⟩) zk).trans K1.out
 have l2:=(HKV.out.cell (p:=⟨gk,who * 4+2,none⟩) zk).trans K2.out
 have l3:=(HKV.out.cell (p:=⟨gk,who * 4+3,none⟩) zk).trans K3.out
 obtain ⟨vr,hvr⟩:∃ v,regs.getD r' 0=v:=⟨_,rfl⟩
 have HVr:=hidS hvr
 clear hvr
 have lr:V.cell? ⟨gr,r',none⟩=some (.int .i64 vr):=by rw [← HVr.out];exact (HKV.out.cell (p:=⟨gr,r',none⟩) zr).trans (RR.out r' (by omega))
 have f2:∀ j,V.frozen? ⟨gk,j,none⟩=false:=fun j=>(HKV.out.frozen (p:=⟨gk,j,none⟩) zk).trans (FK.out j)
 have f3:∀ j,V.frozen? ⟨gr,j,none⟩=false:=fun j=>(HKV.out.frozen (p:=⟨gr,j,none⟩) zr).trans (FR.out j)
 have v0:w.heap.size < V.heap.size:=by omega
 have v1:w.heap.size+1 < V.heap.size:=by omega
 have v2:w.heap.size+1+1 < V.heap.size:=by omega
 have v3:w.heap.size+1+1+1 < V.heap.size:=by omega
 have v4:gO < V.heap.size:=by omega
 have v5:gr < V.heap.size:=by omega
 have v6:gk < V.heap.size:=by omega
 go_wp2_with fail
 rw [HV.out]
 clear HV
 obtain ⟨cl,hcl⟩:∃ c,n=c:=⟨_,rfl⟩
 have CM:Hid (cellM ⟨p,regs,vw,st_⟩ ⟨5,r',(-1),b,n⟩=cl):=by
  show _=_
  unfold cellM
  rw [if_neg (by rintro ⟨h1,h2⟩;simp at h1 h2)]
  exact hcl
 have hno:¬ ((5:Int)≠5∧(d.mem.getD cl.toNat []).length=4000):=fun hh=>hh.1 rfl
 by_cases hin:0≤cl∧cl≤23
 ·obtain ⟨c,hc⟩:∃ c:Nat,cl=c:=⟨cl.toNat,by omega⟩
  have CM2:Hid (cellM ⟨p,regs,vw,st_⟩ ⟨5,r',(-1),b,n⟩=c):=by show _=_;rw [CM.out,hc]
  have HNO:Hid (¬ ((5:Int)≠5∧(d.mem.getD c []).length=4000)):=fun hh=>hh.1 rfl
  rw [← hcl] at hc
  clear CM hno hin hcl cl
  subst hc
  have hin:0≤(c:Int)∧(c:Int)≤23:=by omega
  have CM:=CM2
  clear CM2
  have hc24:c < 24:=by omega
  obtain ⟨h24,lr,hlr,elr,h1,h4,-⟩:=memB_at HME.out hc24
  have hvl:vw.length=24:=by have:=(viewB_iff.1 HVW.out).1;omega
  obtain ⟨r2,hr2⟩:∃ r,S[c]? =some r:=⟨_,List.getElem?_eq_getElem (by have:=H.out.m.n;omega)⟩
  have MQ2:=(show Hid (MQ V B Hq _ _ _ _ LC LK S d) from H.out.keep (fun b _ hb1=>HKV.out.block b hb1) HKV.out.size)
  obtain ⟨sM,cM,eM,mR⟩:=MQ2.out.m.memw
  injection eM with eM e2 e3
  clear e2
  subst eM
  subst e3
  have vR:=(MQ2.out.k.inn who _ HX.out).2
  have vR':IntsR V B V.heap.size (some ⟨gv,0,none⟩) vw:=ownN_intsR (c:=cv) (by rw [hvl];exact vR)
  obtain ⟨kk,rr2,ekk,hRt⟩:=right_of (m:=d.mem) (l:=vw) (cell:=(c:Int)) (by unfold rightB;rw [HME.out,HVW.out];simp;omega)
  have ekk:kk=c:=by omega
  subst ekk
  have ekr:rr2=lr:=by have:=hRt.hr;rw [hlr] at this;injection this with this;exact this.symm
  subst ekr
  obtain ⟨hj1,hj2⟩:=ldJ_lt late HME.out HVW.out hc24
  obtain ⟨rr3,hr3,hx3,-⟩:=ldX_at late HME.out HVW.out hc24
  have er3:rr3=rr2:=by rw [hlr] at hr3;injection hr3 with hr3;exact hr3.symm
  subst er3
  rw [elr] at hj2
  have LD:=l6Load_any (some ⟨gO,0,none⟩) (some ⟨gv,0,none⟩) cO cv B V.heap.size B V.heap.size d.mem vw kk rr3 late false (ldJ d.mem vw kk late) (ldX d.mem vw kk late) V.drew mR vR' (Nat.le_refl _) (Nat.le_refl _) hRt hlate hj2 hx3
  rw [hvl,ldW_eq] at LD
  have HLD:=hidM LD
  clear LD hj1 hj2 hr3 hx3 hRt vR vR' mR elr hlr h1 h4 rr3 hr2 r2
  have HVL:=hidS hvl
  have H24:=hidS h24
  clear hvl h24
  (refine (l1In_is _ _ _ true _ (by first | (unfold Plain.inB;simp;omega) | (simp;omega))).mono ?_;rintro e w' ⟨rfl,hw'⟩;rw [hw'];clear hw' w');go_wp2_with fail
  have hne:=extP_ne V (fun _=>False)
  have u0:=ExtP.fit (E:=fun _=>False) e1 zV id
  have u1:=ExtP.fit (E:=fun _=>False) s1 v2 id
  have u2:=ExtP.fit (E:=fun _=>False) m2 v0 id
  have u3:=ExtP.fit (E:=fun _=>False) e2 zV id
  have u4:=ExtP.fit (E:=fun _=>False) x1 v1 id
  refine regionMix V (CP V (fun _=>False)) 11 15 (by kernel_rfl) (by kernel_rfl) (fun _ _ d _ _ h=>by cases d<;>exact h) (CP.drew _ _) ?_
  unfold CP
  dsimp only [List.take,List.drop]
  repeat (go_big_quiet_step (fail))
  refine wpQuiet_nil ?_
  clear hne u0 u1 u2 u3 u4
  unfold wpListC
  go_wp2_with (go_at_call 57;refine Calls.mono HLD.out ?_;rintro e w5 ⟨u,rfl,hu5,hb5⟩)
  refine And.intro (fun _ hc=>CP.below hc hb5) ?_
  unfold wpListC
  go_wp2
  refine And.intro (fun _ hc=>hc) ?_
  unfold wpListC
  go_wp2
  refine And.intro (fun _ hc=>hc) ?_
  unfold wpListC
  go_wp2
  refine And.intro (fun _ hc=>hc) ?_
  refine listC_late _ _ _ _ (by decide) ?_
  have kv5:Below V.heap.size V w5:=(Below.drew (Below.refl _ _)).trans hb5
  obtain ⟨su,cu,eu⟩:=ownSl hu5
  have H5:=hidS hu5
  have ZW:Hid (V.drew.heap.size=V.heap.size):=rfl
  have WG:w.heap.size+1+1+1+1 < V.heap.size:=zV
  have HBX:=(show Hid (Bm5 w5 w.heap.size _ _ _ _ _ _ _ _ _ _ _ _ _ _ _) from HBX.out.keep (fun b _ h2=>kv5.block b h2) kv5.size)
  have HKV:Hid (Below w.heap.size w w5):=HKV.out.trans (kv5.mono (by omega))
  clear m0 m1 m2 m3 x0 x1 s0 s1 s2 s3 s4 a0 a1 a2 a3 e0 e1 e2 e3 fm fa ff bt zV l0 l1 l2 l3 f2 f3 v0 v1 v2 v3 v4 v5 v6 lr
  obtain ⟨m0,m1,m2,m3,x0,x1,s0,s1,s2,s3,s4,a0,a1,a2,a3,e0,e1,e2,e3,fm,fa,ff,bt,zV⟩:=HBX.out
  have l0:=(HKV.out.cell (p:=⟨gk,who * 4,none⟩) zk).trans K0.out
  have l1:=(HKV.out.cell (p:=⟨gk,who * 4+1,none⟩) zk).trans K1.out
  have l2:=(HKV.out.cell (p:=⟨gk,who * 4+2,none⟩) zk).trans K2.out
  have l3:=(HKV.out.cell (p:=⟨gk,who * 4+3,none⟩) zk).trans K3.out
  have lr:w5.cell? ⟨gr,r',none⟩=some (.int .i64 vr):=by rw [← HVr.out];exact (HKV.out.cell (p:=⟨gr,r',none⟩) zr).trans (RR.out r' (by omega))
  have f2:∀ j,w5.frozen? ⟨gk,j,none⟩=false:=fun j=>(HKV.out.frozen (p:=⟨gk,j,none⟩) zk).trans (FK.out j)
  have f3:∀ j,w5.frozen? ⟨gr,j,none⟩=false:=fun j=>(HKV.out.frozen (p:=⟨gr,j,none⟩) zr).trans (FR.out j)
  have v0:w.heap.size < w5.heap.size:=by omega
  have v1:w.heap.size+1 < w5.heap.size:=by omega
  have v2:w.heap.size+1+1 < w5.heap.size:=by omega
  have v3:w.heap.size+1+1+1 < w5.heap.size:=by omega
  have v4:gO < w5.heap.size:=by omega
  have v5:gr < w5.heap.size:=by omega
  have v6:gk < w5.heap.size:=by omega
  have KV5:=hidS kv5
  clear kv5 hu5 hb5
  obtain ⟨xv,hxv⟩:∃ xv,(ldX d.mem vw kk late).v=xv:=⟨_,rfl⟩
  have HXV:=hidS hxv
  rw [hxv]
  clear hxv
  obtain ⟨lu,hlu⟩:∃ l,(ldW d.mem vw kk late false)=l:=⟨_,rfl⟩
  have HLU:=hidS hlu
  rw [hlu] at eu H5
  clear hlu
  subst eu
  go_wp2_with fail
  refine bodyPost_ret (v:=.tuple #[.agg #[.slice (some ⟨gc,0,none⟩) d.codes.length cc,.slice (some ⟨gk,0,none⟩) LK.length ck,.slice (some ⟨gO,0,none⟩) d.mem.length cO,.slice st d.tr.length ct],.bool true,.bool false]) (by simp [results,Tryz.results43,go_sem,fa,a0,a1,a2,a3]) rfl ?_
  unfold MemP
  rw [CM.out,if_pos hin,Int.toNat_natCast,if_neg HNO.out]
  have MS:memS d late ⟨p,regs,vw,st_⟩ ⟨5,r',(-1),b,(kk:Int)⟩ kk=(d,⟨p,regs.set r' xv,lu,st_⟩):=by
   unfold memS
   rw [if_pos rfl]
   simp only [Int.toNat_natCast]
   rw [HXV.out,HLU.out]
  rw [MS]
  have Qa:=H.out.reg HX.out H8.out r' xv
  have zw5:=HKV.out.size
  have k5s:=KV5.out.size
  have zW5:=ZW.out
  have Qb:MQ ((w5.setCell ⟨gr,r',none⟩ (.int .i64 xv)).setCell ⟨w.heap.size+1+1+1+1,2,none⟩ (.slice su lu.length cu)) B Hq _ _ _ _ LC _ S _:=Qa.keep (fun b _ hb1=>by
   have hb1:b < w.heap.size:=by simpa using hb1
   exact (Below.heap_setCell _ ⟨w.heap.size+1+1+1+1,_,none⟩ _ b (by show b≠w.heap.size+1+1+1+1;omega)).trans (heap_pair (HKV.out.block b hb1))) (by simp;omega)
  have OU:OwnN ((w5.setCell ⟨gr,r',none⟩ (.int .i64 xv)).setCell ⟨w.heap.size+1+1+1+1,2,none⟩ (.slice su lu.length cu)) B (.slice su lu.length cu) lu:=ownLow' (ownKeep' H5.out (fun b hb2=>by
   have q:=(World.ownsRow.lt H5.out _ hb2).1
   exact (Below.heap_setCell _ ⟨w.heap.size+1+1+1+1,_,none⟩ _ b (by show b≠w.heap.size+1+1+1+1;omega)).trans (Below.heap_setCell _ ⟨gr,_,none⟩ _ b (by show b≠gr;omega)))) (by omega)
  have hfr:=Qa.fresh (w':=w5) (u:=.slice su lu.length cu) (l:=lu) (ownLow' H5.out (by simp;omega))
  have Qc:=MQ.put4 (F:=_) Qb (by rw [List.length_set]) (set_at HX.out) (.slice su lu.length cu) lu OU hfr (fun _ _=>rfl) (by simp)
  rw [putK_putK] at Qc
  have B2:=bt.2.1
  refine ⟨_,S,_,_,rfl,MQ.offB (MQ.offB (MQ.offB (MQ.offB Qc B2.set.set.set.set.set.set) B2.set.set.set.set.set.set.set) B2.set.set.set.set.set.set.set.set) B2.set.set.set.set.set.set.set.set.set,set_at (set_at HX.out),by rw [List.length_set,List.length_set],?_,fun b hXb=>?_⟩
  ·repeat' (first | with_reducible exact HKV.out.mono hb | (with_reducible refine Below.setCell ?_ (by first | exact br | exact bk | (show B≤w.heap.size+1+1+1+1;omega) | (show B≤w.heap.size+1+1+1;omega) | (show B≤w.heap.size;omega)) _))
  ·have hb1:=H.out.lt hXb
   have g1:b≠gr:=fun e=>hXb (e▸H.out.hh.ki who _ gr HX.out (.inl rfl))
   have g2:b≠gk:=fun e=>hXb (e▸H.out.hh.k gk rfl)
   repeat' (first | with_reducible exact HKV.out.block b hb1 | (with_reducible refine (Below.heap_setCell _ ⟨w.heap.size+1+1+1+1,_,none⟩ _ b (by show b≠w.heap.size+1+1+1+1;omega)).trans ?_) | (with_reducible refine (Below.heap_setCell _ ⟨w.heap.size+1+1+1,_,none⟩ _ b (by show b≠w.heap.size+1+1+1;omega)).trans ?_) | (with_reducible refine (Below.heap_setCell _ ⟨w.heap.size,_,none⟩ _ b (by show b≠w.heap.size;omega)).trans ?_) | (with_reducible refine (Below.heap_setCell _ ⟨gr,_,none⟩ _ b (by show b≠gr;omega)).trans ?_) | (with_reducible refine (Below.heap_setCell _ ⟨gk,_,none⟩ _ b (by show b≠gk;omega)).trans ?_))
 ·exfalso;omega
end
end Go.Proofs.YtkhjhibigldcgaaGreat
