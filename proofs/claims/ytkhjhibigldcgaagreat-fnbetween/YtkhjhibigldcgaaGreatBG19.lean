/- A step of memory of the specification: a swap. Condition: late is a number of 64 bits. A step of memory of the specification, whichever. Condition: late is a number of 64 bits. -/
import Derived.Test.YtkhjhibigldcgaaGreatBG00
import Derived.Test.YtkhjhibigldcgaaGreatBG04
import Derived.Test.YtkhjhibigldcgaaGreatBMemStoreS
import Derived.Test.YtkhjhibigldcgaaGreatBG09
import Derived.Test.YtkhjhibigldcgaaGreatBG08
import Derived.Test.YtkhjhibigldcgaaGreatBG07
import Derived.Test.YtkhjhibigldcgaaGreatBG11
import Derived.Test.YtkhjhibigldcgaaGreatBG10
import Derived.Test.YtkhjhibigldcgaaGreatBG01
import Derived.Test.YtkhjhibigldcgaaGreatBG12
import Derived.Test.YtkhjhibigldcgaaGreatBG18
import Derived.Test.YtkhjhibigldcgaaGreatBKMem6a
import Derived.Test.YtkhjhibigldcgaaGreatBKMem6b
namespace Go.Proofs.YtkhjhibigldcgaaGreat
section
set_option linter.unusedSimpArgs false
set_option linter.unusedVariables false
set_option maxRecDepth 100000
open Go.RowKit
theorem putK_mem (d:MD) (who:Nat) (a b:KD) (m:List (List WD)):putK { putK d who a with mem:=m } who b=putK { d with mem:=m } who b:=by
 unfold putK
 simp only [List.set_set]
set_option maxHeartbeats 4000000 in
theorem mem8 {Hq : Nat → Prop} (B : Nat) (vc vk vm vt : Value) (LC : List CV) (LK : List KV) (S : List RS) (d : MD) (who : Nat) (k : KD) (code : List I5) (s : I5) (late : Int) (w : World) (h : MQ w B Hq vc vk vm vt LC LK S d) (ha : At8 d who k code s) (hb : B ≤ w.heap.size) (hlate : late ≤ 9223372036854775807) (ho : s.o = 8) :
  Calls Tryz.prog 43 #[.agg #[vc,vk,vm,vt],.agg #[.int .i64 who,.int .i64 late],.agg #[.int .i64 s.o,.int .i64 s.r,.int .i64 s.a,.int .i64 s.b,.int .i64 s.n]] w fun e w'=>MemP w B Hq vc vk vm vt LC LK S d who late k s e w':=by
 obtain ⟨p,gc,cc,gk,ck,gs,cs,gr,cr,gv,cv,gO,cO,st,ct,O⟩:=h.open ha
 obtain ⟨n1,n2,n3,n4,n5,n6,n7,n8,n9,n10⟩:=O.ne h
 obtain ⟨ec,ek,em,et,hx,hp,wc,wk,c0,k0,k1,k2,k3,s0,s1,s2,s3,s4,rr,fk,fr,zc,zk,zs,zr,zv,zO,bk,br,bv,bO⟩:=O
 subst ec ek em et
 have H:=hidS h
 have H8:Hid (k.regs.length=8):=ha.regs
 have HVW:Hid (viewB d.mem k.vw=true):=ha.vw
 have HME:Hid (memB d.mem=true):=ha.mem
 have HX:=hidS hx
 have hok:=ha.ok
 unfold stX Plain.stepB at hok
 rw [decide_eq_true_eq] at hok
 obtain ⟨pc,regs,vw,st_⟩:=k
 obtain ⟨o,r,a,b,n⟩:=s
 simp only at ho hp hok k0 k3 rr s0 s1 s2 s3 s4
 subst hp
 have HVW:Hid (viewB d.mem vw=true):=HVW
 have H8:Hid (regs.length=8):=H8
 subst ho
 obtain ⟨r',hr'⟩:∃ r':Nat,r=r':=⟨r.toNat,by omega⟩
 subst hr'
 have br0:(0:Int)≤(r':Int):=by omega
 have br1:(r':Int) < 8:=by omega
 have br2:r' < 8:=by omega
 obtain ⟨b',hb'⟩:∃ b':Nat,b=b':=⟨b.toNat,by omega⟩
 subst hb'
 have bb0:(0:Int)≤(b':Int):=by omega
 have bb1:(b':Int) < 8:=by omega
 have bb2:b' < 8:=by omega
 have hn0:0≤n:=by omega
 have hn23:n≤23:=by omega
 clear hok
 have b0:(0:Int)≤(who:Int):=by omega
 have b2:(who:Int) < (LK.length:Int):=by omega
 have zk1:gk < w.heap.size+1:=by omega
 have zk2:gk < w.heap.size+1+1:=by omega
 have zk3:gk < w.heap.size+1+1+1:=by omega
 have RR:=hidS rr
 have FK:=hidS fk
 have FR:=hidS fr
 have K0:=hidS k0
 have K1:=hidS k1
 have K2:=hidS k2
 have K3:=hidS k3
 clear h ha hx rr fk fr c0 s0 s1 s2 s3 s4
 go_enter Tryz.func43,Tryz.ntmps43
 obtain ⟨V,hV⟩:∃ V,((((w.alloc (.cells #[.slice (some ⟨gc,0,none⟩) d.codes.length cc,.slice (some ⟨gk,0,none⟩) LK.length ck,.slice (some ⟨gO,0,none⟩) d.mem.length cO,.slice st d.tr.length ct] 35)).alloc (.cells #[.int .i64 who,.int .i64 late] 75)).alloc (.cells #[.int .i64 8,.int .i64 r',.int .i64 a,.int .i64 b',.int .i64 n] 65)).alloc (.cells #[.slice none 0 0,.slice none 0 0,.slice none 0 0,.slice none 0 0] 35)).alloc (.cells #[.int .i64 p,.slice (some ⟨gr,0,none⟩) 8 cr,.slice (some ⟨gv,0,none⟩) 24 cv,.int .i64 st_] 42)=V:=⟨_,rfl⟩
 obtain ⟨BX,KV⟩:=boxesM hV
 have HBX:=(show Hid (Bm5 V w.heap.size _ _ _ _ _ _ _ _ _ _ _ _ _ _ _) from BX)
 have HKV:Hid (Below w.heap.size w V):=KV
 have HV:=hidS hV
 clear hV BX KV
 obtain ⟨m0,m1,m2,m3,x0,x1,s0,s1,s2,s3,s4,a0,a1,a2,a3,e0,e1,e2,e3,fm,fa,ff,bt,zV⟩:=HBX.out
 have l0:=(HKV.out.cell (p:=⟨gk,who * 4,none⟩) zk).trans K0.out
 have l1:=(HKV.out.cell (p:=⟨gk,who * 4+1,none⟩) zk).trans K1.out
 have l2:=(HKV.out.cell (p:=⟨gk,who * 4+2,none⟩) zk).trans K2.out
 have l3:=(HKV.out.cell (p:=⟨gk,who * 4+3,none⟩) zk).trans K3.out
 obtain ⟨vr,hvr⟩:∃ v,regs.getD r' 0=v:=⟨_,rfl⟩
 have HVr:=hidS hvr
 clear hvr
 have lr:V.cell? ⟨gr,r',none⟩=some (.int .i64 vr):=by rw [← HVr.out];exact (HKV.out.cell (p:=⟨gr,r',none⟩) zr).trans (RR.out r' (by omega))
 obtain ⟨vb,hvb⟩:∃ v,regs.getD b' 0=v:=⟨_,rfl⟩
 have HVb:=hidS hvb
 clear hvb
 have lb:V.cell? ⟨gr,b',none⟩=some (.int .i64 vb):=by rw [← HVb.out];exact (HKV.out.cell (p:=⟨gr,b',none⟩) zr).trans (RR.out b' (by omega))
 have f2:∀ j,V.frozen? ⟨gk,j,none⟩=false:=fun j=>(HKV.out.frozen (p:=⟨gk,j,none⟩) zk).trans (FK.out j)
 have f3:∀ j,V.frozen? ⟨gr,j,none⟩=false:=fun j=>(HKV.out.frozen (p:=⟨gr,j,none⟩) zr).trans (FR.out j)
 have v0:w.heap.size < V.heap.size:=by omega
 have v1:w.heap.size+1 < V.heap.size:=by omega
 have v2:w.heap.size+1+1 < V.heap.size:=by omega
 have v3:w.heap.size+1+1+1 < V.heap.size:=by omega
 have v4:gO < V.heap.size:=by omega
 have v5:gr < V.heap.size:=by omega
 have v6:gk < V.heap.size:=by omega
 go_wp2_with fail
 rw [HV.out]
 clear HV
 obtain ⟨cl,hcl⟩:∃ c,n=c:=⟨_,rfl⟩
 have CM:Hid (cellM ⟨p,regs,vw,st_⟩ ⟨8,r',a,b',n⟩=cl):=by
  show _=_
  unfold cellM
  rw [if_neg (by rintro ⟨h1,h2⟩;exact h1 rfl)]
  exact hcl
 obtain ⟨c,hc⟩:∃ c:Nat,cl=c:=⟨cl.toNat,by omega⟩
 have CM2:Hid (cellM ⟨p,regs,vw,st_⟩ ⟨8,r',a,b',n⟩=c):=by show _=_;rw [CM.out,hc]
 rw [← hcl] at hc
 clear CM hcl cl
 subst hc
 have hin:0≤(c:Int)∧(c:Int)≤23:=by omega
 have CM:=CM2
 clear CM2
 have hc24:c < 24:=by omega
 have bc0:(0:Int)≤(c:Int):=by omega
 obtain ⟨h24,lr,hlr,elr,h1,h4,-⟩:=memB_at HME.out hc24
 have hvl:vw.length=24:=by have:=(viewB_iff.1 HVW.out).1;omega
 have bc1:(c:Int) < (d.mem.length:Int):=by omega
 obtain ⟨r2,hr2⟩:∃ r,S[c]? =some r:=⟨_,List.getElem?_eq_getElem (by have:=H.out.m.n;omega)⟩
 have MQ2:=(show Hid (MQ V B Hq (.slice (some ⟨gc,0,none⟩) d.codes.length cc) (.slice (some ⟨gk,0,none⟩) LK.length ck) (.slice (some ⟨gO,0,none⟩) d.mem.length cO) (.slice st d.tr.length ct) LC LK S d) from H.out.keep (fun b _ hb1=>HKV.out.block b hb1) HKV.out.size)
 have lO:V.cell? ⟨gO,c,none⟩=some (.slice r2.s lr.length r2.c):=MQ2.out.m.cellc rfl hr2 hlr
 have ELR:=hidS elr
 have HLR:=hidS hlr
 have HR2:=hidS hr2
 have HVL:=hidS hvl
 have H24:=hidS h24
 have NE:=hidM (H.out.m.some_ HME.out)
 have RO:=hidM (H.out.m.r c r2 lr hr2 hlr).own
 by_cases hf:lr.length=4000
 ·have hfi:(lr.length:Int)=4000:=by omega
  have HF:=hidS hf
  clear hf elr hlr hr2 hvl h24
  (refine (l1In_is _ _ _ true _ (by first | (unfold Plain.inB;simp;omega) | (simp;omega))).mono ?_;rintro e w' ⟨rfl,hw'⟩;rw [hw'];clear hw' w');go_wp2_with fail
  refine bodyPost_ret (v:=.tuple #[.agg #[.slice (some ⟨gc,0,none⟩) d.codes.length cc,.slice (some ⟨gk,0,none⟩) LK.length ck,.slice (some ⟨gO,0,none⟩) d.mem.length cO,.slice st d.tr.length ct],.bool true,.bool true]) (by simp [results,Tryz.results43,go_sem,fa,a0,a1,a2,a3]) rfl ?_
  unfold MemP
  rw [CM.out]
  rw [if_pos hin,Int.toNat_natCast,ELR.out,if_pos ⟨by show ¬ (8:Int)=5;omega,HF.out⟩]
  refine ⟨rfl,?_⟩
  repeat' (first | with_reducible exact HKV.out | (with_reducible refine Below.setCell ?_ (by show w.heap.size≤w.heap.size+1+1+1;omega) _))
 ·have hfi:¬ (lr.length:Int)=4000:=by omega
  have HF:=hidS hf
  clear hf
  obtain ⟨sM,cM,eM,mR⟩:=MQ2.out.m.memw
  injection eM with eM e2' e3'
  clear e2'
  subst eM
  subst e3'
  have vR:=(MQ2.out.k.inn who _ HX.out).2
  have vR':IntsR V B V.heap.size (some ⟨gv,0,none⟩) vw:=ownN_intsR (c:=cv) (by rw [hvl];exact vR)
  obtain ⟨kk,rr2,ekk,hRt⟩:=right_of (m:=d.mem) (l:=vw) (cell:=(c:Int)) (by unfold rightB;rw [HME.out,HVW.out];simp;omega)
  have ekk:kk=c:=by omega
  subst ekk
  have ekr:rr2=lr:=by have:=hRt.hr;rw [hlr] at this;injection this with this;exact this.symm
  subst ekr
  obtain ⟨hj1,hj2⟩:=ldJ_lt 0 HME.out HVW.out hc24
  obtain ⟨rr3,hr3,hx3,-⟩:=ldX_at 0 HME.out HVW.out hc24
  have er3:rr3=rr2:=by rw [hlr] at hr3;injection hr3 with hr3;exact hr3.symm
  subst er3
  rw [elr] at hj2
  have LD:=l6Load_any (some ⟨gO,0,none⟩) (some ⟨gv,0,none⟩) cO cv B V.heap.size B V.heap.size d.mem vw kk rr3 0 true (ldJ d.mem vw kk 0) (ldX d.mem vw kk 0) V mR vR' (Nat.le_refl _) (Nat.le_refl _) hRt (by omega) hj2 hx3
  rw [hvl,ldW_eq] at LD
  have HLD:=hidM LD
  have L24:Hid ((ldW d.mem vw kk 0 true).length=24):=by
   have q:=(viewB_iff.1 (ldW_ok 0 true HME.out HVW.out hc24)).1
   show _=_
   omega
  clear LD hj1 hj2 hr3 hx3 hRt vR vR' mR elr hlr hr2 hvl h24
  (refine (l1In_is _ _ _ true _ (by first | (unfold Plain.inB;simp;omega) | (simp;omega))).mono ?_;rintro e w' ⟨rfl,hw'⟩;rw [hw'];clear hw' w');go_wp2_with fail
  refine Calls.mono HLD.out ?_
  rintro e w5 ⟨u,rfl,hu5,hb5⟩
  have kv5:Below V.heap.size V w5:=hb5
  obtain ⟨su,cu,eu⟩:=ownSl hu5
  have WG:Hid (w.heap.size+1+1+1+1 < V.heap.size∧V.heap.size≤w5.heap.size):=⟨zV,hb5.size⟩
  have H5:=hidS hu5
  have wv:=zV
  have HBX:=(show Hid (Bm5 w5 w.heap.size _ _ _ _ _ _ _ _ _ _ _ _ _ _ _) from HBX.out.keep (fun b _ h2=>kv5.block b h2) kv5.size)
  have HKV:Hid (Below w.heap.size w w5):=HKV.out.trans (kv5.mono (by omega))
  clear m0 m1 m2 m3 x0 x1 s0 s1 s2 s3 s4 a0 a1 a2 a3 e0 e1 e2 e3 fm fa ff bt zV l0 l1 l2 l3 f2 f3 v0 v1 v2 v3 v4 v5 v6 lr lb
  obtain ⟨m0,m1,m2,m3,x0,x1,s0,s1,s2,s3,s4,a0,a1,a2,a3,e0,e1,e2,e3,fm,fa,ff,bt,zV⟩:=HBX.out
  have l0:=(HKV.out.cell (p:=⟨gk,who * 4,none⟩) zk).trans K0.out
  have l1:=(HKV.out.cell (p:=⟨gk,who * 4+1,none⟩) zk).trans K1.out
  have l2:=(HKV.out.cell (p:=⟨gk,who * 4+2,none⟩) zk).trans K2.out
  have l3:=(HKV.out.cell (p:=⟨gk,who * 4+3,none⟩) zk).trans K3.out
  have lr:w5.cell? ⟨gr,r',none⟩=some (.int .i64 vr):=by rw [← HVr.out];exact (HKV.out.cell (p:=⟨gr,r',none⟩) zr).trans (RR.out r' (by omega))
  have lb:w5.cell? ⟨gr,b',none⟩=some (.int .i64 vb):=by rw [← HVb.out];exact (HKV.out.cell (p:=⟨gr,b',none⟩) zr).trans (RR.out b' (by omega))
  have f2:∀ j,w5.frozen? ⟨gk,j,none⟩=false:=fun j=>(HKV.out.frozen (p:=⟨gk,j,none⟩) zk).trans (FK.out j)
  have f3:∀ j,w5.frozen? ⟨gr,j,none⟩=false:=fun j=>(HKV.out.frozen (p:=⟨gr,j,none⟩) zr).trans (FR.out j)
  have v0:w.heap.size < w5.heap.size:=by omega
  have v1:w.heap.size+1 < w5.heap.size:=by omega
  have v2:w.heap.size+1+1 < w5.heap.size:=by omega
  have v3:w.heap.size+1+1+1 < w5.heap.size:=by omega
  have v4:gO < w5.heap.size:=by omega
  have v5:gr < w5.heap.size:=by omega
  have v6:gk < w5.heap.size:=by omega
  clear kv5 hu5 hb5 lO wv
  obtain ⟨xv,hxv⟩:∃ xv,(ldX d.mem vw kk 0).v=xv:=⟨_,rfl⟩
  have HXV:=hidS hxv
  rw [hxv]
  clear hxv
  obtain ⟨yl,hl1⟩:∃ l,(ldW d.mem vw kk 0 true)=l:=⟨_,rfl⟩
  have HL1:=hidS hl1
  rw [hl1] at eu H5 L24
  clear hl1
  rw [L24.out] at eu
  subst eu
  have Qa:=H.out.reg HX.out H8.out r' xv
  obtain ⟨X1,hX1⟩:∃ X1,w5.setCell ⟨gr,r',none⟩ (.int .i64 xv)=X1:=⟨_,rfl⟩
  have wg:=WG.out
  have sz1:X1.heap.size=w5.heap.size:=by rw [← hX1];simp
  have Qb:=(show Hid (MQ X1 B Hq (.slice (some ⟨gc,0,none⟩) d.codes.length cc) (.slice (some ⟨gk,0,none⟩) LK.length ck) (.slice (some ⟨gO,0,none⟩) d.mem.length cO) (.slice st d.tr.length ct) LC (LK.set who ⟨⟨p,regs.set r' xv,vw,st_⟩,.slice (some ⟨gr,0,none⟩) 8 cr,.slice (some ⟨gv,0,none⟩) 24 cv⟩) S (putK d who ⟨p,regs.set r' xv,vw,st_⟩)) from Qa.keep (fun b _ hb1=>by
   have hb1:b < w.heap.size:=by simpa using hb1
   rw [← hX1]
   exact heap_pair (HKV.out.block b hb1)) (by simp;omega))
  have OU:OwnN X1 V.heap.size (.slice su 24 cu) yl:=ownKeep' H5.out (fun b hb2=>by
   have q:=(World.ownsRow.lt H5.out _ hb2).1
   rw [← hX1]
   exact Below.heap_setCell _ ⟨gr,_,none⟩ _ b (by show b≠gr;omega))
  obtain ⟨g9,c9,hv9,-⟩:=World.ownsRow.form OU (by rw [L24.out];omega)
  rw [L24.out] at hv9
  injection hv9 with hv9 hv9a hv9b
  subst hv9
  have vR9:IntsR X1 V.heap.size X1.heap.size (some ⟨g9,0,none⟩) yl:=ownN_intsR (c:=cu) (by rw [L24.out];exact OU)
  have LS:=l6Store_any gO cO B S d.mem r2 rr3 (some ⟨g9,0,none⟩) cu V.heap.size X1.heap.size yl kk vb true X1 vR9 (Nat.le_refl _) Qb.out.m NE.out HR2.out HLR.out L24.out hc24 H24.out h4 (by omega)
  rw [L24.out] at LS
  have HLS:=hidM LS
  clear LS vR9 OU Qa hv9a hv9b
  have X1B:=(show Hid (Bm5 X1 w.heap.size _ _ _ _ _ _ _ _ _ _ _ _ _ _ _) from HBX.out.keep (fun b h1 _=>by rw [← hX1];exact Below.heap_setCell _ ⟨gr,_,none⟩ _ b (by show b≠gr;omega)) (by omega))
  have X1K:Hid (∀ b,b < w.heap.size→b≠gr→X1.heap[b]? =w.heap[b]?):=fun b h1 h2=>by rw [← hX1];exact (Below.heap_setCell _ ⟨gr,_,none⟩ _ b h2).trans (HKV.out.block b h1)
  have X1L:Hid (Below B w X1):=by rw [← hX1];exact (HKV.out.mono hb).setCell (p:=⟨gr,r',none⟩) br _
  have HX1:=hidS hX1
  clear hX1
  have RK:r2.val.ownBlock≠some gk:=fun e=>ownType' RO.out H.out.k.row (by decide) e rfl
  have RL:∀ q,r2.val.ownBlock=some q→q < w.heap.size:=fun q e=>(World.ownsRow.lt RO.out q e).2
  have nE:∀ b,w.heap.size≤b→¬ (b=gO∨r2.val.ownBlock=some b):=fun b hb1 hh=>by rcases hh with e | e;omega;have:=RL b e;omega
  have SZ1:=hidS sz1
  clear sz1 wg
  go_wp2_with fail
  rw [HX1.out]
  refine Calls.mono HLS.out ?_
  rintro e w6 ⟨u6,r6,rfl,hu6,hO6,hb6,hf6,hp6,hq6⟩
  have sz1:=SZ1.out
  have wg:=WG.out
  have z6:=hb6.size
  have kb:∀ b,b < w.heap.size→b≠gr→b≠gO→r2.val.ownBlock≠some b→w6.heap[b]? =w.heap[b]? :=fun b h1 h0 h2 h3=>(hf6 b (by omega) h2 h3).trans (X1K.out b h1 h0)
  have kc:∀ b,w.heap.size≤b→b < X1.heap.size→w6.heap[b]? =X1.heap[b]? :=fun b h1 h2=>hf6 b h2 (fun e=>nE b h1 (.inl e)) (fun e=>nE b h1 (.inr e))
  have K6:Hid (Below B w w6):=X1L.out.trans hb6
  have Q6:=hidM (MQ.sto (d:=putK d who ⟨p,regs.set r' xv,vw,st_⟩) Qb.out HR2.out HLR.out hO6 hf6 hp6 (by first | exact hb5.size | exact hb6.size | omega))
  have HBX:=(show Hid (Bm5 w6 w.heap.size _ _ _ _ _ _ _ _ _ _ _ _ _ _ _) from X1B.out.keep kc (by omega))
  obtain ⟨s6,c6,eu6⟩:=ownSl hu6
  obtain ⟨zl,hl2⟩:∃ l,yl.set kk (rr3.length:Int)=l:=⟨_,rfl⟩
  have HL2:=hidS hl2
  rw [hl2] at eu6 hu6
  clear hl2
  subst eu6
  have H6:=hidS hu6
  have HQ6:=hidM hq6
  have KB:=hidM kb
  have WG6:Hid (w.heap.size+1+1+1+1 < X1.heap.size∧X1.heap.size≤w6.heap.size):=⟨by omega,z6⟩
  clear m0 m1 m2 m3 x0 x1 s0 s1 s2 s3 s4 a0 a1 a2 a3 e0 e1 e2 e3 fm fa ff bt zV l0 l1 l2 l3 f2 f3 v0 v1 v2 v3 v4 v5 v6 lb
  clear hu6 hO6 hb6 hf6 hp6 hq6 kc wg sz1 z6
  obtain ⟨m0,m1,m2,m3,x0,x1,s0,s1,s2,s3,s4,a0,a1,a2,a3,e0,e1,e2,e3,fm,fa,ff,bt,zV⟩:=HBX.out
  have l0:=(World.cell?_of_block (w:=w) (a:=⟨gk,who * 4,none⟩) (kb gk zk (Ne.symm n2) n6 RK)).trans K0.out
  have l1':=(World.cell?_of_block (w:=w) (a:=⟨gk,who * 4+1,none⟩) (kb gk zk (Ne.symm n2) n6 RK)).trans K1.out
  have l2':=(World.cell?_of_block (w:=w) (a:=⟨gk,who * 4+2,none⟩) (kb gk zk (Ne.symm n2) n6 RK)).trans K2.out
  have l3':=(World.cell?_of_block (w:=w) (a:=⟨gk,who * 4+3,none⟩) (kb gk zk (Ne.symm n2) n6 RK)).trans K3.out
  have f2:∀ j,w6.frozen? ⟨gk,j,none⟩=false:=fun j=>(World.frozen?_of_block (w:=w) (a:=⟨gk,j,none⟩) (kb gk zk (Ne.symm n2) n6 RK)).trans (FK.out j)
  have v0:w.heap.size < w6.heap.size:=by omega
  have v1:w.heap.size+1 < w6.heap.size:=by omega
  have v2:w.heap.size+1+1 < w6.heap.size:=by omega
  have v3:w.heap.size+1+1+1 < w6.heap.size:=by omega
  have v6:gk < w6.heap.size:=by omega
  clear kb
  go_wp2_with fail
  refine bodyPost_ret (v:=.tuple #[.agg #[.slice (some ⟨gc,0,none⟩) d.codes.length cc,.slice (some ⟨gk,0,none⟩) LK.length ck,.slice (some ⟨gO,0,none⟩) d.mem.length cO,.slice st d.tr.length ct],.bool true,.bool false]) (by simp [results,Tryz.results43,go_sem,fa,a0,a1,a2,a3]) rfl ?_
  unfold MemP
  rw [CM.out,if_pos hin,Int.toNat_natCast,ELR.out,if_neg (fun hh=>HF.out hh.2)]
  have MS:memS d late ⟨p,regs,vw,st_⟩ ⟨8,r',a,b',(kk:Int)⟩ kk=({ d with mem:=d.mem.set kk (rr3++[⟨vb,toldL yl kk rr3.length true⟩]) },⟨p,regs.set r' xv,zl,st_⟩):=by
   unfold memS stM stW regA
   rw [if_neg (by show ¬ (8:Int)=5;omega),if_pos rfl]
   simp only [Int.toNat_natCast]
   rw [HVb.out,ELR.out,HXV.out,HL1.out,HL2.out]
  rw [MS]
  have wg:=WG6.out
  have Q7:=(MQ.offB (j:=2) (u:=.slice (some ⟨gO,0,none⟩) d.mem.length cO) Q6.out bt.1).offC (b:=w.heap.size+1+1+1+1) (j:=2) (u:=.slice s6 zl.length c6) bt.2.2.set (fun e=>by have e:some gk=some (w.heap.size+1+1+1+1):=e;injection e with e;omega)
  have OU:OwnN ((w6.setCell ⟨w.heap.size,2,none⟩ (.slice (some ⟨gO,0,none⟩) d.mem.length cO)).setCell ⟨w.heap.size+1+1+1+1,2,none⟩ (.slice s6 zl.length c6)) B (.slice s6 zl.length c6) zl:=ownLow' (ownKeep' H6.out (fun b hb2=>by
   have q:=(World.ownsRow.lt H6.out _ hb2).1
   exact (Below.heap_setCell _ ⟨w.heap.size+1+1+1+1,_,none⟩ _ b (by show b≠w.heap.size+1+1+1+1;omega)).trans (Below.heap_setCell _ ⟨w.heap.size,_,none⟩ _ b (by show b≠w.heap.size;omega)))) (by omega)
  have hfr:∀ q,(Value.slice s6 zl.length c6).ownBlock=some q→((∀ (j:Nat) (z:KV),(LK.set who ⟨⟨p,regs.set r' xv,vw,st_⟩,.slice (some ⟨gr,0,none⟩) 8 cr,.slice (some ⟨gv,0,none⟩) 24 cv⟩)[j]? =some z→¬ (z.r.ownBlock=some q∨z.v.ownBlock=some q))∧∀ a∈mAs (S.set kk r6),a.block≠q)∧Hq q:=fun q hq=>⟨⟨(Qb.out.fresh (w':=w6) H6.out q hq).1.1,fun a ha e=>HQ6.out a ha (by rw [hq,e])⟩,(Qb.out.fresh (w':=w6) H6.out q hq).2⟩
  have Qc:=MQ.put4 (F:=_) Q7 (by rw [List.length_set]) (set_at HX.out) (.slice s6 zl.length c6) zl OU hfr (fun _ _=>rfl) (by simp)
  have B2:=bt.2.1
  have Qe:=Qc
  rw [putK_mem] at Qe
  refine ⟨_,_,_,_,rfl,MQ.offB (MQ.offB (MQ.offB (MQ.offB Qe B2.set.set.set.set.set.set) B2.set.set.set.set.set.set.set) B2.set.set.set.set.set.set.set.set) B2.set.set.set.set.set.set.set.set.set,set_at (set_at HX.out),by rw [List.length_set,List.length_set],?_,fun b hXb=>?_⟩
  ·repeat' (first | with_reducible exact K6.out | (with_reducible refine Below.setCell ?_ (by first | exact bk | (show B≤w.heap.size+1+1+1+1;omega) | (show B≤w.heap.size+1+1+1;omega) | (show B≤w.heap.size;omega)) _))
  ·have hb1:=H.out.lt hXb
   have g1:b≠gr:=fun e=>hXb (e▸H.out.hh.ki who _ gr HX.out (.inl rfl))
   have g2:b≠gk:=fun e=>hXb (e▸H.out.hh.k gk rfl)
   have g3:b≠gO:=fun e=>hXb (e▸H.out.hh.m gO rfl)
   have g4:r2.val.ownBlock≠some b:=fun e=>hXb (H.out.rowH HR2.out (NE.out kk r2 HR2.out) b e)
   have fin:=KB.out b hb1 (by omega) (by omega) g4
   repeat' (first | with_reducible exact fin | (with_reducible refine (Below.heap_setCell _ ⟨w.heap.size+1+1+1+1,_,none⟩ _ b (by show b≠w.heap.size+1+1+1+1;omega)).trans ?_) | (with_reducible refine (Below.heap_setCell _ ⟨w.heap.size+1+1+1,_,none⟩ _ b (by show b≠w.heap.size+1+1+1;omega)).trans ?_) | (with_reducible refine (Below.heap_setCell _ ⟨w.heap.size,_,none⟩ _ b (by show b≠w.heap.size;omega)).trans ?_) | (with_reducible refine (Below.heap_setCell _ ⟨gr,_,none⟩ _ b (by show b≠gr;omega)).trans ?_) | (with_reducible refine (Below.heap_setCell _ ⟨gk,_,none⟩ _ b (by show b≠gk;omega)).trans ?_))
end
section
set_option linter.unusedSimpArgs false
set_option linter.unusedVariables false
set_option maxRecDepth 100000
open Go.RowKit
theorem l8Memory_any {Hq : Nat → Prop} (B : Nat) (vc vk vm vt : Value) (LC : List CV) (LK : List KV) (S : List RS) (d : MD) (who : Nat) (k : KD) (code : List I5) (s : I5) (late : Int) (w : World) (h : MQ w B Hq vc vk vm vt LC LK S d) (ha : At8 d who k code s) (hb : B ≤ w.heap.size) (hlate : late ≤ 9223372036854775807) (ho : 5 ≤ s.o ∧ s.o ≤ 8) :
  Calls Tryz.prog 43 #[.agg #[vc,vk,vm,vt],.agg #[.int .i64 who,.int .i64 late],.agg #[.int .i64 s.o,.int .i64 s.r,.int .i64 s.a,.int .i64 s.b,.int .i64 s.n]] w fun e w'=>MemP w B Hq vc vk vm vt LC LK S d who late k s e w':=by
 rcases (show s.o=5∨(s.o=6∨s.o=7)∨s.o=8 by omega) with e | e | e
 ·by_cases hav:0≤s.a
  ·exact mem5a B vc vk vm vt LC LK S d who k code s late w h ha hb hlate e hav
  ·exact mem5b B vc vk vm vt LC LK S d who k code s late w h ha hb hlate e hav
 ·by_cases hav:0≤s.a
  ·exact mem67a B vc vk vm vt LC LK S d who k code s late w h ha hb hlate e hav
  ·exact mem67b B vc vk vm vt LC LK S d who k code s late w h ha hb hlate e hav
 ·exact mem8 B vc vk vm vt LC LK S d who k code s late w h ha hb hlate e
end
end Go.Proofs.YtkhjhibigldcgaaGreat
