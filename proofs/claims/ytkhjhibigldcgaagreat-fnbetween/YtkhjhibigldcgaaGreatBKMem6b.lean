/- A step of memory of the specification: a store. Condition: late is a number of 64 bits. -/
import Derived.Test.YtkhjhibigldcgaaGreatBG00
import Derived.Test.YtkhjhibigldcgaaGreatBG04
import Derived.Test.YtkhjhibigldcgaaGreatBMixOp
import Derived.Test.YtkhjhibigldcgaaGreatBMemStoreS
import Derived.Test.YtkhjhibigldcgaaGreatBG09
import Derived.Test.YtkhjhibigldcgaaGreatBG08
import Derived.Test.YtkhjhibigldcgaaGreatBG07
import Derived.Test.YtkhjhibigldcgaaGreatBG11
import Derived.Test.YtkhjhibigldcgaaGreatBG10
import Derived.Test.YtkhjhibigldcgaaGreatBG01
import Derived.Test.YtkhjhibigldcgaaGreatBG12
namespace Go.Proofs.YtkhjhibigldcgaaGreat
set_option linter.unusedSimpArgs false
set_option linter.unusedVariables false
set_option maxRecDepth 100000
open Go.RowKit
set_option maxHeartbeats 4000000 in
theorem mem67b {Hq : Nat → Prop} (B : Nat) (vc vk vm vt : Value) (LC : List CV) (LK : List KV) (S : List RS) (d : MD) (who : Nat) (k : KD) (code : List I5) (s : I5) (late : Int) (w : World) (h : MQ w B Hq vc vk vm vt LC LK S d) (ha : At8 d who k code s) (hb : B ≤ w.heap.size) (hlate : late ≤ 9223372036854775807) (ho : s.o = 6 ∨ s.o = 7) (hav : ¬ 0 ≤ s.a) :
  Calls Tryz.prog 43 #[.agg #[vc,vk,vm,vt],.agg #[.int .i64 who,.int .i64 late],.agg #[.int .i64 s.o,.int .i64 s.r,.int .i64 s.a,.int .i64 s.b,.int .i64 s.n]] w fun e w'=>MemP w B Hq vc vk vm vt LC LK S d who late k s e w':=by
 obtain ⟨p,gc,cc,gk,ck,gs,cs,gr,cr,gv,cv,gO,cO,st,ct,O⟩:=h.open ha
 obtain ⟨n1,n2,n3,n4,n5,n6,n7,n8,n9,n10⟩:=O.ne h
 obtain ⟨ec,ek,em,et,hx,hp,wc,wk,c0,k0,k1,k2,k3,s0,s1,s2,s3,s4,rr,fk,fr,zc,zk,zs,zr,zv,zO,bk,br,bv,bO⟩:=O
 subst ec ek em et
 have H:=hidS h
 have H8:Hid (k.regs.length=8):=ha.regs
 have HVW:Hid (viewB d.mem k.vw=true):=ha.vw
 have HME:Hid (memB d.mem=true):=ha.mem
 have HX:=hidS hx
 have hok:=ha.ok
 unfold stX Plain.stepB at hok
 rw [decide_eq_true_eq] at hok
 obtain ⟨pc,regs,vw,st_⟩:=k
 obtain ⟨o,r,a,b,n⟩:=s
 simp only at ho hp hok k0 k3 rr s0 s1 s2 s3 s4 hav
 subst hp
 have HVW:Hid (viewB d.mem vw=true):=HVW
 have H8:Hid (regs.length=8):=H8
 have o5:¬ o=5:=by omega
 have o8:¬ o=8:=by omega
 have ob5:(o !=5)=true:=by simp [o5]
 have ob8:(o !=8)=true:=by simp [o8]
 have oe5:(o==5)=false:=by simp [o5]
 have oe8:(o==8)=false:=by simp [o8]
 obtain ⟨fl,hfl⟩:∃ fl,decide (o=7)=fl:=⟨_,rfl⟩
 have hfl':(o==7)=fl:=by rw [← hfl];by_cases h7:o=7<;>simp [h7]
 have HFL:=hidS hfl
 clear hfl
 obtain ⟨b',hb'⟩:∃ b':Nat,b=b':=⟨b.toNat,by omega⟩
 subst hb'
 have bb0:(0:Int)≤(b':Int):=by omega
 have bb1:(b':Int) < 8:=by omega
 have bb2:b' < 8:=by omega
 have hav:a=-1:=by omega
 subst hav
 have hn0:0≤n:=by omega
 have hn23:n≤23:=by omega
 clear hok ho
 have b0:(0:Int)≤(who:Int):=by omega
 have b2:(who:Int) < (LK.length:Int):=by omega
 have zk1:gk < w.heap.size+1:=by omega
 have zk2:gk < w.heap.size+1+1:=by omega
 have zk3:gk < w.heap.size+1+1+1:=by omega
 have RR:=hidS rr
 have FK:=hidS fk
 have FR:=hidS fr
 have K0:=hidS k0
 have K1:=hidS k1
 have K2:=hidS k2
 have K3:=hidS k3
 clear h ha hx rr fk fr c0 s0 s1 s2 s3 s4
 go_enter Tryz.func43,Tryz.ntmps43
 obtain ⟨V,hV⟩:∃ V,((((w.alloc (.cells #[.slice (some ⟨gc,0,none⟩) d.codes.length cc,.slice (some ⟨gk,0,none⟩) LK.length ck,.slice (some ⟨gO,0,none⟩) d.mem.length cO,.slice st d.tr.length ct] 35)).alloc (.cells #[.int .i64 who,.int .i64 late] 75)).alloc (.cells #[.int .i64 o,.int .i64 r,.int .i64 (-1),.int .i64 b',.int .i64 n] 65)).alloc (.cells #[.slice none 0 0,.slice none 0 0,.slice none 0 0,.slice none 0 0] 35)).alloc (.cells #[.int .i64 p,.slice (some ⟨gr,0,none⟩) 8 cr,.slice (some ⟨gv,0,none⟩) 24 cv,.int .i64 st_] 42)=V:=⟨_,rfl⟩
 obtain ⟨BX,KV⟩:=boxesM hV
 have HBX:=(show Hid (Bm5 V w.heap.size _ _ _ _ _ _ _ _ _ _ _ _ _ _ _) from BX)
 have HKV:Hid (Below w.heap.size w V):=KV
 have HV:=hidS hV
 clear hV BX KV
 obtain ⟨m0,m1,m2,m3,x0,x1,s0,s1,s2,s3,s4,a0,a1,a2,a3,e0,e1,e2,e3,fm,fa,ff,bt,zV⟩:=HBX.out
 have l0:=(HKV.out.cell (p:=⟨gk,who * 4,none⟩) zk).trans K0.out
 have l1:=(HKV.out.cell (p:=⟨gk,who * 4+1,none⟩) zk).trans K1.out
 have l2:=(HKV.out.cell (p:=⟨gk,who * 4+2,none⟩) zk).trans K2.out
 have l3:=(HKV.out.cell (p:=⟨gk,who * 4+3,none⟩) zk).trans K3.out
 obtain ⟨vb,hvb⟩:∃ v,regs.getD b' 0=v:=⟨_,rfl⟩
 have HVb:=hidS hvb
 clear hvb
 have lb:V.cell? ⟨gr,b',none⟩=some (.int .i64 vb):=by rw [← HVb.out];exact (HKV.out.cell (p:=⟨gr,b',none⟩) zr).trans (RR.out b' (by omega))
 have f2:∀ j,V.frozen? ⟨gk,j,none⟩=false:=fun j=>(HKV.out.frozen (p:=⟨gk,j,none⟩) zk).trans (FK.out j)
 have f3:∀ j,V.frozen? ⟨gr,j,none⟩=false:=fun j=>(HKV.out.frozen (p:=⟨gr,j,none⟩) zr).trans (FR.out j)
 have v0:w.heap.size < V.heap.size:=by omega
 have v1:w.heap.size+1 < V.heap.size:=by omega
 have v2:w.heap.size+1+1 < V.heap.size:=by omega
 have v3:w.heap.size+1+1+1 < V.heap.size:=by omega
 have v4:gO < V.heap.size:=by omega
 have v5:gr < V.heap.size:=by omega
 have v6:gk < V.heap.size:=by omega
 go_wp2_with fail
 rw [HV.out]
 clear HV
 obtain ⟨cl,hcl⟩:∃ c,n=c:=⟨_,rfl⟩
 have CM:Hid (cellM ⟨p,regs,vw,st_⟩ ⟨o,r,(-1),b',n⟩=cl):=by
  show _=_
  unfold cellM
  rw [if_neg (by rintro ⟨h1,h2⟩;simp at h1 h2)]
  exact hcl
 by_cases hin:0≤cl∧cl≤23
 ·obtain ⟨c,hc⟩:∃ c:Nat,cl=c:=⟨cl.toNat,by omega⟩
  have CM2:Hid (cellM ⟨p,regs,vw,st_⟩ ⟨o,r,(-1),b',n⟩=c):=by show _=_;rw [CM.out,hc]
  rw [← hcl] at hc
  clear CM hin hcl cl
  subst hc
  have hin:0≤(c:Int)∧(c:Int)≤23:=by omega
  have CM:=CM2
  clear CM2
  have hc24:c < 24:=by omega
  have bc0:(0:Int)≤(c:Int):=by omega
  obtain ⟨h24,lr,hlr,elr,h1,h4,-⟩:=memB_at HME.out hc24
  have hvl:vw.length=24:=by have:=(viewB_iff.1 HVW.out).1;omega
  have bc1:(c:Int) < (d.mem.length:Int):=by omega
  obtain ⟨r2,hr2⟩:∃ r,S[c]? =some r:=⟨_,List.getElem?_eq_getElem (by have:=H.out.m.n;omega)⟩
  have MQ2:=(show Hid (MQ V.drew B Hq (.slice (some ⟨gc,0,none⟩) d.codes.length cc) (.slice (some ⟨gk,0,none⟩) LK.length ck) (.slice (some ⟨gO,0,none⟩) d.mem.length cO) (.slice st d.tr.length ct) LC LK S d) from H.out.keep (fun b _ hb1=>HKV.out.block b hb1) HKV.out.size)
  have lO:V.cell? ⟨gO,c,none⟩=some (.slice r2.s lr.length r2.c):=MQ2.out.m.cellc rfl hr2 hlr
  have ELR:=hidS elr
  have HLR:=hidS hlr
  have HR2:=hidS hr2
  have HVL:=hidS hvl
  have H24:=hidS h24
  have NE:=hidM (H.out.m.some_ HME.out)
  have RO:=hidM (H.out.m.r c r2 lr hr2 hlr).own
  clear elr hlr hr2 hvl h24
  by_cases hf:lr.length=4000
  ·have hfi:(lr.length:Int)=4000:=by omega
   have HF:=hidS hf
   clear hf
   (refine (l1In_is _ _ _ true _ (by first | (unfold Plain.inB;simp;omega) | (simp;omega))).mono ?_;rintro e w' ⟨rfl,hw'⟩;rw [hw'];clear hw' w');go_wp2_with fail
   refine bodyPost_ret (v:=.tuple #[.agg #[.slice (some ⟨gc,0,none⟩) d.codes.length cc,.slice (some ⟨gk,0,none⟩) LK.length ck,.slice (some ⟨gO,0,none⟩) d.mem.length cO,.slice st d.tr.length ct],.bool true,.bool true]) (by simp [results,Tryz.results43,go_sem,fa,a0,a1,a2,a3]) rfl ?_
   unfold MemP
   rw [CM.out]
   rw [if_pos hin,Int.toNat_natCast,ELR.out,if_pos ⟨by show ¬ o=5;omega,HF.out⟩]
   refine ⟨rfl,?_⟩
   repeat' (first | with_reducible exact HKV.out | (with_reducible refine Below.setCell ?_ (by show w.heap.size≤w.heap.size+1+1+1;omega) _))
  ·have hfi:¬ (lr.length:Int)=4000:=by omega
   have HF:=hidS hf
   clear hf
   have vR:=(MQ2.out.k.inn who _ HX.out).2
   have vR':IntsR V.drew B V.drew.heap.size (some ⟨gv,0,none⟩) vw:=ownN_intsR (c:=cv) (by rw [HVL.out];exact vR)
   have LD:=l6Store_any gO cO B S d.mem r2 lr (some ⟨gv,0,none⟩) cv B V.drew.heap.size vw c vb fl V.drew vR' (Nat.le_refl _) MQ2.out.m NE.out HR2.out HLR.out HVL.out hc24 H24.out h4 (by show B≤V.heap.size;omega)
   rw [HVL.out] at LD
   have HLD:=hidM LD
   clear LD vR vR'
   have RG:r2.val.ownBlock≠some gr:=fun e=>ownType' RO.out (H.out.k.inn who _ HX.out).1 (by decide) e rfl
   have RK:r2.val.ownBlock≠some gk:=fun e=>ownType' RO.out H.out.k.row (by decide) e rfl
   have RL:∀ q,r2.val.ownBlock=some q→q < w.heap.size:=fun q e=>(World.ownsRow.lt RO.out q e).2
   (refine (l1In_is _ _ _ true _ (by first | (unfold Plain.inB;simp;omega) | (simp;omega))).mono ?_;rintro e w' ⟨rfl,hw'⟩;rw [hw'];clear hw' w');go_wp2_with fail
   have hne:=extP_ne V (fun b=>b=gO∨r2.val.ownBlock=some b)
   have nE:∀ b,w.heap.size≤b→¬ (b=gO∨r2.val.ownBlock=some b):=fun b hb1 hh=>by rcases hh with e | e;omega;have:=RL b e;omega
   have u0:=ExtP.fit (E:=fun b=>b=gO∨r2.val.ownBlock=some b) m2 v0 (nE _ (by omega))
   have u1:=ExtP.fit (E:=fun b=>b=gO∨r2.val.ownBlock=some b) e2 zV (nE _ (by omega))
   have u2:=ExtP.fit (E:=fun b=>b=gO∨r2.val.ownBlock=some b) e1 zV (nE _ (by omega))
   have u3:=ExtP.fit (E:=fun b=>b=gO∨r2.val.ownBlock=some b) s3 v2 (nE _ (by omega))
   have u4:=ExtP.fit (E:=fun b=>b=gO∨r2.val.ownBlock=some b) s0 v2 (nE _ (by omega))
   have u5:=ExtP.fit (E:=fun b=>b=gO∨r2.val.ownBlock=some b) lb v5 (fun hh=>hh.elim n3 RG)
   refine regionMix V (CP V (fun b=>b=gO∨r2.val.ownBlock=some b)) 14 18 (by kernel_rfl) (by kernel_rfl) (fun _ _ d _ _ h=>by cases d<;>exact h) (CP.drew _ _) ?_
   unfold CP
   dsimp only [List.take,List.drop]
   repeat (go_big_quiet_step (fail))
   refine wpQuiet_nil ?_
   clear hne u0 u1 u2 u3 u4 u5
   unfold wpListC
   go_wp2_with (go_at_call 58;refine Calls.mono HLD.out ?_;rintro e w5 ⟨u,r',rfl,hu5,hO5,hb5,hf5,hp5,hq5⟩)
   refine And.intro (fun _ hc=>CP.on hc hb5.os hb5.tape hb5.output hb5.size (fun b h1 h2=>hf5 b h1 (fun e=>h2 (.inl e)) (fun e=>h2 (.inr e)))) ?_
   unfold wpListC
   go_wp2
   refine And.intro (fun _ hc=>hc) ?_
   unfold wpListC
   go_wp2
   refine And.intro (fun _ hc=>hc) ?_
   unfold wpListC
   go_wp2
   refine And.intro (fun _ hc=>hc) ?_
   refine listC_late _ _ _ _ (by decide) ?_
   have zd:V.drew.heap.size=V.heap.size:=rfl
   have z5:=hb5.size
   rw [zd] at z5
   have kb:∀ b,b < w.heap.size→b≠gO→r2.val.ownBlock≠some b→w5.heap[b]? =w.heap[b]? :=fun b h1 h2 h3=>(hf5 b (by rw [zd];omega) h2 h3).trans (HKV.out.block b h1)
   have kc:∀ b,w.heap.size≤b→b < V.heap.size→w5.heap[b]? =V.heap[b]? :=fun b h1 h2=>hf5 b (by rw [zd];omega) (fun e=>nE b h1 (.inl e)) (fun e=>nE b h1 (.inr e))
   have K5:Hid (Below B w w5):=(HKV.out.mono hb).trans ((Below.drew (Below.refl _ _)).trans hb5)
   have Q5:=hidM (MQ.sto MQ2.out HR2.out HLR.out hO5 hf5 hp5 (by first | exact hb5.size | exact hb6.size | omega))
   have HBX:=(show Hid (Bm5 w5 w.heap.size _ _ _ _ _ _ _ _ _ _ _ _ _ _ _) from HBX.out.keep kc z5)
   obtain ⟨su,cu,eu⟩:=ownSl hu5
   obtain ⟨lu,hlu⟩:∃ l,vw.set c (lr.length:Int)=l:=⟨_,rfl⟩
   have HLU:=hidS hlu
   rw [hlu] at eu hu5
   clear hlu
   subst eu
   have H5:=hidS hu5
   have HP5:=hidM hp5
   have HQ5:=hidM hq5
   have KB:=hidM kb
   have WG:Hid (w.heap.size+1+1+1+1 < V.heap.size∧V.heap.size≤w5.heap.size):=⟨zV,z5⟩
   clear m0 m1 m2 m3 x0 x1 s0 s1 s2 s3 s4 a0 a1 a2 a3 e0 e1 e2 e3 fm fa ff bt zV l0 l1 l2 l3 f2 f3 v0 v1 v2 v3 v4 v5 v6 lb
   clear hu5 hO5 hb5 hf5 hp5 hq5 kc lO
   obtain ⟨m0,m1,m2,m3,x0,x1,s0,s1,s2,s3,s4,a0,a1,a2,a3,e0,e1,e2,e3,fm,fa,ff,bt,zV⟩:=HBX.out
   have l0:=(World.cell?_of_block (w:=w) (a:=⟨gk,who * 4,none⟩) (kb gk zk (Ne.symm n6∘Eq.symm) RK)).trans K0.out
   have l1:=(World.cell?_of_block (w:=w) (a:=⟨gk,who * 4+1,none⟩) (kb gk zk (Ne.symm n6∘Eq.symm) RK)).trans K1.out
   have l2:=(World.cell?_of_block (w:=w) (a:=⟨gk,who * 4+2,none⟩) (kb gk zk (Ne.symm n6∘Eq.symm) RK)).trans K2.out
   have l3:=(World.cell?_of_block (w:=w) (a:=⟨gk,who * 4+3,none⟩) (kb gk zk (Ne.symm n6∘Eq.symm) RK)).trans K3.out
   have f2:∀ j,w5.frozen? ⟨gk,j,none⟩=false:=fun j=>(World.frozen?_of_block (w:=w) (a:=⟨gk,j,none⟩) (kb gk zk (Ne.symm n6∘Eq.symm) RK)).trans (FK.out j)
   have v0:w.heap.size < w5.heap.size:=by omega
   have v1:w.heap.size+1 < w5.heap.size:=by omega
   have v2:w.heap.size+1+1 < w5.heap.size:=by omega
   have v3:w.heap.size+1+1+1 < w5.heap.size:=by omega
   have v4:gO < w5.heap.size:=by omega
   have v5:gr < w5.heap.size:=by omega
   have v6:gk < w5.heap.size:=by omega
   clear kb
   go_wp2_with fail
   refine bodyPost_ret (v:=.tuple #[.agg #[.slice (some ⟨gc,0,none⟩) d.codes.length cc,.slice (some ⟨gk,0,none⟩) LK.length ck,.slice (some ⟨gO,0,none⟩) d.mem.length cO,.slice st d.tr.length ct],.bool true,.bool false]) (by simp [results,Tryz.results43,go_sem,fa,a0,a1,a2,a3]) rfl ?_
   unfold MemP
   rw [CM.out,if_pos hin,Int.toNat_natCast,ELR.out,if_neg (fun hh=>HF.out hh.2)]
   have MS:memS d late ⟨p,regs,vw,st_⟩ ⟨o,r,(-1),b',(c:Int)⟩ c=({ d with mem:=d.mem.set c (lr++[⟨vb,toldL vw c lr.length fl⟩]) },⟨p,regs,lu,st_⟩):=by
    unfold memS stM stW regA
    rw [if_neg (by show ¬ o=5;omega),if_neg (by show ¬ o=8;omega)]
    simp only [Int.toNat_natCast]
    rw [HVb.out,ELR.out,HLU.out,HFL.out]
   rw [MS]
   have wg:=WG.out
   have zd:V.drew.heap.size=V.heap.size:=rfl
   have Q6:=(MQ.offB (j:=2) (u:=.slice (some ⟨gO,0,none⟩) d.mem.length cO) Q5.out bt.1).offC (b:=w.heap.size+1+1+1+1) (j:=2) (u:=.slice su lu.length cu) bt.2.2.set (fun e=>by have e:some gk=some (w.heap.size+1+1+1+1):=e;injection e with e;omega)
   have OU:OwnN ((w5.setCell ⟨w.heap.size,2,none⟩ (.slice (some ⟨gO,0,none⟩) d.mem.length cO)).setCell ⟨w.heap.size+1+1+1+1,2,none⟩ (.slice su lu.length cu)) B (.slice su lu.length cu) lu:=ownLow' (ownKeep' H5.out (fun b hb2=>by
    have q:=(World.ownsRow.lt H5.out _ hb2).1
    rw [zd] at q
    exact (Below.heap_setCell _ ⟨w.heap.size+1+1+1+1,_,none⟩ _ b (by show b≠w.heap.size+1+1+1+1;omega)).trans (Below.heap_setCell _ ⟨w.heap.size,_,none⟩ _ b (by show b≠w.heap.size;omega)))) (by rw [zd];omega)
   have hfr:∀ q,(Value.slice su lu.length cu).ownBlock=some q→((∀ (j:Nat) (z:KV),LK[j]? =some z→¬ (z.r.ownBlock=some q∨z.v.ownBlock=some q))∧∀ a∈mAs (S.set c r'),a.block≠q)∧Hq q:=fun q hq=>⟨⟨(MQ2.out.fresh (w':=w5) H5.out q hq).1.1,fun a ha e=>HQ5.out a ha (by rw [hq,e])⟩,(MQ2.out.fresh (w':=w5) H5.out q hq).2⟩
   have Qc:=MQ.put4 (F:=_) Q6 rfl HX.out (.slice su lu.length cu) lu OU hfr (fun _ _=>rfl) (by simp)
   have B2:=bt.2.1
   refine ⟨_,_,_,_,rfl,MQ.offB (MQ.offB (MQ.offB (MQ.offB Qc B2.set.set.set.set.set.set) B2.set.set.set.set.set.set.set) B2.set.set.set.set.set.set.set.set) B2.set.set.set.set.set.set.set.set.set,set_at HX.out,by rw [List.length_set],?_,fun b hXb=>?_⟩
   ·repeat' (first | with_reducible exact K5.out | (with_reducible refine Below.setCell ?_ (by first | exact bk | (show B≤w.heap.size+1+1+1+1;omega) | (show B≤w.heap.size+1+1+1;omega) | (show B≤w.heap.size;omega)) _))
   ·have hb1:=H.out.lt hXb
    have g2:b≠gk:=fun e=>hXb (e▸H.out.hh.k gk rfl)
    have g3:b≠gO:=fun e=>hXb (e▸H.out.hh.m gO rfl)
    have g4:r2.val.ownBlock≠some b:=fun e=>hXb (H.out.rowH HR2.out (NE.out c r2 HR2.out) b e)
    have fin:=KB.out b hb1 (by omega) g4
    repeat' (first | with_reducible exact fin | (with_reducible refine (Below.heap_setCell _ ⟨w.heap.size+1+1+1+1,_,none⟩ _ b (by show b≠w.heap.size+1+1+1+1;omega)).trans ?_) | (with_reducible refine (Below.heap_setCell _ ⟨w.heap.size+1+1+1,_,none⟩ _ b (by show b≠w.heap.size+1+1+1;omega)).trans ?_) | (with_reducible refine (Below.heap_setCell _ ⟨w.heap.size,_,none⟩ _ b (by show b≠w.heap.size;omega)).trans ?_) | (with_reducible refine (Below.heap_setCell _ ⟨gr,_,none⟩ _ b (by show b≠gr;omega)).trans ?_) | (with_reducible refine (Below.heap_setCell _ ⟨gk,_,none⟩ _ b (by show b≠gk;omega)).trans ?_))
 ·exfalso;omega
end Go.Proofs.YtkhjhibigldcgaaGreat
