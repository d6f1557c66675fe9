/- A step of the specification: channels. No condition. SourceStep of the specification. Conditions: program and source fit. -/
import Derived.Test.YtknffngbdakblaaGreatJG00
import Derived.Test.YtknffngbdakblaaGreatJG07
import Derived.Test.YtknffngbdakblaaGreatJG06
import Derived.Test.YtknffngbdakblaaGreatJG10
import Derived.Test.YtknffngbdakblaaGreatJG01
import Derived.Test.YtknffngbdakblaaGreatJG03
import Derived.Test.YtknffngbdakblaaGreatJBody
import Derived.Test.YtknffngbdakblaaGreatJG08
import Derived.Deep.DeepCutAuto
import Derived.Test.YtknffngbdakblaaGreatJStepSpA
import Derived.Test.YtknffngbdakblaaGreatJG09
import Derived.Test.YtknffngbdakblaaGreatJG04
import Derived.Test.YtknffngbdakblaaGreatJStepSpB
import Derived.Test.YtknffngbdakblaaGreatJSrcDup
import Derived.Deep.RegionHeld3
namespace Go.Proofs.YtknffngbdakblaaGreat
section
set_option linter.unusedSimpArgs false
set_option linter.unusedVariables false
set_option maxRecDepth 100000
open Go.RowKit
set_option maxHeartbeats 4000000 in
theorem sqC (p1 p2 : Option Addr) (a1 a2 lo hi base : Nat) (p : PD) (v1 v2 v3 : Value) (L1 L2 : List (Rec × Value)) (d : SD) (k : Nat) (t : TD) (w : World) (hP : ProgR w lo hi p1 p2 p) (hB : hi ≤ base) (hO : OwnS w base v1 v2 v3 L1 L2 d) (hb : base ≤ w.heap.size) (hR : Right p d) (ht : d.ths[k]? = some t) (hst : t.st = 0) (ho : 5 ≤ (insOf p d k).o ∧ (insOf p d k).o ≤ 9) :
  Calls Tryz.prog 54 #[.agg #[.slice p1 p.caps.length a1,.slice p2 p.bods.length a2],.agg #[v1,v2,v3],.int .i64 k] w fun e w'=>StepY w base (HitS v1 v2 v3 L1 L2) (outOf p d k) d k e w':=by
 obtain ⟨q,g1,c1,gr,cr,gb,ob,gi,oi,cb,nb,s2,s3,c2,c3,y,O⟩:=hO.open hP hB hb hR ht
 rw [O.ou]
 have hcl:=hR.pc
 have hbl:=hR.bd k O.kb
 have hpb:=hR.pb
 have hnl:=hR.nl
 have HCH:=hidW hR.cl
 have HTL:=hidW hR.tl
 have HR:=hidW hR
 obtain ⟨x,hx⟩:∃ x,insOf p d k=x:=⟨_,rfl⟩
 rw [hx] at O ho ⊢
 clear hx
 obtain ⟨e1,e2,e3,ep,hy,y1,y2,hq,nq,kl,kb,hbn,t0,t1,t2,b0,⟨x0,x1,x2,x3,x4⟩,rr,f1,fr,z1,zr,zb,zi,i1,ir,ib,ii,n1,hok,-,h4⟩:=O
 subst e1 e2 e3 ep
 rw [hbn] at hbl
 have HBN:=hidW hbn
 unfold insX Plain.insB at hok
 rw [decide_eq_true_eq] at hok
 obtain ⟨o,r,a,b,n⟩:=x
 simp only at ho hok x0 x1 x2 x3 x4
 obtain ⟨r',hr'⟩:∃ r':Nat,r=r':=⟨r.toNat,by omega⟩
 subst hr'
 have br0:(0:Int)≤(r':Int):=by omega
 have br1:(r':Int) < 4:=by omega
 have br2:r' < 4:=by omega
 obtain ⟨a',ha'⟩:∃ a':Nat,a=a':=⟨a.toNat,by omega⟩
 subst ha'
 have ba0:(0:Int)≤(a':Int):=by omega
 have ba1:(a':Int) < 4:=by omega
 have ba2:a' < 4:=by omega
 obtain ⟨b',hb'⟩:∃ b':Nat,b=b':=⟨b.toNat,by omega⟩
 subst hb'
 have bb0:(0:Int)≤(b':Int):=by omega
 have bb1:(b':Int) < 4:=by omega
 have bb2:b' < 4:=by omega
 obtain ⟨pc,rg,st⟩:=t
 simp only at hq hst h4 rr t0 t2
 subst hq hst
 have i0:(0:Int)≤(k:Int):=by omega
 have j1:(k:Int) < (d.ths.length:Int):=by omega
 have j2:(k:Int) < (p.bods.length:Int):=by omega
 have j3:(0:Int)≤(q:Int):=by omega
 have j4:(q:Int) < (nb:Int):=by omega
 have w1:IntKind.i64.wrap ((q:Int)+1)=(q:Int)+1:=Go.IntWalk.i64_in _ (by omega)
 obtain ⟨W,hW⟩:∃ W,(((w.alloc (.cells #[.slice p1 p.caps.length a1,.slice (some ⟨gb,ob,none⟩) p.bods.length a2] 27)).alloc (.cells #[.slice (some ⟨g1,0,none⟩) d.ths.length c1,.slice s2 d.chs.length c2,.slice s3 d.tr.length c3] 32)).alloc (.cells #[.slice none 0 0,.slice none 0 0,.slice none 0 0] 32))=W:=⟨_,rfl⟩
 obtain ⟨V,hV⟩:∃ V,W.alloc (.cells #[.int .i64 o,.int .i64 r',.int .i64 a',.int .i64 b',.int .i64 n] 85)=V:=⟨_,rfl⟩
 obtain ⟨BX,KV⟩:=bq_new hW hV
 have HW:=hidW hW
 have HV:=hidW hV
 have HBX:=hidW BX
 have HKV:=hidW KV
 have HO:=hidW hO
 have HP:=hidW hP
 have HT:=hidW ht
 have HY:=hidW hy
 have HY2:=hidW y2
 have H4:=hidW h4
 have RR:=hidW rr
 have F1:=hidW f1
 have FR:=hidW fr
 have HOK:=hidW hok
 have y0:g1 < w.heap.size+1:=by omega
 have y3:g1 < w.heap.size+1+1:=by omega
 have y4:g1 < w.heap.size+1+1+1:=by omega
 have y5:gb < w.heap.size+1:=by omega
 have y6:gb < w.heap.size+1+1:=by omega
 have y7:gi < w.heap.size+1:=by omega
 have y8:gi < w.heap.size+1+1:=by omega
 clear hW hV BX KV hO hP ht hy y1 y2 h4 rr f1 fr hok hR hbn
 go_enter Tryz.func54,Tryz.ntmps54
 go_upto_region 14 with fail
 rw [HW.out,HV.out]
 clear x0 x1 x2 x3 x4 t0 t1 t2 b0 y0 y3 y4 y5 y6 y7 y8
 obtain ⟨⟨m0,m1⟩,⟨v0,v1',v2',fs,zs⟩,⟨w0,w1',w2',fa,za⟩,x0,x1,x2,x3,x4,bs,ba,zz⟩:=HBX.out
 have zv1:w.heap.size < V.heap.size:=by omega
 have zv2:g1 < V.heap.size:=by omega
 have zv3:gr < V.heap.size:=by omega
 have ng00:¬ gr=w.heap.size:=by omega
 have nh00:¬ w.heap.size=gr:=by omega
 have ng01:¬ gr=w.heap.size+1:=by omega
 have nh01:¬ w.heap.size+1=gr:=by omega
 have ng02:¬ gr=w.heap.size+1+1:=by omega
 have nh02:¬ w.heap.size+1+1=gr:=by omega
 have ng03:¬ gr=w.heap.size+1+1+1:=by omega
 have nh03:¬ w.heap.size+1+1+1=gr:=by omega
 have ng10:¬ g1=w.heap.size:=by omega
 have nh10:¬ w.heap.size=g1:=by omega
 have ng11:¬ g1=w.heap.size+1:=by omega
 have nh11:¬ w.heap.size+1=g1:=by omega
 have ng12:¬ g1=w.heap.size+1+1:=by omega
 have nh12:¬ w.heap.size+1+1=g1:=by omega
 have ng13:¬ g1=w.heap.size+1+1+1:=by omega
 have nh13:¬ w.heap.size+1+1+1=g1:=by omega
 have ff:∀ j,V.frozen? ⟨gr,j,none⟩=false:=fun j=>(HKV.out.frozen (p:=⟨gr,j,none⟩) zr).trans (FR.out j)
 obtain ⟨n',hn'⟩:∃ n':Nat,n=n':=⟨n.toNat,by have:=HOK.out;omega⟩
 subst hn'
 have hnc:n' < d.chs.length:=by have:=HOK.out;have:=HCH.out;omega
 obtain ⟨c,hc⟩:∃ c,d.chs[n']? =some c:=⟨_,List.getElem?_eq_getElem hnc⟩
 obtain ⟨hko,hkl⟩:=HR.out.ch n' c hc
 have hop:o=5∨o=6∨o=7∨o=8∨o=9:=by omega
 have hrb:o=6∨o=8→r'≠b':=by have:=HOK.out;omega
 have ST:=hidW (stepO_chan nb ⟨q,rg,0⟩ o r' a' b' n' d.chs d.tr k c hc hko hop)
 have CHN:=hidW (l4Chan_any o _ _ _ base L1 L2 d k ⟨q,rg,0⟩ c r' a' b' n' V (HO.out.keep (fun b _ hb=>HKV.out.block b hb)) (by have:=HKV.out.size;omega) HT.out H4.out hc br2 ba2 bb2 hkl (by have:=HCH.out;omega) (by have:=HTL.out;omega) hko hop hrb)
 have THR:=hidW (chanH_three hko hop)
 have CRF:=hidW (fun (h:o=5∨o=7∨o=9) (h2:chanH o c=2)=>chanR_fault (rg:=rg) (r:=r') (b:=b') h h2)
 have k1:(o==1)=false:=by simp;omega
 have k2:(o==2)=false:=by simp;omega
 have k3:(o==3)=false:=by simp;omega
 have k4:(o==4)=false:=by simp;omega
 have k10:(o==10)=false:=by simp;omega
 have k11:(o==11)=false:=by simp;omega
 have k12:(o==12)=false:=by simp;omega
 have k13:(o==13)=false:=by simp;omega
 clear ho hop hrb hko hkl hc hnc
 simp only at CHN ST
 generalize hcr:chanR o rg c r' b'=cr9 at CHN ST CRF
 generalize hcc:chanC o c (rg.getD a' 0)=cc9 at CHN ST
 generalize hch:chanH o c=hh at CHN ST THR CRF
 clear hcr hcc hch
 go_wp2_with fail
 refine Calls.mono CHN.out ?_
 rintro e w1x ⟨L1',L2',rfl,o1,hb1,hf1⟩
 have O1:=hidW o1
 have B1:=hidW ((HKV.out.mono hb).trans hb1)
 have HB1:=hidW (HBX.out.keep (V':=w1x) (fun b h1 h2=>hf1 b h2 (fun h=>by have:=(HO.out.hit h).2;omega)) hb1.size)
 have z9:=hb1.size
 have F1x:Hid (∀ b,b < w.heap.size→¬ HitS (.slice (some ⟨g1,0,none⟩) d.ths.length c1) (.slice s2 d.chs.length c2) (.slice s3 d.tr.length c3) L1 L2 b→w1x.heap[b]? =w.heap[b]?):=fun b h1 h2=>(hf1 b (by have:=HKV.out.size;omega) h2).trans (HKV.out.block b h1)
 have T9:=hidW (show (d.ths.set k ⟨q,cr9,0⟩)[k]? =some ⟨q,cr9,0⟩ from List.getElem?_set_self kl)
 clear m0 m1 v0 v1' v2' fs zs w0 w1' w2' fa za x0 x1 x2 x3 x4 bs ba zz zv1 zv2 zv3 ff CHN o1 hb1 hf1 ng00 nh00 ng01 nh01 ng02 nh02 ng03 nh03 ng10 nh10 ng11 nh11 ng12 nh12 ng13 nh13
 obtain ⟨⟨m0,m1⟩,⟨v0,v1',v2',fs,zs⟩,⟨w0,w1',w2',fa,za⟩,x0,x1,x2,x3,x4,bs,ba,zz⟩:=HB1.out
 obtain ⟨Y,hY⟩:∃ Y,w1x.alloc (.cells #[.slice (some ⟨g1,0,none⟩) d.ths.length c1,.slice s2 d.chs.length c2,.slice s3 d.tr.length c3] 32)=Y:=⟨_,rfl⟩
 have kY:Below w1x.heap.size w1x Y:=by rw [← hY];exact (Below.refl _ _).alloc (Nat.le_refl _) _
 have HKY:=hidW kY
 have FY:Hid (∀ b,b < w.heap.size→¬ HitS (.slice (some ⟨g1,0,none⟩) d.ths.length c1) (.slice s2 d.chs.length c2) (.slice s3 d.tr.length c3) L1 L2 b→Y.heap[b]? =w.heap[b]?):=fun b h1 h2=>(kY.block b (by have:=HB1.out.zz;omega)).trans (F1x.out b h1 h2)
 have yY0:Y.cell? ⟨w1x.heap.size,0,none⟩=some (.slice (some ⟨g1,0,none⟩) d.ths.length c1):=by rw [← hY];simp [go_sem]
 have yY1:Y.cell? ⟨w1x.heap.size,1,none⟩=some (.slice s2 d.chs.length c2):=by rw [← hY];simp [go_sem]
 have yY2:Y.cell? ⟨w1x.heap.size,2,none⟩=some (.slice s3 d.tr.length c3):=by rw [← hY];simp [go_sem]
 have yZ:w1x.heap.size < Y.heap.size:=by rw [← hY];simp
 go_upto_region 7 with fail
 have HBY:=hidW (HB1.out.keep (V':=Y) (fun b _ h2=>kY.block b h2) kY.size)
 have OY:=hidW (O1.out.keep (w':=Y) (fun b _ hb=>kY.block b hb))
 clear hY kY m0 m1 v0 v1' v2' fs zs w0 w1' w2' fa za x0 x1 x2 x3 x4 bs ba zz
 obtain ⟨⟨m0,m1⟩,⟨v0,v1',v2',fs,zs⟩,⟨w0,w1',w2',fa,za⟩,x0,x1,x2,x3,x4,bs,ba,zz⟩:=HBY.out
 have hz1:=HB1.out.zz
 have BY:=hidW (B1.out.trans (HKY.out.mono (by omega)))
 have ny0:¬ w1x.heap.size=w.heap.size:=by omega
 have ny1:¬ w1x.heap.size=w.heap.size+1:=by omega
 have ny2:¬ w1x.heap.size=w.heap.size+1+1:=by omega
 have ny3:¬ w.heap.size+1=w1x.heap.size:=by omega
 have ny4:¬ w.heap.size+1+1=w1x.heap.size:=by omega
 rcases THR.out with h0 | h0 | ⟨h0,h5⟩
 ·subst h0
  rw [if_neg (by decide),if_neg (by decide)] at ST
  go_wp2_with fail
  obtain ⟨U,hU⟩:∃ U,((Y.setCell ⟨w.heap.size+1,0,none⟩ (.slice (some ⟨g1,0,none⟩) d.ths.length c1)).setCell ⟨w.heap.size+1,1,none⟩ (.slice s2 d.chs.length c2)).setCell ⟨w.heap.size+1,2,none⟩ (.slice s3 d.tr.length c3)=U:=⟨_,rfl⟩
  rw [hU]
  have HU:=hidW (show Bq U w.heap.size _ _ _ _ _ _ _ _ _ _ from by rw [← hU];exact HBY.out.put _ _ _)
  have O9:=hidW (show OwnS U base _ _ _ L1' L2' _ from by rw [← hU];exact ((OY.out.offB bs).offB bs.set).offB bs.set.set)
  have B9:=hidW (show Below base w U from by rw [← hU];refine Below.setCell (Below.setCell (Below.setCell BY.out ?_ _) ?_ _) ?_ _<;>(show base≤w.heap.size+1;omega))
  have zU:Y.heap.size≤U.heap.size:=by rw [← hU];simp
  have F9:Hid (∀ b,b < w.heap.size→¬ HitS (.slice (some ⟨g1,0,none⟩) d.ths.length c1) (.slice s2 d.chs.length c2) (.slice s3 d.tr.length c3) L1 L2 b→U.heap[b]? =w.heap[b]?):=fun b h1 h2=>by rw [← hU];exact set3_off (by omega) (FY.out b h1 h2)
  clear hU m0 m1 v0 v1' v2' fs zs w0 w1' w2' fa za x0 x1 x2 x3 x4 bs ba zz yY0 yY1 yY2
  have HBX:=HU
  have K9:Hid (∀ b,w.heap.size≤b→b < U.heap.size→U.heap[b]? =U.heap[b]?):=fun b _ _=>rfl
  have Z9:U.heap.size≤U.heap.size:=Nat.le_refl _
  have GO:=hidW (l4Go_any p1 (some ⟨gb,ob,none⟩) a1 a2 lo hi base p _ _ _ _ _ _ k ⟨q,cr9,0⟩ (q+1) _ (ProgR.keep' HP.out (fun b h1 h2=>B9.out.block b (by omega))) hB O9.out (by have:=HKV.out.size;omega) T9.out rfl kb hpb (by rw [HBN.out];exact hbl))
  refine Calls.mono GO.out ?_
  rintro e w2 ⟨L3,rfl,hO2,hb2,hf2⟩
  have O2:=hidW hO2
  have B2:=hidW (B9.out.trans hb2)
  have F2:Hid (∀ b,b < w.heap.size→¬ HitS _ _ _ L1 L2 b→w2.heap[b]? =w.heap[b]?):=fun b h1 h2=>(hf2 b (by have:=HKV.out.size;omega) (fun e=>h2 (.inl (.inl e)))).trans (F9.out b h1 h2)
  have HB2:=hidW (HBX.out.keep (V':=w2) (fun b h1 h2=>(hf2 b (by have:=Z9;omega) (fun e=>by have e':g1=b:=Option.some.inj e;omega)).trans (K9.out b h1 h2)) (by have:=hb2.size;have:=Z9;omega))
  have z2:=hb2.size
  clear GO hO2 hb2 hf2
  obtain ⟨⟨m0,m1⟩,⟨v0,v1',v2',fs,zs⟩,⟨w0,w1',w2',fa,za⟩,x0,x1,x2,x3,x4,bs,ba,zz⟩:=HB2.out
  go_wp2
  refine bodyPost_ret (v:=.tuple #[.agg #[.slice (some ⟨g1,0,none⟩) d.ths.length c1,.slice s2 d.chs.length c2,.slice s3 d.tr.length c3],.int .i64 0]) (by simp [results,Tryz.results54,go_sem,w0,w1',w2',fa]) rfl ?_
  rw [ST.out]
  refine ⟨_,_,_,_,_,_,_,_,_,rfl,fun _=>⟨L3,L2',?_⟩,?_,fun b h1 h2=>set3_off (by omega) (F2.out b h1 h2)⟩
  ·have q2:=O2.out
   rw [HBN.out] at q2
   have E:(⟨(d.ths.set k ⟨q,cr9,0⟩).set k (moveT ⟨q,cr9,0⟩ nb cr9 (q+1)),d.chs.set n' cc9,d.tr⟩:SD)=doneS d k ⟨moveT ⟨q,rg,0⟩ nb cr9 ((q:Int)+1),d.chs.set n' cc9,d.tr,0⟩:=by simp [doneS,moveT,List.set_set]
   rw [E] at q2
   exact ((q2.offB ba).offB ba.set).offB ba.set.set
  ·refine Below.setCell (Below.setCell (Below.setCell B2.out ?_ _) ?_ _) ?_ _<;>(show base≤w.heap.size+1+1;omega)
 ·subst h0
  rw [if_pos rfl] at ST
  go_wp2
  refine bodyPost_ret (v:=.tuple #[.agg #[.slice (some ⟨g1,0,none⟩) d.ths.length c1,.slice s2 d.chs.length c2,.slice s3 d.tr.length c3],.int .i64 4]) (by simp [results,Tryz.results54,go_sem,w0,w1',w2',fa]) rfl ?_
  rw [ST.out]
  refine ⟨_,_,_,_,_,_,_,_,_,rfl,fun h=>?_,?_,fun b h1 h2=>set3_off (by omega) (FY.out b h1 h2)⟩
  ·simp at h
  ·refine Below.setCell (Below.setCell (Below.setCell BY.out ?_ _) ?_ _) ?_ _<;>(show base≤w.heap.size+1+1;omega)
 ·have EC:=CRF.out h5 h0
  subst h0 EC
  rw [if_neg (by decide),if_pos rfl] at ST
  obtain ⟨g9,c9,y9,e9,-,-,-,-,l0,-,l2,f9⟩:=OY.out.thread T9.out
  injection e9 with hh1 hh2 hh3
  injection hh1 with hh1
  injection hh1 with hh1
  subst hh1 hh3
  have q9:OwnS Y base (.slice (some ⟨g1,0,none⟩) (⟨d.ths.set k ⟨q,cr9,0⟩,d.chs.set n' cc9,d.tr⟩:SD).ths.length c1) (.slice s2 d.chs.length c2) (.slice s3 d.tr.length c3) L1' L2' ⟨d.ths.set k ⟨q,cr9,0⟩,d.chs.set n' cc9,d.tr⟩:=by simp only [List.length_set];exact OY.out
  obtain ⟨L9,o9,-⟩:=(q9.setT T9.out 2).2
  simp only [List.length_set,List.set_set] at o9
  have O9:=hidW o9
  clear hh2 o9 l0 h5 q9
  go_wp2
  refine bodyPost_ret (v:=.tuple #[.agg #[.slice (some ⟨g1,0,none⟩) d.ths.length c1,.slice s2 d.chs.length c2,.slice s3 d.tr.length c3],.int .i64 0]) (by simp [results,Tryz.results54,go_sem,w0,w1',w2',fa]) rfl ?_
  rw [ST.out]
  refine ⟨_,_,_,_,_,_,_,_,_,rfl,fun _=>⟨L9,L2',?_⟩,?_,fun b h1 h2=>set3_off (by omega) ((Below.heap_setCell Y ⟨g1,k * 3+2,none⟩ _ b (by show b≠g1;intro e;subst e;exact h2 (.inl (.inl rfl)))).trans (FY.out b h1 h2))⟩
  ·exact ((O9.out.offB ba.set).offB ba.set.set).offB ba.set.set.set
  ·refine Below.setCell (Below.setCell (Below.setCell (Below.setCell BY.out ?_ _) ?_ _) ?_ _) ?_ _
   ·exact i1
   all_goals (show base≤w.heap.size+1+1;omega)
end
section
set_option linter.unusedSimpArgs false
set_option linter.unusedVariables false
set_option maxRecDepth 100000
open Go.RowKit
theorem l4Step_any (p1 p2 : Option Addr) (a1 a2 lo hi base : Nat) (p : PD) (v1 v2 v3 : Value) (L1 L2 : List (Rec × Value)) (d : SD) (k : Nat) (t : TD) (w : World) (hP : ProgR w lo hi p1 p2 p) (hB : hi ≤ base) (hO : OwnS w base v1 v2 v3 L1 L2 d) (hb : base ≤ w.heap.size) (hR : Right p d) (ht : d.ths[k]? = some t) (hst : t.st = 0) :
  Calls Tryz.prog 54 #[.agg #[.slice p1 p.caps.length a1,.slice p2 p.bods.length a2],.agg #[v1,v2,v3],.int .i64 k] w fun e w'=>StepY w base (HitS v1 v2 v3 L1 L2) (outOf p d k) d k e w':=by
 obtain ⟨q,g1,c1,gr,cr,gb,ob,gi,oi,cb,nb,s2,s3,c2,c3,y,O⟩:=hO.open hP hB hb hR ht
 have ok:=O.ok
 clear O
 unfold insX Plain.insB at ok
 rw [decide_eq_true_eq] at ok
 have ho:(insOf p d k).o=1∨(insOf p d k).o=2∨(insOf p d k).o=3∨(insOf p d k).o=4∨(5≤(insOf p d k).o∧(insOf p d k).o≤9)∨(insOf p d k).o=10∨(insOf p d k).o=11∨(insOf p d k).o=12∨(insOf p d k).o=13:=by omega
 rcases ho with h | h | h | h | h | h | h | h | h
 ·exact sq1 p1 p2 a1 a2 lo hi base p v1 v2 v3 L1 L2 d k t w hP hB hO hb hR ht hst h
 ·exact sq2 p1 p2 a1 a2 lo hi base p v1 v2 v3 L1 L2 d k t w hP hB hO hb hR ht hst h
 ·exact sq3 p1 p2 a1 a2 lo hi base p v1 v2 v3 L1 L2 d k t w hP hB hO hb hR ht hst h
 ·exact sq4 p1 p2 a1 a2 lo hi base p v1 v2 v3 L1 L2 d k t w hP hB hO hb hR ht hst h
 ·exact sqC p1 p2 a1 a2 lo hi base p v1 v2 v3 L1 L2 d k t w hP hB hO hb hR ht hst h
 ·exact sq10 p1 p2 a1 a2 lo hi base p v1 v2 v3 L1 L2 d k t w hP hB hO hb hR ht hst h
 ·exact sq11 p1 p2 a1 a2 lo hi base p v1 v2 v3 L1 L2 d k t w hP hB hO hb hR ht hst h
 ·exact sq12 p1 p2 a1 a2 lo hi base p v1 v2 v3 L1 L2 d k t w hP hB hO hb hR ht hst h
 ·exact sq13 p1 p2 a1 a2 lo hi base p v1 v2 v3 L1 L2 d k t w hP hB hO hb hR ht hst h
noncomputable def stepKb (p:PD) (d:SD) (who:Int):Int:=if srcB p d=true then stepK p d who else 1
noncomputable def stepSb (p:PD) (d:SD) (who:Int):SD:=if srcB p d=true then stepS p d who else ⟨[],[],[]⟩
def SStepQ (w:World) (K:Int) (D:SD) (e:Ending) (w':World):Prop:=∃ s1 c1 s2 c2 s3 c3 L1 L2,e=.returned (.tuple #[.agg #[.slice s1 D.ths.length c1,.slice s2 D.chs.length c2,.slice s3 D.tr.length c3],.int .i64 K])∧OwnS w' w.heap.size (.slice s1 D.ths.length c1) (.slice s2 D.chs.length c2) (.slice s3 D.tr.length c3) L1 L2 D∧Below w.heap.size w w'
theorem OwnS.nil (w:World) (base:Nat):OwnS w base (.slice none 0 0) (.slice none 0 0) (.slice none 0 0) [] [] ⟨[],[],[]⟩:=⟨rfl,rfl,OwnQ.nil _ _ _,OwnQ.nil _ _ _,World.ownsRow_nil _ _ _ _,fun i j x y k hx=>by simp at hx⟩
theorem OwnS.low {w:World} {b b':Nat} {v1 v2 v3:Value} {L1 L2:List (Rec×Value)} {d:SD} (h:OwnS w b v1 v2 v3 L1 L2 d) (hb:b'≤b):OwnS w b' v1 v2 v3 L1 L2 d:=⟨h.e1,h.e2,h.t.low hb,h.c.low hb,ownLow' h.n hb,h.sep⟩
theorem RecsR.thr {w wr:World} {lo hi:Nat} {s:Option Addr} {l:List TD} (h:RecsR w lo hi s (l.map TD.rec3)) (hB:hi≤w.heap.size) (hb:Below w.heap.size w wr) {k:Nat} {t:TD} (hk:l[k]? =some t):∃ g o s' c',s=some ⟨g,o,none⟩∧g < w.heap.size∧wr.cell? ⟨g,o+k * 3,none⟩=some (.int .i64 t.pc)∧wr.cell? ⟨g,o+k * 3+1,none⟩=some (.slice s' t.regs.length c')∧wr.cell? ⟨g,o+k * 3+2,none⟩=some (.int .i64 t.st)∧IntsR wr lo hi s' t.regs:=by
 rcases h with h | ⟨g,o,hs,h1,h2,hc⟩
 ·have:l=[]:=by simpa using h
  subst this
  simp at hk
 ·obtain ⟨s',c',q1,q2,q3,q4⟩:=hc k t.rec3 (by rw [List.getElem?_map,hk];rfl)
  have cc:∀ j,wr.cell? ⟨g,j,none⟩=w.cell? ⟨g,j,none⟩:=fun j=>hb.cell (p:=⟨g,j,none⟩) (by show g < _;omega)
  exact ⟨g,o,s',c',hs,by omega,(cc _).trans q1,(cc _).trans q2,(cc _).trans q3,q4.keep (Keep.of_below hb hB)⟩
/- the boxes: program, source, answer -/
structure Br (V:World) (z:Nat) (p0 p1 v1 v2 v3:Value):Prop where
 p0:V.cell? ⟨z,0,none⟩=some p0
 p1:V.cell? ⟨z,1,none⟩=some p1
 s:BoF (z+1) V v1 v2 v3
 a:BoF (z+1+1) V (.slice none 0 0) (.slice none 0 0) (.slice none 0 0)
 ba:BxS V (z+1+1)
 zz:z+1+1 < V.heap.size
theorem Br.below {V V':World} {z:Nat} {p0 p1 v1 v2 v3:Value} (h:Br V z p0 p1 v1 v2 v3) {B:Nat} (hb:Below B V V') (hB:z+1+1 < B):Br V' z p0 p1 v1 v2 v3:=
 ⟨(hb.cell (p:=⟨z,0,none⟩) (by show z < _;omega)).trans h.p0,(hb.cell (p:=⟨z,1,none⟩) (by show z < _;omega)).trans h.p1,h.s.below hb (by omega),h.a.below hb hB,h.ba.same (hb.block _ hB),by have:=hb.size;have:=h.zz;omega⟩
theorem br_new {w W:World} {p0 p1 v1 v2 v3:Value} {T0 T1:TypeId} (hW:(((w.alloc (.cells #[p0,p1] T0)).alloc (.cells #[v1,v2,v3] T1)).alloc (.cells #[.slice none 0 0,.slice none 0 0,.slice none 0 0] 32))=W):Br W w.heap.size p0 p1 v1 v2 v3∧Below w.heap.size w W:=by
 obtain ⟨W0,h0,b0,k0,z0⟩:=Bo2.new w p0 p1 T0
 obtain ⟨W1,h1,b1,k1,z1⟩:=BoF.new W0 v1 v2 v3 T1
 obtain ⟨W2,h2,b2,k2,z2⟩:=BoF.new W1 (.slice none 0 0) (.slice none 0 0) (.slice none 0 0) 32
 have t2:BxS W2 W1.heap.size:=by rw [← h2];exact BxS.new _ _
 have eW:W2=W:=by rw [← hW,h0,h1,h2]
 subst eW
 rw [z0] at b1
 rw [z1,z0] at b2 t2
 have b0':=(b0.keep (Keep.of_below k1 (by omega))).keep (Keep.of_below k2 (by omega))
 exact ⟨⟨b0'.c0,b0'.c1,b1.below k2 (by omega),b2,t2,by omega⟩,k0.trans ((k1.mono (by omega)).trans (k2.mono (by omega)))⟩
/- the answer's box written, and read -/
theorem Br.put {V:World} {z:Nat} {p0 p1 v1 v2 v3:Value} (h:Br V z p0 p1 v1 v2 v3) (a b c:Value):∃ Z,((V.setCell ⟨z+1+1,0,none⟩ a).setCell ⟨z+1+1,1,none⟩ b).setCell ⟨z+1+1,2,none⟩ c=Z∧BoF (z+1+1) Z a b c∧(∀ base v1 v2 v3 L1 L2 d,OwnS V base v1 v2 v3 L1 L2 d→OwnS Z base v1 v2 v3 L1 L2 d)∧(∀ B w,Below B w V→B≤z+1+1→Below B w Z):=by
 refine ⟨_,rfl,((h.a.set0 a).set1 b).set2 c,fun base v1 v2 v3 L1 L2 d q=>((q.offB h.ba).offB h.ba.set).offB h.ba.set.set,fun B w q hB=>?_⟩
 refine Below.setCell (Below.setCell (Below.setCell q ?_ _) ?_ _) ?_ _<;>exact hB
/- a box of a source that may be there, and may be written -/
def BoxA (X:World):Option Nat→Prop
 | none=>True
 | some q=>BoF q X (.slice none 0 0) (.slice none 0 0) (.slice none 0 0)∧BxS X q
theorem boxAS {X:World} {q:Nat} (h:BoxA X (some q)):BoF q X (.slice none 0 0) (.slice none 0 0) (.slice none 0 0)∧BxS X q:=h
theorem BoxA.keep {X Y:World} {p:Option Nat} (h:BoxA X p) (hb:Below X.heap.size X Y):BoxA Y p:=by
 cases p with
 | none=>trivial
 | some p=>exact ⟨h.1.below hb h.2.lt,h.2.same (hb.block _ h.2.lt)⟩
theorem boxA0 (X:World):BoxA (X.alloc (.cells #[.slice none 0 0,.slice none 0 0,.slice none 0 0] 32)) (some X.heap.size):=by
 obtain ⟨W,h,b,-,-⟩:=BoF.new X (.slice none 0 0) (.slice none 0 0) (.slice none 0 0) 32
 rw [← h] at b
 exact ⟨b,BxS.new _ _⟩
theorem boxAD {X:World} {p:Option Nat} (h:BoxA X p):BoxA X.drew p:=by
 cases p with
 | none=>trivial
 | some p=>exact ⟨⟨h.1.c0,h.1.c1,h.1.c2,h.1.f,h.1.z⟩,h.2⟩
theorem boxAN (X:World):BoxA X none:=trivial
def CutQ (W:World) (o:Out) (d:SD) (k:Nat) (s8 s9:Value) (wc:World):Prop:=∃ (bo:Nat) (s1:Option Addr) (n1 c1:Nat) (s2:Option Addr) (n2 c2:Nat) (s3:Option Addr) (n3 c3:Nat),s8=.pointer (some ⟨bo,0,none⟩)∧s9=.int .i64 o.code∧W.heap.size≤bo∧BoF bo wc (.slice s1 n1 c1) (.slice s2 n2 c2) (.slice s3 n3 c3)∧(o.code=0→∃ L1 L2,OwnS wc W.heap.size (.slice s1 n1 c1) (.slice s2 n2 c2) (.slice s3 n3 c3) L1 L2 (doneS d k o))∧Below W.heap.size W wc
theorem cutQ_new {W wM:World} {o:Out} {d:SD} {k n1 c1 n2 c2 n3 c3:Nat} {s1 s2 s3:Option Addr} (q:o.code=0→∃ L1 L2,OwnS wM W.heap.size (.slice s1 n1 c1) (.slice s2 n2 c2) (.slice s3 n3 c3) L1 L2 (doneS d k o)) (kk:Below W.heap.size W wM):CutQ W o d k (.pointer (some ⟨wM.heap.size,0,none⟩)) (.int .i64 o.code) (wM.alloc (.cells #[.slice s1 n1 c1,.slice s2 n2 c2,.slice s3 n3 c3] 32)):=by
 obtain ⟨Y,hY,x,kY,-⟩:=BoF.new wM (.slice s1 n1 c1) (.slice s2 n2 c2) (.slice s3 n3 c3) 32
 rw [hY]
 refine ⟨wM.heap.size,s1,n1,c1,s2,n2,c2,s3,n3,c3,rfl,rfl,kk.size,x,fun h=>?_,kk.trans (kY.mono kk.size)⟩
 obtain ⟨L1,L2,o1⟩:=q h
 exact ⟨L1,L2,o1.keep (fun b _ h1=>kY.block b h1)⟩
theorem cutQ_set {W wM:World} {o:Out} {d:SD} {k n1 c1 n2 c2 n3 c3 bo:Nat} {s1 s2 s3:Option Addr} (b:BoF bo wM (.slice none 0 0) (.slice none 0 0) (.slice none 0 0)∧BxS wM bo) (hbo:W.heap.size≤bo) (q:o.code=0→∃ L1 L2,OwnS wM W.heap.size (.slice s1 n1 c1) (.slice s2 n2 c2) (.slice s3 n3 c3) L1 L2 (doneS d k o)) (kk:Below W.heap.size W wM):CutQ W o d k (.pointer (some ⟨bo,0,none⟩)) (.int .i64 o.code) (((wM.setCell ⟨bo,0,none⟩ (.slice s1 n1 c1)).setCell ⟨bo,1,none⟩ (.slice s2 n2 c2)).setCell ⟨bo,2,none⟩ (.slice s3 n3 c3)):=by
 have B:=b.2
 refine ⟨bo,s1,n1,c1,s2,n2,c2,s3,n3,c3,rfl,rfl,hbo,((b.1.set0 _).set1 _).set2 _,fun h=>?_,((kk.setCell (p:=⟨bo,_,none⟩) hbo _).setCell (p:=⟨bo,_,none⟩) hbo _).setCell (p:=⟨bo,_,none⟩) hbo _⟩
 obtain ⟨L1,L2,o1⟩:=q h
 exact ⟨L1,L2,((o1.offB B).offB B.set).offB B.set.set⟩
set_option maxHeartbeats 2000000 in
theorem specStep_bad (p1 p2 s1 s2 s3 : Option Addr) (a1 a2 c1 c2 c3 lo hi lo' hi' : Nat) (p : PD) (d : SD) (who : Int) (w : World) (h : ProgR w lo hi p1 p2 p) (h' : SrcR w lo' hi' s1 s2 s3 d) (hB : hi ≤ w.heap.size) (hB' : hi' ≤ w.heap.size) (hf : Fits p) (hf' : SFits d) (hy : srcB p d = false) :
  Calls Tryz.prog 31 #[.agg #[.slice p1 p.caps.length a1,.slice p2 p.bods.length a2],.agg #[.slice s1 d.ths.length c1,.slice s2 d.chs.length c2,.slice s3 d.tr.length c3],.int .i64 who] w (SStepQ w 1 ⟨[],[],[]⟩):=by
 have HY:=hidW hy
 clear hy
 obtain ⟨W,hW⟩:∃ W,((w.alloc (.cells #[.slice p1 p.caps.length a1,.slice p2 p.bods.length a2] 27)).alloc (.cells #[.slice s1 d.ths.length c1,.slice s2 d.chs.length c2,.slice s3 d.tr.length c3] 32)).alloc (.cells #[.slice none 0 0,.slice none 0 0,.slice none 0 0] 32)=W:=⟨_,rfl⟩
 obtain ⟨bc,kW⟩:=br_new hW
 have HW:=hidW hW
 have H:=hidW h
 have H':=hidW h'
 have HF:=hidW hf
 have HF':=hidW hf'
 have BC0:=hidW bc
 have KW:=hidW kW
 have zW:=kW.size
 obtain ⟨m0,m1,⟨v0,v1,v2,fs,zs⟩,⟨r0,r1,r2,fa,za⟩,ba,zz⟩:=bc
 clear hW kW h h' hf hf'
 go_enter Tryz.func31,Tryz.ntmps31
 go_wp2_with fail
 rw [HW.out]
 refine (specSource_any p1 p2 s1 s2 s3 a1 a2 c1 c2 c3 lo hi lo' hi' p d W (H.out.keep' (Keep.of_below KW.out hB)) (H'.out.keep (Keep.of_below KW.out hB')) (by omega) (by omega) HF.out HF'.out).mono ?_
 rintro e w1 ⟨rfl,hb1⟩
 rw [HY.out]
 have bc1:=BC0.out.below hb1 zz
 have BC:=hidW bc1
 have K1:=hidW (KW.out.trans (hb1.mono (by omega)))
 have z1:=hb1.size
 clear hb1 m0 m1 v0 v1 v2 fs zs r0 r1 r2 fa za ba zz
 obtain ⟨m0,m1,⟨v0,v1,v2,fs,zs⟩,⟨r0,r1,r2,fa,za⟩,ba,zz⟩:=bc1
 go_wp2
 obtain ⟨Z,hZ,bz,oz,kz⟩:=BC.out.put (.slice none 0 0) (.slice none 0 0) (.slice none 0 0)
 refine bodyPost_ret (v:=.tuple #[.agg #[.slice none 0 0,.slice none 0 0,.slice none 0 0],.int .i64 1]) ?_ rfl ?_
 ·rw [hZ]
  simp [results,Tryz.results31,go_sem,bz.c0,bz.c1,bz.c2]
 ·rw [hZ]
  exact ⟨none,0,none,0,none,0,[],[],rfl,oz _ _ _ _ _ _ _ (OwnS.nil _ _),kz _ _ K1.out (by omega)⟩
set_option maxHeartbeats 2000000 in
theorem specStep_none (p1 p2 s1 s2 s3 : Option Addr) (a1 a2 c1 c2 c3 lo hi lo' hi' : Nat) (p : PD) (d : SD) (who : Int) (w : World) (h : ProgR w lo hi p1 p2 p) (h' : SrcR w lo' hi' s1 s2 s3 d) (hB : hi ≤ w.heap.size) (hB' : hi' ≤ w.heap.size) (hf : Fits p) (hf' : SFits d) (hy : srcB p d = true) (hw : ¬ (0 ≤ who ∧ who < (d.ths.length : Int))) :
  Calls Tryz.prog 31 #[.agg #[.slice p1 p.caps.length a1,.slice p2 p.bods.length a2],.agg #[.slice s1 d.ths.length c1,.slice s2 d.chs.length c2,.slice s3 d.tr.length c3],.int .i64 who] w (SStepQ w 2 d):=by
 have HY:=hidW hy
 have HWW:=hidW hw
 have wl:IntKind.i64.wrap ((d.ths.length:Int) - 1)=(d.ths.length:Int) - 1:=Go.IntWalk.i64_in _ (by have:=hf'.1.1;omega)
 clear hy hw
 obtain ⟨W,hW⟩:∃ W,((w.alloc (.cells #[.slice p1 p.caps.length a1,.slice p2 p.bods.length a2] 27)).alloc (.cells #[.slice s1 d.ths.length c1,.slice s2 d.chs.length c2,.slice s3 d.tr.length c3] 32)).alloc (.cells #[.slice none 0 0,.slice none 0 0,.slice none 0 0] 32)=W:=⟨_,rfl⟩
 obtain ⟨bc,kW⟩:=br_new hW
 have HW:=hidW hW
 have H:=hidW h
 have H':=hidW h'
 have HF:=hidW hf
 have HF':=hidW hf'
 have BC0:=hidW bc
 have KW:=hidW kW
 have zW:=kW.size
 obtain ⟨m0,m1,⟨v0,v1,v2,fs,zs⟩,⟨r0,r1,r2,fa,za⟩,ba,zz⟩:=bc
 clear hW kW h h' hf hf'
 go_enter Tryz.func31,Tryz.ntmps31
 go_wp2_with fail
 rw [HW.out]
 refine (specSource_any p1 p2 s1 s2 s3 a1 a2 c1 c2 c3 lo hi lo' hi' p d W (H.out.keep' (Keep.of_below KW.out hB)) (H'.out.keep (Keep.of_below KW.out hB')) (by omega) (by omega) HF.out HF'.out).mono ?_
 rintro e w1 ⟨rfl,hb1⟩
 rw [HY.out]
 have bc1:=BC0.out.below hb1 zz
 have BC:=hidW bc1
 have K1:=hidW (KW.out.trans (hb1.mono (by omega)))
 have z1:=hb1.size
 clear hb1 m0 m1 v0 v1 v2 fs zs r0 r1 r2 fa za ba zz
 obtain ⟨m0,m1,⟨v0,v1,v2,fs,zs⟩,⟨r0,r1,r2,fa,za⟩,ba,zz⟩:=bc1
 go_wp2_with fail
 refine (l1In_is _ _ _ false _ (by have:=HWW.out;unfold Plain.inB;simp;omega)).mono ?_
 rintro e w9 ⟨rfl,hw9⟩
 rw [hw9]
 clear hw9 w9
 go_wp2_with fail
 refine (specDup_any s1 s2 s3 c1 c2 c3 lo' hi' d w1 (H'.out.keep (Keep.of_below K1.out hB')) (by omega) HF'.out).mono ?_
 rintro e w5 ⟨u1,u2,u3,L1,L2,rfl,ho5,hb5⟩
 obtain ⟨t1,e1,t2,e2,t3,e3,rfl,rfl,rfl,-⟩:=ho5.src
 have O5:=hidW ho5
 have bc5:=BC.out.below hb5 zz
 have BC5:=hidW bc5
 have K5:=hidW (K1.out.trans (hb5.mono (by omega)))
 clear ho5 hb5 m0 m1 v0 v1 v2 fs zs r0 r1 r2 fa za ba zz
 obtain ⟨m0,m1,⟨v0,v1,v2,fs,zs⟩,⟨r0,r1,r2,fa,za⟩,ba,zz⟩:=bc5
 go_wp2
 obtain ⟨Z,hZ,bz,oz,kz⟩:=BC5.out.put (.slice t1 d.ths.length e1) (.slice t2 d.chs.length e2) (.slice t3 d.tr.length e3)
 refine bodyPost_ret (v:=.tuple #[.agg #[.slice t1 d.ths.length e1,.slice t2 d.chs.length e2,.slice t3 d.tr.length e3],.int .i64 2]) ?_ rfl ?_
 ·rw [hZ]
  simp [results,Tryz.results31,go_sem,bz.c0,bz.c1,bz.c2]
 ·rw [hZ]
  exact ⟨_,_,_,_,_,_,L1,L2,rfl,oz _ _ _ _ _ _ _ (O5.out.low (by omega)),kz _ _ K5.out (by omega)⟩
set_option maxHeartbeats 2000000 in
theorem specStep_over (p1 p2 s1 s2 s3 : Option Addr) (a1 a2 c1 c2 c3 lo hi lo' hi' : Nat) (p : PD) (d : SD) (k : Nat) (t : TD) (w : World) (h : ProgR w lo hi p1 p2 p) (h' : SrcR w lo' hi' s1 s2 s3 d) (hB : hi ≤ w.heap.size) (hB' : hi' ≤ w.heap.size) (hf : Fits p) (hf' : SFits d) (hy : srcB p d = true) (ht : d.ths[k]? = some t) (hst : ¬ t.st = 0) :
  Calls Tryz.prog 31 #[.agg #[.slice p1 p.caps.length a1,.slice p2 p.bods.length a2],.agg #[.slice s1 d.ths.length c1,.slice s2 d.chs.length c2,.slice s3 d.tr.length c3],.int .i64 k] w (SStepQ w 3 d):=by
 have HY:=hidW hy
 have hkl:k < d.ths.length:=(List.getElem?_eq_some_iff.1 ht).1
 have wl:IntKind.i64.wrap ((d.ths.length:Int) - 1)=(d.ths.length:Int) - 1:=Go.IntWalk.i64_in _ (by have:=hf'.1.1;omega)
 have b0:(0:Int)≤(k:Int):=by omega
 have b1:(k:Int) < (d.ths.length:Int):=by omega
 have hs0:(t.st !=0)=true:=by simp [hst]
 clear hy hst
 obtain ⟨W,hW⟩:∃ W,((w.alloc (.cells #[.slice p1 p.caps.length a1,.slice p2 p.bods.length a2] 27)).alloc (.cells #[.slice s1 d.ths.length c1,.slice s2 d.chs.length c2,.slice s3 d.tr.length c3] 32)).alloc (.cells #[.slice none 0 0,.slice none 0 0,.slice none 0 0] 32)=W:=⟨_,rfl⟩
 obtain ⟨bc,kW⟩:=br_new hW
 have HW:=hidW hW
 have H:=hidW h
 have H':=hidW h'
 have HF:=hidW hf
 have HF':=hidW hf'
 have BC0:=hidW bc
 have KW:=hidW kW
 have zW:=kW.size
 obtain ⟨m0,m1,⟨v0,v1,v2,fs,zs⟩,⟨r0,r1,r2,fa,za⟩,ba,zz⟩:=bc
 clear hW kW h h' hf hf'
 go_enter Tryz.func31,Tryz.ntmps31
 go_wp2_with fail
 rw [HW.out]
 refine (specSource_any p1 p2 s1 s2 s3 a1 a2 c1 c2 c3 lo hi lo' hi' p d W (H.out.keep' (Keep.of_below KW.out hB)) (H'.out.keep (Keep.of_below KW.out hB')) (by omega) (by omega) HF.out HF'.out).mono ?_
 rintro e w1 ⟨rfl,hb1⟩
 rw [HY.out]
 have bc1:=BC0.out.below hb1 zz
 have BC:=hidW bc1
 have K1:=hidW (KW.out.trans (hb1.mono (by omega)))
 have z1:=hb1.size
 clear hb1 m0 m1 v0 v1 v2 fs zs r0 r1 r2 fa za ba zz
 obtain ⟨m0,m1,⟨v0,v1,v2,fs,zs⟩,⟨r0,r1,r2,fa,za⟩,ba,zz⟩:=bc1
 obtain ⟨g,o,s',c',es,hg,f0,f1,f2,-⟩:=RecsR.thr H'.out.1 hB' K1.out ht
 subst es
 have zg:g < w1.heap.size:=by omega
 clear f0 f1
 go_wp2_with fail
 refine (l1In_is _ _ _ true _ (by unfold Plain.inB;simp;omega)).mono ?_
 rintro e w9 ⟨rfl,hw9⟩
 rw [hw9]
 clear hw9 w9
 go_wp2_with fail
 refine (specDup_any _ s2 s3 c1 c2 c3 lo' hi' d w1 (H'.out.keep (Keep.of_below K1.out hB')) (by omega) HF'.out).mono ?_
 rintro e w5 ⟨u1,u2,u3,L1,L2,rfl,ho5,hb5⟩
 obtain ⟨t1,e1,t2,e2,t3,e3,rfl,rfl,rfl,-⟩:=ho5.src
 have O5:=hidW ho5
 have bc5:=BC.out.below hb5 zz
 have BC5:=hidW bc5
 have K5:=hidW (K1.out.trans (hb5.mono (by omega)))
 clear ho5 hb5 m0 m1 v0 v1 v2 fs zs r0 r1 r2 fa za ba zz f2
 obtain ⟨m0,m1,⟨v0,v1,v2,fs,zs⟩,⟨r0,r1,r2,fa,za⟩,ba,zz⟩:=bc5
 go_wp2
 obtain ⟨Z,hZ,bz,oz,kz⟩:=BC5.out.put (.slice t1 d.ths.length e1) (.slice t2 d.chs.length e2) (.slice t3 d.tr.length e3)
 refine bodyPost_ret (v:=.tuple #[.agg #[.slice t1 d.ths.length e1,.slice t2 d.chs.length e2,.slice t3 d.tr.length e3],.int .i64 3]) ?_ rfl ?_
 ·rw [hZ]
  simp [results,Tryz.results31,go_sem,bz.c0,bz.c1,bz.c2]
 ·rw [hZ]
  exact ⟨_,_,_,_,_,_,L1,L2,rfl,oz _ _ _ _ _ _ _ (O5.out.low (by omega)),kz _ _ K5.out (by omega)⟩
set_option maxHeartbeats 4000000 in
theorem specStep_run (p1 p2 s1 s2 s3 : Option Addr) (a1 a2 c1 c2 c3 lo hi lo' hi' : Nat) (p : PD) (d : SD) (k : Nat) (t : TD) (w : World) (h : ProgR w lo hi p1 p2 p) (h' : SrcR w lo' hi' s1 s2 s3 d) (hB : hi ≤ w.heap.size) (hB' : hi' ≤ w.heap.size) (hf : Fits p) (hf' : SFits d) (hy : srcB p d = true) (ht : d.ths[k]? = some t) (hst : t.st = 0) :
  Calls Tryz.prog 31 #[.agg #[.slice p1 p.caps.length a1,.slice p2 p.bods.length a2],.agg #[.slice s1 d.ths.length c1,.slice s2 d.chs.length c2,.slice s3 d.tr.length c3],.int .i64 k] w (SStepQ w (outOf p d k).code (if (outOf p d k).code=0 then doneS d k (outOf p d k) else d)):=by
 have HY:=hidW hy
 have hkl:k < d.ths.length:=(List.getElem?_eq_some_iff.1 ht).1
 have wl:IntKind.i64.wrap ((d.ths.length:Int) - 1)=(d.ths.length:Int) - 1:=Go.IntWalk.i64_in _ (by have:=hf'.1.1;omega)
 have b0:(0:Int)≤(k:Int):=by omega
 have b1:(k:Int) < (d.ths.length:Int):=by omega
 have HT:=hidW ht
 have HST:=hidW hst
 have HR:=hidW (right_of hy)
 have LS:=hidW (fun (B:Nat) (v1 v2 v3:Value) (L1 L2:List (Rec×Value)) (V:World) (hP:ProgR V lo hi p1 p2 p) (hhB:hi≤B) (hq:OwnS V B v1 v2 v3 L1 L2 d) (hb:B≤V.heap.size)=>l4Step_any p1 p2 a1 a2 lo hi B p v1 v2 v3 L1 L2 d k t V hP hhB hq hb HR.out ht hst)
 obtain ⟨X,hX⟩:∃ X,outOf p d k=X:=⟨_,rfl⟩
 rw [hX] at LS ⊢
 obtain ⟨D,hD⟩:∃ D,(if X.code=0 then doneS d k X else d)=D:=⟨_,rfl⟩
 rw [hD]
 have HD:=hidW hD
 clear hX hst hy ht hD
 obtain ⟨W,hW⟩:∃ W,((w.alloc (.cells #[.slice p1 p.caps.length a1,.slice p2 p.bods.length a2] 27)).alloc (.cells #[.slice s1 d.ths.length c1,.slice s2 d.chs.length c2,.slice s3 d.tr.length c3] 32)).alloc (.cells #[.slice none 0 0,.slice none 0 0,.slice none 0 0] 32)=W:=⟨_,rfl⟩
 obtain ⟨bc,kW⟩:=br_new hW
 have HW:=hidW hW
 have H:=hidW h
 have H':=hidW h'
 have HF:=hidW hf
 have HF':=hidW hf'
 have BC0:=hidW bc
 have KW:=hidW kW
 have zW:=kW.size
 obtain ⟨m0,m1,⟨v0,v1,v2,fs,zs⟩,⟨r0,r1,r2,fa,za⟩,ba,zz⟩:=bc
 clear hW kW h h' hf hf'
 go_enter Tryz.func31,Tryz.ntmps31
 go_wp2_with fail
 rw [HW.out]
 refine (specSource_any p1 p2 s1 s2 s3 a1 a2 c1 c2 c3 lo hi lo' hi' p d W (H.out.keep' (Keep.of_below KW.out hB)) (H'.out.keep (Keep.of_below KW.out hB')) (by omega) (by omega) HF.out HF'.out).mono ?_
 rintro e w1 ⟨rfl,hb1⟩
 rw [HY.out]
 have bc1:=BC0.out.below hb1 zz
 have BC:=hidW bc1
 have K1:=hidW (KW.out.trans (hb1.mono (by omega)))
 have z1:=hb1.size
 clear hb1 m0 m1 v0 v1 v2 fs zs r0 r1 r2 fa za ba zz
 obtain ⟨m0,m1,⟨v0,v1,v2,fs,zs⟩,⟨r0,r1,r2,fa,za⟩,ba,zz⟩:=bc1
 obtain ⟨g,o,s',c',es,hg,f0,f1,f2,-⟩:=RecsR.thr H'.out.1 hB' K1.out HT.out
 subst es
 have zg:g < w1.heap.size:=by omega
 rw [HST.out] at f2
 clear f0 f1
 go_wp2_with fail
 refine (l1In_is _ _ _ true _ (by unfold Plain.inB;simp;omega)).mono ?_
 rintro e w9 ⟨rfl,hw9⟩
 rw [hw9]
 clear hw9 w9
 go_upto_region 7 with fail
 have kD:Below w1.heap.size w1 w1.drew:=Below.drew (Below.refl _ _)
 have hdr:∀ X:World,X.drew.heap.size=X.heap.size:=fun _=>rfl
 have RB:Hid (∀ X,Below w1.heap.size w1 X→Br X w.heap.size (.slice p1 p.caps.length a1) (.slice p2 p.bods.length a2) (.slice (some ⟨g,o,none⟩) d.ths.length c1) (.slice s2 d.chs.length c2) (.slice s3 d.tr.length c3)):=fun X hX=>BC.out.below hX zz
 have RR:Hid (∀ X,Below w1.heap.size w1 X→SrcR X lo' hi' (some ⟨g,o,none⟩) s2 s3 d):=fun X hX=>(H'.out.keep (Keep.of_below K1.out hB')).keep (Keep.of_below hX (by omega))
 have RP:Hid (∀ X,Below w1.heap.size w1 X→ProgR X lo hi p1 p2 p):=fun X hX=>ProgR.keep' (ProgR.keep' H.out (Keep.of_below K1.out hB)) (Keep.of_below hX (by omega))
 have CC:Hid (∀ (X0:World) (pB:Option Nat),Below w1.heap.size w1 X0→BoxA X0 pB→Calls Tryz.prog 30 #[.agg #[.slice (some ⟨g,o,none⟩) d.ths.length c1,.slice s2 d.chs.length c2,.slice s3 d.tr.length c3]] X0 fun e w'=>∃ (B:Nat) (t1:Option Addr) (e1:Nat) (t2:Option Addr) (e2:Nat) (t3:Option Addr) (e3:Nat) (L1 L2:List (Rec×Value)),e=.returned (.agg #[.slice t1 d.ths.length e1,.slice t2 d.chs.length e2,.slice t3 d.tr.length e3])∧w1.heap.size≤B∧B≤w'.heap.size∧Below w1.heap.size w1 w'∧Hid (OwnS w' B (.slice t1 d.ths.length e1) (.slice t2 d.chs.length e2) (.slice t3 d.tr.length e3) L1 L2 d)∧Hid (BoxA w' pB)∧Hid (∀ q,pB=some q→q < B)∧w'.cell? ⟨w.heap.size,0,none⟩=some (.slice p1 p.caps.length a1)∧w'.cell? ⟨w.heap.size,1,none⟩=some (.slice p2 p.bods.length a2)∧w'.cell? ⟨w.heap.size+1,0,none⟩=some (.slice (some ⟨g,o,none⟩) d.ths.length c1)∧w'.cell? ⟨w.heap.size+1,1,none⟩=some (.slice s2 d.chs.length c2)∧w'.cell? ⟨w.heap.size+1,2,none⟩=some (.slice s3 d.tr.length c3)):=fun X0 pB hX hb=>(specDup_any _ s2 s3 c1 c2 c3 lo' hi' d X0 (RR.out X0 hX) (by have:=hX.size;omega) HF'.out).mono fun e w' ⟨u1,u2,u3,L1,L2,he,q,hb'⟩=>by
  obtain ⟨t1,e1,t2,e2,t3,e3,rfl,rfl,rfl,-⟩:=q.src
  have kk:Below w1.heap.size w1 w':=hX.trans (hb'.mono hX.size)
  have x:=RB.out _ kk
  exact ⟨X0.heap.size,t1,e1,t2,e2,t3,e3,L1,L2,he,hX.size,hb'.size,kk,q,hb.keep hb',fun q hq=>by subst hq;exact hb.2.lt,x.p0,x.p1,x.s.c0,x.s.c1,x.s.c2⟩
 have CS:Hid (∀ (X2 Y:World) (B:Nat) (t1:Option Addr) (e1:Nat) (t2:Option Addr) (e2:Nat) (t3:Option Addr) (e3:Nat) (L1 L2:List (Rec×Value)) (pB:Option Nat),w1.heap.size≤B→B≤X2.heap.size→Below w1.heap.size w1 Y→OwnS X2 B (.slice t1 d.ths.length e1) (.slice t2 d.chs.length e2) (.slice t3 d.tr.length e3) L1 L2 d→Below X2.heap.size X2 Y→BoxA Y pB→(∀ q,pB=some q→q < B∨X2.heap.size≤q)→Calls Tryz.prog 54 #[.agg #[.slice p1 p.caps.length a1,.slice p2 p.bods.length a2],.agg #[.slice t1 d.ths.length e1,.slice t2 d.chs.length e2,.slice t3 d.tr.length e3],.int .i64 k] Y fun e w'=>∃ (s1:Option Addr) (n1 c1':Nat) (s2':Option Addr) (n2 c2':Nat) (s3':Option Addr) (n3 c3':Nat),e=.returned (.tuple #[.agg #[.slice s1 n1 c1',.slice s2' n2 c2',.slice s3' n3 c3'],.int .i64 X.code])∧Below w1.heap.size w1 w'∧Hid (X.code=0→∃ L1 L2,OwnS w' w1.heap.size (.slice s1 n1 c1') (.slice s2' n2 c2') (.slice s3' n3 c3') L1 L2 (doneS d k X))∧Hid (BoxA w' pB)∧w'.cell? ⟨w.heap.size,0,none⟩=some (.slice p1 p.caps.length a1)∧w'.cell? ⟨w.heap.size,1,none⟩=some (.slice p2 p.bods.length a2)∧w'.cell? ⟨w.heap.size+1,0,none⟩=some (.slice (some ⟨g,o,none⟩) d.ths.length c1)∧w'.cell? ⟨w.heap.size+1,1,none⟩=some (.slice s2 d.chs.length c2)∧w'.cell? ⟨w.heap.size+1,2,none⟩=some (.slice s3 d.tr.length c3)):=fun X2 Y B t1 e1 t2 e2 t3 e3 L1 L2 pB h1 h2 hY hq hXY hb hp=>(LS.out B _ _ _ L1 L2 Y (RP.out Y hY) (by omega) (hq.keep (fun b _ hb'=>hXY.block b hb')) (by have:=hXY.size;omega)).mono fun e w' ⟨s1,n1,c1',s2',n2,c2',s3',n3,c3',he,q',b',fr⟩=>by
  have kk:Below w1.heap.size w1 w':=hY.trans (b'.mono h1)
  have x:=RB.out _ kk
  have bx:BoxA w' pB:=by
   cases pB with
   | none=>trivial
   | some q=>
    have e:w'.heap[q]? =Y.heap[q]? :=by
     rcases hp q rfl with h9 | h9
     ·exact b'.block q h9
     ·exact fr q hb.2.lt (fun hh=>by have:=(hq.hit hh).2;omega)
    exact ⟨hb.1.keep e b'.size,hb.2.same e⟩
  exact ⟨s1,n1,c1',s2',n2,c2',s3',n3,c3',he,kk,fun h0=>by obtain ⟨L1,L2,q⟩:=q' h0;exact ⟨L1,L2,q.low h1⟩,bx,x.p0,x.p1,x.s.c0,x.s.c1,x.s.c2⟩
 clear LS m0 m1 v0 v1 v2 fs zs r0 r1 r2 fa za ba f2
 obtain ⟨m0,m1,⟨v0,v1,v2,fs,zs⟩,⟨r0,r1,r2,fa,za⟩,ba,-⟩:=BC.out
 go_cut [8,9] (fun s8 s9 wx=>CutQ w1 X d k s8 s9 wx)
 case first=>
  go_region_held3 (fun w'=>w'.cell? ⟨w.heap.size,0,none⟩=some (.slice p1 p.caps.length a1)∧w'.cell? ⟨w.heap.size,1,none⟩=some (.slice p2 p.bods.length a2)∧w'.cell? ⟨w.heap.size+1,0,none⟩=some (.slice (some ⟨g,o,none⟩) d.ths.length c1)∧w'.cell? ⟨w.heap.size+1,1,none⟩=some (.slice s2 d.chs.length c2)∧w'.cell? ⟨w.heap.size+1,2,none⟩=some (.slice s3 d.tr.length c3)) (first | exact ⟨(RB.out _ (by repeat' (first | with_reducible exact kD | with_reducible exact kC | with_reducible exact kM | with_reducible exact Below.refl _ _ | with_reducible refine Below.drew ?_ | with_reducible refine Below.alloc ?_ (by first | omega | exact Nat.le_refl _ | (simp [hdr];done) | (simp [hdr];omega)) _ | with_reducible refine Below.setCell ?_ (by first | omega | exact Nat.le_refl _ | (simp [hdr];done) | (simp [hdr];omega)) _))).p0,(RB.out _ (by repeat' (first | with_reducible exact kD | with_reducible exact kC | with_reducible exact kM | with_reducible exact Below.refl _ _ | with_reducible refine Below.drew ?_ | with_reducible refine Below.alloc ?_ (by first | omega | exact Nat.le_refl _ | (simp [hdr];done) | (simp [hdr];omega)) _ | with_reducible refine Below.setCell ?_ (by first | omega | exact Nat.le_refl _ | (simp [hdr];done) | (simp [hdr];omega)) _))).p1,(RB.out _ (by repeat' (first | with_reducible exact kD | with_reducible exact kC | with_reducible exact kM | with_reducible exact Below.refl _ _ | with_reducible refine Below.drew ?_ | with_reducible refine Below.alloc ?_ (by first | omega | exact Nat.le_refl _ | (simp [hdr];done) | (simp [hdr];omega)) _ | with_reducible refine Below.setCell ?_ (by first | omega | exact Nat.le_refl _ | (simp [hdr];done) | (simp [hdr];omega)) _))).s.c0,(RB.out _ (by repeat' (first | with_reducible exact kD | with_reducible exact kC | with_reducible exact kM | with_reducible exact Below.refl _ _ | with_reducible refine Below.drew ?_ | with_reducible refine Below.alloc ?_ (by first | omega | exact Nat.le_refl _ | (simp [hdr];done) | (simp [hdr];omega)) _ | with_reducible refine Below.setCell ?_ (by first | omega | exact Nat.le_refl _ | (simp [hdr];done) | (simp [hdr];omega)) _))).s.c1,(RB.out _ (by repeat' (first | with_reducible exact kD | with_reducible exact kC | with_reducible exact kM | with_reducible exact Below.refl _ _ | with_reducible refine Below.drew ?_ | with_reducible refine Below.alloc ?_ (by first | omega | exact Nat.le_refl _ | (simp [hdr];done) | (simp [hdr];omega)) _ | with_reducible refine Below.setCell ?_ (by first | omega | exact Nat.le_refl _ | (simp [hdr];done) | (simp [hdr];omega)) _))).s.c2⟩ | go_keep) (first | (go_at_call 30;with_reducible refine (CC.out _ _ (by repeat' (first | with_reducible exact kD | with_reducible exact kC | with_reducible exact kM | with_reducible exact Below.refl _ _ | with_reducible refine Below.drew ?_ | with_reducible refine Below.alloc ?_ (by first | omega | exact Nat.le_refl _ | (simp [hdr];done) | (simp [hdr];omega)) _ | with_reducible refine Below.setCell ?_ (by first | omega | exact Nat.le_refl _ | (simp [hdr];done) | (simp [hdr];omega)) _)) (by first | with_reducible exact boxAD (boxA0 _) | with_reducible exact boxA0 _ | with_reducible exact boxAN _)).mono ?_;rintro e wC ⟨BB,t1,e1,t2,e2,t3,e3,L1,L2,rfl,hB1,hB2,kC,QC,HBC,HPC,yC0,yC1,yC2,yC3,yC4⟩;have zC:=kC.size) | (go_at_call 54;with_reducible refine (CS.out wC _ BB t1 e1 t2 e2 t3 e3 L1 L2 _ hB1 hB2 (by repeat' (first | with_reducible exact kD | with_reducible exact kC | with_reducible exact kM | with_reducible exact Below.refl _ _ | with_reducible refine Below.drew ?_ | with_reducible refine Below.alloc ?_ (by first | omega | exact Nat.le_refl _ | (simp [hdr];done) | (simp [hdr];omega)) _ | with_reducible refine Below.setCell ?_ (by first | omega | exact Nat.le_refl _ | (simp [hdr];done) | (simp [hdr];omega)) _)) QC.out (show Below wC.heap.size wC _ from (by repeat' (first | with_reducible exact Below.refl _ _ | with_reducible refine Below.drew ?_ | with_reducible refine Below.alloc ?_ (by first | omega | exact Nat.le_refl _ | (simp [hdr];done) | (simp [hdr];omega)) _))) (by first | with_reducible exact boxA0 _ | exact HBC.out.keep (show Below wC.heap.size wC _ from (by repeat' (first | with_reducible exact Below.refl _ _ | with_reducible refine Below.drew ?_ | with_reducible refine Below.alloc ?_ (by first | omega | exact Nat.le_refl _ | (simp [hdr];done) | (simp [hdr];omega)) _)))) (by first | exact (fun q hq=>.inl (HPC.out q hq)) | (intro q hq;injection hq with hq;exact .inr (by omega)))).mono ?_;rintro e wM ⟨sm1,nm1,cm1,sm2,nm2,cm2,sm3,nm3,cm3,rfl,kM,QM,HBM,yM0,yM1,yM2,yM3,yM4⟩;have zM:=kM.size;(try obtain ⟨⟨b0',b1',b2',bf',b9⟩,-⟩:=boxAS HBM.out)) | fail)
  all_goals
   go_wp2_with fail
   go_meet
   first
    | with_reducible exact cutQ_new QM.out kM
    | with_reducible exact cutQ_set (boxAS HBM.out) (by omega) QM.out kM
 case rest=>
  obtain ⟨bo,q1,n1,j1,q2,n2,j2,q3,n3,j3,rfl,rfl,hbo,hx,hq,hk⟩:=hcut
  have bcc:=BC.out.below hk zz
  have BCC:=hidW bcc
  have HQ:=hidW hq
  have BW:Hid (Below w.heap.size w wc):=K1.out.trans (hk.mono (by omega))
  obtain ⟨o0,o1,o2,of,oz'⟩:=hx
  have zc:=hk.size
  have zz0:=zz
  clear CC CS m0 m1 v0 v1 v2 fs zs r0 r1 r2 fa za ba kD RB RR RP hq hk zz
  obtain ⟨m0,m1,⟨v0,v1,v2,fs,zs⟩,⟨r0,r1,r2,fa,za⟩,ba,zz⟩:=bcc
  have nb:¬ bo=w.heap.size+1+1:=by omega
  have nb':¬ w.heap.size+1+1=bo:=by omega
  by_cases h0:X.code=0
  ·obtain ⟨L1,L2,q⟩:=HQ.out h0
   obtain ⟨t1,e1,t2,e2,t3,e3,E1,E2,E3,-⟩:=q.src
   injection E1 with E1 E1b E1c
   injection E2 with E2 E2b E2c
   injection E3 with E3 E3b E3c
   subst E1 E1b E1c E2 E2b E2c E3 E3b E3c
   have Q9:=hidW q
   obtain ⟨xt,xc,xr,xk⟩:=X
   simp only at h0
   subst h0
   clear q HQ
   go_wp2
   obtain ⟨Z,hZ,bz,oz,kz⟩:=BCC.out.put (.slice q1 (doneS d k ⟨xt,xc,xr,0⟩).ths.length j1) (.slice q2 (doneS d k ⟨xt,xc,xr,0⟩).chs.length j2) (.slice q3 (doneS d k ⟨xt,xc,xr,0⟩).tr.length j3)
   refine bodyPost_ret (v:=.tuple #[.agg #[.slice q1 (doneS d k ⟨xt,xc,xr,0⟩).ths.length j1,.slice q2 (doneS d k ⟨xt,xc,xr,0⟩).chs.length j2,.slice q3 (doneS d k ⟨xt,xc,xr,0⟩).tr.length j3],.int .i64 0]) ?_ rfl ?_
   ·rw [hZ]
    simp [results,Tryz.results31,go_sem,bz.c0,bz.c1,bz.c2]
   ·rw [hZ]
    rw [← HD.out]
    first | rw [if_pos rfl] | rw [if_pos trivial]
    exact ⟨_,_,_,_,_,_,L1,L2,rfl,oz _ _ _ _ _ _ _ (Q9.out.low (by omega)),kz _ _ BW.out (by omega)⟩
  ·have h0':(X.code !=0)=true:=by simp [h0]
   have HX0:=hidW h0
   clear HQ o0 o1 o2 of oz' h0
   go_wp2_with fail
   refine (specDup_any _ s2 s3 c1 c2 c3 lo' hi' d wc (H'.out.keep (Keep.of_below BW.out hB')) (by omega) HF'.out).mono ?_
   rintro e w5 ⟨u1,u2,u3,L1,L2,rfl,ho5,hb5⟩
   obtain ⟨t1,e1,t2,e2,t3,e3,rfl,rfl,rfl,-⟩:=ho5.src
   have O5:=hidW ho5
   have bc5:=BCC.out.below hb5 zz
   have BC5:=hidW bc5
   have K5:=hidW (BW.out.trans (hb5.mono (by omega)))
   clear ho5 hb5 m0 m1 v0 v1 v2 fs zs r0 r1 r2 fa za ba zz
   obtain ⟨m0,m1,⟨v0,v1,v2,fs,zs⟩,⟨r0,r1,r2,fa,za⟩,ba,zz⟩:=bc5
   go_wp2
   obtain ⟨Z,hZ,bz,oz,kz⟩:=BC5.out.put (.slice t1 d.ths.length e1) (.slice t2 d.chs.length e2) (.slice t3 d.tr.length e3)
   refine bodyPost_ret (v:=.tuple #[.agg #[.slice t1 d.ths.length e1,.slice t2 d.chs.length e2,.slice t3 d.tr.length e3],.int .i64 X.code]) ?_ rfl ?_
   ·rw [hZ]
    simp [results,Tryz.results31,go_sem,bz.c0,bz.c1,bz.c2]
   ·rw [hZ]
    rw [← HD.out,if_neg HX0.out]
    exact ⟨_,_,_,_,_,_,L1,L2,rfl,oz _ _ _ _ _ _ _ (O5.out.low (by omega)),kz _ _ K5.out (by omega)⟩
theorem specStep_any (p1 p2 s1 s2 s3 : Option Addr) (a1 a2 c1 c2 c3 lo hi lo' hi' : Nat) (p : PD) (d : SD) (who : Int) (w : World) (h : ProgR w lo hi p1 p2 p) (h' : SrcR w lo' hi' s1 s2 s3 d) (hB : hi ≤ w.heap.size) (hB' : hi' ≤ w.heap.size) (hf : Fits p) (hf' : SFits d) :
  Calls Tryz.prog 31 #[.agg #[.slice p1 p.caps.length a1,.slice p2 p.bods.length a2],.agg #[.slice s1 d.ths.length c1,.slice s2 d.chs.length c2,.slice s3 d.tr.length c3],.int .i64 who] w (SStepQ w (stepKb p d who) (stepSb p d who)):=by
 cases hy:srcB p d with
 | false=>
  have e1:stepKb p d who=1:=by unfold stepKb;rw [hy];rfl
  have e2:stepSb p d who=⟨[],[],[]⟩:=by unfold stepSb;rw [hy];rfl
  rw [e1,e2]
  exact specStep_bad p1 p2 s1 s2 s3 a1 a2 c1 c2 c3 lo hi lo' hi' p d who w h h' hB hB' hf hf' hy
 | true=>
  have e1:stepKb p d who=stepK p d who:=by unfold stepKb;rw [hy];rfl
  have e2:stepSb p d who=stepS p d who:=by unfold stepSb;rw [hy];rfl
  rw [e1,e2]
  by_cases hw:0≤who∧who < (d.ths.length:Int)
  ·obtain ⟨k,rfl⟩:∃ k:Nat,who=(k:Int):=⟨who.toNat,by omega⟩
   obtain ⟨t,ht⟩:∃ t,d.ths[k]? =some t:=⟨_,List.getElem?_eq_getElem (by omega)⟩
   have et:thOf d k=t:=by unfold thOf;rw [List.getD_eq_getElem?_getD,ht];rfl
   by_cases hst:t.st=0
   ·have e3:stepK p d k=(outOf p d k).code:=by unfold stepK;rw [if_pos hw,Int.toNat_natCast,et,if_pos hst]
    have e4:stepS p d k=if (outOf p d k).code=0 then doneS d k (outOf p d k) else d:=by unfold stepS;rw [e3,Int.toNat_natCast]
    rw [e3,e4]
    exact specStep_run p1 p2 s1 s2 s3 a1 a2 c1 c2 c3 lo hi lo' hi' p d k t w h h' hB hB' hf hf' hy ht hst
   ·have e3:stepK p d k=3:=by unfold stepK;rw [if_pos hw,Int.toNat_natCast,et,if_neg hst]
    have e4:stepS p d k=d:=by unfold stepS;rw [e3];rfl
    rw [e3,e4]
    exact specStep_over p1 p2 s1 s2 s3 a1 a2 c1 c2 c3 lo hi lo' hi' p d k t w h h' hB hB' hf hf' hy ht hst
  ·have e3:stepK p d who=2:=by unfold stepK;rw [if_neg hw]
   have e4:stepS p d who=d:=by unfold stepS;rw [e3];rfl
   rw [e3,e4]
   exact specStep_none p1 p2 s1 s2 s3 a1 a2 c1 c2 c3 lo hi lo' hi' p d who w h h' hB hB' hf hf' hy hw
end
end Go.Proofs.YtknffngbdakblaaGreat
