/- A step of the specification: reckoning. No condition. -/
import Derived.Test.YtknffngbdakblaaGreatJG07
import Derived.Test.YtknffngbdakblaaGreatJG06
import Derived.Test.YtknffngbdakblaaGreatJG00
import Derived.Test.YtknffngbdakblaaGreatJG01
import Derived.Test.YtknffngbdakblaaGreatJG03
import Derived.Test.YtknffngbdakblaaGreatJBody
import Derived.Test.YtknffngbdakblaaGreatJG08
import Derived.Deep.DeepCutAuto
import Derived.Test.YtknffngbdakblaaGreatJG09
namespace Go.Proofs.YtknffngbdakblaaGreat
set_option linter.unusedSimpArgs false
set_option linter.unusedVariables false
set_option maxRecDepth 100000
open Go.RowKit
theorem retI {v:Value} {a b:Int} (h:a=b):Ending.returned (.tuple #[v,.int .i64 a])=.returned (.tuple #[v,.int .i64 b]):=by rw [h]
theorem wrap_is (z:Int):IntKind.i64.wrap z=wrap64 z:=by rw [IntKind.wrap_i64,wrap64]
def StepY (w:World) (base:Nat) (H:Nat→Prop) (o:Out) (d:SD) (k:Nat) (e:Ending) (w':World):Prop:=∃ s1 n1 c1 s2 n2 c2 s3 n3 c3,e=.returned (.tuple #[.agg #[.slice s1 n1 c1,.slice s2 n2 c2,.slice s3 n3 c3],.int .i64 o.code])∧(o.code=0→∃ L1 L2,OwnS w' base (.slice s1 n1 c1) (.slice s2 n2 c2) (.slice s3 n3 c3) L1 L2 (doneS d k o))∧Below base w w'∧∀ b,b < w.heap.size→¬ H b→w'.heap[b]? =w.heap[b]?
theorem set3_off {W:World} {z b:Nat} {x:Option Obj} {u0 u1 u2:Value} (hb:b≠z) (h:W.heap[b]? =x):(((W.setCell ⟨z,0,none⟩ u0).setCell ⟨z,1,none⟩ u1).setCell ⟨z,2,none⟩ u2).heap[b]? =x:=by
 rw [Below.heap_setCell _ _ _ b hb,Below.heap_setCell _ _ _ b hb,Below.heap_setCell _ _ _ b hb,h]
set_option maxHeartbeats 4000000 in
theorem sq1 (p1 p2 : Option Addr) (a1 a2 lo hi base : Nat) (p : PD) (v1 v2 v3 : Value) (L1 L2 : List (Rec × Value)) (d : SD) (k : Nat) (t : TD) (w : World) (hP : ProgR w lo hi p1 p2 p) (hB : hi ≤ base) (hO : OwnS w base v1 v2 v3 L1 L2 d) (hb : base ≤ w.heap.size) (hR : Right p d) (ht : d.ths[k]? = some t) (hst : t.st = 0) (ho : (insOf p d k).o = 1) :
  Calls Tryz.prog 54 #[.agg #[.slice p1 p.caps.length a1,.slice p2 p.bods.length a2],.agg #[v1,v2,v3],.int .i64 k] w fun e w'=>StepY w base (HitS v1 v2 v3 L1 L2) (outOf p d k) d k e w':=by
 obtain ⟨q,g1,c1,gr,cr,gb,ob,gi,oi,cb,nb,s2,s3,c2,c3,y,O⟩:=hO.open hP hB hb hR ht
 rw [O.ou]
 have hcl:=hR.pc
 have hbl:=hR.bd k O.kb
 have hpb:=hR.pb
 have hnl:=hR.nl
 have HCH:=hidW hR.cl
 have HTL:=hidW hR.tl
 have HR:=hidW hR
 obtain ⟨x,hx⟩:∃ x,insOf p d k=x:=⟨_,rfl⟩
 rw [hx] at O ho ⊢
 clear hx
 obtain ⟨e1,e2,e3,ep,hy,y1,y2,hq,nq,kl,kb,hbn,t0,t1,t2,b0,⟨x0,x1,x2,x3,x4⟩,rr,f1,fr,z1,zr,zb,zi,i1,ir,ib,ii,n1,hok,-,h4⟩:=O
 subst e1 e2 e3 ep
 rw [hbn] at hbl
 have HBN:=hidW hbn
 unfold insX Plain.insB at hok
 rw [decide_eq_true_eq] at hok
 obtain ⟨o,r,a,b,n⟩:=x
 simp only at ho hok x0 x1 x2 x3 x4
 subst ho
 obtain ⟨r',hr'⟩:∃ r':Nat,r=r':=⟨r.toNat,by omega⟩
 subst hr'
 have br0:(0:Int)≤(r':Int):=by omega
 have br1:(r':Int) < 4:=by omega
 have br2:r' < 4:=by omega
 obtain ⟨a',ha'⟩:∃ a':Nat,a=a':=⟨a.toNat,by omega⟩
 subst ha'
 have ba0:(0:Int)≤(a':Int):=by omega
 have ba1:(a':Int) < 4:=by omega
 have ba2:a' < 4:=by omega
 obtain ⟨b',hb'⟩:∃ b':Nat,b=b':=⟨b.toNat,by omega⟩
 subst hb'
 have bb0:(0:Int)≤(b':Int):=by omega
 have bb1:(b':Int) < 4:=by omega
 have bb2:b' < 4:=by omega
 obtain ⟨pc,rg,st⟩:=t
 simp only at hq hst h4 rr t0 t2
 subst hq hst
 have i0:(0:Int)≤(k:Int):=by omega
 have j1:(k:Int) < (d.ths.length:Int):=by omega
 have j2:(k:Int) < (p.bods.length:Int):=by omega
 have j3:(0:Int)≤(q:Int):=by omega
 have j4:(q:Int) < (nb:Int):=by omega
 have w1:IntKind.i64.wrap ((q:Int)+1)=(q:Int)+1:=Go.IntWalk.i64_in _ (by omega)
 obtain ⟨W,hW⟩:∃ W,(((w.alloc (.cells #[.slice p1 p.caps.length a1,.slice (some ⟨gb,ob,none⟩) p.bods.length a2] 27)).alloc (.cells #[.slice (some ⟨g1,0,none⟩) d.ths.length c1,.slice s2 d.chs.length c2,.slice s3 d.tr.length c3] 32)).alloc (.cells #[.slice none 0 0,.slice none 0 0,.slice none 0 0] 32))=W:=⟨_,rfl⟩
 obtain ⟨V,hV⟩:∃ V,W.alloc (.cells #[.int .i64 1,.int .i64 r',.int .i64 a',.int .i64 b',.int .i64 n] 85)=V:=⟨_,rfl⟩
 obtain ⟨BX,KV⟩:=bq_new hW hV
 have HW:=hidW hW
 have HV:=hidW hV
 have HBX:=hidW BX
 have HKV:=hidW KV
 have HO:=hidW hO
 have HP:=hidW hP
 have HT:=hidW ht
 have HY:=hidW hy
 have HY2:=hidW y2
 have H4:=hidW h4
 have RR:=hidW rr
 have F1:=hidW f1
 have FR:=hidW fr
 have HOK:=hidW hok
 have y0:g1 < w.heap.size+1:=by omega
 have y3:g1 < w.heap.size+1+1:=by omega
 have y4:g1 < w.heap.size+1+1+1:=by omega
 have y5:gb < w.heap.size+1:=by omega
 have y6:gb < w.heap.size+1+1:=by omega
 have y7:gi < w.heap.size+1:=by omega
 have y8:gi < w.heap.size+1+1:=by omega
 clear hW hV BX KV hO hP ht hy y1 y2 h4 rr f1 fr hok hR hbn
 go_enter Tryz.func54,Tryz.ntmps54
 go_upto_region 14 with fail
 rw [HW.out,HV.out]
 clear x0 x1 x2 x3 x4 t0 t1 t2 b0 y0 y3 y4 y5 y6 y7 y8
 obtain ⟨⟨m0,m1⟩,⟨v0,v1',v2',fs,zs⟩,⟨w0,w1',w2',fa,za⟩,x0,x1,x2,x3,x4,bs,ba,zz⟩:=HBX.out
 have zv1:w.heap.size < V.heap.size:=by omega
 have zv2:g1 < V.heap.size:=by omega
 have zv3:gr < V.heap.size:=by omega
 have ng00:¬ gr=w.heap.size:=by omega
 have nh00:¬ w.heap.size=gr:=by omega
 have ng01:¬ gr=w.heap.size+1:=by omega
 have nh01:¬ w.heap.size+1=gr:=by omega
 have ng02:¬ gr=w.heap.size+1+1:=by omega
 have nh02:¬ w.heap.size+1+1=gr:=by omega
 have ng03:¬ gr=w.heap.size+1+1+1:=by omega
 have nh03:¬ w.heap.size+1+1+1=gr:=by omega
 have ng10:¬ g1=w.heap.size:=by omega
 have nh10:¬ w.heap.size=g1:=by omega
 have ng11:¬ g1=w.heap.size+1:=by omega
 have nh11:¬ w.heap.size+1=g1:=by omega
 have ng12:¬ g1=w.heap.size+1+1:=by omega
 have nh12:¬ w.heap.size+1+1=g1:=by omega
 have ng13:¬ g1=w.heap.size+1+1+1:=by omega
 have nh13:¬ w.heap.size+1+1+1=g1:=by omega
 obtain ⟨vr,hvr⟩:∃ v,rg.getD r' 0=v:=⟨_,rfl⟩
 have HVr:=hidW hvr
 clear hvr
 have lr:V.cell? ⟨gr,r',none⟩=some (.int .i64 vr):=by rw [← HVr.out];exact (HKV.out.cell (p:=⟨gr,r',none⟩) zr).trans (RR.out r' (by omega))
 have ff:∀ j,V.frozen? ⟨gr,j,none⟩=false:=fun j=>(HKV.out.frozen (p:=⟨gr,j,none⟩) zr).trans (FR.out j)
 go_wp2_with fail
 obtain ⟨L9,-,o9,-⟩:=(HO.out.keep (w':=V) (fun b _ hb=>HKV.out.block b hb)).setR HY.out HT.out HY2.out H4.out r' (n)
 have O9:=hidW o9
 have T9:=hidW (show (d.ths.set k ⟨q,rg.set r' (n),0⟩)[k]? =some ⟨q,rg.set r' (n),0⟩ from List.getElem?_set_self kl)
 have K9:Hid (∀ b,w.heap.size≤b→b < V.heap.size→(V.setCell ⟨gr,r',none⟩ (.int .i64 (n))).heap[b]? =V.heap[b]?):=fun b h1 h2=>(Below.heap_setCell V ⟨gr,r',none⟩ _ b (by show b≠gr;omega))
 have B9:Hid (Below base w (V.setCell ⟨gr,r',none⟩ (.int .i64 (n)))):=(HKV.out.mono hb).setCell (p:=⟨gr,r',none⟩) ir _
 have Z9:V.heap.size≤(V.setCell ⟨gr,r',none⟩ (.int .i64 (n))).heap.size:=by simp
 have F9:Hid (∀ b,b < w.heap.size→¬ HitS (.slice (some ⟨g1,0,none⟩) d.ths.length c1) (.slice s2 d.chs.length c2) (.slice s3 d.tr.length c3) L1 L2 b→(V.setCell ⟨gr,r',none⟩ (.int .i64 (n))).heap[b]? =w.heap[b]?):=fun b h1 h2=>(Below.heap_setCell V ⟨gr,r',none⟩ _ b (by show b≠gr;intro e;subst e;exact h2 (.inl (.inr ⟨k,y,HY.out,by rw [HY2.out];rfl⟩)))).trans (HKV.out.block b h1)
 clear o9
 have GO:=hidW (l4Go_any p1 (some ⟨gb,ob,none⟩) a1 a2 lo hi base p _ _ _ _ _ _ k ⟨q,rg.set r' n,0⟩ (q+1) _ (ProgR.keep' HP.out (fun b h1 h2=>B9.out.block b (by omega))) hB O9.out (by have:=Z9;have:=HKV.out.size;omega) T9.out rfl kb hpb (by rw [HBN.out];exact hbl))
 refine Calls.mono GO.out ?_
 rintro e w2 ⟨L1',rfl,hO2,hb2,hf2⟩
 have O2:=hidW hO2
 have B2:=hidW (B9.out.trans hb2)
 have F2:Hid (∀ b,b < w.heap.size→¬ HitS _ _ _ L1 L2 b→w2.heap[b]? =w.heap[b]?):=fun b h1 h2=>(hf2 b (by have:=Z9;have:=HKV.out.size;omega) (fun e=>h2 (.inl (.inl e)))).trans (F9.out b h1 h2)
 have HB2:=hidW (HBX.out.keep (V':=w2) (fun b h1 h2=>(hf2 b (by have:=Z9;omega) (fun e=>by have e':g1=b:=Option.some.inj e;omega)).trans (K9.out b h1 h2)) (by have:=hb2.size;have:=Z9;omega))
 have z2:=hb2.size
 clear m0 m1 v0 v1' v2' fs zs w0 w1' w2' fa za x0 x1 x2 x3 x4 bs ba zz zv1 zv2 zv3 ff GO hO2 hb2 hf2
 obtain ⟨⟨m0,m1⟩,⟨v0,v1',v2',fs,zs⟩,⟨w0,w1',w2',fa,za⟩,x0,x1,x2,x3,x4,bs,ba,zz⟩:=HB2.out
 go_wp2
 refine bodyPost_ret (v:=.tuple #[.agg #[.slice (some ⟨g1,0,none⟩) d.ths.length c1,.slice s2 d.chs.length c2,.slice s3 d.tr.length c3],.int .i64 0]) (by simp [results,Tryz.results54,go_sem,w0,w1',w2',fa]) rfl ?_
 refine ⟨_,_,_,_,_,_,_,_,_,rfl,fun _=>⟨L1',L2,?_⟩,?_,fun b h1 h2=>set3_off (by omega) (F2.out b h1 h2)⟩
 ·have q2:=O2.out
  rw [HBN.out] at q2
  have E:(⟨(d.ths.set k ⟨q,rg.set r' (n),0⟩).set k (moveT ⟨q,rg.set r' (n),0⟩ nb (rg.set r' (n)) (q+1)),d.chs,d.tr⟩:SD)=doneS d k (stepO nb ⟨q,rg,0⟩ ⟨1,r',a',b',n⟩ d.chs d.tr k):=by simp [doneS,stepO,putN,moveT,List.set_set]
  rw [E] at q2
  exact ((q2.offB ba).offB ba.set).offB ba.set.set
 ·refine Below.setCell (Below.setCell (Below.setCell B2.out ?_ _) ?_ _) ?_ _<;>(show base≤w.heap.size+1+1;omega)
set_option maxHeartbeats 4000000 in
theorem sq2 (p1 p2 : Option Addr) (a1 a2 lo hi base : Nat) (p : PD) (v1 v2 v3 : Value) (L1 L2 : List (Rec × Value)) (d : SD) (k : Nat) (t : TD) (w : World) (hP : ProgR w lo hi p1 p2 p) (hB : hi ≤ base) (hO : OwnS w base v1 v2 v3 L1 L2 d) (hb : base ≤ w.heap.size) (hR : Right p d) (ht : d.ths[k]? = some t) (hst : t.st = 0) (ho : (insOf p d k).o = 2) :
  Calls Tryz.prog 54 #[.agg #[.slice p1 p.caps.length a1,.slice p2 p.bods.length a2],.agg #[v1,v2,v3],.int .i64 k] w fun e w'=>StepY w base (HitS v1 v2 v3 L1 L2) (outOf p d k) d k e w':=by
 obtain ⟨q,g1,c1,gr,cr,gb,ob,gi,oi,cb,nb,s2,s3,c2,c3,y,O⟩:=hO.open hP hB hb hR ht
 rw [O.ou]
 have hcl:=hR.pc
 have hbl:=hR.bd k O.kb
 have hpb:=hR.pb
 have hnl:=hR.nl
 have HCH:=hidW hR.cl
 have HTL:=hidW hR.tl
 have HR:=hidW hR
 obtain ⟨x,hx⟩:∃ x,insOf p d k=x:=⟨_,rfl⟩
 rw [hx] at O ho ⊢
 clear hx
 obtain ⟨e1,e2,e3,ep,hy,y1,y2,hq,nq,kl,kb,hbn,t0,t1,t2,b0,⟨x0,x1,x2,x3,x4⟩,rr,f1,fr,z1,zr,zb,zi,i1,ir,ib,ii,n1,hok,-,h4⟩:=O
 subst e1 e2 e3 ep
 rw [hbn] at hbl
 have HBN:=hidW hbn
 unfold insX Plain.insB at hok
 rw [decide_eq_true_eq] at hok
 obtain ⟨o,r,a,b,n⟩:=x
 simp only at ho hok x0 x1 x2 x3 x4
 subst ho
 obtain ⟨r',hr'⟩:∃ r':Nat,r=r':=⟨r.toNat,by omega⟩
 subst hr'
 have br0:(0:Int)≤(r':Int):=by omega
 have br1:(r':Int) < 4:=by omega
 have br2:r' < 4:=by omega
 obtain ⟨a',ha'⟩:∃ a':Nat,a=a':=⟨a.toNat,by omega⟩
 subst ha'
 have ba0:(0:Int)≤(a':Int):=by omega
 have ba1:(a':Int) < 4:=by omega
 have ba2:a' < 4:=by omega
 obtain ⟨b',hb'⟩:∃ b':Nat,b=b':=⟨b.toNat,by omega⟩
 subst hb'
 have bb0:(0:Int)≤(b':Int):=by omega
 have bb1:(b':Int) < 4:=by omega
 have bb2:b' < 4:=by omega
 obtain ⟨pc,rg,st⟩:=t
 simp only at hq hst h4 rr t0 t2
 subst hq hst
 have i0:(0:Int)≤(k:Int):=by omega
 have j1:(k:Int) < (d.ths.length:Int):=by omega
 have j2:(k:Int) < (p.bods.length:Int):=by omega
 have j3:(0:Int)≤(q:Int):=by omega
 have j4:(q:Int) < (nb:Int):=by omega
 have w1:IntKind.i64.wrap ((q:Int)+1)=(q:Int)+1:=Go.IntWalk.i64_in _ (by omega)
 obtain ⟨W,hW⟩:∃ W,(((w.alloc (.cells #[.slice p1 p.caps.length a1,.slice (some ⟨gb,ob,none⟩) p.bods.length a2] 27)).alloc (.cells #[.slice (some ⟨g1,0,none⟩) d.ths.length c1,.slice s2 d.chs.length c2,.slice s3 d.tr.length c3] 32)).alloc (.cells #[.slice none 0 0,.slice none 0 0,.slice none 0 0] 32))=W:=⟨_,rfl⟩
 obtain ⟨V,hV⟩:∃ V,W.alloc (.cells #[.int .i64 2,.int .i64 r',.int .i64 a',.int .i64 b',.int .i64 n] 85)=V:=⟨_,rfl⟩
 obtain ⟨BX,KV⟩:=bq_new hW hV
 have HW:=hidW hW
 have HV:=hidW hV
 have HBX:=hidW BX
 have HKV:=hidW KV
 have HO:=hidW hO
 have HP:=hidW hP
 have HT:=hidW ht
 have HY:=hidW hy
 have HY2:=hidW y2
 have H4:=hidW h4
 have RR:=hidW rr
 have F1:=hidW f1
 have FR:=hidW fr
 have HOK:=hidW hok
 have y0:g1 < w.heap.size+1:=by omega
 have y3:g1 < w.heap.size+1+1:=by omega
 have y4:g1 < w.heap.size+1+1+1:=by omega
 have y5:gb < w.heap.size+1:=by omega
 have y6:gb < w.heap.size+1+1:=by omega
 have y7:gi < w.heap.size+1:=by omega
 have y8:gi < w.heap.size+1+1:=by omega
 clear hW hV BX KV hO hP ht hy y1 y2 h4 rr f1 fr hok hR hbn
 go_enter Tryz.func54,Tryz.ntmps54
 go_upto_region 14 with fail
 rw [HW.out,HV.out]
 clear x0 x1 x2 x3 x4 t0 t1 t2 b0 y0 y3 y4 y5 y6 y7 y8
 obtain ⟨⟨m0,m1⟩,⟨v0,v1',v2',fs,zs⟩,⟨w0,w1',w2',fa,za⟩,x0,x1,x2,x3,x4,bs,ba,zz⟩:=HBX.out
 have zv1:w.heap.size < V.heap.size:=by omega
 have zv2:g1 < V.heap.size:=by omega
 have zv3:gr < V.heap.size:=by omega
 have ng00:¬ gr=w.heap.size:=by omega
 have nh00:¬ w.heap.size=gr:=by omega
 have ng01:¬ gr=w.heap.size+1:=by omega
 have nh01:¬ w.heap.size+1=gr:=by omega
 have ng02:¬ gr=w.heap.size+1+1:=by omega
 have nh02:¬ w.heap.size+1+1=gr:=by omega
 have ng03:¬ gr=w.heap.size+1+1+1:=by omega
 have nh03:¬ w.heap.size+1+1+1=gr:=by omega
 have ng10:¬ g1=w.heap.size:=by omega
 have nh10:¬ w.heap.size=g1:=by omega
 have ng11:¬ g1=w.heap.size+1:=by omega
 have nh11:¬ w.heap.size+1=g1:=by omega
 have ng12:¬ g1=w.heap.size+1+1:=by omega
 have nh12:¬ w.heap.size+1+1=g1:=by omega
 have ng13:¬ g1=w.heap.size+1+1+1:=by omega
 have nh13:¬ w.heap.size+1+1+1=g1:=by omega
 obtain ⟨vr,hvr⟩:∃ v,rg.getD r' 0=v:=⟨_,rfl⟩
 have HVr:=hidW hvr
 clear hvr
 have lr:V.cell? ⟨gr,r',none⟩=some (.int .i64 vr):=by rw [← HVr.out];exact (HKV.out.cell (p:=⟨gr,r',none⟩) zr).trans (RR.out r' (by omega))
 obtain ⟨va,hva⟩:∃ v,rg.getD a' 0=v:=⟨_,rfl⟩
 have HVa:=hidW hva
 clear hva
 have la:V.cell? ⟨gr,a',none⟩=some (.int .i64 va):=by rw [← HVa.out];exact (HKV.out.cell (p:=⟨gr,a',none⟩) zr).trans (RR.out a' (by omega))
 obtain ⟨vb,hvb⟩:∃ v,rg.getD b' 0=v:=⟨_,rfl⟩
 have HVb:=hidW hvb
 clear hvb
 have lb:V.cell? ⟨gr,b',none⟩=some (.int .i64 vb):=by rw [← HVb.out];exact (HKV.out.cell (p:=⟨gr,b',none⟩) zr).trans (RR.out b' (by omega))
 have ff:∀ j,V.frozen? ⟨gr,j,none⟩=false:=fun j=>(HKV.out.frozen (p:=⟨gr,j,none⟩) zr).trans (FR.out j)
 go_wp2_with fail
 have hne:=ext_ne V
 have u1:=Ext.fit x1 zz
 have u2:=Ext.fit x2 zz
 have u3:=Ext.fit x3 zz
 have ua:=Ext.fit la zv3
 have ub:=Ext.fit lb zv3
 refine regionLast V _ rfl (by kernel_rfl) (by kernel_rfl) (by kernel_rfl) rfl rfl ?_
 dsimp only [List.dropLast,List.cons_append,List.nil_append,idle]
 repeat (go_big_quiet_step (fail))
 refine wpQuiet_nil ?_
 clear hne u1 u2 u3 ua ub
 rintro w3 ⟨X3,rfl⟩
 obtain ⟨V2,hX3⟩:∃ V2,X3.w=V2:=⟨_,rfl⟩
 have hb3:=X3.b
 rw [hX3] at hb3 ⊢
 have HBX:=hidW (HBX.out.keep (fun b _ h2=>hb3.block b h2) hb3.size)
 have HKV:=hidW (HKV.out.trans (hb3.mono (by omega)))
 clear hb3 hX3 X3 m0 m1 v0 v1' v2' fs zs w0 w1' w2' fa za x0 x1 x2 x3 x4 bs ba zz zv1 zv2 zv3 ff lr la lb ng00 nh00 ng01 nh01 ng02 nh02 ng03 nh03 ng10 nh10 ng11 nh11 ng12 nh12 ng13 nh13
 obtain ⟨⟨m0,m1⟩,⟨v0,v1',v2',fs,zs⟩,⟨w0,w1',w2',fa,za⟩,x0,x1,x2,x3,x4,bs,ba,zz⟩:=HBX.out
 have zv1:w.heap.size < V2.heap.size:=by omega
 have zv2:g1 < V2.heap.size:=by omega
 have zv3:gr < V2.heap.size:=by omega
 have ng00:¬ gr=w.heap.size:=by omega
 have nh00:¬ w.heap.size=gr:=by omega
 have ng01:¬ gr=w.heap.size+1:=by omega
 have nh01:¬ w.heap.size+1=gr:=by omega
 have ng02:¬ gr=w.heap.size+1+1:=by omega
 have nh02:¬ w.heap.size+1+1=gr:=by omega
 have ng03:¬ gr=w.heap.size+1+1+1:=by omega
 have nh03:¬ w.heap.size+1+1+1=gr:=by omega
 have ng10:¬ g1=w.heap.size:=by omega
 have nh10:¬ w.heap.size=g1:=by omega
 have ng11:¬ g1=w.heap.size+1:=by omega
 have nh11:¬ w.heap.size+1=g1:=by omega
 have ng12:¬ g1=w.heap.size+1+1:=by omega
 have nh12:¬ w.heap.size+1+1=g1:=by omega
 have ng13:¬ g1=w.heap.size+1+1+1:=by omega
 have nh13:¬ w.heap.size+1+1+1=g1:=by omega
 have ff:∀ j,V2.frozen? ⟨gr,j,none⟩=false:=fun j=>(HKV.out.frozen (p:=⟨gr,j,none⟩) zr).trans (FR.out j)
 have lr:V2.cell? ⟨gr,r',none⟩=some (.int .i64 vr):=by rw [← HVr.out];exact (HKV.out.cell (p:=⟨gr,r',none⟩) zr).trans (RR.out r' (by omega))
 have la:V2.cell? ⟨gr,a',none⟩=some (.int .i64 va):=by rw [← HVa.out];exact (HKV.out.cell (p:=⟨gr,a',none⟩) zr).trans (RR.out a' (by omega))
 have lb:V2.cell? ⟨gr,b',none⟩=some (.int .i64 vb):=by rw [← HVb.out];exact (HKV.out.cell (p:=⟨gr,b',none⟩) zr).trans (RR.out b' (by omega))
 go_wp2_with fail
 obtain ⟨L9,-,o9,-⟩:=(HO.out.keep (w':=V2) (fun b _ hb=>HKV.out.block b hb)).setR HY.out HT.out HY2.out H4.out r' (wrap64 (va+vb))
 have O9:=hidW o9
 have T9:=hidW (show (d.ths.set k ⟨q,rg.set r' (wrap64 (va+vb)),0⟩)[k]? =some ⟨q,rg.set r' (wrap64 (va+vb)),0⟩ from List.getElem?_set_self kl)
 have K9:Hid (∀ b,w.heap.size≤b→b < V2.heap.size→(V2.setCell ⟨gr,r',none⟩ (.int .i64 (wrap64 (va+vb)))).heap[b]? =V2.heap[b]?):=fun b h1 h2=>(Below.heap_setCell V2 ⟨gr,r',none⟩ _ b (by show b≠gr;omega))
 have B9:Hid (Below base w (V2.setCell ⟨gr,r',none⟩ (.int .i64 (wrap64 (va+vb))))):=(HKV.out.mono hb).setCell (p:=⟨gr,r',none⟩) ir _
 have Z9:V2.heap.size≤(V2.setCell ⟨gr,r',none⟩ (.int .i64 (wrap64 (va+vb)))).heap.size:=by simp
 have F9:Hid (∀ b,b < w.heap.size→¬ HitS (.slice (some ⟨g1,0,none⟩) d.ths.length c1) (.slice s2 d.chs.length c2) (.slice s3 d.tr.length c3) L1 L2 b→(V2.setCell ⟨gr,r',none⟩ (.int .i64 (wrap64 (va+vb)))).heap[b]? =w.heap[b]?):=fun b h1 h2=>(Below.heap_setCell V2 ⟨gr,r',none⟩ _ b (by show b≠gr;intro e;subst e;exact h2 (.inl (.inr ⟨k,y,HY.out,by rw [HY2.out];rfl⟩)))).trans (HKV.out.block b h1)
 clear o9
 have GO:=hidW (l4Go_any p1 (some ⟨gb,ob,none⟩) a1 a2 lo hi base p _ _ _ _ _ _ k ⟨q,rg.set r' (wrap64 (va+vb)),0⟩ (q+1) _ (ProgR.keep' HP.out (fun b h1 h2=>B9.out.block b (by omega))) hB O9.out (by have:=Z9;have:=HKV.out.size;omega) T9.out rfl kb hpb (by rw [HBN.out];exact hbl))
 refine Calls.mono GO.out ?_
 rintro e w2 ⟨L1',rfl,hO2,hb2,hf2⟩
 have O2:=hidW hO2
 have B2:=hidW (B9.out.trans hb2)
 have F2:Hid (∀ b,b < w.heap.size→¬ HitS _ _ _ L1 L2 b→w2.heap[b]? =w.heap[b]?):=fun b h1 h2=>(hf2 b (by have:=Z9;have:=HKV.out.size;omega) (fun e=>h2 (.inl (.inl e)))).trans (F9.out b h1 h2)
 have HB2:=hidW (HBX.out.keep (V':=w2) (fun b h1 h2=>(hf2 b (by have:=Z9;omega) (fun e=>by have e':g1=b:=Option.some.inj e;omega)).trans (K9.out b h1 h2)) (by have:=hb2.size;have:=Z9;omega))
 have z2:=hb2.size
 clear m0 m1 v0 v1' v2' fs zs w0 w1' w2' fa za x0 x1 x2 x3 x4 bs ba zz zv1 zv2 zv3 ff GO hO2 hb2 hf2
 obtain ⟨⟨m0,m1⟩,⟨v0,v1',v2',fs,zs⟩,⟨w0,w1',w2',fa,za⟩,x0,x1,x2,x3,x4,bs,ba,zz⟩:=HB2.out
 go_wp2
 refine bodyPost_ret (v:=.tuple #[.agg #[.slice (some ⟨g1,0,none⟩) d.ths.length c1,.slice s2 d.chs.length c2,.slice s3 d.tr.length c3],.int .i64 0]) (by simp [results,Tryz.results54,go_sem,w0,w1',w2',fa]) rfl ?_
 refine ⟨_,_,_,_,_,_,_,_,_,rfl,fun _=>⟨L1',L2,?_⟩,?_,fun b h1 h2=>set3_off (by omega) (F2.out b h1 h2)⟩
 ·have q2:=O2.out
  rw [HBN.out] at q2
  have E:(⟨(d.ths.set k ⟨q,rg.set r' (wrap64 (va+vb)),0⟩).set k (moveT ⟨q,rg.set r' (wrap64 (va+vb)),0⟩ nb (rg.set r' (wrap64 (va+vb))) (q+1)),d.chs,d.tr⟩:SD)=doneS d k (stepO nb ⟨q,rg,0⟩ ⟨2,r',a',b',n⟩ d.chs d.tr k):=by rw [← HVa.out,← HVb.out];simp [doneS,stepO,putN,regN,moveT,List.set_set,wrap_is]
  rw [E] at q2
  exact ((q2.offB ba).offB ba.set).offB ba.set.set
 ·refine Below.setCell (Below.setCell (Below.setCell B2.out ?_ _) ?_ _) ?_ _<;>(show base≤w.heap.size+1+1;omega)
set_option maxHeartbeats 4000000 in
theorem sq3 (p1 p2 : Option Addr) (a1 a2 lo hi base : Nat) (p : PD) (v1 v2 v3 : Value) (L1 L2 : List (Rec × Value)) (d : SD) (k : Nat) (t : TD) (w : World) (hP : ProgR w lo hi p1 p2 p) (hB : hi ≤ base) (hO : OwnS w base v1 v2 v3 L1 L2 d) (hb : base ≤ w.heap.size) (hR : Right p d) (ht : d.ths[k]? = some t) (hst : t.st = 0) (ho : (insOf p d k).o = 3) :
  Calls Tryz.prog 54 #[.agg #[.slice p1 p.caps.length a1,.slice p2 p.bods.length a2],.agg #[v1,v2,v3],.int .i64 k] w fun e w'=>StepY w base (HitS v1 v2 v3 L1 L2) (outOf p d k) d k e w':=by
 obtain ⟨q,g1,c1,gr,cr,gb,ob,gi,oi,cb,nb,s2,s3,c2,c3,y,O⟩:=hO.open hP hB hb hR ht
 rw [O.ou]
 have hcl:=hR.pc
 have hbl:=hR.bd k O.kb
 have hpb:=hR.pb
 have hnl:=hR.nl
 have HCH:=hidW hR.cl
 have HTL:=hidW hR.tl
 have HR:=hidW hR
 obtain ⟨x,hx⟩:∃ x,insOf p d k=x:=⟨_,rfl⟩
 rw [hx] at O ho ⊢
 clear hx
 obtain ⟨e1,e2,e3,ep,hy,y1,y2,hq,nq,kl,kb,hbn,t0,t1,t2,b0,⟨x0,x1,x2,x3,x4⟩,rr,f1,fr,z1,zr,zb,zi,i1,ir,ib,ii,n1,hok,-,h4⟩:=O
 subst e1 e2 e3 ep
 rw [hbn] at hbl
 have HBN:=hidW hbn
 unfold insX Plain.insB at hok
 rw [decide_eq_true_eq] at hok
 obtain ⟨o,r,a,b,n⟩:=x
 simp only at ho hok x0 x1 x2 x3 x4
 subst ho
 obtain ⟨r',hr'⟩:∃ r':Nat,r=r':=⟨r.toNat,by omega⟩
 subst hr'
 have br0:(0:Int)≤(r':Int):=by omega
 have br1:(r':Int) < 4:=by omega
 have br2:r' < 4:=by omega
 obtain ⟨a',ha'⟩:∃ a':Nat,a=a':=⟨a.toNat,by omega⟩
 subst ha'
 have ba0:(0:Int)≤(a':Int):=by omega
 have ba1:(a':Int) < 4:=by omega
 have ba2:a' < 4:=by omega
 obtain ⟨b',hb'⟩:∃ b':Nat,b=b':=⟨b.toNat,by omega⟩
 subst hb'
 have bb0:(0:Int)≤(b':Int):=by omega
 have bb1:(b':Int) < 4:=by omega
 have bb2:b' < 4:=by omega
 obtain ⟨pc,rg,st⟩:=t
 simp only at hq hst h4 rr t0 t2
 subst hq hst
 have i0:(0:Int)≤(k:Int):=by omega
 have j1:(k:Int) < (d.ths.length:Int):=by omega
 have j2:(k:Int) < (p.bods.length:Int):=by omega
 have j3:(0:Int)≤(q:Int):=by omega
 have j4:(q:Int) < (nb:Int):=by omega
 have w1:IntKind.i64.wrap ((q:Int)+1)=(q:Int)+1:=Go.IntWalk.i64_in _ (by omega)
 obtain ⟨W,hW⟩:∃ W,(((w.alloc (.cells #[.slice p1 p.caps.length a1,.slice (some ⟨gb,ob,none⟩) p.bods.length a2] 27)).alloc (.cells #[.slice (some ⟨g1,0,none⟩) d.ths.length c1,.slice s2 d.chs.length c2,.slice s3 d.tr.length c3] 32)).alloc (.cells #[.slice none 0 0,.slice none 0 0,.slice none 0 0] 32))=W:=⟨_,rfl⟩
 obtain ⟨V,hV⟩:∃ V,W.alloc (.cells #[.int .i64 3,.int .i64 r',.int .i64 a',.int .i64 b',.int .i64 n] 85)=V:=⟨_,rfl⟩
 obtain ⟨BX,KV⟩:=bq_new hW hV
 have HW:=hidW hW
 have HV:=hidW hV
 have HBX:=hidW BX
 have HKV:=hidW KV
 have HO:=hidW hO
 have HP:=hidW hP
 have HT:=hidW ht
 have HY:=hidW hy
 have HY2:=hidW y2
 have H4:=hidW h4
 have RR:=hidW rr
 have F1:=hidW f1
 have FR:=hidW fr
 have HOK:=hidW hok
 have y0:g1 < w.heap.size+1:=by omega
 have y3:g1 < w.heap.size+1+1:=by omega
 have y4:g1 < w.heap.size+1+1+1:=by omega
 have y5:gb < w.heap.size+1:=by omega
 have y6:gb < w.heap.size+1+1:=by omega
 have y7:gi < w.heap.size+1:=by omega
 have y8:gi < w.heap.size+1+1:=by omega
 clear hW hV BX KV hO hP ht hy y1 y2 h4 rr f1 fr hok hR hbn
 go_enter Tryz.func54,Tryz.ntmps54
 go_upto_region 14 with fail
 rw [HW.out,HV.out]
 clear x0 x1 x2 x3 x4 t0 t1 t2 b0 y0 y3 y4 y5 y6 y7 y8
 obtain ⟨⟨m0,m1⟩,⟨v0,v1',v2',fs,zs⟩,⟨w0,w1',w2',fa,za⟩,x0,x1,x2,x3,x4,bs,ba,zz⟩:=HBX.out
 have zv1:w.heap.size < V.heap.size:=by omega
 have zv2:g1 < V.heap.size:=by omega
 have zv3:gr < V.heap.size:=by omega
 have ng00:¬ gr=w.heap.size:=by omega
 have nh00:¬ w.heap.size=gr:=by omega
 have ng01:¬ gr=w.heap.size+1:=by omega
 have nh01:¬ w.heap.size+1=gr:=by omega
 have ng02:¬ gr=w.heap.size+1+1:=by omega
 have nh02:¬ w.heap.size+1+1=gr:=by omega
 have ng03:¬ gr=w.heap.size+1+1+1:=by omega
 have nh03:¬ w.heap.size+1+1+1=gr:=by omega
 have ng10:¬ g1=w.heap.size:=by omega
 have nh10:¬ w.heap.size=g1:=by omega
 have ng11:¬ g1=w.heap.size+1:=by omega
 have nh11:¬ w.heap.size+1=g1:=by omega
 have ng12:¬ g1=w.heap.size+1+1:=by omega
 have nh12:¬ w.heap.size+1+1=g1:=by omega
 have ng13:¬ g1=w.heap.size+1+1+1:=by omega
 have nh13:¬ w.heap.size+1+1+1=g1:=by omega
 obtain ⟨vr,hvr⟩:∃ v,rg.getD r' 0=v:=⟨_,rfl⟩
 have HVr:=hidW hvr
 clear hvr
 have lr:V.cell? ⟨gr,r',none⟩=some (.int .i64 vr):=by rw [← HVr.out];exact (HKV.out.cell (p:=⟨gr,r',none⟩) zr).trans (RR.out r' (by omega))
 obtain ⟨va,hva⟩:∃ v,rg.getD a' 0=v:=⟨_,rfl⟩
 have HVa:=hidW hva
 clear hva
 have la:V.cell? ⟨gr,a',none⟩=some (.int .i64 va):=by rw [← HVa.out];exact (HKV.out.cell (p:=⟨gr,a',none⟩) zr).trans (RR.out a' (by omega))
 obtain ⟨vb,hvb⟩:∃ v,rg.getD b' 0=v:=⟨_,rfl⟩
 have HVb:=hidW hvb
 clear hvb
 have lb:V.cell? ⟨gr,b',none⟩=some (.int .i64 vb):=by rw [← HVb.out];exact (HKV.out.cell (p:=⟨gr,b',none⟩) zr).trans (RR.out b' (by omega))
 have ff:∀ j,V.frozen? ⟨gr,j,none⟩=false:=fun j=>(HKV.out.frozen (p:=⟨gr,j,none⟩) zr).trans (FR.out j)
 go_wp2_with fail
 have hne:=ext_ne V
 have u1:=Ext.fit x1 zz
 have u2:=Ext.fit x2 zz
 have u3:=Ext.fit x3 zz
 have ua:=Ext.fit la zv3
 have ub:=Ext.fit lb zv3
 refine regionLast V _ rfl (by kernel_rfl) (by kernel_rfl) (by kernel_rfl) rfl rfl ?_
 dsimp only [List.dropLast,List.cons_append,List.nil_append,idle]
 repeat (go_big_quiet_step (fail))
 refine wpQuiet_nil ?_
 clear hne u1 u2 u3 ua ub
 rintro w3 ⟨X3,rfl⟩
 obtain ⟨V2,hX3⟩:∃ V2,X3.w=V2:=⟨_,rfl⟩
 have hb3:=X3.b
 rw [hX3] at hb3 ⊢
 have HBX:=hidW (HBX.out.keep (fun b _ h2=>hb3.block b h2) hb3.size)
 have HKV:=hidW (HKV.out.trans (hb3.mono (by omega)))
 clear hb3 hX3 X3 m0 m1 v0 v1' v2' fs zs w0 w1' w2' fa za x0 x1 x2 x3 x4 bs ba zz zv1 zv2 zv3 ff lr la lb ng00 nh00 ng01 nh01 ng02 nh02 ng03 nh03 ng10 nh10 ng11 nh11 ng12 nh12 ng13 nh13
 obtain ⟨⟨m0,m1⟩,⟨v0,v1',v2',fs,zs⟩,⟨w0,w1',w2',fa,za⟩,x0,x1,x2,x3,x4,bs,ba,zz⟩:=HBX.out
 have zv1:w.heap.size < V2.heap.size:=by omega
 have zv2:g1 < V2.heap.size:=by omega
 have zv3:gr < V2.heap.size:=by omega
 have ng00:¬ gr=w.heap.size:=by omega
 have nh00:¬ w.heap.size=gr:=by omega
 have ng01:¬ gr=w.heap.size+1:=by omega
 have nh01:¬ w.heap.size+1=gr:=by omega
 have ng02:¬ gr=w.heap.size+1+1:=by omega
 have nh02:¬ w.heap.size+1+1=gr:=by omega
 have ng03:¬ gr=w.heap.size+1+1+1:=by omega
 have nh03:¬ w.heap.size+1+1+1=gr:=by omega
 have ng10:¬ g1=w.heap.size:=by omega
 have nh10:¬ w.heap.size=g1:=by omega
 have ng11:¬ g1=w.heap.size+1:=by omega
 have nh11:¬ w.heap.size+1=g1:=by omega
 have ng12:¬ g1=w.heap.size+1+1:=by omega
 have nh12:¬ w.heap.size+1+1=g1:=by omega
 have ng13:¬ g1=w.heap.size+1+1+1:=by omega
 have nh13:¬ w.heap.size+1+1+1=g1:=by omega
 have ff:∀ j,V2.frozen? ⟨gr,j,none⟩=false:=fun j=>(HKV.out.frozen (p:=⟨gr,j,none⟩) zr).trans (FR.out j)
 have lr:V2.cell? ⟨gr,r',none⟩=some (.int .i64 vr):=by rw [← HVr.out];exact (HKV.out.cell (p:=⟨gr,r',none⟩) zr).trans (RR.out r' (by omega))
 have la:V2.cell? ⟨gr,a',none⟩=some (.int .i64 va):=by rw [← HVa.out];exact (HKV.out.cell (p:=⟨gr,a',none⟩) zr).trans (RR.out a' (by omega))
 have lb:V2.cell? ⟨gr,b',none⟩=some (.int .i64 vb):=by rw [← HVb.out];exact (HKV.out.cell (p:=⟨gr,b',none⟩) zr).trans (RR.out b' (by omega))
 go_wp2_with fail
 obtain ⟨L9,-,o9,-⟩:=(HO.out.keep (w':=V2) (fun b _ hb=>HKV.out.block b hb)).setR HY.out HT.out HY2.out H4.out r' (wrap64 (va - vb))
 have O9:=hidW o9
 have T9:=hidW (show (d.ths.set k ⟨q,rg.set r' (wrap64 (va - vb)),0⟩)[k]? =some ⟨q,rg.set r' (wrap64 (va - vb)),0⟩ from List.getElem?_set_self kl)
 have K9:Hid (∀ b,w.heap.size≤b→b < V2.heap.size→(V2.setCell ⟨gr,r',none⟩ (.int .i64 (wrap64 (va - vb)))).heap[b]? =V2.heap[b]?):=fun b h1 h2=>(Below.heap_setCell V2 ⟨gr,r',none⟩ _ b (by show b≠gr;omega))
 have B9:Hid (Below base w (V2.setCell ⟨gr,r',none⟩ (.int .i64 (wrap64 (va - vb))))):=(HKV.out.mono hb).setCell (p:=⟨gr,r',none⟩) ir _
 have Z9:V2.heap.size≤(V2.setCell ⟨gr,r',none⟩ (.int .i64 (wrap64 (va - vb)))).heap.size:=by simp
 have F9:Hid (∀ b,b < w.heap.size→¬ HitS (.slice (some ⟨g1,0,none⟩) d.ths.length c1) (.slice s2 d.chs.length c2) (.slice s3 d.tr.length c3) L1 L2 b→(V2.setCell ⟨gr,r',none⟩ (.int .i64 (wrap64 (va - vb)))).heap[b]? =w.heap[b]?):=fun b h1 h2=>(Below.heap_setCell V2 ⟨gr,r',none⟩ _ b (by show b≠gr;intro e;subst e;exact h2 (.inl (.inr ⟨k,y,HY.out,by rw [HY2.out];rfl⟩)))).trans (HKV.out.block b h1)
 clear o9
 have GO:=hidW (l4Go_any p1 (some ⟨gb,ob,none⟩) a1 a2 lo hi base p _ _ _ _ _ _ k ⟨q,rg.set r' (wrap64 (va - vb)),0⟩ (q+1) _ (ProgR.keep' HP.out (fun b h1 h2=>B9.out.block b (by omega))) hB O9.out (by have:=Z9;have:=HKV.out.size;omega) T9.out rfl kb hpb (by rw [HBN.out];exact hbl))
 refine Calls.mono GO.out ?_
 rintro e w2 ⟨L1',rfl,hO2,hb2,hf2⟩
 have O2:=hidW hO2
 have B2:=hidW (B9.out.trans hb2)
 have F2:Hid (∀ b,b < w.heap.size→¬ HitS _ _ _ L1 L2 b→w2.heap[b]? =w.heap[b]?):=fun b h1 h2=>(hf2 b (by have:=Z9;have:=HKV.out.size;omega) (fun e=>h2 (.inl (.inl e)))).trans (F9.out b h1 h2)
 have HB2:=hidW (HBX.out.keep (V':=w2) (fun b h1 h2=>(hf2 b (by have:=Z9;omega) (fun e=>by have e':g1=b:=Option.some.inj e;omega)).trans (K9.out b h1 h2)) (by have:=hb2.size;have:=Z9;omega))
 have z2:=hb2.size
 clear m0 m1 v0 v1' v2' fs zs w0 w1' w2' fa za x0 x1 x2 x3 x4 bs ba zz zv1 zv2 zv3 ff GO hO2 hb2 hf2
 obtain ⟨⟨m0,m1⟩,⟨v0,v1',v2',fs,zs⟩,⟨w0,w1',w2',fa,za⟩,x0,x1,x2,x3,x4,bs,ba,zz⟩:=HB2.out
 go_wp2
 refine bodyPost_ret (v:=.tuple #[.agg #[.slice (some ⟨g1,0,none⟩) d.ths.length c1,.slice s2 d.chs.length c2,.slice s3 d.tr.length c3],.int .i64 0]) (by simp [results,Tryz.results54,go_sem,w0,w1',w2',fa]) rfl ?_
 refine ⟨_,_,_,_,_,_,_,_,_,rfl,fun _=>⟨L1',L2,?_⟩,?_,fun b h1 h2=>set3_off (by omega) (F2.out b h1 h2)⟩
 ·have q2:=O2.out
  rw [HBN.out] at q2
  have E:(⟨(d.ths.set k ⟨q,rg.set r' (wrap64 (va - vb)),0⟩).set k (moveT ⟨q,rg.set r' (wrap64 (va - vb)),0⟩ nb (rg.set r' (wrap64 (va - vb))) (q+1)),d.chs,d.tr⟩:SD)=doneS d k (stepO nb ⟨q,rg,0⟩ ⟨3,r',a',b',n⟩ d.chs d.tr k):=by rw [← HVa.out,← HVb.out];simp [doneS,stepO,putN,regN,moveT,List.set_set,wrap_is]
  rw [E] at q2
  exact ((q2.offB ba).offB ba.set).offB ba.set.set
 ·refine Below.setCell (Below.setCell (Below.setCell B2.out ?_ _) ?_ _) ?_ _<;>(show base≤w.heap.size+1+1;omega)
set_option maxHeartbeats 4000000 in
theorem sq4 (p1 p2 : Option Addr) (a1 a2 lo hi base : Nat) (p : PD) (v1 v2 v3 : Value) (L1 L2 : List (Rec × Value)) (d : SD) (k : Nat) (t : TD) (w : World) (hP : ProgR w lo hi p1 p2 p) (hB : hi ≤ base) (hO : OwnS w base v1 v2 v3 L1 L2 d) (hb : base ≤ w.heap.size) (hR : Right p d) (ht : d.ths[k]? = some t) (hst : t.st = 0) (ho : (insOf p d k).o = 4) :
  Calls Tryz.prog 54 #[.agg #[.slice p1 p.caps.length a1,.slice p2 p.bods.length a2],.agg #[v1,v2,v3],.int .i64 k] w fun e w'=>StepY w base (HitS v1 v2 v3 L1 L2) (outOf p d k) d k e w':=by
 obtain ⟨q,g1,c1,gr,cr,gb,ob,gi,oi,cb,nb,s2,s3,c2,c3,y,O⟩:=hO.open hP hB hb hR ht
 rw [O.ou]
 have hcl:=hR.pc
 have hbl:=hR.bd k O.kb
 have hpb:=hR.pb
 have hnl:=hR.nl
 have HCH:=hidW hR.cl
 have HTL:=hidW hR.tl
 have HR:=hidW hR
 obtain ⟨x,hx⟩:∃ x,insOf p d k=x:=⟨_,rfl⟩
 rw [hx] at O ho ⊢
 clear hx
 obtain ⟨e1,e2,e3,ep,hy,y1,y2,hq,nq,kl,kb,hbn,t0,t1,t2,b0,⟨x0,x1,x2,x3,x4⟩,rr,f1,fr,z1,zr,zb,zi,i1,ir,ib,ii,n1,hok,-,h4⟩:=O
 subst e1 e2 e3 ep
 rw [hbn] at hbl
 have HBN:=hidW hbn
 unfold insX Plain.insB at hok
 rw [decide_eq_true_eq] at hok
 obtain ⟨o,r,a,b,n⟩:=x
 simp only at ho hok x0 x1 x2 x3 x4
 subst ho
 obtain ⟨r',hr'⟩:∃ r':Nat,r=r':=⟨r.toNat,by omega⟩
 subst hr'
 have br0:(0:Int)≤(r':Int):=by omega
 have br1:(r':Int) < 4:=by omega
 have br2:r' < 4:=by omega
 obtain ⟨a',ha'⟩:∃ a':Nat,a=a':=⟨a.toNat,by omega⟩
 subst ha'
 have ba0:(0:Int)≤(a':Int):=by omega
 have ba1:(a':Int) < 4:=by omega
 have ba2:a' < 4:=by omega
 obtain ⟨b',hb'⟩:∃ b':Nat,b=b':=⟨b.toNat,by omega⟩
 subst hb'
 have bb0:(0:Int)≤(b':Int):=by omega
 have bb1:(b':Int) < 4:=by omega
 have bb2:b' < 4:=by omega
 obtain ⟨pc,rg,st⟩:=t
 simp only at hq hst h4 rr t0 t2
 subst hq hst
 have i0:(0:Int)≤(k:Int):=by omega
 have j1:(k:Int) < (d.ths.length:Int):=by omega
 have j2:(k:Int) < (p.bods.length:Int):=by omega
 have j3:(0:Int)≤(q:Int):=by omega
 have j4:(q:Int) < (nb:Int):=by omega
 have w1:IntKind.i64.wrap ((q:Int)+1)=(q:Int)+1:=Go.IntWalk.i64_in _ (by omega)
 obtain ⟨W,hW⟩:∃ W,(((w.alloc (.cells #[.slice p1 p.caps.length a1,.slice (some ⟨gb,ob,none⟩) p.bods.length a2] 27)).alloc (.cells #[.slice (some ⟨g1,0,none⟩) d.ths.length c1,.slice s2 d.chs.length c2,.slice s3 d.tr.length c3] 32)).alloc (.cells #[.slice none 0 0,.slice none 0 0,.slice none 0 0] 32))=W:=⟨_,rfl⟩
 obtain ⟨V,hV⟩:∃ V,W.alloc (.cells #[.int .i64 4,.int .i64 r',.int .i64 a',.int .i64 b',.int .i64 n] 85)=V:=⟨_,rfl⟩
 obtain ⟨BX,KV⟩:=bq_new hW hV
 have HW:=hidW hW
 have HV:=hidW hV
 have HBX:=hidW BX
 have HKV:=hidW KV
 have HO:=hidW hO
 have HP:=hidW hP
 have HT:=hidW ht
 have HY:=hidW hy
 have HY2:=hidW y2
 have H4:=hidW h4
 have RR:=hidW rr
 have F1:=hidW f1
 have FR:=hidW fr
 have HOK:=hidW hok
 have y0:g1 < w.heap.size+1:=by omega
 have y3:g1 < w.heap.size+1+1:=by omega
 have y4:g1 < w.heap.size+1+1+1:=by omega
 have y5:gb < w.heap.size+1:=by omega
 have y6:gb < w.heap.size+1+1:=by omega
 have y7:gi < w.heap.size+1:=by omega
 have y8:gi < w.heap.size+1+1:=by omega
 clear hW hV BX KV hO hP ht hy y1 y2 h4 rr f1 fr hok hR hbn
 go_enter Tryz.func54,Tryz.ntmps54
 go_upto_region 14 with fail
 rw [HW.out,HV.out]
 clear x0 x1 x2 x3 x4 t0 t1 t2 b0 y0 y3 y4 y5 y6 y7 y8
 obtain ⟨⟨m0,m1⟩,⟨v0,v1',v2',fs,zs⟩,⟨w0,w1',w2',fa,za⟩,x0,x1,x2,x3,x4,bs,ba,zz⟩:=HBX.out
 have zv1:w.heap.size < V.heap.size:=by omega
 have zv2:g1 < V.heap.size:=by omega
 have zv3:gr < V.heap.size:=by omega
 have ng00:¬ gr=w.heap.size:=by omega
 have nh00:¬ w.heap.size=gr:=by omega
 have ng01:¬ gr=w.heap.size+1:=by omega
 have nh01:¬ w.heap.size+1=gr:=by omega
 have ng02:¬ gr=w.heap.size+1+1:=by omega
 have nh02:¬ w.heap.size+1+1=gr:=by omega
 have ng03:¬ gr=w.heap.size+1+1+1:=by omega
 have nh03:¬ w.heap.size+1+1+1=gr:=by omega
 have ng10:¬ g1=w.heap.size:=by omega
 have nh10:¬ w.heap.size=g1:=by omega
 have ng11:¬ g1=w.heap.size+1:=by omega
 have nh11:¬ w.heap.size+1=g1:=by omega
 have ng12:¬ g1=w.heap.size+1+1:=by omega
 have nh12:¬ w.heap.size+1+1=g1:=by omega
 have ng13:¬ g1=w.heap.size+1+1+1:=by omega
 have nh13:¬ w.heap.size+1+1+1=g1:=by omega
 obtain ⟨vr,hvr⟩:∃ v,rg.getD r' 0=v:=⟨_,rfl⟩
 have HVr:=hidW hvr
 clear hvr
 have lr:V.cell? ⟨gr,r',none⟩=some (.int .i64 vr):=by rw [← HVr.out];exact (HKV.out.cell (p:=⟨gr,r',none⟩) zr).trans (RR.out r' (by omega))
 obtain ⟨va,hva⟩:∃ v,rg.getD a' 0=v:=⟨_,rfl⟩
 have HVa:=hidW hva
 clear hva
 have la:V.cell? ⟨gr,a',none⟩=some (.int .i64 va):=by rw [← HVa.out];exact (HKV.out.cell (p:=⟨gr,a',none⟩) zr).trans (RR.out a' (by omega))
 obtain ⟨vb,hvb⟩:∃ v,rg.getD b' 0=v:=⟨_,rfl⟩
 have HVb:=hidW hvb
 clear hvb
 have lb:V.cell? ⟨gr,b',none⟩=some (.int .i64 vb):=by rw [← HVb.out];exact (HKV.out.cell (p:=⟨gr,b',none⟩) zr).trans (RR.out b' (by omega))
 have ff:∀ j,V.frozen? ⟨gr,j,none⟩=false:=fun j=>(HKV.out.frozen (p:=⟨gr,j,none⟩) zr).trans (FR.out j)
 go_wp2_with fail
 have hne:=ext_ne V
 have u1:=Ext.fit x1 zz
 have u2:=Ext.fit x2 zz
 have u3:=Ext.fit x3 zz
 have ua:=Ext.fit la zv3
 have ub:=Ext.fit lb zv3
 refine regionLast V _ rfl (by kernel_rfl) (by kernel_rfl) (by kernel_rfl) rfl rfl ?_
 dsimp only [List.dropLast,List.cons_append,List.nil_append,idle]
 repeat (go_big_quiet_step ((rename_i X;go_at_call 78;refine (l4Bit_any _ _).mono ?_;rintro e w9 ⟨rfl,rfl⟩;exact ⟨rfl,X.on (Below.refl _ _)⟩)))
 refine wpQuiet_nil ?_
 clear hne u1 u2 u3 ua ub
 rintro w3 ⟨X3,rfl⟩
 obtain ⟨V2,hX3⟩:∃ V2,X3.w=V2:=⟨_,rfl⟩
 have hb3:=X3.b
 rw [hX3] at hb3 ⊢
 have HBX:=hidW (HBX.out.keep (fun b _ h2=>hb3.block b h2) hb3.size)
 have HKV:=hidW (HKV.out.trans (hb3.mono (by omega)))
 clear hb3 hX3 X3 m0 m1 v0 v1' v2' fs zs w0 w1' w2' fa za x0 x1 x2 x3 x4 bs ba zz zv1 zv2 zv3 ff lr la lb ng00 nh00 ng01 nh01 ng02 nh02 ng03 nh03 ng10 nh10 ng11 nh11 ng12 nh12 ng13 nh13
 obtain ⟨⟨m0,m1⟩,⟨v0,v1',v2',fs,zs⟩,⟨w0,w1',w2',fa,za⟩,x0,x1,x2,x3,x4,bs,ba,zz⟩:=HBX.out
 have zv1:w.heap.size < V2.heap.size:=by omega
 have zv2:g1 < V2.heap.size:=by omega
 have zv3:gr < V2.heap.size:=by omega
 have ng00:¬ gr=w.heap.size:=by omega
 have nh00:¬ w.heap.size=gr:=by omega
 have ng01:¬ gr=w.heap.size+1:=by omega
 have nh01:¬ w.heap.size+1=gr:=by omega
 have ng02:¬ gr=w.heap.size+1+1:=by omega
 have nh02:¬ w.heap.size+1+1=gr:=by omega
 have ng03:¬ gr=w.heap.size+1+1+1:=by omega
 have nh03:¬ w.heap.size+1+1+1=gr:=by omega
 have ng10:¬ g1=w.heap.size:=by omega
 have nh10:¬ w.heap.size=g1:=by omega
 have ng11:¬ g1=w.heap.size+1:=by omega
 have nh11:¬ w.heap.size+1=g1:=by omega
 have ng12:¬ g1=w.heap.size+1+1:=by omega
 have nh12:¬ w.heap.size+1+1=g1:=by omega
 have ng13:¬ g1=w.heap.size+1+1+1:=by omega
 have nh13:¬ w.heap.size+1+1+1=g1:=by omega
 have ff:∀ j,V2.frozen? ⟨gr,j,none⟩=false:=fun j=>(HKV.out.frozen (p:=⟨gr,j,none⟩) zr).trans (FR.out j)
 have lr:V2.cell? ⟨gr,r',none⟩=some (.int .i64 vr):=by rw [← HVr.out];exact (HKV.out.cell (p:=⟨gr,r',none⟩) zr).trans (RR.out r' (by omega))
 have la:V2.cell? ⟨gr,a',none⟩=some (.int .i64 va):=by rw [← HVa.out];exact (HKV.out.cell (p:=⟨gr,a',none⟩) zr).trans (RR.out a' (by omega))
 have lb:V2.cell? ⟨gr,b',none⟩=some (.int .i64 vb):=by rw [← HVb.out];exact (HKV.out.cell (p:=⟨gr,b',none⟩) zr).trans (RR.out b' (by omega))
 go_wp2_with fail
 obtain ⟨L9,-,o9,-⟩:=(HO.out.keep (w':=V2) (fun b _ hb=>HKV.out.block b hb)).setR HY.out HT.out HY2.out H4.out r' (bitN (decide (va < vb)))
 have O9:=hidW o9
 have T9:=hidW (show (d.ths.set k ⟨q,rg.set r' (bitN (decide (va < vb))),0⟩)[k]? =some ⟨q,rg.set r' (bitN (decide (va < vb))),0⟩ from List.getElem?_set_self kl)
 have K9:Hid (∀ b,w.heap.size≤b→b < V2.heap.size→(V2.setCell ⟨gr,r',none⟩ (.int .i64 (bitN (decide (va < vb))))).heap[b]? =V2.heap[b]?):=fun b h1 h2=>(Below.heap_setCell V2 ⟨gr,r',none⟩ _ b (by show b≠gr;omega))
 have B9:Hid (Below base w (V2.setCell ⟨gr,r',none⟩ (.int .i64 (bitN (decide (va < vb)))))):=(HKV.out.mono hb).setCell (p:=⟨gr,r',none⟩) ir _
 have Z9:V2.heap.size≤(V2.setCell ⟨gr,r',none⟩ (.int .i64 (bitN (decide (va < vb))))).heap.size:=by simp
 have F9:Hid (∀ b,b < w.heap.size→¬ HitS (.slice (some ⟨g1,0,none⟩) d.ths.length c1) (.slice s2 d.chs.length c2) (.slice s3 d.tr.length c3) L1 L2 b→(V2.setCell ⟨gr,r',none⟩ (.int .i64 (bitN (decide (va < vb))))).heap[b]? =w.heap[b]?):=fun b h1 h2=>(Below.heap_setCell V2 ⟨gr,r',none⟩ _ b (by show b≠gr;intro e;subst e;exact h2 (.inl (.inr ⟨k,y,HY.out,by rw [HY2.out];rfl⟩)))).trans (HKV.out.block b h1)
 clear o9
 have GO:=hidW (l4Go_any p1 (some ⟨gb,ob,none⟩) a1 a2 lo hi base p _ _ _ _ _ _ k ⟨q,rg.set r' (bitN (decide (va < vb))),0⟩ (q+1) _ (ProgR.keep' HP.out (fun b h1 h2=>B9.out.block b (by omega))) hB O9.out (by have:=Z9;have:=HKV.out.size;omega) T9.out rfl kb hpb (by rw [HBN.out];exact hbl))
 refine Calls.mono GO.out ?_
 rintro e w2 ⟨L1',rfl,hO2,hb2,hf2⟩
 have O2:=hidW hO2
 have B2:=hidW (B9.out.trans hb2)
 have F2:Hid (∀ b,b < w.heap.size→¬ HitS _ _ _ L1 L2 b→w2.heap[b]? =w.heap[b]?):=fun b h1 h2=>(hf2 b (by have:=Z9;have:=HKV.out.size;omega) (fun e=>h2 (.inl (.inl e)))).trans (F9.out b h1 h2)
 have HB2:=hidW (HBX.out.keep (V':=w2) (fun b h1 h2=>(hf2 b (by have:=Z9;omega) (fun e=>by have e':g1=b:=Option.some.inj e;omega)).trans (K9.out b h1 h2)) (by have:=hb2.size;have:=Z9;omega))
 have z2:=hb2.size
 clear m0 m1 v0 v1' v2' fs zs w0 w1' w2' fa za x0 x1 x2 x3 x4 bs ba zz zv1 zv2 zv3 ff GO hO2 hb2 hf2
 obtain ⟨⟨m0,m1⟩,⟨v0,v1',v2',fs,zs⟩,⟨w0,w1',w2',fa,za⟩,x0,x1,x2,x3,x4,bs,ba,zz⟩:=HB2.out
 go_wp2
 refine bodyPost_ret (v:=.tuple #[.agg #[.slice (some ⟨g1,0,none⟩) d.ths.length c1,.slice s2 d.chs.length c2,.slice s3 d.tr.length c3],.int .i64 0]) (by simp [results,Tryz.results54,go_sem,w0,w1',w2',fa]) rfl ?_
 refine ⟨_,_,_,_,_,_,_,_,_,rfl,fun _=>⟨L1',L2,?_⟩,?_,fun b h1 h2=>set3_off (by omega) (F2.out b h1 h2)⟩
 ·have q2:=O2.out
  rw [HBN.out] at q2
  have E:(⟨(d.ths.set k ⟨q,rg.set r' (bitN (decide (va < vb))),0⟩).set k (moveT ⟨q,rg.set r' (bitN (decide (va < vb))),0⟩ nb (rg.set r' (bitN (decide (va < vb)))) (q+1)),d.chs,d.tr⟩:SD)=doneS d k (stepO nb ⟨q,rg,0⟩ ⟨4,r',a',b',n⟩ d.chs d.tr k):=by rw [← HVa.out,← HVb.out];simp [doneS,stepO,putN,regN,moveT,List.set_set,wrap_is]
  rw [E] at q2
  exact ((q2.offB ba).offB ba.set).offB ba.set.set
 ·refine Below.setCell (Below.setCell (Below.setCell B2.out ?_ _) ?_ _) ?_ _<;>(show base≤w.heap.size+1+1;omega)
end Go.Proofs.YtknffngbdakblaaGreat
