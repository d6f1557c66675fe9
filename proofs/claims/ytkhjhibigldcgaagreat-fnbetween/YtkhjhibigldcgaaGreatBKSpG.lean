/- A step of the specification, of an op: memory. No condition. -/
import Derived.Test.YtkhjhibigldcgaaGreatBG00
import Derived.Test.YtkhjhibigldcgaaGreatBG07
import Derived.Test.YtkhjhibigldcgaaGreatBG10
import Derived.Test.YtkhjhibigldcgaaGreatBG11
import Derived.Test.YtkhjhibigldcgaaGreatBG12
import Derived.Test.YtkhjhibigldcgaaGreatBG01
import Derived.Test.YtkhjhibigldcgaaGreatBG09
import Derived.Test.YtkhjhibigldcgaaGreatBG19
import Derived.Test.YtkhjhibigldcgaaGreatBG17
namespace Go.Proofs.YtkhjhibigldcgaaGreat
set_option linter.unusedSimpArgs false
set_option linter.unusedVariables false
set_option maxRecDepth 100000
open Go.RowKit
set_option maxHeartbeats 4000000 in
theorem spM {Hq : Nat → Prop} (B : Nat) (vc vk vm vt : Value) (LC : List CV) (LK : List KV) (S : List RS) (d : MD) (who : Nat) (k : KD) (code : List I5) (s : I5) (late : Int) (w : World) (h : MQ w B Hq vc vk vm vt LC LK S d) (ha : At8 d who k code s) (hb : B ≤ w.heap.size) (hlate : late ≤ 9223372036854775807) (ho : 5 ≤ s.o ∧ s.o ≤ 8) :
  Calls Tryz.prog 28 #[.agg #[vc,vk,vm,vt],.agg #[.int .i64 who,.int .i64 late]] w fun e w'=>StepX w B Hq vc vk vm vt LC LK S d (stepAt d who late k code.length s) e w':=by
 obtain ⟨p,gc,cc,gk,ck,gs,cs,gr,cr,gv,cv,gO,cO,st,ct,O⟩:=h.open ha
 have HO8:=(show Hid (Op8 w B vc vk vm vt LK d who p k code s gc cc gk ck gs cs gr cr gv cv gO cO st ct) from O)
 obtain ⟨n1,n2,n3,n4,n5,n6,n7,n8,n9,n10⟩:=O.ne h
 obtain ⟨ec,ek,em,et,hx,hp,wc,wk,c0,k0,k1,k2,k3,s0,s1,s2,s3,s4,rr,fk,fr,zc,zk,zs,zr,zv,zO,bk,br,bv,bO⟩:=O
 subst ec ek em et
 have H:=hidS h
 have HA:=hidS ha
 have H8:Hid (k.regs.length=8):=ha.regs
 have HX:=hidS hx
 have hok:=ha.ok
 unfold stX Plain.stepB at hok
 rw [decide_eq_true_eq] at hok
 have hpl:=ha.pcl
 have hn8:=ha.n8
 have htr:=ha.tr
 obtain ⟨pc,regs,vw,st_⟩:=k
 obtain ⟨o,r,a,b,n⟩:=s
 simp only at ho hp hok k0 k3 rr s0 s1 s2 s3 s4 hpl
 subst hp
 have HOO:=hidS ho
 have o1:¬ o=1:=by omega
 have o2:¬ o=2:=by omega
 have o3:¬ o=3:=by omega
 have o4:¬ o=4:=by omega
 have o9:¬ o=9:=by omega
 have o10:¬ o=10:=by omega
 have o11:¬ o=11:=by omega
 have o12:¬ o=12:=by omega
 have o13:¬ o=13:=by omega
 clear ho
 clear hok
 have b0:(0:Int)≤(who:Int):=by omega
 have b1:(who:Int) < (d.codes.length:Int):=by omega
 have b2:(who:Int) < (LK.length:Int):=by omega
 have b3:(0:Int)≤(p:Int):=by omega
 have b4:(p:Int) < (code.length:Int):=by omega
 have z1:gk < w.heap.size+1:=by omega
 have z2:gk < w.heap.size+1+1:=by omega
 have C0:=hidS c0
 have K0:=hidS k0
 have K3:=hidS k3
 have RR:=hidS rr
 have FK:=hidS fk
 have FR:=hidS fr
 clear h ha hx rr fk fr
 go_enter Tryz.func28,Tryz.ntmps28
 go_wp2_with fail
 obtain ⟨W,hW⟩:∃ W,(((w.alloc (.cells #[.slice (some ⟨gc,0,none⟩) d.codes.length cc,.slice (some ⟨gk,0,none⟩) LK.length ck,.slice (some ⟨gO,0,none⟩) d.mem.length cO,.slice st d.tr.length ct] 35)).alloc (.cells #[.int .i64 who,.int .i64 late] 75)).alloc (.cells #[.slice none 0 0,.slice none 0 0,.slice none 0 0,.slice none 0 0] 35)).alloc (.cells #[.int .i64 p,.slice (some ⟨gr,0,none⟩) 8 cr,.slice (some ⟨gv,0,none⟩) 24 cv,.int .i64 st_] 42)=W:=⟨_,rfl⟩
 obtain ⟨V,hV⟩:∃ V,(W.alloc (.cells #[.int .i64 o,.int .i64 r,.int .i64 a,.int .i64 b,.int .i64 n] 65)).drew=V:=⟨_,rfl⟩
 obtain ⟨BX,KV⟩:=boxes5 hW hV
 have HBT:Hid (BxT V w.heap.size∧BxT V (w.heap.size+1+1)):=boxT hW hV
 have q0:W.cell? ⟨w.heap.size,0,none⟩=some (.slice (some ⟨gc,0,none⟩) d.codes.length cc):=by subst hW;simp [go_sem]
 have q1:W.cell? ⟨w.heap.size+1,0,none⟩=some (.int .i64 who):=by subst hW;simp [go_sem]
 have q2:W.cell? ⟨w.heap.size+1+1+1,0,none⟩=some (.int .i64 p):=by subst hW;simp [go_sem]
 have kW:Below w.heap.size w W:=by subst hW;exact ((((Below.refl _ _).alloc (Nat.le_refl _) _).alloc (by simp) _).alloc (by simp;omega) _).alloc (by simp;omega) _
 have q3:=(kW.cell (p:=⟨gc,who,none⟩) zc).trans c0
 have q4:=(kW.cell (p:=⟨gs,p * 5,none⟩) zs).trans s0
 have q5:=(kW.cell (p:=⟨gs,p * 5+1,none⟩) zs).trans s1
 have q6:=(kW.cell (p:=⟨gs,p * 5+2,none⟩) zs).trans s2
 have q7:=(kW.cell (p:=⟨gs,p * 5+3,none⟩) zs).trans s3
 have q8:=(kW.cell (p:=⟨gs,p * 5+4,none⟩) zs).trans s4
 have zW:=(show Hid (W.heap.size=w.heap.size+1+1+1+1) from by subst hW;show _=_;simp)
 have y0:w.heap.size < W.heap.size:=by have:=zW.out;omega
 have y1:w.heap.size+1 < W.heap.size:=by have:=zW.out;omega
 have y2:w.heap.size+1+1+1 < W.heap.size:=by have:=zW.out;omega
 have y3:gc < W.heap.size:=by omega
 have y4:gs < W.heap.size:=by omega
 rw [hW]
 have HV:=hidS hV
 have HBX:=(show Hid (Bx5 V w.heap.size _ _ _ _ _ _ _ _ _ _ _ _ _ _ _) from BX)
 have HKV:Hid (Below w.heap.size w V):=KV
 clear hW hV BX KV kW
 go_region
 rw [HV.out]
 rw [zW.out]
 clear q0 q1 q2 q3 q4 q5 q6 q7 q8 y0 y1 y2 y3 y4 c0 k0 k1 k2 k3 s0 s1 s2 s3 s4
 obtain ⟨m0,m1,m2,m3,x0,x1,a0,a1,a2,a3,e0,e1,e2,e3,t0,t1,t2,t3,t4,fm,fa,zV⟩:=HBX.out
 have l0:=(HKV.out.cell (p:=⟨gc,who,none⟩) zc).trans C0.out
 have l2:=(HKV.out.cell (p:=⟨gk,who * 4,none⟩) zk).trans K0.out
 have l3:=(HKV.out.cell (p:=⟨gk,who * 4+3,none⟩) zk).trans K3.out
 have f2:∀ j,V.frozen? ⟨gk,j,none⟩=false:=fun j=>(HKV.out.frozen (p:=⟨gk,j,none⟩) zk).trans (FK.out j)
 have f3:∀ j,V.frozen? ⟨gr,j,none⟩=false:=fun j=>(HKV.out.frozen (p:=⟨gr,j,none⟩) zr).trans (FR.out j)
 have v0:w.heap.size < V.heap.size:=by omega
 have v1:w.heap.size+1 < V.heap.size:=by omega
 have v2:w.heap.size+1+1 < V.heap.size:=by omega
 have v3:w.heap.size+1+1+1 < V.heap.size:=by omega
 have v4:gc < V.heap.size:=by omega
 have v5:gr < V.heap.size:=by omega
 have v6:gk < V.heap.size:=by omega
 have w1:IntKind.i64.wrap ((p:Int)+1)=(p:Int)+1:=Go.IntWalk.i64_in _ (by omega)
 have QV:=hidM (H.out.re (w':=V) (fun b _ hb1=>HKV.out.block b hb1) HKV.out.size)
 have LM:=hidM (l8Memory_any B _ _ _ _ LC LK S d who ⟨p,regs,vw,st_⟩ code ⟨o,r,a,b,n⟩ late V QV.out HA.out (by omega) hlate HOO.out)
 have SA:=hidM (stepAtM d who late ⟨p,regs,vw,st_⟩ code.length ⟨o,r,a,b,n⟩ HOO.out)
 go_wp2_with fail
 refine Calls.mono LM.out ?_
 intro e w5 hm
 unfold MemP at hm
 by_cases hc:0≤cellM ⟨p,regs,vw,st_⟩ ⟨o,r,a,b,n⟩∧cellM ⟨p,regs,vw,st_⟩ ⟨o,r,a,b,n⟩≤23
 ·rw [if_pos hc] at hm
  have SA1:Hid (stepAt d who late ⟨p,regs,vw,st_⟩ code.length ⟨o,r,a,b,n⟩=_):=SA.out.trans (if_pos hc)
  generalize hcc:(cellM ⟨p,regs,vw,st_⟩ ⟨o,r,a,b,n⟩).toNat=c at hm SA1
  by_cases hf:(⟨o,r,a,b,n⟩:I5).o≠5∧(d.mem.getD c []).length=4000
  ·rw [if_pos hf] at hm
   obtain ⟨rfl,hb5⟩:=hm
   have SA2:Hid (stepAt d who late ⟨p,regs,vw,st_⟩ code.length ⟨o,r,a,b,n⟩=(d,3)):=SA1.out.trans (if_pos hf)
   have KV5:=hidM hb5
   have HBX:=(show Hid (Bx5 w5 w.heap.size _ _ _ _ _ _ _ _ _ _ _ _ _ _ _) from HBX.out.keep (fun b _ h2=>hb5.block b h2) hb5.size)
   have HKV:Hid (Below w.heap.size w w5):=HKV.out.trans (hb5.mono (by omega))
   clear hb5 SA SA1 hf hc LM QV m0 m1 m2 m3 x0 x1 a0 a1 a2 a3 e0 e1 e2 e3 t0 t1 t2 t3 t4 fm fa zV l0 l2 l3 f2 f3 v0 v1 v2 v3 v4 v5 v6
   obtain ⟨m0,m1,m2,m3,x0,x1,a0,a1,a2,a3,e0,e1,e2,e3,t0,t1,t2,t3,t4,fm,fa,zV⟩:=HBX.out
   have v0:w.heap.size < w5.heap.size:=by omega
   have v2:w.heap.size+1+1 < w5.heap.size:=by omega
   have nv2:¬ w.heap.size+1+1=w5.heap.size:=by omega
   go_wp2_with fail
   refine bodyPost_ret (v:=.tuple #[.agg #[.slice (some ⟨gc,0,none⟩) d.codes.length cc,.slice (some ⟨gk,0,none⟩) LK.length ck,.slice (some ⟨gO,0,none⟩) d.mem.length cO,.slice st d.tr.length ct],.int .i64 3]) (by simp [results,Tryz.results28,go_sem,fa,a0,a1,a2,a3,v2,nv2]) rfl ?_
   rw [SA2.out]
   refine ⟨⟨_,_,_,_,LC,LK,S,rfl,H.out.keep (fun b _ hb1=>?_) ?_,?_⟩,fun b9 hX1=>?_⟩
   ·repeat' (first | with_reducible exact HKV.out.block b hb1 | (with_reducible refine (Below.heap_setCell _ ⟨w.heap.size+1+1,_,none⟩ _ b (by show b≠w.heap.size+1+1;omega)).trans ?_) | (with_reducible refine (Below.heap_alloc _ _ _ (by simp;omega)).trans ?_))
   ·simp;omega
   ·repeat' (first | with_reducible exact HKV.out.mono hb | (with_reducible refine Below.setCell ?_ (by show B≤w.heap.size+1+1;omega) _) | (with_reducible refine Below.alloc ?_ (by simp;omega) _))
   ·have hX2:=H.out.lt hX1
    have hk9:b9≠gk:=fun e=>hX1 (e▸H.out.hh.k gk rfl)
    have hr9:b9≠gr:=fun e=>hX1 (e▸H.out.hh.ki who _ gr HX.out (.inl rfl))
    repeat' (first | with_reducible exact HKV.out.block b9 hX2 | (with_reducible refine (Below.heap_setCell _ ⟨_,_,none⟩ _ b9 (by first | (show b9≠w.heap.size+1+1;omega) | (show b9≠gk;omega) | (show b9≠gr;omega) | (show b9≠w.heap.size;omega))).trans ?_) | (with_reducible refine (Below.heap_alloc _ _ _ (by simp;omega)).trans ?_))
  ·rw [if_neg hf] at hm
   obtain ⟨LK',S',rr,uu,rfl,q5',hx5,hn5,hb5,hfr⟩:=hm
   have q5:=q5'.wk (fun q hq=>hq.elim (fun h=>h.2) (fun h=>H.out.hn q (by have:=HKV.out.size;omega)))
   clear q5'
   have SA2:Hid (stepAt d who late ⟨p,regs,vw,st_⟩ code.length ⟨o,r,a,b,n⟩=_):=SA1.out.trans (if_neg hf)
   have kb:∀ b,w.heap.size≤b→b < V.heap.size→w5.heap[b]? =V.heap[b]? :=fun b h1 h2=>hfr b (fun h=>h.elim (fun h=>by omega) (fun h=>by omega))
   have HBX:=(show Hid (Bx5 w5 w.heap.size _ _ _ _ _ _ _ _ _ _ _ _ _ _ _) from HBX.out.keep kb hb5.size)
   have HBT:Hid (BxT w5 w.heap.size∧BxT w5 (w.heap.size+1+1)):=⟨HBT.out.1.same (kb _ (by omega) (by omega)),HBT.out.2.same (kb _ (by omega) (by omega))⟩
   have K5:Hid (Below B w w5):=(HKV.out.mono hb).trans hb5
   have Q5:=hidM q5
   have HX5:=hidM hx5
   have HN5:=hidS hn5
   have hz5:=hb5.size
   have hrk:=q5.k.row
   rw [hn5] at hrk
   obtain ⟨f0,-,-,f3'⟩:=flatK_at LK' who _ hx5
   have l2:=(World.ownsRow.cellAt hrk (who * 4) (by omega)).trans f0
   have l3:=(World.ownsRow.cellAt hrk (who * 4+3) (by omega)).trans f3'
   have f2:∀ j,w5.frozen? ⟨gk,j,none⟩=false:=fun j=>World.ownsRow.frozenAt hrk j
   have l0:w5.cell? ⟨gc,who,none⟩=some (.slice (some ⟨gs,0,none⟩) code.length cs):=by
    have hrc:=q5.c.row
    have hlc:LC.length=d.codes.length:=by rw [← H.out.ec,List.length_map]
    rw [hlc] at hrc
    have hrc0:=H.out.c.row
    rw [hlc] at hrc0
    rw [World.ownsRow.cellAt hrc who (by omega),← World.ownsRow.cellAt hrc0 who (by omega)]
    exact C0.out
   generalize (memS d late ⟨p,regs,vw,st_⟩ ⟨o,r,a,b,n⟩ c)=dk at Q5 HX5 SA2 l2 l3 hx5 q5 f0 f3'
   obtain ⟨d1,k1⟩:=dk
   obtain ⟨pc1,rg1,vw1,st1⟩:=k1
   simp only at l2 l3
   have yy:w.heap.size+1+1+1+1 < w5.heap.size:=by omega
   have HFR:=hidM hfr
   clear kb q5 hx5 hn5 hb5 hfr hrk f0 f3' hz5 SA SA1 hf hc LM QV m0 m1 m2 m3 x0 x1 a0 a1 a2 a3 e0 e1 e2 e3 t0 t1 t2 t3 t4 fm fa zV f3 v0 v1 v2 v3 v4 v5 v6
   obtain ⟨m0,m1,m2,m3,x0,x1,a0,a1,a2,a3,e0,e1,e2,e3,t0,t1,t2,t3,t4,fm,fa,zV⟩:=HBX.out
   have v0:w.heap.size < w5.heap.size:=by omega
   have v1:w.heap.size+1 < w5.heap.size:=by omega
   have v2:w.heap.size+1+1 < w5.heap.size:=by omega
   have nv2:¬ w.heap.size+1+1=w5.heap.size:=by omega
   have v4:gc < w5.heap.size:=by omega
   have v6:gk < w5.heap.size:=by omega
   by_cases hin:(p:Int)+1 < (code.length:Int)
   ·go_wp2_with fail
    refine bodyPost_ret (v:=.tuple #[.agg #[.slice (some ⟨gc,0,none⟩) d.codes.length cc,.slice (some ⟨gk,0,none⟩) LK.length ck,.slice (some ⟨gO,0,none⟩) d.mem.length cO,.slice st d.tr.length ct],.int .i64 0]) (by simp [results,Tryz.results28,go_sem,fa,a0,a1,a2,a3,v2,nv2]) rfl ?_
    rw [SA2.out]
    have B0:=HBT.out.1
    have B2:=HBT.out.2
    have Qa:=MQ.offB (j:=3) (u:=.slice st d.tr.length ct) (MQ.offB (j:=2) (u:=.slice (some ⟨gO,0,none⟩) d.mem.length cO) (MQ.offB (j:=1) (u:=.slice (some ⟨gk,0,none⟩) LK.length ck) (MQ.offB (j:=0) (u:=.slice (some ⟨gc,0,none⟩) d.codes.length cc) Q5.out B0) B0.set) B0.set.set) B0.set.set.set
    obtain ⟨LK2,Qb⟩:=MQ.go (n:=code.length) Qa HN5.out HX5.out (p+1) (by omega) (F:=_) (fun _ _=>rfl) (by simp)
    rw [goM_put] at Qb
    have Qc:=MQ.offB (j:=3) (u:=.slice st d.tr.length ct) (MQ.offB (j:=2) (u:=.slice (some ⟨gO,0,none⟩) d.mem.length cO) (MQ.offB (j:=1) (u:=.slice (some ⟨gk,0,none⟩) LK.length ck) (MQ.offB (j:=0) (u:=.slice (some ⟨gc,0,none⟩) d.codes.length cc) Qb B2.set.set.set.set.set) B2.set.set.set.set.set.set) B2.set.set.set.set.set.set.set) B2.set.set.set.set.set.set.set.set
    refine ⟨⟨_,_,_,_,LC,LK2,_,rfl,Qc.keep (fun b _ hb1=>Below.heap_alloc _ _ _ hb1) (by simp),?_⟩,fun b9 hX1=>?_⟩
    ·repeat' (first | with_reducible exact K5.out | (with_reducible refine Below.setCell ?_ (by first | exact bk | (show B≤w.heap.size+1+1;omega) | (show B≤w.heap.size;omega)) _) | (with_reducible refine Below.alloc ?_ (by simp;omega) _))
    ·have hX2:=H.out.lt hX1
     have hk9:b9≠gk:=fun e=>hX1 (e▸H.out.hh.k gk rfl)
     have hr9:b9≠gr:=fun e=>hX1 (e▸H.out.hh.ki who _ gr HX.out (.inl rfl))
     have base9:w5.heap[b9]? =w.heap[b9]? :=by first | exact (HFR.out b9 (fun h=>h.elim (fun h=>hX1 h.2) (fun h=>by have:=HKV.out.size;omega))).trans (HKV.out.block b9 hX2) | exact HKV.out.block b9 hX2
     repeat' (first | with_reducible exact base9 | (with_reducible refine (Below.heap_setCell _ ⟨_,_,none⟩ _ b9 (by first | (show b9≠w.heap.size+1+1;omega) | (show b9≠gk;omega) | (show b9≠gr;omega) | (show b9≠w.heap.size;omega))).trans ?_) | (with_reducible refine (Below.heap_alloc _ _ _ (by simp;omega)).trans ?_))
   ·go_wp2_with fail
    refine bodyPost_ret (v:=.tuple #[.agg #[.slice (some ⟨gc,0,none⟩) d.codes.length cc,.slice (some ⟨gk,0,none⟩) LK.length ck,.slice (some ⟨gO,0,none⟩) d.mem.length cO,.slice st d.tr.length ct],.int .i64 0]) (by simp [results,Tryz.results28,go_sem,fa,a0,a1,a2,a3,v2,nv2]) rfl ?_
    rw [SA2.out]
    have B0:=HBT.out.1
    have B2:=HBT.out.2
    have Qa:=MQ.offB (j:=3) (u:=.slice st d.tr.length ct) (MQ.offB (j:=2) (u:=.slice (some ⟨gO,0,none⟩) d.mem.length cO) (MQ.offB (j:=1) (u:=.slice (some ⟨gk,0,none⟩) LK.length ck) (MQ.offB (j:=0) (u:=.slice (some ⟨gc,0,none⟩) d.codes.length cc) Q5.out B0) B0.set) B0.set.set) B0.set.set.set
    obtain ⟨LK2,Qb⟩:=MQ.no (n:=code.length) Qa HN5.out HX5.out (p+1) (by omega) (F:=_) (fun _ _=>rfl) (by simp)
    rw [goM_put] at Qb
    have Qc:=MQ.offB (j:=3) (u:=.slice st d.tr.length ct) (MQ.offB (j:=2) (u:=.slice (some ⟨gO,0,none⟩) d.mem.length cO) (MQ.offB (j:=1) (u:=.slice (some ⟨gk,0,none⟩) LK.length ck) (MQ.offB (j:=0) (u:=.slice (some ⟨gc,0,none⟩) d.codes.length cc) Qb B2.set.set.set.set.set) B2.set.set.set.set.set.set) B2.set.set.set.set.set.set.set) B2.set.set.set.set.set.set.set.set
    refine ⟨⟨_,_,_,_,LC,LK2,_,rfl,Qc.keep (fun b _ hb1=>Below.heap_alloc _ _ _ hb1) (by simp),?_⟩,fun b9 hX1=>?_⟩
    ·repeat' (first | with_reducible exact K5.out | (with_reducible refine Below.setCell ?_ (by first | exact bk | (show B≤w.heap.size+1+1;omega) | (show B≤w.heap.size;omega)) _) | (with_reducible refine Below.alloc ?_ (by simp;omega) _))
    ·have hX2:=H.out.lt hX1
     have hk9:b9≠gk:=fun e=>hX1 (e▸H.out.hh.k gk rfl)
     have hr9:b9≠gr:=fun e=>hX1 (e▸H.out.hh.ki who _ gr HX.out (.inl rfl))
     have base9:w5.heap[b9]? =w.heap[b9]? :=by first | exact (HFR.out b9 (fun h=>h.elim (fun h=>hX1 h.2) (fun h=>by have:=HKV.out.size;omega))).trans (HKV.out.block b9 hX2) | exact HKV.out.block b9 hX2
     repeat' (first | with_reducible exact base9 | (with_reducible refine (Below.heap_setCell _ ⟨_,_,none⟩ _ b9 (by first | (show b9≠w.heap.size+1+1;omega) | (show b9≠gk;omega) | (show b9≠gr;omega) | (show b9≠w.heap.size;omega))).trans ?_) | (with_reducible refine (Below.heap_alloc _ _ _ (by simp;omega)).trans ?_))
 ·rw [if_neg hc] at hm
  obtain ⟨rfl,hb5⟩:=hm
  have SA2:Hid (stepAt d who late ⟨p,regs,vw,st_⟩ code.length ⟨o,r,a,b,n⟩=(putK d who ⟨p,regs,vw,2⟩,0)):=SA.out.trans (if_neg hc)
  have HBX:=(show Hid (Bx5 w5 w.heap.size _ _ _ _ _ _ _ _ _ _ _ _ _ _ _) from HBX.out.keep (fun b _ h2=>hb5.block b h2) hb5.size)
  have HBT:Hid (BxT w5 w.heap.size∧BxT w5 (w.heap.size+1+1)):=⟨HBT.out.1.same (hb5.block _ (by omega)),HBT.out.2.same (hb5.block _ (by omega))⟩
  have HKV:Hid (Below w.heap.size w w5):=HKV.out.trans (hb5.mono (by omega))
  clear hb5 SA hc LM QV m0 m1 m2 m3 x0 x1 a0 a1 a2 a3 e0 e1 e2 e3 t0 t1 t2 t3 t4 fm fa zV l0 l2 l3 f2 f3 v0 v1 v2 v3 v4 v5 v6
  obtain ⟨m0,m1,m2,m3,x0,x1,a0,a1,a2,a3,e0,e1,e2,e3,t0,t1,t2,t3,t4,fm,fa,zV⟩:=HBX.out
  have l3:=(HKV.out.cell (p:=⟨gk,who * 4+3,none⟩) zk).trans K3.out
  have f2:∀ j,w5.frozen? ⟨gk,j,none⟩=false:=fun j=>(HKV.out.frozen (p:=⟨gk,j,none⟩) zk).trans (FK.out j)
  have v0:w.heap.size < w5.heap.size:=by omega
  have v1:w.heap.size+1 < w5.heap.size:=by omega
  have v2:w.heap.size+1+1 < w5.heap.size:=by omega
  have nv2:¬ w.heap.size+1+1=w5.heap.size:=by omega
  have v6:gk < w5.heap.size:=by omega
  have K5:Hid (Below B w w5):=HKV.out.mono hb
  have Q5:=hidM (H.out.keep (w':=w5) (fun b _ hb1=>HKV.out.block b hb1) HKV.out.size)
  go_wp2_with fail
  refine bodyPost_ret (v:=.tuple #[.agg #[.slice (some ⟨gc,0,none⟩) d.codes.length cc,.slice (some ⟨gk,0,none⟩) LK.length ck,.slice (some ⟨gO,0,none⟩) d.mem.length cO,.slice st d.tr.length ct],.int .i64 0]) (by simp [results,Tryz.results28,go_sem,fa,a0,a1,a2,a3,v2,nv2]) rfl ?_
  rw [SA2.out]
  have B0:=HBT.out.1
  have B2:=HBT.out.2
  have Qa:=MQ.offB (j:=3) (u:=.slice st d.tr.length ct) (MQ.offB (j:=2) (u:=.slice (some ⟨gO,0,none⟩) d.mem.length cO) (MQ.offB (j:=1) (u:=.slice (some ⟨gk,0,none⟩) LK.length ck) (MQ.offB (j:=0) (u:=.slice (some ⟨gc,0,none⟩) d.codes.length cc) Q5.out B0) B0.set) B0.set.set) B0.set.set.set
  obtain ⟨LK2,Qb⟩:=MQ.st Qa rfl HX.out 2 (F:=_) (fun _ _=>rfl) (by simp)
  have Qc:=MQ.offB (j:=3) (u:=.slice st d.tr.length ct) (MQ.offB (j:=2) (u:=.slice (some ⟨gO,0,none⟩) d.mem.length cO) (MQ.offB (j:=1) (u:=.slice (some ⟨gk,0,none⟩) LK.length ck) (MQ.offB (j:=0) (u:=.slice (some ⟨gc,0,none⟩) d.codes.length cc) Qb B2.set.set.set.set.set) B2.set.set.set.set.set.set) B2.set.set.set.set.set.set.set) B2.set.set.set.set.set.set.set.set
  refine ⟨⟨_,_,_,_,LC,LK2,_,rfl,Qc.keep (fun b _ hb1=>Below.heap_alloc _ _ _ hb1) (by simp),?_⟩,fun b9 hX1=>?_⟩
  ·repeat' (first | with_reducible exact K5.out | (with_reducible refine Below.setCell ?_ (by first | exact bk | (show B≤w.heap.size+1+1;omega) | (show B≤w.heap.size;omega)) _) | (with_reducible refine Below.alloc ?_ (by simp;omega) _))
  ·have hX2:=H.out.lt hX1
   have hk9:b9≠gk:=fun e=>hX1 (e▸H.out.hh.k gk rfl)
   have hr9:b9≠gr:=fun e=>hX1 (e▸H.out.hh.ki who _ gr HX.out (.inl rfl))
   have base9:w5.heap[b9]? =w.heap[b9]? :=by first | exact (HFR.out b9 (fun h=>h.elim (fun h=>hX1 h.2) (fun h=>by have:=HKV.out.size;omega))).trans (HKV.out.block b9 hX2) | exact HKV.out.block b9 hX2
   repeat' (first | with_reducible exact base9 | (with_reducible refine (Below.heap_setCell _ ⟨_,_,none⟩ _ b9 (by first | (show b9≠w.heap.size+1+1;omega) | (show b9≠gk;omega) | (show b9≠gr;omega) | (show b9≠w.heap.size;omega))).trans ?_) | (with_reducible refine (Below.heap_alloc _ _ _ (by simp;omega)).trans ?_))
end Go.Proofs.YtkhjhibigldcgaaGreat
