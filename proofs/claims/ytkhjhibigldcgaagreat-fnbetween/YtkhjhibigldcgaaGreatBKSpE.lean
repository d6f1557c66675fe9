/- A step of the specification, of an op: jumps and ends. No condition. -/
import Derived.Test.YtkhjhibigldcgaaGreatBG00
import Derived.Test.YtkhjhibigldcgaaGreatBG07
import Derived.Test.YtkhjhibigldcgaaGreatBG10
import Derived.Test.YtkhjhibigldcgaaGreatBG11
import Derived.Test.YtkhjhibigldcgaaGreatBG01
import Derived.Test.YtkhjhibigldcgaaGreatBG09
import Derived.Test.YtkhjhibigldcgaaGreatBG17
namespace Go.Proofs.YtkhjhibigldcgaaGreat
set_option linter.unusedSimpArgs false
set_option linter.unusedVariables false
set_option maxRecDepth 100000
open Go.RowKit
set_option maxHeartbeats 4000000 in
theorem sp10 {Hq : Nat → Prop} (B : Nat) (vc vk vm vt : Value) (LC : List CV) (LK : List KV) (S : List RS) (d : MD) (who : Nat) (k : KD) (code : List I5) (s : I5) (late : Int) (w : World) (h : MQ w B Hq vc vk vm vt LC LK S d) (ha : At8 d who k code s) (hb : B ≤ w.heap.size) (ho : s.o = 10) :
  Calls Tryz.prog 28 #[.agg #[vc,vk,vm,vt],.agg #[.int .i64 who,.int .i64 late]] w fun e w'=>StepX w B Hq vc vk vm vt LC LK S d (stepAt d who late k code.length s) e w':=by
 obtain ⟨p,gc,cc,gk,ck,gs,cs,gr,cr,gv,cv,gO,cO,st,ct,O⟩:=h.open ha
 have HO8:=(show Hid (Op8 w B vc vk vm vt LK d who p k code s gc cc gk ck gs cs gr cr gv cv gO cO st ct) from O)
 obtain ⟨n1,n2,n3,n4,n5,n6,n7,n8,n9,n10⟩:=O.ne h
 obtain ⟨ec,ek,em,et,hx,hp,wc,wk,c0,k0,k1,k2,k3,s0,s1,s2,s3,s4,rr,fk,fr,zc,zk,zs,zr,zv,zO,bk,br,bv,bO⟩:=O
 subst ec ek em et
 have H:=hidS h
 have HA:=hidS ha
 have H8:Hid (k.regs.length=8):=ha.regs
 have HX:=hidS hx
 have hok:=ha.ok
 unfold stX Plain.stepB at hok
 rw [decide_eq_true_eq] at hok
 have hpl:=ha.pcl
 have hn8:=ha.n8
 have htr:=ha.tr
 obtain ⟨pc,regs,vw,st_⟩:=k
 obtain ⟨o,r,a,b,n⟩:=s
 simp only at ho hp hok k0 k3 rr s0 s1 s2 s3 s4 hpl
 subst hp
 subst ho
 have hn0:0≤n:=by omega
 have hin:n < (code.length:Int):=by omega
 clear hok
 have b0:(0:Int)≤(who:Int):=by omega
 have b1:(who:Int) < (d.codes.length:Int):=by omega
 have b2:(who:Int) < (LK.length:Int):=by omega
 have b3:(0:Int)≤(p:Int):=by omega
 have b4:(p:Int) < (code.length:Int):=by omega
 have z1:gk < w.heap.size+1:=by omega
 have z2:gk < w.heap.size+1+1:=by omega
 have C0:=hidS c0
 have K0:=hidS k0
 have K3:=hidS k3
 have RR:=hidS rr
 have FK:=hidS fk
 have FR:=hidS fr
 clear h ha hx rr fk fr
 go_enter Tryz.func28,Tryz.ntmps28
 go_wp2_with fail
 obtain ⟨W,hW⟩:∃ W,(((w.alloc (.cells #[.slice (some ⟨gc,0,none⟩) d.codes.length cc,.slice (some ⟨gk,0,none⟩) LK.length ck,.slice (some ⟨gO,0,none⟩) d.mem.length cO,.slice st d.tr.length ct] 35)).alloc (.cells #[.int .i64 who,.int .i64 late] 75)).alloc (.cells #[.slice none 0 0,.slice none 0 0,.slice none 0 0,.slice none 0 0] 35)).alloc (.cells #[.int .i64 p,.slice (some ⟨gr,0,none⟩) 8 cr,.slice (some ⟨gv,0,none⟩) 24 cv,.int .i64 st_] 42)=W:=⟨_,rfl⟩
 obtain ⟨V,hV⟩:∃ V,(W.alloc (.cells #[.int .i64 10,.int .i64 r,.int .i64 a,.int .i64 b,.int .i64 n] 65)).drew=V:=⟨_,rfl⟩
 obtain ⟨BX,KV⟩:=boxes5 hW hV
 have HBT:Hid (BxT V w.heap.size∧BxT V (w.heap.size+1+1)):=boxT hW hV
 have q0:W.cell? ⟨w.heap.size,0,none⟩=some (.slice (some ⟨gc,0,none⟩) d.codes.length cc):=by subst hW;simp [go_sem]
 have q1:W.cell? ⟨w.heap.size+1,0,none⟩=some (.int .i64 who):=by subst hW;simp [go_sem]
 have q2:W.cell? ⟨w.heap.size+1+1+1,0,none⟩=some (.int .i64 p):=by subst hW;simp [go_sem]
 have kW:Below w.heap.size w W:=by subst hW;exact ((((Below.refl _ _).alloc (Nat.le_refl _) _).alloc (by simp) _).alloc (by simp;omega) _).alloc (by simp;omega) _
 have q3:=(kW.cell (p:=⟨gc,who,none⟩) zc).trans c0
 have q4:=(kW.cell (p:=⟨gs,p * 5,none⟩) zs).trans s0
 have q5:=(kW.cell (p:=⟨gs,p * 5+1,none⟩) zs).trans s1
 have q6:=(kW.cell (p:=⟨gs,p * 5+2,none⟩) zs).trans s2
 have q7:=(kW.cell (p:=⟨gs,p * 5+3,none⟩) zs).trans s3
 have q8:=(kW.cell (p:=⟨gs,p * 5+4,none⟩) zs).trans s4
 have zW:=(show Hid (W.heap.size=w.heap.size+1+1+1+1) from by subst hW;show _=_;simp)
 have y0:w.heap.size < W.heap.size:=by have:=zW.out;omega
 have y1:w.heap.size+1 < W.heap.size:=by have:=zW.out;omega
 have y2:w.heap.size+1+1+1 < W.heap.size:=by have:=zW.out;omega
 have y3:gc < W.heap.size:=by omega
 have y4:gs < W.heap.size:=by omega
 rw [hW]
 have HV:=hidS hV
 have HBX:=(show Hid (Bx5 V w.heap.size _ _ _ _ _ _ _ _ _ _ _ _ _ _ _) from BX)
 have HKV:Hid (Below w.heap.size w V):=KV
 clear hW hV BX KV kW
 go_region
 rw [HV.out]
 rw [zW.out]
 clear q0 q1 q2 q3 q4 q5 q6 q7 q8 y0 y1 y2 y3 y4 c0 k0 k1 k2 k3 s0 s1 s2 s3 s4
 obtain ⟨m0,m1,m2,m3,x0,x1,a0,a1,a2,a3,e0,e1,e2,e3,t0,t1,t2,t3,t4,fm,fa,zV⟩:=HBX.out
 have l0:=(HKV.out.cell (p:=⟨gc,who,none⟩) zc).trans C0.out
 have l2:=(HKV.out.cell (p:=⟨gk,who * 4,none⟩) zk).trans K0.out
 have l3:=(HKV.out.cell (p:=⟨gk,who * 4+3,none⟩) zk).trans K3.out
 have f2:∀ j,V.frozen? ⟨gk,j,none⟩=false:=fun j=>(HKV.out.frozen (p:=⟨gk,j,none⟩) zk).trans (FK.out j)
 have f3:∀ j,V.frozen? ⟨gr,j,none⟩=false:=fun j=>(HKV.out.frozen (p:=⟨gr,j,none⟩) zr).trans (FR.out j)
 have v0:w.heap.size < V.heap.size:=by omega
 have v1:w.heap.size+1 < V.heap.size:=by omega
 have v2:w.heap.size+1+1 < V.heap.size:=by omega
 have v3:w.heap.size+1+1+1 < V.heap.size:=by omega
 have v4:gc < V.heap.size:=by omega
 have v5:gr < V.heap.size:=by omega
 have v6:gk < V.heap.size:=by omega
 have w1:IntKind.i64.wrap ((p:Int)+1)=(p:Int)+1:=Go.IntWalk.i64_in _ (by omega)
 have HQ:=H
 have EQ:Hid (stepAt d who late ⟨p,regs,vw,st_⟩ code.length ⟨10,r,a,b,n⟩=(goM d who ⟨p,regs,vw,st_⟩ code.length n,0)):=by
  show _=_
  rw [stepAt10 _ _ _ _ _ _ rfl]
 go_wp2_with fail
 refine bodyPost_ret (v:=.tuple #[.agg #[.slice (some ⟨gc,0,none⟩) d.codes.length cc,.slice (some ⟨gk,0,none⟩) LK.length ck,.slice (some ⟨gO,0,none⟩) d.mem.length cO,.slice st d.tr.length ct],.int .i64 0]) (by simp [results,Tryz.results28,go_sem,fa,a0,a1,a2,a3]) rfl ?_
 rw [EQ.out]
 refine ⟨ex7 (HQ.out.go (n:=code.length) rfl HX.out n (by omega) (fun b hb1=>?_) ?_) ?_,fun b9 hX1=>?_⟩
 ·repeat' (first | with_reducible exact HKV.out.block b hb1 | (with_reducible refine (Below.heap_setCell _ ⟨w.heap.size+1+1,_,none⟩ _ b (by show b≠w.heap.size+1+1;omega)).trans ?_) | (with_reducible refine heap_pair ?_))
 ·simp;omega
 ·repeat' (first | with_reducible exact HKV.out.mono hb | (with_reducible refine Below.setCell ?_ (by first | exact br | exact bk | (show B≤w.heap.size+1+1;omega)) _))
 ·have hX2:=H.out.lt hX1
  have hk9:b9≠gk:=fun e=>hX1 (e▸H.out.hh.k gk rfl)
  have hr9:b9≠gr:=fun e=>hX1 (e▸H.out.hh.ki who _ gr HX.out (.inl rfl))
  repeat' (first | with_reducible exact HKV.out.block b9 hX2 | (with_reducible refine (Below.heap_setCell _ ⟨_,_,none⟩ _ b9 (by first | (show b9≠w.heap.size+1+1;omega) | (show b9≠gk;omega) | (show b9≠gr;omega) | (show b9≠w.heap.size;omega))).trans ?_) | (with_reducible refine (Below.heap_alloc _ _ _ (by simp;omega)).trans ?_))
set_option maxHeartbeats 4000000 in
theorem sp11 {Hq : Nat → Prop} (B : Nat) (vc vk vm vt : Value) (LC : List CV) (LK : List KV) (S : List RS) (d : MD) (who : Nat) (k : KD) (code : List I5) (s : I5) (late : Int) (w : World) (h : MQ w B Hq vc vk vm vt LC LK S d) (ha : At8 d who k code s) (hb : B ≤ w.heap.size) (ho : s.o = 11) :
  Calls Tryz.prog 28 #[.agg #[vc,vk,vm,vt],.agg #[.int .i64 who,.int .i64 late]] w fun e w'=>StepX w B Hq vc vk vm vt LC LK S d (stepAt d who late k code.length s) e w':=by
 obtain ⟨p,gc,cc,gk,ck,gs,cs,gr,cr,gv,cv,gO,cO,st,ct,O⟩:=h.open ha
 have HO8:=(show Hid (Op8 w B vc vk vm vt LK d who p k code s gc cc gk ck gs cs gr cr gv cv gO cO st ct) from O)
 obtain ⟨n1,n2,n3,n4,n5,n6,n7,n8,n9,n10⟩:=O.ne h
 obtain ⟨ec,ek,em,et,hx,hp,wc,wk,c0,k0,k1,k2,k3,s0,s1,s2,s3,s4,rr,fk,fr,zc,zk,zs,zr,zv,zO,bk,br,bv,bO⟩:=O
 subst ec ek em et
 have H:=hidS h
 have HA:=hidS ha
 have H8:Hid (k.regs.length=8):=ha.regs
 have HX:=hidS hx
 have hok:=ha.ok
 unfold stX Plain.stepB at hok
 rw [decide_eq_true_eq] at hok
 have hpl:=ha.pcl
 have hn8:=ha.n8
 have htr:=ha.tr
 obtain ⟨pc,regs,vw,st_⟩:=k
 obtain ⟨o,r,a,b,n⟩:=s
 simp only at ho hp hok k0 k3 rr s0 s1 s2 s3 s4 hpl
 subst hp
 subst ho
 obtain ⟨a',ha'⟩:∃ a':Nat,a=a':=⟨a.toNat,by omega⟩
 subst ha'
 have ba0:(0:Int)≤(a':Int):=by omega
 have ba1:(a':Int) < 8:=by omega
 have ba2:a' < 8:=by omega
 have hn0:0≤n:=by omega
 have hin0:n < (code.length:Int):=by omega
 clear hok
 have b0:(0:Int)≤(who:Int):=by omega
 have b1:(who:Int) < (d.codes.length:Int):=by omega
 have b2:(who:Int) < (LK.length:Int):=by omega
 have b3:(0:Int)≤(p:Int):=by omega
 have b4:(p:Int) < (code.length:Int):=by omega
 have z1:gk < w.heap.size+1:=by omega
 have z2:gk < w.heap.size+1+1:=by omega
 have C0:=hidS c0
 have K0:=hidS k0
 have K3:=hidS k3
 have RR:=hidS rr
 have FK:=hidS fk
 have FR:=hidS fr
 clear h ha hx rr fk fr
 go_enter Tryz.func28,Tryz.ntmps28
 go_wp2_with fail
 obtain ⟨W,hW⟩:∃ W,(((w.alloc (.cells #[.slice (some ⟨gc,0,none⟩) d.codes.length cc,.slice (some ⟨gk,0,none⟩) LK.length ck,.slice (some ⟨gO,0,none⟩) d.mem.length cO,.slice st d.tr.length ct] 35)).alloc (.cells #[.int .i64 who,.int .i64 late] 75)).alloc (.cells #[.slice none 0 0,.slice none 0 0,.slice none 0 0,.slice none 0 0] 35)).alloc (.cells #[.int .i64 p,.slice (some ⟨gr,0,none⟩) 8 cr,.slice (some ⟨gv,0,none⟩) 24 cv,.int .i64 st_] 42)=W:=⟨_,rfl⟩
 obtain ⟨V,hV⟩:∃ V,(W.alloc (.cells #[.int .i64 11,.int .i64 r,.int .i64 a',.int .i64 b,.int .i64 n] 65)).drew=V:=⟨_,rfl⟩
 obtain ⟨BX,KV⟩:=boxes5 hW hV
 have HBT:Hid (BxT V w.heap.size∧BxT V (w.heap.size+1+1)):=boxT hW hV
 have q0:W.cell? ⟨w.heap.size,0,none⟩=some (.slice (some ⟨gc,0,none⟩) d.codes.length cc):=by subst hW;simp [go_sem]
 have q1:W.cell? ⟨w.heap.size+1,0,none⟩=some (.int .i64 who):=by subst hW;simp [go_sem]
 have q2:W.cell? ⟨w.heap.size+1+1+1,0,none⟩=some (.int .i64 p):=by subst hW;simp [go_sem]
 have kW:Below w.heap.size w W:=by subst hW;exact ((((Below.refl _ _).alloc (Nat.le_refl _) _).alloc (by simp) _).alloc (by simp;omega) _).alloc (by simp;omega) _
 have q3:=(kW.cell (p:=⟨gc,who,none⟩) zc).trans c0
 have q4:=(kW.cell (p:=⟨gs,p * 5,none⟩) zs).trans s0
 have q5:=(kW.cell (p:=⟨gs,p * 5+1,none⟩) zs).trans s1
 have q6:=(kW.cell (p:=⟨gs,p * 5+2,none⟩) zs).trans s2
 have q7:=(kW.cell (p:=⟨gs,p * 5+3,none⟩) zs).trans s3
 have q8:=(kW.cell (p:=⟨gs,p * 5+4,none⟩) zs).trans s4
 have zW:=(show Hid (W.heap.size=w.heap.size+1+1+1+1) from by subst hW;show _=_;simp)
 have y0:w.heap.size < W.heap.size:=by have:=zW.out;omega
 have y1:w.heap.size+1 < W.heap.size:=by have:=zW.out;omega
 have y2:w.heap.size+1+1+1 < W.heap.size:=by have:=zW.out;omega
 have y3:gc < W.heap.size:=by omega
 have y4:gs < W.heap.size:=by omega
 rw [hW]
 have HV:=hidS hV
 have HBX:=(show Hid (Bx5 V w.heap.size _ _ _ _ _ _ _ _ _ _ _ _ _ _ _) from BX)
 have HKV:Hid (Below w.heap.size w V):=KV
 clear hW hV BX KV kW
 go_region
 rw [HV.out]
 rw [zW.out]
 clear q0 q1 q2 q3 q4 q5 q6 q7 q8 y0 y1 y2 y3 y4 c0 k0 k1 k2 k3 s0 s1 s2 s3 s4
 obtain ⟨m0,m1,m2,m3,x0,x1,a0,a1,a2,a3,e0,e1,e2,e3,t0,t1,t2,t3,t4,fm,fa,zV⟩:=HBX.out
 have l0:=(HKV.out.cell (p:=⟨gc,who,none⟩) zc).trans C0.out
 have l2:=(HKV.out.cell (p:=⟨gk,who * 4,none⟩) zk).trans K0.out
 have l3:=(HKV.out.cell (p:=⟨gk,who * 4+3,none⟩) zk).trans K3.out
 obtain ⟨va,hva⟩:∃ v,regs.getD a' 0=v:=⟨_,rfl⟩
 have HVa:=hidS hva
 clear hva
 have la:V.cell? ⟨gr,a',none⟩=some (.int .i64 va):=by rw [← HVa.out];exact (HKV.out.cell (p:=⟨gr,a',none⟩) zr).trans (RR.out a' (by omega))
 have f2:∀ j,V.frozen? ⟨gk,j,none⟩=false:=fun j=>(HKV.out.frozen (p:=⟨gk,j,none⟩) zk).trans (FK.out j)
 have f3:∀ j,V.frozen? ⟨gr,j,none⟩=false:=fun j=>(HKV.out.frozen (p:=⟨gr,j,none⟩) zr).trans (FR.out j)
 have v0:w.heap.size < V.heap.size:=by omega
 have v1:w.heap.size+1 < V.heap.size:=by omega
 have v2:w.heap.size+1+1 < V.heap.size:=by omega
 have v3:w.heap.size+1+1+1 < V.heap.size:=by omega
 have v4:gc < V.heap.size:=by omega
 have v5:gr < V.heap.size:=by omega
 have v6:gk < V.heap.size:=by omega
 have w1:IntKind.i64.wrap ((p:Int)+1)=(p:Int)+1:=Go.IntWalk.i64_in _ (by omega)
 have HQ:=H
 by_cases hz:va=0
 ·subst hz
  have hin:=hin0
  have EQ:Hid (stepAt d who late ⟨p,regs,vw,st_⟩ code.length ⟨11,r,a',b,n⟩=(goM d who ⟨p,regs,vw,st_⟩ code.length n,0)):=by
   show _=_
   rw [stepAt11 _ _ _ _ _ _ rfl];unfold regA;simp only [Int.toNat_natCast];rw [HVa.out,if_pos rfl]
  go_wp2_with fail
  refine bodyPost_ret (v:=.tuple #[.agg #[.slice (some ⟨gc,0,none⟩) d.codes.length cc,.slice (some ⟨gk,0,none⟩) LK.length ck,.slice (some ⟨gO,0,none⟩) d.mem.length cO,.slice st d.tr.length ct],.int .i64 0]) (by simp [results,Tryz.results28,go_sem,fa,a0,a1,a2,a3]) rfl ?_
  rw [EQ.out]
  refine ⟨ex7 (HQ.out.go (n:=code.length) rfl HX.out n (by omega) (fun b hb1=>?_) ?_) ?_,fun b9 hX1=>?_⟩
  ·repeat' (first | with_reducible exact HKV.out.block b hb1 | (with_reducible refine (Below.heap_setCell _ ⟨w.heap.size+1+1,_,none⟩ _ b (by show b≠w.heap.size+1+1;omega)).trans ?_) | (with_reducible refine heap_pair ?_))
  ·simp;omega
  ·repeat' (first | with_reducible exact HKV.out.mono hb | (with_reducible refine Below.setCell ?_ (by first | exact br | exact bk | (show B≤w.heap.size+1+1;omega)) _))
  ·have hX2:=H.out.lt hX1
   have hk9:b9≠gk:=fun e=>hX1 (e▸H.out.hh.k gk rfl)
   have hr9:b9≠gr:=fun e=>hX1 (e▸H.out.hh.ki who _ gr HX.out (.inl rfl))
   repeat' (first | with_reducible exact HKV.out.block b9 hX2 | (with_reducible refine (Below.heap_setCell _ ⟨_,_,none⟩ _ b9 (by first | (show b9≠w.heap.size+1+1;omega) | (show b9≠gk;omega) | (show b9≠gr;omega) | (show b9≠w.heap.size;omega))).trans ?_) | (with_reducible refine (Below.heap_alloc _ _ _ (by simp;omega)).trans ?_))
 ·have EQ:Hid (stepAt d who late ⟨p,regs,vw,st_⟩ code.length ⟨11,r,a',b,n⟩=(goM d who ⟨p,regs,vw,st_⟩ code.length (p+1),0)):=by
   show _=_
   rw [stepAt11 _ _ _ _ _ _ rfl];unfold regA;simp only [Int.toNat_natCast];rw [HVa.out,if_neg hz]
  by_cases hin:(p:Int)+1 < (code.length:Int)
  ·go_wp2_with fail
   refine bodyPost_ret (v:=.tuple #[.agg #[.slice (some ⟨gc,0,none⟩) d.codes.length cc,.slice (some ⟨gk,0,none⟩) LK.length ck,.slice (some ⟨gO,0,none⟩) d.mem.length cO,.slice st d.tr.length ct],.int .i64 0]) (by simp [results,Tryz.results28,go_sem,fa,a0,a1,a2,a3]) rfl ?_
   rw [EQ.out]
   refine ⟨ex7 (HQ.out.go (n:=code.length) rfl HX.out (p+1) (by omega) (fun b hb1=>?_) ?_) ?_,fun b9 hX1=>?_⟩
   ·repeat' (first | with_reducible exact HKV.out.block b hb1 | (with_reducible refine (Below.heap_setCell _ ⟨w.heap.size+1+1,_,none⟩ _ b (by show b≠w.heap.size+1+1;omega)).trans ?_) | (with_reducible refine heap_pair ?_))
   ·simp;omega
   ·repeat' (first | with_reducible exact HKV.out.mono hb | (with_reducible refine Below.setCell ?_ (by first | exact br | exact bk | (show B≤w.heap.size+1+1;omega)) _))
   ·have hX2:=H.out.lt hX1
    have hk9:b9≠gk:=fun e=>hX1 (e▸H.out.hh.k gk rfl)
    have hr9:b9≠gr:=fun e=>hX1 (e▸H.out.hh.ki who _ gr HX.out (.inl rfl))
    repeat' (first | with_reducible exact HKV.out.block b9 hX2 | (with_reducible refine (Below.heap_setCell _ ⟨_,_,none⟩ _ b9 (by first | (show b9≠w.heap.size+1+1;omega) | (show b9≠gk;omega) | (show b9≠gr;omega) | (show b9≠w.heap.size;omega))).trans ?_) | (with_reducible refine (Below.heap_alloc _ _ _ (by simp;omega)).trans ?_))
  ·go_wp2_with fail
   refine bodyPost_ret (v:=.tuple #[.agg #[.slice (some ⟨gc,0,none⟩) d.codes.length cc,.slice (some ⟨gk,0,none⟩) LK.length ck,.slice (some ⟨gO,0,none⟩) d.mem.length cO,.slice st d.tr.length ct],.int .i64 0]) (by simp [results,Tryz.results28,go_sem,fa,a0,a1,a2,a3]) rfl ?_
   rw [EQ.out]
   refine ⟨ex7 (HQ.out.no (n:=code.length) rfl HX.out (p+1) (by omega) (fun b hb1=>?_) ?_) ?_,fun b9 hX1=>?_⟩
   ·repeat' (first | with_reducible exact HKV.out.block b hb1 | (with_reducible refine (Below.heap_setCell _ ⟨w.heap.size+1+1,_,none⟩ _ b (by show b≠w.heap.size+1+1;omega)).trans ?_) | (with_reducible refine heap_pair ?_))
   ·simp;omega
   ·repeat' (first | with_reducible exact HKV.out.mono hb | (with_reducible refine Below.setCell ?_ (by first | exact br | exact bk | (show B≤w.heap.size+1+1;omega)) _))
   ·have hX2:=H.out.lt hX1
    have hk9:b9≠gk:=fun e=>hX1 (e▸H.out.hh.k gk rfl)
    have hr9:b9≠gr:=fun e=>hX1 (e▸H.out.hh.ki who _ gr HX.out (.inl rfl))
    repeat' (first | with_reducible exact HKV.out.block b9 hX2 | (with_reducible refine (Below.heap_setCell _ ⟨_,_,none⟩ _ b9 (by first | (show b9≠w.heap.size+1+1;omega) | (show b9≠gk;omega) | (show b9≠gr;omega) | (show b9≠w.heap.size;omega))).trans ?_) | (with_reducible refine (Below.heap_alloc _ _ _ (by simp;omega)).trans ?_))
set_option maxHeartbeats 4000000 in
theorem sp12 {Hq : Nat → Prop} (B : Nat) (vc vk vm vt : Value) (LC : List CV) (LK : List KV) (S : List RS) (d : MD) (who : Nat) (k : KD) (code : List I5) (s : I5) (late : Int) (w : World) (h : MQ w B Hq vc vk vm vt LC LK S d) (ha : At8 d who k code s) (hb : B ≤ w.heap.size) (ho : s.o = 12) :
  Calls Tryz.prog 28 #[.agg #[vc,vk,vm,vt],.agg #[.int .i64 who,.int .i64 late]] w fun e w'=>StepX w B Hq vc vk vm vt LC LK S d (stepAt d who late k code.length s) e w':=by
 obtain ⟨p,gc,cc,gk,ck,gs,cs,gr,cr,gv,cv,gO,cO,st,ct,O⟩:=h.open ha
 have HO8:=(show Hid (Op8 w B vc vk vm vt LK d who p k code s gc cc gk ck gs cs gr cr gv cv gO cO st ct) from O)
 obtain ⟨n1,n2,n3,n4,n5,n6,n7,n8,n9,n10⟩:=O.ne h
 obtain ⟨ec,ek,em,et,hx,hp,wc,wk,c0,k0,k1,k2,k3,s0,s1,s2,s3,s4,rr,fk,fr,zc,zk,zs,zr,zv,zO,bk,br,bv,bO⟩:=O
 subst ec ek em et
 have H:=hidS h
 have HA:=hidS ha
 have H8:Hid (k.regs.length=8):=ha.regs
 have HX:=hidS hx
 have hok:=ha.ok
 unfold stX Plain.stepB at hok
 rw [decide_eq_true_eq] at hok
 have hpl:=ha.pcl
 have hn8:=ha.n8
 have htr:=ha.tr
 obtain ⟨pc,regs,vw,st_⟩:=k
 obtain ⟨o,r,a,b,n⟩:=s
 simp only at ho hp hok k0 k3 rr s0 s1 s2 s3 s4 hpl
 subst hp
 subst ho
 clear hok
 have b0:(0:Int)≤(who:Int):=by omega
 have b1:(who:Int) < (d.codes.length:Int):=by omega
 have b2:(who:Int) < (LK.length:Int):=by omega
 have b3:(0:Int)≤(p:Int):=by omega
 have b4:(p:Int) < (code.length:Int):=by omega
 have z1:gk < w.heap.size+1:=by omega
 have z2:gk < w.heap.size+1+1:=by omega
 have C0:=hidS c0
 have K0:=hidS k0
 have K3:=hidS k3
 have RR:=hidS rr
 have FK:=hidS fk
 have FR:=hidS fr
 clear h ha hx rr fk fr
 go_enter Tryz.func28,Tryz.ntmps28
 go_wp2_with fail
 obtain ⟨W,hW⟩:∃ W,(((w.alloc (.cells #[.slice (some ⟨gc,0,none⟩) d.codes.length cc,.slice (some ⟨gk,0,none⟩) LK.length ck,.slice (some ⟨gO,0,none⟩) d.mem.length cO,.slice st d.tr.length ct] 35)).alloc (.cells #[.int .i64 who,.int .i64 late] 75)).alloc (.cells #[.slice none 0 0,.slice none 0 0,.slice none 0 0,.slice none 0 0] 35)).alloc (.cells #[.int .i64 p,.slice (some ⟨gr,0,none⟩) 8 cr,.slice (some ⟨gv,0,none⟩) 24 cv,.int .i64 st_] 42)=W:=⟨_,rfl⟩
 obtain ⟨V,hV⟩:∃ V,(W.alloc (.cells #[.int .i64 12,.int .i64 r,.int .i64 a,.int .i64 b,.int .i64 n] 65)).drew=V:=⟨_,rfl⟩
 obtain ⟨BX,KV⟩:=boxes5 hW hV
 have HBT:Hid (BxT V w.heap.size∧BxT V (w.heap.size+1+1)):=boxT hW hV
 have q0:W.cell? ⟨w.heap.size,0,none⟩=some (.slice (some ⟨gc,0,none⟩) d.codes.length cc):=by subst hW;simp [go_sem]
 have q1:W.cell? ⟨w.heap.size+1,0,none⟩=some (.int .i64 who):=by subst hW;simp [go_sem]
 have q2:W.cell? ⟨w.heap.size+1+1+1,0,none⟩=some (.int .i64 p):=by subst hW;simp [go_sem]
 have kW:Below w.heap.size w W:=by subst hW;exact ((((Below.refl _ _).alloc (Nat.le_refl _) _).alloc (by simp) _).alloc (by simp;omega) _).alloc (by simp;omega) _
 have q3:=(kW.cell (p:=⟨gc,who,none⟩) zc).trans c0
 have q4:=(kW.cell (p:=⟨gs,p * 5,none⟩) zs).trans s0
 have q5:=(kW.cell (p:=⟨gs,p * 5+1,none⟩) zs).trans s1
 have q6:=(kW.cell (p:=⟨gs,p * 5+2,none⟩) zs).trans s2
 have q7:=(kW.cell (p:=⟨gs,p * 5+3,none⟩) zs).trans s3
 have q8:=(kW.cell (p:=⟨gs,p * 5+4,none⟩) zs).trans s4
 have zW:=(show Hid (W.heap.size=w.heap.size+1+1+1+1) from by subst hW;show _=_;simp)
 have y0:w.heap.size < W.heap.size:=by have:=zW.out;omega
 have y1:w.heap.size+1 < W.heap.size:=by have:=zW.out;omega
 have y2:w.heap.size+1+1+1 < W.heap.size:=by have:=zW.out;omega
 have y3:gc < W.heap.size:=by omega
 have y4:gs < W.heap.size:=by omega
 rw [hW]
 have HV:=hidS hV
 have HBX:=(show Hid (Bx5 V w.heap.size _ _ _ _ _ _ _ _ _ _ _ _ _ _ _) from BX)
 have HKV:Hid (Below w.heap.size w V):=KV
 clear hW hV BX KV kW
 go_region
 rw [HV.out]
 rw [zW.out]
 clear q0 q1 q2 q3 q4 q5 q6 q7 q8 y0 y1 y2 y3 y4 c0 k0 k1 k2 k3 s0 s1 s2 s3 s4
 obtain ⟨m0,m1,m2,m3,x0,x1,a0,a1,a2,a3,e0,e1,e2,e3,t0,t1,t2,t3,t4,fm,fa,zV⟩:=HBX.out
 have l0:=(HKV.out.cell (p:=⟨gc,who,none⟩) zc).trans C0.out
 have l2:=(HKV.out.cell (p:=⟨gk,who * 4,none⟩) zk).trans K0.out
 have l3:=(HKV.out.cell (p:=⟨gk,who * 4+3,none⟩) zk).trans K3.out
 have f2:∀ j,V.frozen? ⟨gk,j,none⟩=false:=fun j=>(HKV.out.frozen (p:=⟨gk,j,none⟩) zk).trans (FK.out j)
 have f3:∀ j,V.frozen? ⟨gr,j,none⟩=false:=fun j=>(HKV.out.frozen (p:=⟨gr,j,none⟩) zr).trans (FR.out j)
 have v0:w.heap.size < V.heap.size:=by omega
 have v1:w.heap.size+1 < V.heap.size:=by omega
 have v2:w.heap.size+1+1 < V.heap.size:=by omega
 have v3:w.heap.size+1+1+1 < V.heap.size:=by omega
 have v4:gc < V.heap.size:=by omega
 have v5:gr < V.heap.size:=by omega
 have v6:gk < V.heap.size:=by omega
 have w1:IntKind.i64.wrap ((p:Int)+1)=(p:Int)+1:=Go.IntWalk.i64_in _ (by omega)
 have HQ:=H
 have EQ:Hid (stepAt d who late ⟨p,regs,vw,st_⟩ code.length ⟨12,r,a,b,n⟩=(putK d who ⟨p,regs,vw,1⟩,0)):=by
  show _=_
  rw [stepAt12 _ _ _ _ _ _ rfl]
 go_wp2_with fail
 refine bodyPost_ret (v:=.tuple #[.agg #[.slice (some ⟨gc,0,none⟩) d.codes.length cc,.slice (some ⟨gk,0,none⟩) LK.length ck,.slice (some ⟨gO,0,none⟩) d.mem.length cO,.slice st d.tr.length ct],.int .i64 0]) (by simp [results,Tryz.results28,go_sem,fa,a0,a1,a2,a3]) rfl ?_
 rw [EQ.out]
 refine ⟨ex7 (HQ.out.st rfl HX.out 1 (fun b hb1=>?_) ?_) ?_,fun b9 hX1=>?_⟩
 ·repeat' (first | with_reducible exact HKV.out.block b hb1 | (with_reducible refine (Below.heap_setCell _ ⟨w.heap.size+1+1,_,none⟩ _ b (by show b≠w.heap.size+1+1;omega)).trans ?_) | (with_reducible refine heap_pair ?_))
 ·simp;omega
 ·repeat' (first | with_reducible exact HKV.out.mono hb | (with_reducible refine Below.setCell ?_ (by first | exact br | exact bk | (show B≤w.heap.size+1+1;omega)) _))
 ·have hX2:=H.out.lt hX1
  have hk9:b9≠gk:=fun e=>hX1 (e▸H.out.hh.k gk rfl)
  have hr9:b9≠gr:=fun e=>hX1 (e▸H.out.hh.ki who _ gr HX.out (.inl rfl))
  repeat' (first | with_reducible exact HKV.out.block b9 hX2 | (with_reducible refine (Below.heap_setCell _ ⟨_,_,none⟩ _ b9 (by first | (show b9≠w.heap.size+1+1;omega) | (show b9≠gk;omega) | (show b9≠gr;omega) | (show b9≠w.heap.size;omega))).trans ?_) | (with_reducible refine (Below.heap_alloc _ _ _ (by simp;omega)).trans ?_))
set_option maxHeartbeats 4000000 in
theorem sp13 {Hq : Nat → Prop} (B : Nat) (vc vk vm vt : Value) (LC : List CV) (LK : List KV) (S : List RS) (d : MD) (who : Nat) (k : KD) (code : List I5) (s : I5) (late : Int) (w : World) (h : MQ w B Hq vc vk vm vt LC LK S d) (ha : At8 d who k code s) (hb : B ≤ w.heap.size) (ho : s.o = 13) :
  Calls Tryz.prog 28 #[.agg #[vc,vk,vm,vt],.agg #[.int .i64 who,.int .i64 late]] w fun e w'=>StepX w B Hq vc vk vm vt LC LK S d (stepAt d who late k code.length s) e w':=by
 obtain ⟨p,gc,cc,gk,ck,gs,cs,gr,cr,gv,cv,gO,cO,st,ct,O⟩:=h.open ha
 have HO8:=(show Hid (Op8 w B vc vk vm vt LK d who p k code s gc cc gk ck gs cs gr cr gv cv gO cO st ct) from O)
 obtain ⟨n1,n2,n3,n4,n5,n6,n7,n8,n9,n10⟩:=O.ne h
 obtain ⟨ec,ek,em,et,hx,hp,wc,wk,c0,k0,k1,k2,k3,s0,s1,s2,s3,s4,rr,fk,fr,zc,zk,zs,zr,zv,zO,bk,br,bv,bO⟩:=O
 subst ec ek em et
 have H:=hidS h
 have HA:=hidS ha
 have H8:Hid (k.regs.length=8):=ha.regs
 have HX:=hidS hx
 have hok:=ha.ok
 unfold stX Plain.stepB at hok
 rw [decide_eq_true_eq] at hok
 have hpl:=ha.pcl
 have hn8:=ha.n8
 have htr:=ha.tr
 obtain ⟨pc,regs,vw,st_⟩:=k
 obtain ⟨o,r,a,b,n⟩:=s
 simp only at ho hp hok k0 k3 rr s0 s1 s2 s3 s4 hpl
 subst hp
 subst ho
 clear hok
 have b0:(0:Int)≤(who:Int):=by omega
 have b1:(who:Int) < (d.codes.length:Int):=by omega
 have b2:(who:Int) < (LK.length:Int):=by omega
 have b3:(0:Int)≤(p:Int):=by omega
 have b4:(p:Int) < (code.length:Int):=by omega
 have z1:gk < w.heap.size+1:=by omega
 have z2:gk < w.heap.size+1+1:=by omega
 have C0:=hidS c0
 have K0:=hidS k0
 have K3:=hidS k3
 have RR:=hidS rr
 have FK:=hidS fk
 have FR:=hidS fr
 clear h ha hx rr fk fr
 go_enter Tryz.func28,Tryz.ntmps28
 go_wp2_with fail
 obtain ⟨W,hW⟩:∃ W,(((w.alloc (.cells #[.slice (some ⟨gc,0,none⟩) d.codes.length cc,.slice (some ⟨gk,0,none⟩) LK.length ck,.slice (some ⟨gO,0,none⟩) d.mem.length cO,.slice st d.tr.length ct] 35)).alloc (.cells #[.int .i64 who,.int .i64 late] 75)).alloc (.cells #[.slice none 0 0,.slice none 0 0,.slice none 0 0,.slice none 0 0] 35)).alloc (.cells #[.int .i64 p,.slice (some ⟨gr,0,none⟩) 8 cr,.slice (some ⟨gv,0,none⟩) 24 cv,.int .i64 st_] 42)=W:=⟨_,rfl⟩
 obtain ⟨V,hV⟩:∃ V,(W.alloc (.cells #[.int .i64 13,.int .i64 r,.int .i64 a,.int .i64 b,.int .i64 n] 65)).drew=V:=⟨_,rfl⟩
 obtain ⟨BX,KV⟩:=boxes5 hW hV
 have HBT:Hid (BxT V w.heap.size∧BxT V (w.heap.size+1+1)):=boxT hW hV
 have q0:W.cell? ⟨w.heap.size,0,none⟩=some (.slice (some ⟨gc,0,none⟩) d.codes.length cc):=by subst hW;simp [go_sem]
 have q1:W.cell? ⟨w.heap.size+1,0,none⟩=some (.int .i64 who):=by subst hW;simp [go_sem]
 have q2:W.cell? ⟨w.heap.size+1+1+1,0,none⟩=some (.int .i64 p):=by subst hW;simp [go_sem]
 have kW:Below w.heap.size w W:=by subst hW;exact ((((Below.refl _ _).alloc (Nat.le_refl _) _).alloc (by simp) _).alloc (by simp;omega) _).alloc (by simp;omega) _
 have q3:=(kW.cell (p:=⟨gc,who,none⟩) zc).trans c0
 have q4:=(kW.cell (p:=⟨gs,p * 5,none⟩) zs).trans s0
 have q5:=(kW.cell (p:=⟨gs,p * 5+1,none⟩) zs).trans s1
 have q6:=(kW.cell (p:=⟨gs,p * 5+2,none⟩) zs).trans s2
 have q7:=(kW.cell (p:=⟨gs,p * 5+3,none⟩) zs).trans s3
 have q8:=(kW.cell (p:=⟨gs,p * 5+4,none⟩) zs).trans s4
 have zW:=(show Hid (W.heap.size=w.heap.size+1+1+1+1) from by subst hW;show _=_;simp)
 have y0:w.heap.size < W.heap.size:=by have:=zW.out;omega
 have y1:w.heap.size+1 < W.heap.size:=by have:=zW.out;omega
 have y2:w.heap.size+1+1+1 < W.heap.size:=by have:=zW.out;omega
 have y3:gc < W.heap.size:=by omega
 have y4:gs < W.heap.size:=by omega
 rw [hW]
 have HV:=hidS hV
 have HBX:=(show Hid (Bx5 V w.heap.size _ _ _ _ _ _ _ _ _ _ _ _ _ _ _) from BX)
 have HKV:Hid (Below w.heap.size w V):=KV
 clear hW hV BX KV kW
 go_region
 rw [HV.out]
 rw [zW.out]
 clear q0 q1 q2 q3 q4 q5 q6 q7 q8 y0 y1 y2 y3 y4 c0 k0 k1 k2 k3 s0 s1 s2 s3 s4
 obtain ⟨m0,m1,m2,m3,x0,x1,a0,a1,a2,a3,e0,e1,e2,e3,t0,t1,t2,t3,t4,fm,fa,zV⟩:=HBX.out
 have l0:=(HKV.out.cell (p:=⟨gc,who,none⟩) zc).trans C0.out
 have l2:=(HKV.out.cell (p:=⟨gk,who * 4,none⟩) zk).trans K0.out
 have l3:=(HKV.out.cell (p:=⟨gk,who * 4+3,none⟩) zk).trans K3.out
 have f2:∀ j,V.frozen? ⟨gk,j,none⟩=false:=fun j=>(HKV.out.frozen (p:=⟨gk,j,none⟩) zk).trans (FK.out j)
 have f3:∀ j,V.frozen? ⟨gr,j,none⟩=false:=fun j=>(HKV.out.frozen (p:=⟨gr,j,none⟩) zr).trans (FR.out j)
 have v0:w.heap.size < V.heap.size:=by omega
 have v1:w.heap.size+1 < V.heap.size:=by omega
 have v2:w.heap.size+1+1 < V.heap.size:=by omega
 have v3:w.heap.size+1+1+1 < V.heap.size:=by omega
 have v4:gc < V.heap.size:=by omega
 have v5:gr < V.heap.size:=by omega
 have v6:gk < V.heap.size:=by omega
 have w1:IntKind.i64.wrap ((p:Int)+1)=(p:Int)+1:=Go.IntWalk.i64_in _ (by omega)
 have HQ:=H
 have EQ:Hid (stepAt d who late ⟨p,regs,vw,st_⟩ code.length ⟨13,r,a,b,n⟩=(putK d who ⟨p,regs,vw,2⟩,0)):=by
  show _=_
  rw [stepAt13 _ _ _ _ _ _ rfl]
 go_wp2_with fail
 refine bodyPost_ret (v:=.tuple #[.agg #[.slice (some ⟨gc,0,none⟩) d.codes.length cc,.slice (some ⟨gk,0,none⟩) LK.length ck,.slice (some ⟨gO,0,none⟩) d.mem.length cO,.slice st d.tr.length ct],.int .i64 0]) (by simp [results,Tryz.results28,go_sem,fa,a0,a1,a2,a3]) rfl ?_
 rw [EQ.out]
 refine ⟨ex7 (HQ.out.st rfl HX.out 2 (fun b hb1=>?_) ?_) ?_,fun b9 hX1=>?_⟩
 ·repeat' (first | with_reducible exact HKV.out.block b hb1 | (with_reducible refine (Below.heap_setCell _ ⟨w.heap.size+1+1,_,none⟩ _ b (by show b≠w.heap.size+1+1;omega)).trans ?_) | (with_reducible refine heap_pair ?_))
 ·simp;omega
 ·repeat' (first | with_reducible exact HKV.out.mono hb | (with_reducible refine Below.setCell ?_ (by first | exact br | exact bk | (show B≤w.heap.size+1+1;omega)) _))
 ·have hX2:=H.out.lt hX1
  have hk9:b9≠gk:=fun e=>hX1 (e▸H.out.hh.k gk rfl)
  have hr9:b9≠gr:=fun e=>hX1 (e▸H.out.hh.ki who _ gr HX.out (.inl rfl))
  repeat' (first | with_reducible exact HKV.out.block b9 hX2 | (with_reducible refine (Below.heap_setCell _ ⟨_,_,none⟩ _ b9 (by first | (show b9≠w.heap.size+1+1;omega) | (show b9≠gk;omega) | (show b9≠gr;omega) | (show b9≠w.heap.size;omega))).trans ?_) | (with_reducible refine (Below.heap_alloc _ _ _ (by simp;omega)).trans ?_))
end Go.Proofs.YtkhjhibigldcgaaGreat
