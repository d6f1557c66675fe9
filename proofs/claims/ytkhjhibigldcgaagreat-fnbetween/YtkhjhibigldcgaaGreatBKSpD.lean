/- A step of the specification, of an op: comparisons. No condition. -/
import Derived.Test.YtkhjhibigldcgaaGreatBG00
import Derived.Test.YtkhjhibigldcgaaGreatBG07
import Derived.Test.YtkhjhibigldcgaaGreatBG10
import Derived.Test.YtkhjhibigldcgaaGreatBG11
import Derived.Test.YtkhjhibigldcgaaGreatBG01
import Derived.Test.YtkhjhibigldcgaaGreatBG09
import Derived.Test.YtkhjhibigldcgaaGreatBG17
namespace Go.Proofs.YtkhjhibigldcgaaGreat
set_option linter.unusedSimpArgs false
set_option linter.unusedVariables false
set_option maxRecDepth 100000
open Go.RowKit
set_option maxHeartbeats 4000000 in
theorem sp4 {Hq : Nat → Prop} (B : Nat) (vc vk vm vt : Value) (LC : List CV) (LK : List KV) (S : List RS) (d : MD) (who : Nat) (k : KD) (code : List I5) (s : I5) (late : Int) (w : World) (h : MQ w B Hq vc vk vm vt LC LK S d) (ha : At8 d who k code s) (hb : B ≤ w.heap.size) (ho : s.o = 4) :
  Calls Tryz.prog 28 #[.agg #[vc,vk,vm,vt],.agg #[.int .i64 who,.int .i64 late]] w fun e w'=>StepX w B Hq vc vk vm vt LC LK S d (stepAt d who late k code.length s) e w':=by
 obtain ⟨p,gc,cc,gk,ck,gs,cs,gr,cr,gv,cv,gO,cO,st,ct,O⟩:=h.open ha
 have HO8:=(show Hid (Op8 w B vc vk vm vt LK d who p k code s gc cc gk ck gs cs gr cr gv cv gO cO st ct) from O)
 obtain ⟨n1,n2,n3,n4,n5,n6,n7,n8,n9,n10⟩:=O.ne h
 obtain ⟨ec,ek,em,et,hx,hp,wc,wk,c0,k0,k1,k2,k3,s0,s1,s2,s3,s4,rr,fk,fr,zc,zk,zs,zr,zv,zO,bk,br,bv,bO⟩:=O
 subst ec ek em et
 have H:=hidS h
 have HA:=hidS ha
 have H8:Hid (k.regs.length=8):=ha.regs
 have HX:=hidS hx
 have hok:=ha.ok
 unfold stX Plain.stepB at hok
 rw [decide_eq_true_eq] at hok
 have hpl:=ha.pcl
 have hn8:=ha.n8
 have htr:=ha.tr
 obtain ⟨pc,regs,vw,st_⟩:=k
 obtain ⟨o,r,a,b,n⟩:=s
 simp only at ho hp hok k0 k3 rr s0 s1 s2 s3 s4 hpl
 subst hp
 subst ho
 obtain ⟨r',hr'⟩:∃ r':Nat,r=r':=⟨r.toNat,by omega⟩
 subst hr'
 have br0:(0:Int)≤(r':Int):=by omega
 have br1:(r':Int) < 8:=by omega
 have br2:r' < 8:=by omega
 obtain ⟨a',ha'⟩:∃ a':Nat,a=a':=⟨a.toNat,by omega⟩
 subst ha'
 have ba0:(0:Int)≤(a':Int):=by omega
 have ba1:(a':Int) < 8:=by omega
 have ba2:a' < 8:=by omega
 obtain ⟨b',hb'⟩:∃ b':Nat,b=b':=⟨b.toNat,by omega⟩
 subst hb'
 have bb0:(0:Int)≤(b':Int):=by omega
 have bb1:(b':Int) < 8:=by omega
 have bb2:b' < 8:=by omega
 clear hok
 have b0:(0:Int)≤(who:Int):=by omega
 have b1:(who:Int) < (d.codes.length:Int):=by omega
 have b2:(who:Int) < (LK.length:Int):=by omega
 have b3:(0:Int)≤(p:Int):=by omega
 have b4:(p:Int) < (code.length:Int):=by omega
 have z1:gk < w.heap.size+1:=by omega
 have z2:gk < w.heap.size+1+1:=by omega
 have C0:=hidS c0
 have K0:=hidS k0
 have K3:=hidS k3
 have RR:=hidS rr
 have FK:=hidS fk
 have FR:=hidS fr
 clear h ha hx rr fk fr
 go_enter Tryz.func28,Tryz.ntmps28
 go_wp2_with fail
 obtain ⟨W,hW⟩:∃ W,(((w.alloc (.cells #[.slice (some ⟨gc,0,none⟩) d.codes.length cc,.slice (some ⟨gk,0,none⟩) LK.length ck,.slice (some ⟨gO,0,none⟩) d.mem.length cO,.slice st d.tr.length ct] 35)).alloc (.cells #[.int .i64 who,.int .i64 late] 75)).alloc (.cells #[.slice none 0 0,.slice none 0 0,.slice none 0 0,.slice none 0 0] 35)).alloc (.cells #[.int .i64 p,.slice (some ⟨gr,0,none⟩) 8 cr,.slice (some ⟨gv,0,none⟩) 24 cv,.int .i64 st_] 42)=W:=⟨_,rfl⟩
 obtain ⟨V,hV⟩:∃ V,(W.alloc (.cells #[.int .i64 4,.int .i64 r',.int .i64 a',.int .i64 b',.int .i64 n] 65)).drew=V:=⟨_,rfl⟩
 obtain ⟨BX,KV⟩:=boxes5 hW hV
 have HBT:Hid (BxT V w.heap.size∧BxT V (w.heap.size+1+1)):=boxT hW hV
 have q0:W.cell? ⟨w.heap.size,0,none⟩=some (.slice (some ⟨gc,0,none⟩) d.codes.length cc):=by subst hW;simp [go_sem]
 have q1:W.cell? ⟨w.heap.size+1,0,none⟩=some (.int .i64 who):=by subst hW;simp [go_sem]
 have q2:W.cell? ⟨w.heap.size+1+1+1,0,none⟩=some (.int .i64 p):=by subst hW;simp [go_sem]
 have kW:Below w.heap.size w W:=by subst hW;exact ((((Below.refl _ _).alloc (Nat.le_refl _) _).alloc (by simp) _).alloc (by simp;omega) _).alloc (by simp;omega) _
 have q3:=(kW.cell (p:=⟨gc,who,none⟩) zc).trans c0
 have q4:=(kW.cell (p:=⟨gs,p * 5,none⟩) zs).trans s0
 have q5:=(kW.cell (p:=⟨gs,p * 5+1,none⟩) zs).trans s1
 have q6:=(kW.cell (p:=⟨gs,p * 5+2,none⟩) zs).trans s2
 have q7:=(kW.cell (p:=⟨gs,p * 5+3,none⟩) zs).trans s3
 have q8:=(kW.cell (p:=⟨gs,p * 5+4,none⟩) zs).trans s4
 have zW:=(show Hid (W.heap.size=w.heap.size+1+1+1+1) from by subst hW;show _=_;simp)
 have y0:w.heap.size < W.heap.size:=by have:=zW.out;omega
 have y1:w.heap.size+1 < W.heap.size:=by have:=zW.out;omega
 have y2:w.heap.size+1+1+1 < W.heap.size:=by have:=zW.out;omega
 have y3:gc < W.heap.size:=by omega
 have y4:gs < W.heap.size:=by omega
 rw [hW]
 have HV:=hidS hV
 have HBX:=(show Hid (Bx5 V w.heap.size _ _ _ _ _ _ _ _ _ _ _ _ _ _ _) from BX)
 have HKV:Hid (Below w.heap.size w V):=KV
 clear hW hV BX KV kW
 go_region
 rw [HV.out]
 rw [zW.out]
 clear q0 q1 q2 q3 q4 q5 q6 q7 q8 y0 y1 y2 y3 y4 c0 k0 k1 k2 k3 s0 s1 s2 s3 s4
 obtain ⟨m0,m1,m2,m3,x0,x1,a0,a1,a2,a3,e0,e1,e2,e3,t0,t1,t2,t3,t4,fm,fa,zV⟩:=HBX.out
 have l0:=(HKV.out.cell (p:=⟨gc,who,none⟩) zc).trans C0.out
 have l2:=(HKV.out.cell (p:=⟨gk,who * 4,none⟩) zk).trans K0.out
 have l3:=(HKV.out.cell (p:=⟨gk,who * 4+3,none⟩) zk).trans K3.out
 obtain ⟨vr,hvr⟩:∃ v,regs.getD r' 0=v:=⟨_,rfl⟩
 have HVr:=hidS hvr
 clear hvr
 have lr:V.cell? ⟨gr,r',none⟩=some (.int .i64 vr):=by rw [← HVr.out];exact (HKV.out.cell (p:=⟨gr,r',none⟩) zr).trans (RR.out r' (by omega))
 obtain ⟨va,hva⟩:∃ v,regs.getD a' 0=v:=⟨_,rfl⟩
 have HVa:=hidS hva
 clear hva
 have la:V.cell? ⟨gr,a',none⟩=some (.int .i64 va):=by rw [← HVa.out];exact (HKV.out.cell (p:=⟨gr,a',none⟩) zr).trans (RR.out a' (by omega))
 obtain ⟨vb,hvb⟩:∃ v,regs.getD b' 0=v:=⟨_,rfl⟩
 have HVb:=hidS hvb
 clear hvb
 have lb:V.cell? ⟨gr,b',none⟩=some (.int .i64 vb):=by rw [← HVb.out];exact (HKV.out.cell (p:=⟨gr,b',none⟩) zr).trans (RR.out b' (by omega))
 have f2:∀ j,V.frozen? ⟨gk,j,none⟩=false:=fun j=>(HKV.out.frozen (p:=⟨gk,j,none⟩) zk).trans (FK.out j)
 have f3:∀ j,V.frozen? ⟨gr,j,none⟩=false:=fun j=>(HKV.out.frozen (p:=⟨gr,j,none⟩) zr).trans (FR.out j)
 have v0:w.heap.size < V.heap.size:=by omega
 have v1:w.heap.size+1 < V.heap.size:=by omega
 have v2:w.heap.size+1+1 < V.heap.size:=by omega
 have v3:w.heap.size+1+1+1 < V.heap.size:=by omega
 have v4:gc < V.heap.size:=by omega
 have v5:gr < V.heap.size:=by omega
 have v6:gk < V.heap.size:=by omega
 have w1:IntKind.i64.wrap ((p:Int)+1)=(p:Int)+1:=Go.IntWalk.i64_in _ (by omega)
 have HQ:=(show Hid _ from H.out.reg HX.out H8.out r' (bitNx128 (decide (va < vb))))
 have LN:(LK.set who ⟨⟨p,regs.set r' (bitNx128 (decide (va < vb))),vw,st_⟩,.slice (some ⟨gr,0,none⟩) 8 cr,.slice (some ⟨gv,0,none⟩) 24 cv⟩).length=LK.length:=by rw [List.length_set]
 have HXN:=set_at (y:=⟨⟨p,regs.set r' (bitNx128 (decide (va < vb))),vw,st_⟩,.slice (some ⟨gr,0,none⟩) 8 cr,.slice (some ⟨gv,0,none⟩) 24 cv⟩) HX.out
 have HSZ:=(show Hid ((w.setCell ⟨gr,r',none⟩ (.int .i64 (bitNx128 (decide (va < vb))))).heap.size=w.heap.size) from by show _=_;simp)
 have EQ:Hid (stepAt d who late ⟨p,regs,vw,st_⟩ code.length ⟨4,r',a',b',n⟩=(goM (putK d who ⟨p,regs.set r' (bitNx128 (decide (va < vb))),vw,st_⟩) who ⟨p,regs.set r' (bitNx128 (decide (va < vb))),vw,st_⟩ code.length (p+1),0)):=by
  show _=_
  rw [goM_put]
  rw [stepAt4 _ _ _ _ _ _ rfl];unfold setR regA bitNx128;simp only [Int.toNat_natCast,decide_eq_true_eq,HVa.out,HVb.out]
 go_wp2_with fail
 have hne:=ext_ne V
 have u0:=Ext.fit e1 v3
 have u1:=Ext.fit t1 zV
 have u2:=Ext.fit t2 zV
 have u3:=Ext.fit t3 zV
 have ua:=Ext.fit la v5
 have ub:=Ext.fit lb v5
 refine regionLast V _ rfl (by kernel_rfl) (by kernel_rfl) (by kernel_rfl) rfl rfl ?_
 dsimp only [List.dropLast,List.cons_append,List.nil_append,idle]
 repeat (go_big_quiet_step ((rename_i X;go_at_call 42;refine (l4Bit_anyx128 _ _).mono ?_;rintro e w9 ⟨rfl,rfl⟩;exact ⟨rfl,X.on (Below.refl _ _)⟩)))
 refine wpQuiet_nil ?_
 clear hne u0 u1 u2 u3 ua ub
 rintro w3 ⟨X3,rfl⟩
 obtain ⟨V2,hX3⟩:∃ V2,X3.w=V2:=⟨_,rfl⟩
 have hb3:=X3.b
 rw [hX3] at hb3 ⊢
 have HBX:=(show Hid (Bx5 V2 w.heap.size _ _ _ _ _ _ _ _ _ _ _ _ _ _ _) from HBX.out.keep (fun b _ h2=>hb3.block b h2) hb3.size)
 have HKV:Hid (Below w.heap.size w V2):=HKV.out.trans (hb3.mono (by omega))
 clear hb3 hX3 X3 m0 m1 m2 m3 x0 x1 a0 a1 a2 a3 e0 e1 e2 e3 t0 t1 t2 t3 t4 fm fa zV l0 l2 l3 f2 f3 v0 v1 v2 v3 v4 v5 v6 lr la lb
 obtain ⟨m0,m1,m2,m3,x0,x1,a0,a1,a2,a3,e0,e1,e2,e3,t0,t1,t2,t3,t4,fm,fa,zV⟩:=HBX.out
 have l0:=(HKV.out.cell (p:=⟨gc,who,none⟩) zc).trans C0.out
 have l2:=(HKV.out.cell (p:=⟨gk,who * 4,none⟩) zk).trans K0.out
 have l3:=(HKV.out.cell (p:=⟨gk,who * 4+3,none⟩) zk).trans K3.out
 have lr:V2.cell? ⟨gr,r',none⟩=some (.int .i64 vr):=by rw [← HVr.out];exact (HKV.out.cell (p:=⟨gr,r',none⟩) zr).trans (RR.out r' (by omega))
 have la:V2.cell? ⟨gr,a',none⟩=some (.int .i64 va):=by rw [← HVa.out];exact (HKV.out.cell (p:=⟨gr,a',none⟩) zr).trans (RR.out a' (by omega))
 have lb:V2.cell? ⟨gr,b',none⟩=some (.int .i64 vb):=by rw [← HVb.out];exact (HKV.out.cell (p:=⟨gr,b',none⟩) zr).trans (RR.out b' (by omega))
 have f2:∀ j,V2.frozen? ⟨gk,j,none⟩=false:=fun j=>(HKV.out.frozen (p:=⟨gk,j,none⟩) zk).trans (FK.out j)
 have f3:∀ j,V2.frozen? ⟨gr,j,none⟩=false:=fun j=>(HKV.out.frozen (p:=⟨gr,j,none⟩) zr).trans (FR.out j)
 have v0:w.heap.size < V2.heap.size:=by omega
 have v1:w.heap.size+1 < V2.heap.size:=by omega
 have v2:w.heap.size+1+1 < V2.heap.size:=by omega
 have v3:w.heap.size+1+1+1 < V2.heap.size:=by omega
 have v4:gc < V2.heap.size:=by omega
 have v5:gr < V2.heap.size:=by omega
 have v6:gk < V2.heap.size:=by omega
 by_cases hin:(p:Int)+1 < (code.length:Int)
 ·go_wp2_with fail
  refine bodyPost_ret (v:=.tuple #[.agg #[.slice (some ⟨gc,0,none⟩) d.codes.length cc,.slice (some ⟨gk,0,none⟩) LK.length ck,.slice (some ⟨gO,0,none⟩) d.mem.length cO,.slice st d.tr.length ct],.int .i64 0]) (by simp [results,Tryz.results28,go_sem,fa,a0,a1,a2,a3]) rfl ?_
  rw [EQ.out]
  have hsz:=HSZ.out
  refine ⟨ex7 (HQ.out.go (n:=code.length) LN HXN (p+1) (by omega) (fun b hb1=>?_) ?_) ?_,fun b9 hX1=>?_⟩
  ·rw [hsz] at hb1;repeat' (first | with_reducible exact HKV.out.block b hb1 | (with_reducible refine (Below.heap_setCell _ ⟨w.heap.size+1+1,_,none⟩ _ b (by show b≠w.heap.size+1+1;omega)).trans ?_) | (with_reducible refine heap_pair ?_))
  ·rw [hsz];simp;omega
  ·repeat' (first | with_reducible exact HKV.out.mono hb | (with_reducible refine Below.setCell ?_ (by first | exact br | exact bk | (show B≤w.heap.size+1+1;omega)) _))
  ·have hX2:=H.out.lt hX1
   have hk9:b9≠gk:=fun e=>hX1 (e▸H.out.hh.k gk rfl)
   have hr9:b9≠gr:=fun e=>hX1 (e▸H.out.hh.ki who _ gr HX.out (.inl rfl))
   repeat' (first | with_reducible exact HKV.out.block b9 hX2 | (with_reducible refine (Below.heap_setCell _ ⟨_,_,none⟩ _ b9 (by first | (show b9≠w.heap.size+1+1;omega) | (show b9≠gk;omega) | (show b9≠gr;omega) | (show b9≠w.heap.size;omega))).trans ?_) | (with_reducible refine (Below.heap_alloc _ _ _ (by simp;omega)).trans ?_))
 ·go_wp2_with fail
  refine bodyPost_ret (v:=.tuple #[.agg #[.slice (some ⟨gc,0,none⟩) d.codes.length cc,.slice (some ⟨gk,0,none⟩) LK.length ck,.slice (some ⟨gO,0,none⟩) d.mem.length cO,.slice st d.tr.length ct],.int .i64 0]) (by simp [results,Tryz.results28,go_sem,fa,a0,a1,a2,a3]) rfl ?_
  rw [EQ.out]
  have hsz:=HSZ.out
  refine ⟨ex7 (HQ.out.no (n:=code.length) LN HXN (p+1) (by omega) (fun b hb1=>?_) ?_) ?_,fun b9 hX1=>?_⟩
  ·rw [hsz] at hb1;repeat' (first | with_reducible exact HKV.out.block b hb1 | (with_reducible refine (Below.heap_setCell _ ⟨w.heap.size+1+1,_,none⟩ _ b (by show b≠w.heap.size+1+1;omega)).trans ?_) | (with_reducible refine heap_pair ?_))
  ·rw [hsz];simp;omega
  ·repeat' (first | with_reducible exact HKV.out.mono hb | (with_reducible refine Below.setCell ?_ (by first | exact br | exact bk | (show B≤w.heap.size+1+1;omega)) _))
  ·have hX2:=H.out.lt hX1
   have hk9:b9≠gk:=fun e=>hX1 (e▸H.out.hh.k gk rfl)
   have hr9:b9≠gr:=fun e=>hX1 (e▸H.out.hh.ki who _ gr HX.out (.inl rfl))
   repeat' (first | with_reducible exact HKV.out.block b9 hX2 | (with_reducible refine (Below.heap_setCell _ ⟨_,_,none⟩ _ b9 (by first | (show b9≠w.heap.size+1+1;omega) | (show b9≠gk;omega) | (show b9≠gr;omega) | (show b9≠w.heap.size;omega))).trans ?_) | (with_reducible refine (Below.heap_alloc _ _ _ (by simp;omega)).trans ?_))
end Go.Proofs.YtkhjhibigldcgaaGreat
