/- A step of the specification, of an op: printing. No condition. -/
import Derived.Test.YtkhjhibigldcgaaGreatBG00
import Derived.Test.YtkhjhibigldcgaaGreatBG07
import Derived.Test.YtkhjhibigldcgaaGreatBG11
import Derived.Test.YtkhjhibigldcgaaGreatBG10
import Derived.Test.YtkhjhibigldcgaaGreatBG04
import Derived.Test.YtkhjhibigldcgaaGreatBG01
import Derived.Test.YtkhjhibigldcgaaGreatBG09
import Derived.Test.YtkhjhibigldcgaaGreatBG17
import Derived.Test.YtkhjhibigldcgaaGreatBMixOp
namespace Go.Proofs.YtkhjhibigldcgaaGreat
set_option linter.unusedSimpArgs false
set_option linter.unusedVariables false
set_option maxRecDepth 100000
open Go.RowKit
set_option maxHeartbeats 4000000 in
theorem sp9 {Hq : Nat → Prop} (B : Nat) (vc vk vm vt : Value) (LC : List CV) (LK : List KV) (S : List RS) (d : MD) (who : Nat) (k : KD) (code : List I5) (s : I5) (late : Int) (w : World) (h : MQ w B Hq vc vk vm vt LC LK S d) (ha : At8 d who k code s) (hb : B ≤ w.heap.size) (ho : s.o = 9) :
  Calls Tryz.prog 28 #[.agg #[vc,vk,vm,vt],.agg #[.int .i64 who,.int .i64 late]] w fun e w'=>StepX w B Hq vc vk vm vt LC LK S d (stepAt d who late k code.length s) e w':=by
 obtain ⟨p,gc,cc,gk,ck,gs,cs,gr,cr,gv,cv,gO,cO,st,ct,O⟩:=h.open ha
 have HO8:=(show Hid (Op8 w B vc vk vm vt LK d who p k code s gc cc gk ck gs cs gr cr gv cv gO cO st ct) from O)
 obtain ⟨n1,n2,n3,n4,n5,n6,n7,n8,n9,n10⟩:=O.ne h
 obtain ⟨ec,ek,em,et,hx,hp,wc,wk,c0,k0,k1,k2,k3,s0,s1,s2,s3,s4,rr,fk,fr,zc,zk,zs,zr,zv,zO,bk,br,bv,bO⟩:=O
 subst ec ek em et
 have H:=hidS h
 have HA:=hidS ha
 have H8:Hid (k.regs.length=8):=ha.regs
 have HX:=hidS hx
 have hok:=ha.ok
 unfold stX Plain.stepB at hok
 rw [decide_eq_true_eq] at hok
 have hpl:=ha.pcl
 have hn8:=ha.n8
 have htr:=ha.tr
 obtain ⟨pc,regs,vw,st_⟩:=k
 obtain ⟨o,r,a,b,n⟩:=s
 simp only at ho hp hok k0 k3 rr s0 s1 s2 s3 s4 hpl
 subst hp
 subst ho
 obtain ⟨a',ha'⟩:∃ a':Nat,a=a':=⟨a.toNat,by omega⟩
 subst ha'
 have ba0:(0:Int)≤(a':Int):=by omega
 have ba1:(a':Int) < 8:=by omega
 have ba2:a' < 8:=by omega
 clear hok
 have b0:(0:Int)≤(who:Int):=by omega
 have b1:(who:Int) < (d.codes.length:Int):=by omega
 have b2:(who:Int) < (LK.length:Int):=by omega
 have b3:(0:Int)≤(p:Int):=by omega
 have b4:(p:Int) < (code.length:Int):=by omega
 have z1:gk < w.heap.size+1:=by omega
 have z2:gk < w.heap.size+1+1:=by omega
 have C0:=hidS c0
 have K0:=hidS k0
 have K3:=hidS k3
 have RR:=hidS rr
 have FK:=hidS fk
 have FR:=hidS fr
 clear h ha hx rr fk fr
 go_enter Tryz.func28,Tryz.ntmps28
 go_wp2_with fail
 obtain ⟨W,hW⟩:∃ W,(((w.alloc (.cells #[.slice (some ⟨gc,0,none⟩) d.codes.length cc,.slice (some ⟨gk,0,none⟩) LK.length ck,.slice (some ⟨gO,0,none⟩) d.mem.length cO,.slice st d.tr.length ct] 35)).alloc (.cells #[.int .i64 who,.int .i64 late] 75)).alloc (.cells #[.slice none 0 0,.slice none 0 0,.slice none 0 0,.slice none 0 0] 35)).alloc (.cells #[.int .i64 p,.slice (some ⟨gr,0,none⟩) 8 cr,.slice (some ⟨gv,0,none⟩) 24 cv,.int .i64 st_] 42)=W:=⟨_,rfl⟩
 obtain ⟨V,hV⟩:∃ V,(W.alloc (.cells #[.int .i64 9,.int .i64 r,.int .i64 a',.int .i64 b,.int .i64 n] 65)).drew=V:=⟨_,rfl⟩
 obtain ⟨BX,KV⟩:=boxes5 hW hV
 have HBT:Hid (BxT V w.heap.size∧BxT V (w.heap.size+1+1)):=boxT hW hV
 have q0:W.cell? ⟨w.heap.size,0,none⟩=some (.slice (some ⟨gc,0,none⟩) d.codes.length cc):=by subst hW;simp [go_sem]
 have q1:W.cell? ⟨w.heap.size+1,0,none⟩=some (.int .i64 who):=by subst hW;simp [go_sem]
 have q2:W.cell? ⟨w.heap.size+1+1+1,0,none⟩=some (.int .i64 p):=by subst hW;simp [go_sem]
 have kW:Below w.heap.size w W:=by subst hW;exact ((((Below.refl _ _).alloc (Nat.le_refl _) _).alloc (by simp) _).alloc (by simp;omega) _).alloc (by simp;omega) _
 have q3:=(kW.cell (p:=⟨gc,who,none⟩) zc).trans c0
 have q4:=(kW.cell (p:=⟨gs,p * 5,none⟩) zs).trans s0
 have q5:=(kW.cell (p:=⟨gs,p * 5+1,none⟩) zs).trans s1
 have q6:=(kW.cell (p:=⟨gs,p * 5+2,none⟩) zs).trans s2
 have q7:=(kW.cell (p:=⟨gs,p * 5+3,none⟩) zs).trans s3
 have q8:=(kW.cell (p:=⟨gs,p * 5+4,none⟩) zs).trans s4
 have zW:=(show Hid (W.heap.size=w.heap.size+1+1+1+1) from by subst hW;show _=_;simp)
 have y0:w.heap.size < W.heap.size:=by have:=zW.out;omega
 have y1:w.heap.size+1 < W.heap.size:=by have:=zW.out;omega
 have y2:w.heap.size+1+1+1 < W.heap.size:=by have:=zW.out;omega
 have y3:gc < W.heap.size:=by omega
 have y4:gs < W.heap.size:=by omega
 rw [hW]
 have HV:=hidS hV
 have HBX:=(show Hid (Bx5 V w.heap.size _ _ _ _ _ _ _ _ _ _ _ _ _ _ _) from BX)
 have HKV:Hid (Below w.heap.size w V):=KV
 clear hW hV BX KV kW
 go_region
 rw [HV.out]
 rw [zW.out]
 clear q0 q1 q2 q3 q4 q5 q6 q7 q8 y0 y1 y2 y3 y4 c0 k0 k1 k2 k3 s0 s1 s2 s3 s4
 obtain ⟨m0,m1,m2,m3,x0,x1,a0,a1,a2,a3,e0,e1,e2,e3,t0,t1,t2,t3,t4,fm,fa,zV⟩:=HBX.out
 have l0:=(HKV.out.cell (p:=⟨gc,who,none⟩) zc).trans C0.out
 have l2:=(HKV.out.cell (p:=⟨gk,who * 4,none⟩) zk).trans K0.out
 have l3:=(HKV.out.cell (p:=⟨gk,who * 4+3,none⟩) zk).trans K3.out
 obtain ⟨va,hva⟩:∃ v,regs.getD a' 0=v:=⟨_,rfl⟩
 have HVa:=hidS hva
 clear hva
 have la:V.cell? ⟨gr,a',none⟩=some (.int .i64 va):=by rw [← HVa.out];exact (HKV.out.cell (p:=⟨gr,a',none⟩) zr).trans (RR.out a' (by omega))
 have f2:∀ j,V.frozen? ⟨gk,j,none⟩=false:=fun j=>(HKV.out.frozen (p:=⟨gk,j,none⟩) zk).trans (FK.out j)
 have f3:∀ j,V.frozen? ⟨gr,j,none⟩=false:=fun j=>(HKV.out.frozen (p:=⟨gr,j,none⟩) zr).trans (FR.out j)
 have v0:w.heap.size < V.heap.size:=by omega
 have v1:w.heap.size+1 < V.heap.size:=by omega
 have v2:w.heap.size+1+1 < V.heap.size:=by omega
 have v3:w.heap.size+1+1+1 < V.heap.size:=by omega
 have v4:gc < V.heap.size:=by omega
 have v5:gr < V.heap.size:=by omega
 have v6:gk < V.heap.size:=by omega
 have w1:IntKind.i64.wrap ((p:Int)+1)=(p:Int)+1:=Go.IntWalk.i64_in _ (by omega)
 have HT:Hid (OwnD w B (.slice st d.tr.length ct) d.tr):=H.out.t
 by_cases hf:d.tr.length=4000
 ·have hfi:(d.tr.length:Int)=4000:=by omega
  have HF:=hidS hf
  clear hf
  go_wp2_with fail
  refine bodyPost_ret (v:=.tuple #[.agg #[.slice (some ⟨gc,0,none⟩) d.codes.length cc,.slice (some ⟨gk,0,none⟩) LK.length ck,.slice (some ⟨gO,0,none⟩) d.mem.length cO,.slice st d.tr.length ct],.int .i64 3]) (by simp [results,Tryz.results28,go_sem,fa,a0,a1,a2,a3]) rfl ?_
  rw [stepAt9 _ _ _ _ _ _ rfl,if_pos HF.out]
  refine ⟨⟨_,_,_,_,LC,LK,S,rfl,H.out.keep (fun b _ hb1=>?_) (by simp;omega),?_⟩,fun b9 hX1=>?_⟩
  ·repeat' (first | with_reducible exact HKV.out.block b hb1 | (with_reducible refine (Below.heap_setCell _ ⟨w.heap.size+1+1,_,none⟩ _ b (by show b≠w.heap.size+1+1;omega)).trans ?_))
  ·repeat' (first | with_reducible exact HKV.out.mono hb | (with_reducible refine Below.setCell ?_ (by show B≤w.heap.size+1+1;omega) _))
  ·have hX2:=H.out.lt hX1
   have hk9:b9≠gk:=fun e=>hX1 (e▸H.out.hh.k gk rfl)
   have hr9:b9≠gr:=fun e=>hX1 (e▸H.out.hh.ki who _ gr HX.out (.inl rfl))
   repeat' (first | with_reducible exact HKV.out.block b9 hX2 | (with_reducible refine (Below.heap_setCell _ ⟨_,_,none⟩ _ b9 (by first | (show b9≠w.heap.size+1+1;omega) | (show b9≠gk;omega) | (show b9≠gr;omega) | (show b9≠w.heap.size;omega))).trans ?_) | (with_reducible refine (Below.heap_alloc _ _ _ (by simp;omega)).trans ?_))
 ·have hfi:¬ (d.tr.length:Int)=4000:=by omega
  have HF:=hidS hf
  clear hf
  go_wp2_with fail
  have TB:Hid (∀ q,(Value.slice st d.tr.length ct).ownBlock=some q→q < w.heap.size):=fun q hq=>(World.ownsRow.lt HT.out _ hq).2
  have TN:∀ q,w.heap.size≤q→(Value.slice st d.tr.length ct).ownBlock≠some q:=fun q hq e=>by have:=TB.out q e;omega
  have TR:(Value.slice st d.tr.length ct).ownBlock≠some gr:=fun e=>ownType' HT.out (H.out.k.inn who _ HX.out).1 (by decide) e rfl
  have hne:=extN_ne V (Value.slice st d.tr.length ct).ownBlock
  have u0:=ExtN.fit e1 v3 (TN _ (by omega))
  have u1:=ExtN.fit t2 zV (TN _ (by omega))
  have u2:=ExtN.fit m3 v0 (TN _ (by omega))
  have u3:=ExtN.fit x0 v1 (TN _ (by omega))
  have ua:=ExtN.fit la v5 TR
  refine regionMix V (CN V (Value.slice st d.tr.length ct).ownBlock) 11 13 (by kernel_rfl) (by kernel_rfl) (fun _ _ d _ _ h=>by cases d<;>exact h) (CN.drew _ _) ?_
  unfold CN
  dsimp only [List.take,List.drop]
  repeat (go_big_quiet_step (fail))
  refine wpQuiet_nil ?_
  clear hne u0 u1 u2 u3 ua
  have OT:Hid (OwnD (V.drew.alloc (.cells #[.int .i64 who,.int .i64 va] 96)) B (.slice st d.tr.length ct) d.tr):=ownKeep' HT.out (fun q hq=>by have:=TB.out q hq;exact (Below.heap_alloc V.drew _ _ (by show q < V.heap.size;omega)).trans (HKV.out.block q this))
  have QY:=(show Hid (MQ (V.drew.alloc (.cells #[.int .i64 who,.int .i64 va] 96)) B Hq _ _ _ _ LC LK S d) from H.out.keep (fun b _ hb1=>(Below.heap_alloc V.drew _ _ (by show b < V.heap.size;omega)).trans (HKV.out.block b hb1)) (by show w.heap.size≤(V.drew.alloc _).heap.size;have:=HKV.out.size;simp;show w.heap.size≤V.heap.size+1;omega))
  unfold wpListC
  go_wp2
  refine And.intro (fun _ hc=>CN.below hc ((Below.refl _ _).alloc (Nat.le_refl _) _)) ?_
  unfold wpListC
  refine app_note rfl _ _ rfl (V.drew.alloc (.cells #[.int .i64 who,.int .i64 va] 96)) B (.slice st d.tr.length ct) d.tr.length (flatN d.tr) rfl OT.out V.heap.size (.int .i64 who) (.int .i64 va) rfl rfl rfl (by simp [go_sem]) (by simp [go_sem]) (by omega) (by simp;show B≤V.heap.size+1;omega) ?_
  intro g6 c6 w6 ho6 hg6 hn6 hl6
  refine And.intro (fun _ hc=>CN.grown hc hg6) ?_
  refine listC_late _ _ _ _ (by decide) ?_
  have kb:∀ b,w.heap.size≤b→b < V.heap.size→w6.heap[b]? =V.heap[b]? :=fun b h1 h2=>(hg6.block b (by simp;show b < V.heap.size+1;omega) (fun e=>TN b h1 e.symm)).trans (Below.heap_alloc V.drew _ _ h2)
  have zs6:V.heap.size < w6.heap.size:=by have:=hg6.size;simp at this;have h9:V.drew.heap.size=V.heap.size:=rfl;omega
  have Q6:=(show Hid _ from QY.out.note ⟨who,va⟩ ho6 (fun b h1 h2=>hg6.block b h1 (fun e=>h2 e.symm)) hg6.size hn6)
  have K6:Hid (Below B w w6):=(HKV.out.mono hb).trans (Below.grown (((Below.drew (Below.refl _ _)).alloc (by show B≤V.heap.size;omega) _)) hg6 (by simp;show B≤V.heap.size+1;omega) (fun q hq=>(World.ownsRow.lt HT.out _ hq).1))
  have c6a:∀ b,b < w.heap.size→(Value.slice st d.tr.length ct).ownBlock≠some b→w6.heap[b]? =w.heap[b]? :=fun b h1 h2=>(hg6.block b (by simp;show b < V.heap.size+1;omega) (fun e=>h2 e.symm)).trans ((Below.heap_alloc V.drew _ _ (by show b < V.heap.size;omega)).trans (HKV.out.block b h1))
  have TC:(Value.slice st d.tr.length ct).ownBlock≠some gc:=fun e=>ownType' HT.out H.out.c.row (by decide) e rfl
  have TK:(Value.slice st d.tr.length ct).ownBlock≠some gk:=fun e=>ownType' HT.out H.out.k.row (by decide) e rfl
  have HBX:=(show Hid (Bx5 w6 w.heap.size _ _ _ _ _ _ _ _ _ _ _ _ _ _ _) from HBX.out.keep kb (by omega))
  have HBT:Hid (BxT w6 w.heap.size∧BxT w6 (w.heap.size+1+1)):=⟨HBT.out.1.same (kb _ (by omega) (by omega)),HBT.out.2.same (kb _ (by omega) (by omega))⟩
  clear m0 m1 m2 m3 x0 x1 a0 a1 a2 a3 e0 e1 e2 e3 t0 t1 t2 t3 t4 fm fa l0 l2 l3 f2 f3 la
  obtain ⟨m0,m1,m2,m3,x0,x1,a0,a1,a2,a3,e0,e1,e2,e3,t0,t1,t2,t3,t4,fm,fa,zV6⟩:=HBX.out
  have l0:=(World.cell?_of_block (w:=w) (a:=⟨gc,who,none⟩) (c6a gc zc TC)).trans C0.out
  have l2:=(World.cell?_of_block (w:=w) (a:=⟨gk,who * 4,none⟩) (c6a gk zk TK)).trans K0.out
  have l3:=(World.cell?_of_block (w:=w) (a:=⟨gk,who * 4+3,none⟩) (c6a gk zk TK)).trans K3.out
  have f2:∀ j,w6.frozen? ⟨gk,j,none⟩=false:=fun j=>(World.frozen?_of_block (w:=w) (a:=⟨gk,j,none⟩) (c6a gk zk TK)).trans (FK.out j)
  have y0:w.heap.size < w6.heap.size:=by omega
  have y1:w.heap.size+1 < w6.heap.size:=by omega
  have y2:w.heap.size+1+1 < w6.heap.size:=by omega
  have y4:gc < w6.heap.size:=by omega
  have y6:gk < w6.heap.size:=by omega
  have C6A:=(show Hid _ from c6a)
  clear ho6 hg6 hn6 hl6 kb c6a TC TK OT QY HT TB TN TR zs6 v0 v1 v2 v3 v4 v5 v6 zV
  by_cases hin:(p:Int)+1 < (code.length:Int)
  ·go_wp2_with fail
   refine bodyPost_ret (v:=.tuple #[.agg #[.slice (some ⟨gc,0,none⟩) d.codes.length cc,.slice (some ⟨gk,0,none⟩) LK.length ck,.slice (some ⟨gO,0,none⟩) d.mem.length cO,.slice (some ⟨g6,0,none⟩) (d.tr.length+1) c6],.int .i64 0]) (by simp [results,Tryz.results28,go_sem,fa,a0,a1,a2,a3]) rfl ?_
   rw [stepAt9 _ _ _ _ _ _ rfl,if_neg HF.out]
   unfold regA goM
   simp only [Int.toNat_natCast,HVa.out]
   rw [if_pos hin]
   have B0:=HBT.out.1
   have B2:=HBT.out.2
   refine ⟨⟨_,_,_,_,LC,_,S,rfl,MQ.offB (MQ.offB (MQ.offB (MQ.offB ((MQ.setK (MQ.offB Q6.out B0) HX.out (p+1)).1) B2.set.set) B2.set.set.set) B2.set.set.set.set) B2.set.set.set.set.set,?_⟩,fun b9 hX1=>?_⟩
   ·repeat' (first | with_reducible exact K6.out | (with_reducible refine Below.setCell ?_ (by first | exact bk | (show B≤w.heap.size+1+1;omega) | (show B≤w.heap.size;omega)) _))
   ·have hX2:=H.out.lt hX1
    have hk9:b9≠gk:=fun e=>hX1 (e▸H.out.hh.k gk rfl)
    have hr9:b9≠gr:=fun e=>hX1 (e▸H.out.hh.ki who _ gr HX.out (.inl rfl))
    have base9:=C6A.out b9 hX2 (fun e=>hX1 (H.out.hh.t _ e))
    repeat' (first | with_reducible exact base9 | (with_reducible refine (Below.heap_setCell _ ⟨_,_,none⟩ _ b9 (by first | (show b9≠w.heap.size+1+1;omega) | (show b9≠gk;omega) | (show b9≠gr;omega) | (show b9≠w.heap.size;omega))).trans ?_) | (with_reducible refine (Below.heap_alloc _ _ _ (by simp;omega)).trans ?_))
  ·go_wp2_with fail
   refine bodyPost_ret (v:=.tuple #[.agg #[.slice (some ⟨gc,0,none⟩) d.codes.length cc,.slice (some ⟨gk,0,none⟩) LK.length ck,.slice (some ⟨gO,0,none⟩) d.mem.length cO,.slice (some ⟨g6,0,none⟩) (d.tr.length+1) c6],.int .i64 0]) (by simp [results,Tryz.results28,go_sem,fa,a0,a1,a2,a3]) rfl ?_
   rw [stepAt9 _ _ _ _ _ _ rfl,if_neg HF.out]
   unfold regA goM
   simp only [Int.toNat_natCast,HVa.out]
   rw [if_neg (by omega)]
   have B0:=HBT.out.1
   have B2:=HBT.out.2
   refine ⟨⟨_,_,_,_,LC,_,S,rfl,MQ.offB (MQ.offB (MQ.offB (MQ.offB ((MQ.setK (MQ.offB Q6.out B0) HX.out 2).2) B2.set.set) B2.set.set.set) B2.set.set.set.set) B2.set.set.set.set.set,?_⟩,fun b9 hX1=>?_⟩
   ·repeat' (first | with_reducible exact K6.out | (with_reducible refine Below.setCell ?_ (by first | exact bk | (show B≤w.heap.size+1+1;omega) | (show B≤w.heap.size;omega)) _))
   ·have hX2:=H.out.lt hX1
    have hk9:b9≠gk:=fun e=>hX1 (e▸H.out.hh.k gk rfl)
    have hr9:b9≠gr:=fun e=>hX1 (e▸H.out.hh.ki who _ gr HX.out (.inl rfl))
    have base9:=C6A.out b9 hX2 (fun e=>hX1 (H.out.hh.t _ e))
    repeat' (first | with_reducible exact base9 | (with_reducible refine (Below.heap_setCell _ ⟨_,_,none⟩ _ b9 (by first | (show b9≠w.heap.size+1+1;omega) | (show b9≠gk;omega) | (show b9≠gr;omega) | (show b9≠w.heap.size;omega))).trans ?_) | (with_reducible refine (Below.heap_alloc _ _ _ (by simp;omega)).trans ?_))
end Go.Proofs.YtkhjhibigldcgaaGreat
