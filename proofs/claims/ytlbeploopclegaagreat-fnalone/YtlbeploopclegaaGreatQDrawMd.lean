/- l8Draw: whatever machine is drawn, it is read as such, and it is little. Conditions: the cursor and its bytes lie in memory as the reading says. -/
import Derived.Test.YtlbeploopclegaaGreatQG04
import Derived.Test.YtlbeploopclegaaGreatQG01
import Derived.Test.YtlbeploopclegaaGreatQG00
import Derived.Test.YtlbeploopclegaaGreatQG02
import Derived.Test.YtlbeploopclegaaGreatQG12
import Derived.Test.YtlbeploopclegaaGreatQG10
import Derived.Test.YtlbeploopclegaaGreatQG13
import Derived.Test.YtlbeploopclegaaGreatQG24
import Derived.Test.YtlbeploopclegaaGreatQG20
import Derived.Deep.RegionLaw
import Derived.Deep.RegionHeld3
namespace Go.Proofs.YtlbeploopclegaaGreat
set_option linter.unusedSimpArgs false
set_option linter.unusedVariables false
set_option maxRecDepth 100000
open Go.RowKit Go.Deep
theorem entB8 (args:Array Value) (w:World):(callFunc 47 args).run Tryz.prog w=.ok (.enter 47 args) w:=by kernel_rfl
theorem entP8 (args:Array Value) (w:World):(callFunc 81 args).run Tryz.prog w=.ok (.enter 81 args) w:=by kernel_rfl
theorem LM.cb' {w V V':World} {p n c bx:Nat} {s:Option Addr} {vc vk vm vt:Value} {LC:List CV} {LK:List KV} {S:List RS} {d:MD} (h:LM w V p s n c bx vc vk vm vt LC LK S d) (hb:Below V.heap.size V V'):CB V' p s n c:=h.cb.lowB hb (by have:=h.pw;have:=h.bt.size;omega)
theorem LM.lowB {w V V':World} {p n c bx:Nat} {s:Option Addr} {vc vk vm vt:Value} {LC:List CV} {LK:List KV} {S:List RS} {d:MD} (h:LM w V p s n c bx vc vk vm vt LC LK S d) (hb:Below V.heap.size V V'):LM w V' p s n c bx vc vk vm vt LC LK S d:=h.step (h.cb' hb) (But.of_below hb)
/- core 0's rows: what a store there asks for -/
structure Kc (w V:World) (p:Nat) (s:Option Addr) (n c bx:Nat) (vk:Value) (m gk ck gr cr gv cv:Nat):Prop where
 ek:vk=.slice (some ⟨gk,0,none⟩) m ck
 m0:0 < m
 k0:(V.cell? ⟨gk,0,none⟩).isSome=true
 k1:V.cell? ⟨gk,1,none⟩=some (.slice (some ⟨gr,0,none⟩) 8 cr)
 k2:V.cell? ⟨gk,2,none⟩=some (.slice (some ⟨gv,0,none⟩) 24 cv)
 fk:∀ j,V.frozen? ⟨gk,j,none⟩=false
 r:∀ j,j < 8→(V.cell? ⟨gr,j,none⟩).isSome=true
 fr:∀ j,V.frozen? ⟨gr,j,none⟩=false
 v:∀ j,j < 24→(V.cell? ⟨gv,j,none⟩).isSome=true
 fv:∀ j,V.frozen? ⟨gv,j,none⟩=false
 zk:gk < V.heap.size
 zr:gr < V.heap.size
 zv:gv < V.heap.size
 pk:p < gk
 pr:p < gr
 pv:p < gv
 ik:∀ z:Int,∃ q d,EM w (V.setCell ⟨gk,0,none⟩ (.int .i64 z)) p s n c bx q d
 ir:∀ (j:Nat) (z:Int),∃ q d,EM w (V.setCell ⟨gr,j,none⟩ (.int .i64 z)) p s n c bx q d
 iv:∀ (j:Nat) (z:Int),∃ q d,EM w (V.setCell ⟨gv,j,none⟩ (.int .i64 z)) p s n c bx q d
theorem LM.kc {w V:World} {p n c bx:Nat} {s:Option Addr} {vc vk vm vt:Value} {LC:List CV} {LK:List KV} {S:List RS} {d:MD} (h:LM w V p s n c bx vc vk vm vt LC LK S d):∃ gk ck gr cr gv cv,Kc w V p s n c bx vk LK.length gk ck gr cr gv cv:=by
 obtain ⟨k,code,st,p',gc,cc,gk,ck,gs,cs,gr,cr,gv,cv,gO,cO,sr,ct,hk0,o,h8,hl,nk,nr,nv,-⟩:=h.core
 have hpw:=h.pw
 have k0:=o.k0
 have k1:=o.k1
 have k2:=o.k2
 simp only [Nat.zero_mul,Nat.zero_add] at k0 k1 k2
 obtain ⟨hr,hv⟩:=h.mq.k.inn 0 _ o.hx
 have hv':=hv
 obtain ⟨su,cu,ev⟩:=ownSl hv
 have h24:k.vw.length=24:=by
  injection ev with _ e _
  exact e.symm
 have hvv:OwnN V (w.heap.size+1) (.slice (some ⟨gv,0,none⟩) k.vw.length cv) k.vw:=by rw [h24];exact hv
 have hvr:=hvv
 unfold OwnN at hvr
 have b1:=o.bk
 have b2:=o.br
 have b3:=o.bv
 refine ⟨gk,ck,gr,cr,gv,cv,o.ek,o.wk,by rw [k0];rfl,k1,k2,o.fk,fun j hj=>by rw [o.r j hj];rfl,o.fr,fun j hj=>?_,fun j=>World.ownsRow.frozenAt hvr j,o.zk,o.zr,o.zv,by omega,by omega,by omega,fun z=>?_,fun j z=>?_,fun j z=>?_⟩
 ·rw [OwnN.cell hvv (by omega)];rfl
 ·obtain ⟨q,d',-,e⟩:=h.pc hk0 o nk z
  exact ⟨q,d',e⟩
 ·obtain ⟨q,d',-,e⟩:=h.reg hk0 h8 o nr j z
  exact ⟨q,d',e⟩
 ·obtain ⟨q,d',-,e⟩:=h.vw hk0 h24 o nv j z
  exact ⟨q,d',e⟩
theorem Kc.up {w V V':World} {p n c bx:Nat} {s:Option Addr} {vc vk vm vt:Value} {LC:List CV} {LK:List KV} {S:List RS} {d:MD} {m gk ck gr cr gv cv:Nat} (h:Kc w V p s n c bx vk m gk ck gr cr gv cv) (hm:m=LK.length) (l:LM w V' p s n c bx vc vk vm vt LC LK S d) (hb:But p V V'):Kc w V' p s n c bx vk m gk ck gr cr gv cv:=by
 obtain ⟨gk',ck',gr',cr',gv',cv',h'⟩:=l.kc
 have e:=h.ek.symm.trans h'.ek
 injection e with e _ e2
 injection e with e
 injection e with e
 subst e e2
 have zk:=h.zk
 have pk:=h.pk
 have c1:=(hb.cell (p:=⟨gk,1,none⟩) zk (by show gk≠p;omega)).trans h.k1
 have c2:=(hb.cell (p:=⟨gk,2,none⟩) zk (by show gk≠p;omega)).trans h.k2
 rw [h'.k1] at c1
 rw [h'.k2] at c2
 injection c1 with c1
 injection c1 with c1 _ c3
 injection c1 with c1
 injection c1 with c1
 injection c2 with c2
 injection c2 with c2 _ c4
 injection c2 with c2
 injection c2 with c2
 subst c1 c2 c3 c4 hm
 exact h'
set_option maxRecDepth 100000 in
set_option maxHeartbeats 16000000 in
theorem drawM_any (p : Nat) (s : Option Addr) (n c : Nat) (w : World) (h : CB w p s n c) :
  Calls Tryz.prog 46 #[.pointer (some ⟨p,0,none⟩)] w fun e w'=>∃ (q:MP) (d:MD),e=.returned (.agg #[.slice q.s1 d.codes.length q.c1,.slice q.s2 d.cores.length q.c2,.slice q.s3 d.mem.length q.c3,.slice q.s4 d.tr.length q.c4])∧MaR w' (w.heap.size+1) w'.heap.size q.s1 q.s2 q.s3 q.s4 d∧MaSz d≤21000∧d.cores.length≤4∧CB w' p s n c∧But p w w':=by
 have hp:=h.lt
 have H:=hidM1 h
 clear h
 go_enter Tryz.func46,Tryz.ntmps46
 obtain ⟨W0,hW0,x0,k0,z0⟩:=X4.new w (.slice none 0 0) (.slice none 0 0) (.slice none 0 0) (.slice none 0 0) 38
 have z1:W0.heap.size=w.heap.size+1:=by rw [← hW0];simp
 go_upto_region 1 with fail
 try rw [hW0]
 clear hW0
 have X0:=hidM1 x0
 have K0:=hidM1 k0
 clear x0 k0
 go_wp2_with fail
 refine (drawRight_ok p s n c W0 (H.out.lowB K0.out hp)).mono ?_
 rintro e w1 ⟨q1,d,rfl,hr⟩
 obtain ⟨LC,LK,S,mq⟩:=hr.mq
 have R:=hidM1 hr
 have MQ1:=hidM1 mq
 clear hr mq
 go_upto_region 2 with fail
 obtain ⟨V,hV,xV,kV,zV⟩:=X4.new w1 (.slice q1.s1 d.codes.length q1.c1) (.slice q1.s2 d.cores.length q1.c2) (.slice q1.s3 d.mem.length q1.c3) (.slice q1.s4 d.tr.length q1.c4) 38
 have tV:BxT V w1.heap.size:=by rw [← hV];exact BxT.new w1 _
 try rw [hV]
 clear hV
 have hz1:=R.out.bt.size
 have B1:But p w w1:=(But.of_below K0.out).trans R.out.bt
 obtain ⟨vc,vk,vm,vt,L⟩:∃ vc vk vm vt,Hid (LM w V p s n c w1.heap.size vc vk vm vt LC LK S d):=⟨_,_,_,_,⟨xV,tV,(MQ1.out.keep (fun k h1 h2=>kV.block k h2) kV.size).low (by omega),R.out.ok,R.out.sz,R.out.cb.lowB kV (by omega),but_low B1 (kV.mono (by omega)),(X0.out.but R.out.bt (by omega)).keep kV (by omega),hp,by omega⟩⟩
 clear R MQ1 xV tV kV B1 X0 K0
 obtain ⟨bx,hbx⟩:∃ z,w1.heap.size=z:=⟨_,rfl⟩
 rw [hbx] at L zV ⊢
 try generalize (Value.agg #[Value.slice q1.s1 d.codes.length q1.c1,Value.slice q1.s2 d.cores.length q1.c2,Value.slice q1.s3 d.mem.length q1.c3,Value.slice q1.s4 d.tr.length q1.c4])=ag
 clear hbx hz1 z1 z0 q1 w1 W0
 go_wp2_with fail
 refine (below_cb p s n c 20 V L.out.cb (by omega) (by omega)).mono ?_
 rintro e w3 ⟨q,rfl,q0',q1',hc3,hb3⟩
 have D3:=hidM1 (L.out.step hc3 hb3)
 clear hc3 hb3 L zV V
 have hq:q=0∨q=1∨q=2∨q=3∨q=4∨5≤q:=by omega
 clear q0' q1'
 have NZ:Hid (p < w.heap.size∧w.heap.size < bx∧bx < w3.heap.size):=⟨D3.out.pw,D3.out.wb,D3.out.x.x.z⟩
 refine hq.elim (fun e=>?c0) (fun h=>h.elim (fun e=>?c1) (fun h=>h.elim (fun e=>?c2) (fun h=>h.elim (fun e=>?c3) (fun h=>h.elim (fun e=>?c4) (fun e=>?c5)))))
 case' c0=>
  subst e
  clear hq
  obtain ⟨gk,ck,gr,cr,gv,cv,kc⟩:=D3.out.kc
  have KC:=hidM1 kc
  have ek:=kc.ek
  subst ek
  have bn:=kc.m0
  have bl:(0:Int) < (LK.length:Int):=by omega
  have x1:=D3.out.x.x.c1
  have hbz:=D3.out.x.x.z
  have n1:=kc.zk
  have n2:=kc.zr
  have n3:=kc.zv
  have hpz:p < w3.heap.size:=by have:=NZ.out;omega
  clear kc
  have KL:Hid (Below w3.heap.size w3 ((w3.alloc (.cells #[.int .i64 (-1),.int .i64 (50)] 3)).drew)):=((Below.refl _ _).alloc (Nat.le_refl _) _).drew
  go_wp2_with fail
  go_region_law (refine step_call 81 #[.pointer (some ⟨p,0,none⟩),.slice (some ⟨w3.heap.size,0,none⟩) 2 2] (by rfl) _ _ (by rfl) (by simp [go_sem]) entP8 ?_;refine (pick_cb p s n c w3.heap.size 2 [-1,50] ((w3.alloc (.cells #[.int .i64 (-1),.int .i64 (50)] 3)).drew) (D3.out.cb' KL.out) rfl (by simp) (by simp) (by simp) (by omega) (fun i hi=>by match i,hi with | 0,_=>simp [go_sem] | 1,_=>simp [go_sem])).mono ?_;rintro e w5 ⟨z,rfl,-,hc5,hb5⟩;have D5:=hidM1 ((D3.out.lowB KL.out).step hc5 hb5);have KC5:=hidM1 (KC.out.up rfl D5.out ((But.of_below KL.out).trans hb5));have x15:=D5.out.x.x.c1;have z5x:=D5.out.x.x.z;have y0:=KC5.out.k0;obtain ⟨yv,y0⟩:=Option.isSome_iff_exists.1 y0;have yf:=KC5.out.fk 0;have yz:=KC5.out.zk;refine ⟨_,rfl,?_⟩)
  all_goals
   obtain ⟨q2,d2,ev⟩:=KC5.out.ik z
   obtain ⟨Z,hZ⟩:∃ Z,w5.setCell ⟨gk,0,none⟩ (.int .i64 z)=Z:=⟨_,rfl⟩
   rw [hZ] at ev ⊢
   have E:=hidM1 ev
   clear hZ ev D5 KC5 y0 yf yz KL KC D3 x1 hbz bn bl n1 n2 n3 hpz x15 z5x
 case' c1=>
  subst e
  clear hq
  obtain ⟨gk,ck,gr,cr,gv,cv,kc⟩:=D3.out.kc
  have KC:=hidM1 kc
  have ek:=kc.ek
  subst ek
  have bn:=kc.m0
  have bl:(0:Int) < (LK.length:Int):=by omega
  have x1:=D3.out.x.x.c1
  have hbz:=D3.out.x.x.z
  have n1:=kc.zk
  have n2:=kc.zr
  have n3:=kc.zv
  have hpz:p < w3.heap.size:=by have:=NZ.out;omega
  have k2:=kc.k2
  clear kc
  have KL:Hid (Below w3.heap.size w3 ((w3.alloc (.cells #[.int .i64 (-1),.int .i64 (99)] 3)).drew)):=((Below.refl _ _).alloc (Nat.le_refl _) _).drew
  go_wp2_with fail
  go_region_law (refine step_call 81 #[.pointer (some ⟨p,0,none⟩),.slice (some ⟨w3.heap.size,0,none⟩) 2 2] (by rfl) _ _ (by rfl) (by simp [go_sem]) entP8 ?_;refine (pick_cb p s n c w3.heap.size 2 [-1,99] ((w3.alloc (.cells #[.int .i64 (-1),.int .i64 (99)] 3)).drew) (D3.out.cb' KL.out) rfl (by simp) (by simp) (by simp) (by omega) (fun i hi=>by match i,hi with | 0,_=>simp [go_sem] | 1,_=>simp [go_sem])).mono ?_;rintro e w5 ⟨z,rfl,-,hc5,hb5⟩;have D5:=hidM1 ((D3.out.lowB KL.out).step hc5 hb5);have KC5:=hidM1 (KC.out.up rfl D5.out ((But.of_below KL.out).trans hb5));have x15:=D5.out.x.x.c1;have z5x:=D5.out.x.x.z;have y0:=KC5.out.v 1 (by omega);obtain ⟨yv,y0⟩:=Option.isSome_iff_exists.1 y0;have yf:=KC5.out.fv 1;have yz:=KC5.out.zv;have yk:=KC5.out.k2;have yzk:=KC5.out.zk;refine ⟨_,rfl,?_⟩)
  all_goals
   obtain ⟨q2,d2,ev⟩:=KC5.out.iv 1 z
   obtain ⟨Z,hZ⟩:∃ Z,w5.setCell ⟨gv,1,none⟩ (.int .i64 z)=Z:=⟨_,rfl⟩
   rw [hZ] at ev ⊢
   have E:=hidM1 ev
   clear hZ ev D5 KC5 y0 yf yz KL KC D3 x1 hbz bn bl n1 n2 n3 hpz k2 x15 z5x yk yzk
 case' c2=>
  subst e
  clear hq
  obtain ⟨g,cc,gs,cs,y0,r0,rest,cd⟩:=D3.out.cod
  have CD:=hidM1 cd
  have ec:=cd.ec
  subst ec
  have x0:=D3.out.x.x.c0
  have hbz:=D3.out.x.x.z
  have f0:=cd.c0
  have bn:0 < rest.length+1:=by omega
  have bl:(0:Int) < ((rest.length+1:Nat):Int):=by omega
  have hg3:=cd.z
  have hcs:=cd.cs
  clear cd
  have hne:=ext_ne w3
  have u0:=Ext.fit x0 hbz
  have u1:=Ext.fit f0 hg3
  go_wp2_with fail
  refine regionSuf w3 8 (by kernel_rfl) (by kernel_rfl) (by kernel_rfl) (by kernel_rfl) (by kernel_rfl) ?_
  dsimp only [List.take,List.drop]
  repeat (go_big_quiet_step (fail))
  refine wpQuiet_nil ?_
  rintro w5 ⟨X5,rfl⟩
  obtain ⟨U,hU⟩:∃ U,X5.w=U:=⟨_,rfl⟩
  have hb5:=X5.b
  rw [hU] at hb5 ⊢
  have CD5:=hidM1 (CD.out.up (D3.out.lowB hb5) (But.of_below hb5))
  clear hU X5 hb5 hne u0 u1 x0 f0
  have y0:=CD5.out.c0
  have yf:=CD5.out.fz 0
  have yz:=CD5.out.z
  go_upto_region 13 with fail
  all_goals
   obtain ⟨q2,d2,ev⟩:=CD5.out.fin (if cs=1 then some ⟨gs,0,none⟩ else some ⟨gs,5,none⟩) (cs - 1) (by
    by_cases h1:cs=1
    ·exact .inl (List.eq_nil_of_length_eq_zero (by omega))
    ·exact .inr (if_neg h1))
   obtain ⟨Z,hZ⟩:∃ Z,U.setCell ⟨g,0,none⟩ (.slice (if cs=1 then some ⟨gs,0,none⟩ else some ⟨gs,5,none⟩) r0.length (cs - 1))=Z:=⟨_,rfl⟩
   rw [hZ] at ev ⊢
   generalize (if cs=1 then some (⟨gs,0,none⟩:Addr) else some ⟨gs,5,none⟩)=adr
   have E:=hidM1 ev
   clear hZ ev CD5 y0 yf yz CD D3 bn bl hg3 hcs hbz
 case' c3=>
  subst e
  clear hq
  obtain ⟨st,ct,et⟩:=ownSl D3.out.mq.t
  subst et
  have x3:=D3.out.x.x.c3
  have hbz:=D3.out.x.x.z
  have htl:d.tr.length≤20000:=by have:=D3.out.sz;unfold MaSz at this;omega
  have hpz:p < w3.heap.size:=by have:=NZ.out;omega
  have hwz:=NZ.out
  go_wp2_with fail
  go_region_law (first | (refine step_note (by rfl) _ _ (by rfl) (w5.alloc (.cells #[.int .i64 y,.int .i64 0] 105)) (w.heap.size+1) (.slice st d.tr.length ct) d.tr.length (flatN d.tr) (by rfl) (ownKeep' D5.out.mq.t (fun k hk=>Below.heap_alloc _ _ _ (World.ownsRow.lt D5.out.mq.t _ hk).2)) w5.heap.size (.int .i64 y) (.int .i64 0) rfl rfl (by rfl) (by simp [go_sem]) (by simp [go_sem]) (by omega) (by simp;omega) ?_;intro g6 cap6 w6 ho6 hg6 hgr6 hlt6;have KS:w6.heap[bx]? =w5.heap[bx]? :=(hg6.block bx (by simp;omega) (fun e=>own_bx D5.out.mq.t (by decide) D5.out.ty e.symm)).trans (Below.heap_alloc _ _ _ (by omega));have x6:=D5.out.x.blk KS (by have:=hg6.size;simp at this;omega);have y3:=x6.x.c3;have yf:=x6.fz 3;have yz:=x6.x.z) | (refine step_call 47 #[.pointer (some ⟨p,0,none⟩),.int .i64 5] (by rfl) _ _ (by rfl) (by simp [go_sem]) entB8 ?_;refine (below_cb p s n c 5 w3.drew (D3.out.cb' ((Below.refl _ _).drew)) (by omega) (by omega)).mono ?_;rintro e w5 ⟨y,rfl,y0,y1,hc5,hb5⟩;have D5:=hidM1 ((D3.out.lowB ((Below.refl _ _).drew)).step hc5 hb5);have x5:=D5.out.x.x.c3;have x5z:=D5.out.x.x.z;have z5:w3.heap.size≤w5.heap.size:=hb5.size;refine ⟨_,rfl,?_⟩) | fail)
  all_goals
   have hal:Below w5.heap.size w5 (w5.alloc (.cells #[.int .i64 y,.int .i64 0] 105)):=(Below.refl _ _).alloc (Nat.le_refl _) _
   have n3:∀ k,(Value.slice st d.tr.length ct).ownBlock=some k→w.heap.size+1≤k:=fun k e=>(World.ownsRow.lt D5.out.mq.t _ e).1
   obtain ⟨q2,d2,ev⟩:=D5.out.trc ⟨y,0⟩ ho6 (fun k a b=>(hg6.block k (by simp;omega) (fun e=>b e.symm)).trans (hal.block k a)) (by have:=hg6.size;simp at this;omega) ((D5.out.cb.alloc _).grown hg6 (fun k e=>by have:=n3 k e;omega)) ((D5.out.bt.alloc _).grown hg6 (fun k e=>by have:=n3 k e;omega))
   obtain ⟨Z,hZ⟩:∃ Z,w6.setCell ⟨bx,3,none⟩ (.slice (some ⟨g6,0,none⟩) (d.tr.length+1) cap6)=Z:=⟨_,rfl⟩
   rw [hZ] at ev ⊢
   have E:=hidM1 ev
   clear hZ ev hal n3 ho6 hg6 hgr6 hlt6 KS x6 y3 yf yz D5 x5 x5z z5 D3 x3 hbz htl hpz hwz
 case' c4=>
  subst e
  clear hq
  obtain ⟨gk,ck,gr,cr,gv,cv,kc⟩:=D3.out.kc
  have KC:=hidM1 kc
  have ek:=kc.ek
  subst ek
  have bn:=kc.m0
  have bl:(0:Int) < (LK.length:Int):=by omega
  have x1:=D3.out.x.x.c1
  have hbz:=D3.out.x.x.z
  have n1:=kc.zk
  have n2:=kc.zr
  have n3:=kc.zv
  have hpz:p < w3.heap.size:=by have:=NZ.out;omega
  have k1:=kc.k1
  clear kc
  have KL:Hid (Below w3.heap.size w3 ((w3.alloc (.cells #[.int .i64 (-9223372036854775807),.int .i64 (24),.int .i64 (9223372036854775807)] 3)).drew)):=((Below.refl _ _).alloc (Nat.le_refl _) _).drew
  go_wp2_with fail
  go_region_law (first | (refine step_call 81 #[.pointer (some ⟨p,0,none⟩),.slice (some ⟨w3.heap.size,0,none⟩) 3 3] (by rfl) _ _ (by rfl) (by simp [go_sem]) entP8 ?_;refine (pick_cb p s n c w3.heap.size 3 [-9223372036854775807,24,9223372036854775807] w5 D5.out.cb rfl (by simp) (by simp) (by omega) (by omega) (fun i hi=>by match i,hi with | 0,_=>exact (hb5.cell (p:=⟨w3.heap.size,0,none⟩) (by simp) (by show w3.heap.size≠p;omega)).trans (by simp [go_sem]) | 1,_=>exact (hb5.cell (p:=⟨w3.heap.size,1,none⟩) (by simp) (by show w3.heap.size≠p;omega)).trans (by simp [go_sem]) | 2,_=>exact (hb5.cell (p:=⟨w3.heap.size,2,none⟩) (by simp) (by show w3.heap.size≠p;omega)).trans (by simp [go_sem]))).mono ?_;rintro e w6 ⟨z,rfl,-,hc6,hb6⟩;have D6:=hidM1 (D5.out.step hc6 hb6);have KC6:=hidM1 (KC5.out.up rfl D6.out hb6);have yc:=KC6.out.r yn (by omega);obtain ⟨yv,yc⟩:=Option.isSome_iff_exists.1 yc;have yf:=KC6.out.fr yn;have yz:=KC6.out.zr;have k16:=KC6.out.k1;have x16:=D6.out.x.x.c1;have yz6:=KC6.out.zk;have z6x:=D6.out.x.x.z;refine ⟨_,rfl,?_⟩) | (refine step_call 81 #[.pointer (some ⟨p,0,none⟩),.slice (some ⟨w5.heap.size,0,none⟩) 3 3] (by rfl) _ _ (by rfl) (by simp [go_sem]) entP8 ?_;refine (pick_cb p s n c w5.heap.size 3 [-9223372036854775807,24,9223372036854775807] (w5.alloc (.cells #[.int .i64 (-9223372036854775807),.int .i64 (24),.int .i64 (9223372036854775807)] 3)) (D5.out.cb' KL5.out) rfl (by simp) (by simp) (by simp) (by omega) (fun i hi=>by match i,hi with | 0,_=>simp [go_sem] | 1,_=>simp [go_sem] | 2,_=>simp [go_sem])).mono ?_;rintro e w6 ⟨z,rfl,-,hc6,hb6⟩;have D6:=hidM1 ((D5.out.lowB KL5.out).step hc6 hb6);have KC6:=hidM1 (KC5.out.up rfl D6.out ((But.of_below KL5.out).trans hb6));have yc:=KC6.out.r yn (by omega);obtain ⟨yv,yc⟩:=Option.isSome_iff_exists.1 yc;have yf:=KC6.out.fr yn;have yz:=KC6.out.zr;have k16:=KC6.out.k1;have x16:=D6.out.x.x.c1;have yz6:=KC6.out.zk;have z6x:=D6.out.x.x.z;refine ⟨_,rfl,?_⟩) | (refine step_call 47 #[.pointer (some ⟨p,0,none⟩),.int .i64 8] (by rfl) _ _ (by rfl) (by simp [go_sem]) entB8 ?_;refine (below_cb p s n c 8 ((w3.alloc (.cells #[.int .i64 (-9223372036854775807),.int .i64 (24),.int .i64 (9223372036854775807)] 3)).drew) (D3.out.cb' KL.out) (by omega) (by omega)).mono ?_;rintro e w5 ⟨y,rfl,y0,y1,hc5,hb5⟩;obtain ⟨yn,rfl⟩:∃ m:Nat,y=m:=⟨y.toNat,by omega⟩;have D5:=hidM1 ((D3.out.lowB KL.out).step hc5 hb5);have KC5:=hidM1 (KC.out.up rfl D5.out ((But.of_below KL.out).trans hb5));have k15:=KC5.out.k1;have x15:=D5.out.x.x.c1;have z5:w3.heap.size+1≤w5.heap.size:=Nat.le_trans (Nat.le_of_eq (World.size_alloc _ _).symm) hb5.size;have zr5:=KC5.out.zr;have zk5:=KC5.out.zk;have zx5:=D5.out.x.x.z;refine ⟨_,rfl,?_⟩) | (refine step_call 47 #[.pointer (some ⟨p,0,none⟩),.int .i64 8] (by rfl) _ _ (by rfl) (by simp [go_sem]) entB8 ?_;refine (below_cb p s n c 8 w3.drew (D3.out.cb' ((Below.refl _ _).drew)) (by omega) (by omega)).mono ?_;rintro e w5 ⟨y,rfl,y0,y1,hc5,hb5⟩;obtain ⟨yn,rfl⟩:∃ m:Nat,y=m:=⟨y.toNat,by omega⟩;have D5:=hidM1 ((D3.out.lowB ((Below.refl _ _).drew)).step hc5 hb5);have KC5:=hidM1 (KC.out.up rfl D5.out ((But.of_below ((Below.refl _ _).drew)).trans hb5));have k15:=KC5.out.k1;have x15:=D5.out.x.x.c1;have z5:w3.heap.size≤w5.heap.size:=hb5.size;have zr5:=KC5.out.zr;have zk5:=KC5.out.zk;have zx5:=D5.out.x.x.z;have KL5:Hid (Below w5.heap.size w5 (w5.alloc (.cells #[.int .i64 (-9223372036854775807),.int .i64 (24),.int .i64 (9223372036854775807)] 3))):=((Below.refl _ _).alloc (Nat.le_refl _) _);refine ⟨_,rfl,?_⟩) | fail)
  all_goals
   obtain ⟨q2,d2,ev⟩:=KC6.out.ir yn z
   obtain ⟨Z,hZ⟩:∃ Z,w6.setCell ⟨gr,yn,none⟩ (.int .i64 z)=Z:=⟨_,rfl⟩
   rw [hZ] at ev ⊢
   have E:=hidM1 ev
   clear hZ ev
 case' c5=>
  have b0:(q==0)=false:=by simp;omega
  have b1:(q==1)=false:=by simp;omega
  have b2:(q==2)=false:=by simp;omega
  have b3:(q==3)=false:=by simp;omega
  have b4:(q==4)=false:=by simp;omega
  obtain ⟨q2,d2,ev⟩:∃ q2 d2,EM w w3 p s n c bx q2 d2:=(D3.out.asIs).elim (fun q e=>⟨q,d,e⟩)
  have E:=hidM1 ev
  clear hq ev D3
  go_upto_region 13 with fail
  clear b0 b1 b2 b3 b4
  generalize w3=Z at E ⊢
 all_goals
  obtain ⟨⟨xz,xc0,xc1,xc2,xc3⟩,xf⟩:=E.out.x
  obtain ⟨⟨rz,rc0,rc1,rc2,rc3⟩,rf⟩:=E.out.r
  have n1:¬ bx=w.heap.size:=by have:=E.out.wb;omega
  have n2:¬ w.heap.size=bx:=by have:=E.out.wb;omega
  go_wp2_with fail
  refine bodyPost_ret (v:=.agg #[.slice q2.s1 d2.codes.length q2.c1,.slice q2.s2 d2.cores.length q2.c2,.slice q2.s3 d2.mem.length q2.c3,.slice q2.s4 d2.tr.length q2.c4]) ?_ rfl ⟨q2,d2,rfl,?_⟩
  ·simp [results,Tryz.results46,go_sem,rc0,rc1,rc2,rc3]
  ·obtain ⟨Y,hY,-,mY,sY,-,bY⟩:=X4.put4 (.slice q2.s1 d2.codes.length q2.c1) (.slice q2.s2 d2.cores.length q2.c2) (.slice q2.s3 d2.mem.length q2.c3) (.slice q2.s4 d2.tr.length q2.c4) E.out.r E.out.ma (by omega)
   rw [hY]
   have kY:=bY _ _ (Below.refl w.heap.size Z) (Nat.le_refl _)
   exact ⟨by rw [sY];exact mY,E.out.sz,E.out.k,E.out.cb.lowB kY hp,but_low E.out.bt kY⟩
end Go.Proofs.YtlbeploopclegaaGreat
