/- l4Draw: whatever program and source are drawn, they are read as such, of lists that fit; what was printed is of 0 to 15. Conditions: the cursor and its bytes lie in memory as the reading says. -/
import Derived.Test.YtknffngbdakblaaGreatJG08
import Derived.Test.YtknffngbdakblaaGreatJG00
import Derived.Test.YtknffngbdakblaaGreatJG01
import Derived.Test.YtknffngbdakblaaGreatJG18
import Derived.Test.YtknffngbdakblaaGreatJG16
import Derived.Test.YtknffngbdakblaaGreatJG17
import Derived.Test.YtknffngbdakblaaGreatJG19
import Derived.Test.YtknffngbdakblaaGreatJG20
import Derived.Deep.RegionLaw
namespace Go.Proofs.YtknffngbdakblaaGreat
set_option linter.unusedSimpArgs false
set_option linter.unusedVariables false
set_option maxRecDepth 100000
open Go.RowKit Go.Deep
set_option maxRecDepth 100000 in
set_option maxHeartbeats 8000000 in
theorem drawL_any (cu : Nat) (s : Option Addr) (n c : Nat) (w : World) (h : CB w cu s n c) :
  Calls Tryz.prog 24 #[.pointer (some ⟨cu,0,none⟩)] w fun e w'=>∃ (v0 v1 x1 x2 x3:Value),e=.returned (.tuple #[.agg #[v0,v1],.agg #[x1,x2,x3]])∧PgQ w' (w.heap.size+2) v0 v1∧SrQ w' (w.heap.size+2) x1 x2 x3∧CB w' cu s n c∧But cu w w':=by
 have hp:=h.lt
 have H:=hidR h
 clear h
 go_enter Tryz.func24,Tryz.ntmps24
 go_wp2_with fail
 obtain ⟨W2,hW2⟩:∃ W,(w.alloc (.cells #[.slice none 0 0,.slice none 0 0] 27)).alloc (.cells #[.slice none 0 0,.slice none 0 0,.slice none 0 0] 32)=W:=⟨_,rfl⟩
 have k2:Below w.heap.size w W2:=by subst hW2;exact ((Below.refl _ _).alloc (Nat.le_refl _) _).alloc (by simp) _
 have z2:W2.heap.size=w.heap.size+2:=by subst hW2;simp
 have RB:RB5 w W2 cu s n c:=by
  refine ⟨H.out.keep k2,But.of_below k2,?_,?_,fun j=>?_,?_,?_,?_,fun j=>?_,hp,by omega⟩<;>(subst hW2;simp [go_sem])
 rw [hW2]
 clear hW2
 refine (drawRun_any cu s n c W2 (H.out.keep k2)).mono ?_
 rintro e w1 ⟨lo,hi,base,p1,p2,a1,a2,pd,x1,x2,x3,D,L1,L2,rfl,hpg,hos,g1,gl,g2,g3,hF,lc,lb,hco,hbo,hrch,hc1,hb1⟩
 obtain ⟨t1,d1,t2,d2,t3,d3,e1,e2,e3,-⟩:=hos.src
 subst e1 e2 e3
 have hfit:Fits pd:=⟨by omega,by omega,fun i hi=>by
  have:=(hbo (pd.bods.getD i []) (by rw [List.getD_eq_getElem?_getD,List.getElem?_eq_getElem hi];exact List.getElem_mem hi)).2
  omega⟩
 have hok:=rch_ok (prog_ok lc lb hco hbo) hbo hco hrch
 have RB1:=RB.step hc1 hb1
 obtain ⟨V,hV⟩:∃ V,(w1.alloc (.cells #[.slice p1 pd.caps.length a1,.slice p2 pd.bods.length a2] 27)).alloc (.cells #[.slice t1 D.ths.length d1,.slice t2 D.chs.length d2,.slice t3 D.tr.length d3] 32)=V:=⟨_,rfl⟩
 have kV:Below w1.heap.size w1 V:=by subst hV;exact ((Below.refl _ _).alloc (Nat.le_refl _) _).alloc (by simp) _
 have DV:Hid (DL w V cu s n c w1.heap.size (w1.heap.size+1) lo hi base p1 p2 a1 a2 pd (.slice t1 D.ths.length d1) (.slice t2 D.chs.length d2) (.slice t3 D.tr.length d3) L1 L2 D):=by
  refine ⟨RB1.step (hc1.keep kV) (But.of_below kV),by subst hV;simp [go_sem],by subst hV;simp [go_sem],fun j=>by subst hV;simp [go_sem],?_,?_,hpg.keep' (Keep.of_below kV (by omega)),hos.keep (fun k _ hk=>kV.block k hk),hfit,hF,hok,by omega,?_,g2,g3,by omega,by subst hV;simp,fun k hk=>(hos.hit hk).2⟩
  ·subst hV;exact ⟨by simp [go_sem],by simp [go_sem],by simp [go_sem],fun j=>by simp [go_sem],by simp⟩
  ·have hx:=BxS.new (w1.alloc (.cells #[.slice p1 pd.caps.length a1,.slice p2 pd.bods.length a2] 27)) #[.slice t1 D.ths.length d1,.slice t2 D.chs.length d2,.slice t3 D.tr.length d3]
   subst hV
   simpa using hx
  ·exact gl
 have SV:=hidR hV
 have LC:=hidR lc
 have LB:=hidR lb
 clear hV kV hpg hos hc1 hb1 hco hbo hrch hok RB1 RB hF hfit g1 g2 g3 H k2 z2
 go_wp2_with fail
 try rw [SV.out]
 clear SV
 refine (below_cb cu s n c 25 V DV.out.rb.cb (by omega) (by omega)).mono ?_
 rintro e w3 ⟨q,rfl,q0,q1,hc3,hb3⟩
 have D3:=hidR (DV.out.step hc3 hb3)
 clear hc3 hb3 DV
 have hPS:w1.heap.size+1=w1.heap.size+1:=rfl
 generalize w1.heap.size+1=S at D3 ⊢
 generalize w1.heap.size=P at D3 ⊢
 clear hPS
 have hq:q=0∨q=1∨q=2∨q=3∨q=4∨q=5∨q=6∨7≤q:=by omega
 rcases hq with rfl | rfl | rfl | rfl | rfl | rfl | rfl | h7
 ·obtain ⟨g,c1,gr,cr,tt,ee,l1,ga,gb,ra,rb,f0,f1,f2,ff,fc,fg,-,-,-⟩:=D3.out.thr0 LB.out
  cases ee
  have bl:(0:Int) < (D.ths.length:Int):=by omega
  have bn:0 < D.ths.length:=by omega
  have bz:¬ D.ths=[]:=fun e=>by rw [e] at bn;exact absurd bn (Nat.lt_irrefl _)
  have m0:=D3.out.sb.c0
  have z3:=D3.out.sb.z
  have o6:=D3.out.o6
  have o7:=D3.out.o7
  have hg3:g < w3.heap.size:=by omega
  have hgr3:gr < w3.heap.size:=by omega
  have KL:Hid (Below w3.heap.size w3 ((w3.alloc (.cells #[.int .i64 (-1),.int .i64 (24)] 3)).drew)):=((Below.refl _ _).alloc (Nat.le_refl _) _).drew
  have hcu:=D3.out.rb.o1
  have oo2:=D3.out.o2
  have oo3:=D3.out.o3
  have oo4:=D3.out.o4
  have hsz:=D3.out.rb.o2
  go_wp2_with fail
  go_region_law (refine step_call 41 #[.pointer (some ⟨cu,0,none⟩),.slice (some ⟨w3.heap.size,0,none⟩) 2 2] (by rfl) _ _ (by rfl) (by simp [go_sem]) ent_pick ?_;refine (pick_cb cu s n c w3.heap.size 2 [-1,24] ((w3.alloc (.cells #[.int .i64 (-1),.int .i64 (24)] 3)).drew) (D3.out.rb.cb.keep KL.out) rfl (by simp) (by simp) (by simp) (by omega) (fun i hi=>by match i,hi with | 0,_=>simp [go_sem] | 1,_=>simp [go_sem])).mono ?_;rintro e w5 ⟨z,rfl,-,hc5,hb5⟩;have D5:=hidR ((D3.out.step (D3.out.rb.cb.keep KL.out) (But.of_below KL.out)).step hc5 hb5);obtain ⟨g',c1',gr',cr',tt',ee',-,-,-,-,-,f0',f1',f2',ff',fc',fg',E0',E2',ER'⟩:=D5.out.thr0 LB.out;cases ee';have eq1:some (Value.slice (some ⟨gr',0,none⟩) 4 cr')=some (Value.slice (some ⟨gr,0,none⟩) 4 cr):=f1'.symm.trans ((hb5.cell (p:=⟨g,1,none⟩) (by show g < _;simp;omega) (by show g≠cu;omega)).trans ((KL.out.cell (p:=⟨g,1,none⟩) (by show g < _;omega)).trans f1));cases eq1;have m0':=D5.out.sb.c0;refine ⟨_,rfl,?_⟩)
  all_goals
   have EV:=hidR (E0' z)
   clear f0' f1' f2' ff' fc' fg' E0' E2' ER' m0' D5 m0 f0 f1 f2 ff fc fg
   obtain ⟨Z,hZ⟩:∃ Z,w5.setCell ⟨g,0,none⟩ (.int .i64 z)=Z:=⟨_,rfl⟩
   rw [hZ] at EV ⊢
   clear hZ
   obtain ⟨m0,m1,m2,mf,mz⟩:=EV.out.sb
   have k0:=EV.out.k0
   have k1:=EV.out.k1
   have oP:=EV.out.oP
   have oS:=EV.out.oS
   obtain ⟨q0,g0⟩:=Option.isSome_iff_exists.1 EV.out.rb.r0
   obtain ⟨q1,g1⟩:=Option.isSome_iff_exists.1 EV.out.rb.r1
   obtain ⟨q2,g2⟩:=Option.isSome_iff_exists.1 EV.out.rb.t0
   obtain ⟨q3,g3⟩:=Option.isSome_iff_exists.1 EV.out.rb.t1
   obtain ⟨q4,g4⟩:=Option.isSome_iff_exists.1 EV.out.rb.t2
   have fr:=EV.out.rb.fr
   have ft:=EV.out.rb.ft
   have n1':¬ P=w.heap.size:=by omega
   have n2':¬ P=w.heap.size+1:=by omega
   have n3':¬ S=w.heap.size:=by omega
   have n4':¬ S=w.heap.size+1:=by omega
   have n5':¬ w.heap.size=P:=by omega
   have n6':¬ w.heap.size+1=P:=by omega
   have n7':¬ w.heap.size=S:=by omega
   have n8':¬ w.heap.size+1=S:=by omega
   go_wp2_with fail
   go_region
   all_goals
    obtain ⟨V5,hV5,r1,r2,r3,r4⟩:=EV.out.fin (.slice p1 pd.caps.length a1) (.slice p2 pd.bods.length a2) (.slice (some ⟨g,0,none⟩) D.ths.length d1) (.slice t2 D.chs.length d2) (.slice t3 D.tr.length d3)
    have e0:V5.cell? ⟨w.heap.size,0,none⟩=some (.slice p1 pd.caps.length a1):=by rw [← hV5];simp [go_sem,g0,g1,g2,g3,g4]
    have e1:V5.cell? ⟨w.heap.size,1,none⟩=some (.slice p2 pd.bods.length a2):=by rw [← hV5];simp [go_sem,g0,g1,g2,g3,g4]
    have e2:V5.cell? ⟨w.heap.size+1,0,none⟩=some (.slice (some ⟨g,0,none⟩) D.ths.length d1):=by rw [← hV5];simp [go_sem,g0,g1,g2,g3,g4]
    have e3:V5.cell? ⟨w.heap.size+1,1,none⟩=some (.slice t2 D.chs.length d2):=by rw [← hV5];simp [go_sem,g0,g1,g2,g3,g4]
    have e4:V5.cell? ⟨w.heap.size+1,2,none⟩=some (.slice t3 D.tr.length d3):=by rw [← hV5];simp [go_sem,g0,g1,g2,g3,g4]
    rw [hV5]
    have X1:=hidR r1
    have X2:=hidR r2
    have X3:=hidR r3
    have X4:=hidR r4
    clear hV5 r1 r2 r3 r4 g0 g1 g2 g3 g4 m0 m1 m2 k0 k1 fr ft
    go_wp2
    exact bodyPost_ret (v:=.tuple #[.agg #[.slice p1 pd.caps.length a1,.slice p2 pd.bods.length a2],.agg #[.slice (some ⟨g,0,none⟩) D.ths.length d1,.slice t2 D.chs.length d2,.slice t3 D.tr.length d3]]) (by simp [results,Tryz.results24,go_sem,e0,e1,e2,e3,e4]) rfl ⟨_,_,_,_,_,rfl,X1.out,X2.out,X3.out,X4.out⟩
 ·obtain ⟨g,c1,gr,cr,tt,ee,l1,ga,gb,ra,rb,f0,f1,f2,ff,fc,fg,-,-,-⟩:=D3.out.thr0 LB.out
  cases ee
  have bl:(0:Int) < (D.ths.length:Int):=by omega
  have bn:0 < D.ths.length:=by omega
  have bz:¬ D.ths=[]:=fun e=>by rw [e] at bn;exact absurd bn (Nat.lt_irrefl _)
  have m0:=D3.out.sb.c0
  have z3:=D3.out.sb.z
  have o6:=D3.out.o6
  have o7:=D3.out.o7
  have hg3:g < w3.heap.size:=by omega
  have hgr3:gr < w3.heap.size:=by omega
  have KL:Hid (Below w3.heap.size w3 ((w3.alloc (.cells #[.int .i64 (9223372036854775807),.int .i64 (-9223372036854775808)] 3)).drew)):=((Below.refl _ _).alloc (Nat.le_refl _) _).drew
  have hcu:=D3.out.rb.o1
  have oo2:=D3.out.o2
  have oo3:=D3.out.o3
  have oo4:=D3.out.o4
  have hsz:=D3.out.rb.o2
  go_wp2_with fail
  go_region_law (refine step_call 41 #[.pointer (some ⟨cu,0,none⟩),.slice (some ⟨w3.heap.size,0,none⟩) 2 2] (by rfl) _ _ (by rfl) (by simp [go_sem]) ent_pick ?_;refine (pick_cb cu s n c w3.heap.size 2 [9223372036854775807,-9223372036854775808] ((w3.alloc (.cells #[.int .i64 (9223372036854775807),.int .i64 (-9223372036854775808)] 3)).drew) (D3.out.rb.cb.keep KL.out) rfl (by simp) (by simp) (by simp) (by omega) (fun i hi=>by match i,hi with | 0,_=>simp [go_sem] | 1,_=>simp [go_sem])).mono ?_;rintro e w5 ⟨z,rfl,-,hc5,hb5⟩;have D5:=hidR ((D3.out.step (D3.out.rb.cb.keep KL.out) (But.of_below KL.out)).step hc5 hb5);obtain ⟨g',c1',gr',cr',tt',ee',-,-,-,-,-,f0',f1',f2',ff',fc',fg',E0',E2',ER'⟩:=D5.out.thr0 LB.out;cases ee';have eq1:some (Value.slice (some ⟨gr',0,none⟩) 4 cr')=some (Value.slice (some ⟨gr,0,none⟩) 4 cr):=f1'.symm.trans ((hb5.cell (p:=⟨g,1,none⟩) (by show g < _;simp;omega) (by show g≠cu;omega)).trans ((KL.out.cell (p:=⟨g,1,none⟩) (by show g < _;omega)).trans f1));cases eq1;have m0':=D5.out.sb.c0;refine ⟨_,rfl,?_⟩)
  all_goals
   have EV:=hidR (ER' z)
   clear f0' f1' f2' ff' fc' fg' E0' E2' ER' m0' D5 m0 f0 f1 f2 ff fc fg
   obtain ⟨Z,hZ⟩:∃ Z,w5.setCell ⟨gr,0,none⟩ (.int .i64 z)=Z:=⟨_,rfl⟩
   rw [hZ] at EV ⊢
   clear hZ
   obtain ⟨m0,m1,m2,mf,mz⟩:=EV.out.sb
   have k0:=EV.out.k0
   have k1:=EV.out.k1
   have oP:=EV.out.oP
   have oS:=EV.out.oS
   obtain ⟨q0,g0⟩:=Option.isSome_iff_exists.1 EV.out.rb.r0
   obtain ⟨q1,g1⟩:=Option.isSome_iff_exists.1 EV.out.rb.r1
   obtain ⟨q2,g2⟩:=Option.isSome_iff_exists.1 EV.out.rb.t0
   obtain ⟨q3,g3⟩:=Option.isSome_iff_exists.1 EV.out.rb.t1
   obtain ⟨q4,g4⟩:=Option.isSome_iff_exists.1 EV.out.rb.t2
   have fr:=EV.out.rb.fr
   have ft:=EV.out.rb.ft
   have n1':¬ P=w.heap.size:=by omega
   have n2':¬ P=w.heap.size+1:=by omega
   have n3':¬ S=w.heap.size:=by omega
   have n4':¬ S=w.heap.size+1:=by omega
   have n5':¬ w.heap.size=P:=by omega
   have n6':¬ w.heap.size+1=P:=by omega
   have n7':¬ w.heap.size=S:=by omega
   have n8':¬ w.heap.size+1=S:=by omega
   go_wp2_with fail
   go_region
   all_goals
    obtain ⟨V5,hV5,r1,r2,r3,r4⟩:=EV.out.fin (.slice p1 pd.caps.length a1) (.slice p2 pd.bods.length a2) (.slice (some ⟨g,0,none⟩) D.ths.length d1) (.slice t2 D.chs.length d2) (.slice t3 D.tr.length d3)
    have e0:V5.cell? ⟨w.heap.size,0,none⟩=some (.slice p1 pd.caps.length a1):=by rw [← hV5];simp [go_sem,g0,g1,g2,g3,g4]
    have e1:V5.cell? ⟨w.heap.size,1,none⟩=some (.slice p2 pd.bods.length a2):=by rw [← hV5];simp [go_sem,g0,g1,g2,g3,g4]
    have e2:V5.cell? ⟨w.heap.size+1,0,none⟩=some (.slice (some ⟨g,0,none⟩) D.ths.length d1):=by rw [← hV5];simp [go_sem,g0,g1,g2,g3,g4]
    have e3:V5.cell? ⟨w.heap.size+1,1,none⟩=some (.slice t2 D.chs.length d2):=by rw [← hV5];simp [go_sem,g0,g1,g2,g3,g4]
    have e4:V5.cell? ⟨w.heap.size+1,2,none⟩=some (.slice t3 D.tr.length d3):=by rw [← hV5];simp [go_sem,g0,g1,g2,g3,g4]
    rw [hV5]
    have X1:=hidR r1
    have X2:=hidR r2
    have X3:=hidR r3
    have X4:=hidR r4
    clear hV5 r1 r2 r3 r4 g0 g1 g2 g3 g4 m0 m1 m2 k0 k1 fr ft
    go_wp2
    exact bodyPost_ret (v:=.tuple #[.agg #[.slice p1 pd.caps.length a1,.slice p2 pd.bods.length a2],.agg #[.slice (some ⟨g,0,none⟩) D.ths.length d1,.slice t2 D.chs.length d2,.slice t3 D.tr.length d3]]) (by simp [results,Tryz.results24,go_sem,e0,e1,e2,e3,e4]) rfl ⟨_,_,_,_,_,rfl,X1.out,X2.out,X3.out,X4.out⟩
 ·obtain ⟨g,c1,gr,cr,tt,ee,l1,ga,gb,ra,rb,f0,f1,f2,ff,fc,fg,-,-,-⟩:=D3.out.thr0 LB.out
  cases ee
  have bl:(0:Int) < (D.ths.length:Int):=by omega
  have bn:0 < D.ths.length:=by omega
  have bz:¬ D.ths=[]:=fun e=>by rw [e] at bn;exact absurd bn (Nat.lt_irrefl _)
  have m0:=D3.out.sb.c0
  have D3d:=hidR (D3.out.step (D3.out.rb.cb.keep (Below.drew (Below.refl _ _))) (But.of_below (Below.drew (Below.refl _ _))))
  go_wp2_with fail
  go_region_law (refine step_call 25 #[.pointer (some ⟨cu,0,none⟩),.int .i64 4] (by rfl) _ _ (by rfl) (by simp [go_sem]) ent_below ?_;refine (below_cb cu s n c 4 w3.drew D3d.out.rb.cb (by omega) (by omega)).mono ?_;rintro e w5 ⟨z,rfl,-,-,hc5,hb5⟩;have D5:=hidR (D3d.out.step hc5 hb5);obtain ⟨g',c1',gr',cr',tt',ee',-,-,-,-,-,f0',f1',f2',ff',fc',fg',E0',E2',ER'⟩:=D5.out.thr0 LB.out;cases ee';have m0':=D5.out.sb.c0;refine ⟨_,rfl,?_⟩)
  all_goals
   have EV:=hidR (E2' z)
   clear f0' f1' f2' ff' fc' fg' E0' E2' ER' m0' D5 m0 f0 f1 f2 ff fc fg D3d
   obtain ⟨Z,hZ⟩:∃ Z,w5.setCell ⟨g,2,none⟩ (.int .i64 z)=Z:=⟨_,rfl⟩
   rw [hZ] at EV ⊢
   clear hZ
   obtain ⟨m0,m1,m2,mf,mz⟩:=EV.out.sb
   have k0:=EV.out.k0
   have k1:=EV.out.k1
   have oP:=EV.out.oP
   have oS:=EV.out.oS
   obtain ⟨q0,g0⟩:=Option.isSome_iff_exists.1 EV.out.rb.r0
   obtain ⟨q1,g1⟩:=Option.isSome_iff_exists.1 EV.out.rb.r1
   obtain ⟨q2,g2⟩:=Option.isSome_iff_exists.1 EV.out.rb.t0
   obtain ⟨q3,g3⟩:=Option.isSome_iff_exists.1 EV.out.rb.t1
   obtain ⟨q4,g4⟩:=Option.isSome_iff_exists.1 EV.out.rb.t2
   have fr:=EV.out.rb.fr
   have ft:=EV.out.rb.ft
   have n1':¬ P=w.heap.size:=by omega
   have n2':¬ P=w.heap.size+1:=by omega
   have n3':¬ S=w.heap.size:=by omega
   have n4':¬ S=w.heap.size+1:=by omega
   have n5':¬ w.heap.size=P:=by omega
   have n6':¬ w.heap.size+1=P:=by omega
   have n7':¬ w.heap.size=S:=by omega
   have n8':¬ w.heap.size+1=S:=by omega
   go_wp2_with fail
   go_region
   all_goals
    obtain ⟨V5,hV5,r1,r2,r3,r4⟩:=EV.out.fin (.slice p1 pd.caps.length a1) (.slice p2 pd.bods.length a2) (.slice (some ⟨g,0,none⟩) D.ths.length d1) (.slice t2 D.chs.length d2) (.slice t3 D.tr.length d3)
    have e0:V5.cell? ⟨w.heap.size,0,none⟩=some (.slice p1 pd.caps.length a1):=by rw [← hV5];simp [go_sem,g0,g1,g2,g3,g4]
    have e1:V5.cell? ⟨w.heap.size,1,none⟩=some (.slice p2 pd.bods.length a2):=by rw [← hV5];simp [go_sem,g0,g1,g2,g3,g4]
    have e2:V5.cell? ⟨w.heap.size+1,0,none⟩=some (.slice (some ⟨g,0,none⟩) D.ths.length d1):=by rw [← hV5];simp [go_sem,g0,g1,g2,g3,g4]
    have e3:V5.cell? ⟨w.heap.size+1,1,none⟩=some (.slice t2 D.chs.length d2):=by rw [← hV5];simp [go_sem,g0,g1,g2,g3,g4]
    have e4:V5.cell? ⟨w.heap.size+1,2,none⟩=some (.slice t3 D.tr.length d3):=by rw [← hV5];simp [go_sem,g0,g1,g2,g3,g4]
    rw [hV5]
    have X1:=hidR r1
    have X2:=hidR r2
    have X3:=hidR r3
    have X4:=hidR r4
    clear hV5 r1 r2 r3 r4 g0 g1 g2 g3 g4 m0 m1 m2 k0 k1 fr ft
    go_wp2
    exact bodyPost_ret (v:=.tuple #[.agg #[.slice p1 pd.caps.length a1,.slice p2 pd.bods.length a2],.agg #[.slice (some ⟨g,0,none⟩) D.ths.length d1,.slice t2 D.chs.length d2,.slice t3 D.tr.length d3]]) (by simp [results,Tryz.results24,go_sem,e0,e1,e2,e3,e4]) rfl ⟨_,_,_,_,_,rfl,X1.out,X2.out,X3.out,X4.out⟩
 ·obtain ⟨g,c2,tt,ee,l1,ga,gb,tc,f0,ff,-⟩:=D3.out.chn0 LC.out.1 LB.out.2
  cases ee
  have m1:=D3.out.sb.c1
  have z3:=D3.out.sb.z
  have o6:=D3.out.o6
  have o7:=D3.out.o7
  have hg3:g < w3.heap.size:=by omega
  have bl:(0:Int) < (D.chs.length:Int):=by omega
  have bn:0 < D.chs.length:=by omega
  have hwr:IntKind.i64.wrap (tt.cap+1)=tt.cap+1:=IntWalk.i64_in _ ⟨by omega,by omega⟩
  have hne:=ext_ne w3
  have u1:=Ext.fit m1 z3
  have u0:=Ext.fit f0 hg3
  go_wp2_with fail
  refine regionSuf w3 10 (by kernel_rfl) (by kernel_rfl) (by kernel_rfl) (by kernel_rfl) (by kernel_rfl) ?_
  dsimp only [List.take,List.drop]
  repeat (go_big_quiet_step (fail))
  refine wpQuiet_nil ?_
  rintro w5 ⟨X5,rfl⟩
  obtain ⟨U,hU⟩:∃ U,X5.w=U:=⟨_,rfl⟩
  have hb5:=X5.b
  rw [hU] at hb5 ⊢
  have D5:=hidR (D3.out.step (D3.out.rb.cb.keep hb5) (But.of_below hb5))
  obtain ⟨g',c2',tt',ee',-,-,-,-,f0',ff',E0'⟩:=D5.out.chn0 LC.out.1 LB.out.2
  cases ee'
  clear hU X5 hb5 hne u0 u1 m1 f0 ff
  have EV:=hidR (E0' (tt.cap+1))
  clear E0' D5
  go_wp2_with fail
  obtain ⟨Z,hZ⟩:∃ Z,U.setCell ⟨g,0,none⟩ (.int .i64 (tt.cap+1))=Z:=⟨_,rfl⟩
  rw [hZ] at EV ⊢
  clear hZ f0' ff'
  obtain ⟨m0,m1,m2,mf,mz⟩:=EV.out.sb
  have k0:=EV.out.k0
  have k1:=EV.out.k1
  have oP:=EV.out.oP
  have oS:=EV.out.oS
  obtain ⟨q0,g0⟩:=Option.isSome_iff_exists.1 EV.out.rb.r0
  obtain ⟨q1,g1⟩:=Option.isSome_iff_exists.1 EV.out.rb.r1
  obtain ⟨q2,g2⟩:=Option.isSome_iff_exists.1 EV.out.rb.t0
  obtain ⟨q3,g3⟩:=Option.isSome_iff_exists.1 EV.out.rb.t1
  obtain ⟨q4,g4⟩:=Option.isSome_iff_exists.1 EV.out.rb.t2
  have fr:=EV.out.rb.fr
  have ft:=EV.out.rb.ft
  have n1':¬ P=w.heap.size:=by omega
  have n2':¬ P=w.heap.size+1:=by omega
  have n3':¬ S=w.heap.size:=by omega
  have n4':¬ S=w.heap.size+1:=by omega
  have n5':¬ w.heap.size=P:=by omega
  have n6':¬ w.heap.size+1=P:=by omega
  have n7':¬ w.heap.size=S:=by omega
  have n8':¬ w.heap.size+1=S:=by omega
  go_wp2_with fail
  go_region
  all_goals
   obtain ⟨V5,hV5,r1,r2,r3,r4⟩:=EV.out.fin (.slice p1 pd.caps.length a1) (.slice p2 pd.bods.length a2) (.slice t1 D.ths.length d1) (.slice (some ⟨g,0,none⟩) D.chs.length d2) (.slice t3 D.tr.length d3)
   have e0:V5.cell? ⟨w.heap.size,0,none⟩=some (.slice p1 pd.caps.length a1):=by rw [← hV5];simp [go_sem,g0,g1,g2,g3,g4]
   have e1:V5.cell? ⟨w.heap.size,1,none⟩=some (.slice p2 pd.bods.length a2):=by rw [← hV5];simp [go_sem,g0,g1,g2,g3,g4]
   have e2:V5.cell? ⟨w.heap.size+1,0,none⟩=some (.slice t1 D.ths.length d1):=by rw [← hV5];simp [go_sem,g0,g1,g2,g3,g4]
   have e3:V5.cell? ⟨w.heap.size+1,1,none⟩=some (.slice (some ⟨g,0,none⟩) D.chs.length d2):=by rw [← hV5];simp [go_sem,g0,g1,g2,g3,g4]
   have e4:V5.cell? ⟨w.heap.size+1,2,none⟩=some (.slice t3 D.tr.length d3):=by rw [← hV5];simp [go_sem,g0,g1,g2,g3,g4]
   rw [hV5]
   have X1:=hidR r1
   have X2:=hidR r2
   have X3:=hidR r3
   have X4:=hidR r4
   clear hV5 r1 r2 r3 r4 g0 g1 g2 g3 g4 m0 m1 m2 k0 k1 fr ft
   go_wp2
   exact bodyPost_ret (v:=.tuple #[.agg #[.slice p1 pd.caps.length a1,.slice p2 pd.bods.length a2],.agg #[.slice t1 D.ths.length d1,.slice (some ⟨g,0,none⟩) D.chs.length d2,.slice t3 D.tr.length d3]]) (by simp [results,Tryz.results24,go_sem,e0,e1,e2,e3,e4]) rfl ⟨_,_,_,_,_,rfl,X1.out,X2.out,X3.out,X4.out⟩
 ·have k0':=D3.out.k0
  go_wp2_with fail
  refine (drawQ_any cu s n c w3 D3.out.rb.cb).mono ?_
  rintro e w5 ⟨u0,u1,rfl,hpq,hc5,hb5⟩
  have D5:=hidR (D3.out.step hc5 hb5)
  have hqP:P < w3.heap.size:=by have:=D3.out.o6;have:=D3.out.o7;omega
  have EV0:=D5.out.prg LB.out.2 hpq hqP
  obtain ⟨hi',b1,b2,d4,d5,pd',e0,e1,-,-,-⟩:=hpq
  subst e0 e1
  have EV:=hidR EV0
  have k0:=D5.out.k0
  have k1:=D5.out.k1
  have kf:=D5.out.kf
  clear EV0 hc5 hb5 D3 k0' D5
  go_wp2_with fail
  obtain ⟨Z,hZ⟩:∃ Z,(w5.setCell ⟨P,0,none⟩ (.slice b1 pd'.caps.length d4)).setCell ⟨P,1,none⟩ (.slice b2 pd'.bods.length d5)=Z:=⟨_,rfl⟩
  rw [hZ] at EV ⊢
  clear hZ k0 k1 kf
  obtain ⟨m0,m1,m2,mf,mz⟩:=EV.out.sb
  have k0:=EV.out.k0
  have k1:=EV.out.k1
  have oP:=EV.out.oP
  have oS:=EV.out.oS
  obtain ⟨q0,g0⟩:=Option.isSome_iff_exists.1 EV.out.rb.r0
  obtain ⟨q1,g1⟩:=Option.isSome_iff_exists.1 EV.out.rb.r1
  obtain ⟨q2,g2⟩:=Option.isSome_iff_exists.1 EV.out.rb.t0
  obtain ⟨q3,g3⟩:=Option.isSome_iff_exists.1 EV.out.rb.t1
  obtain ⟨q4,g4⟩:=Option.isSome_iff_exists.1 EV.out.rb.t2
  have fr:=EV.out.rb.fr
  have ft:=EV.out.rb.ft
  have n1':¬ P=w.heap.size:=by omega
  have n2':¬ P=w.heap.size+1:=by omega
  have n3':¬ S=w.heap.size:=by omega
  have n4':¬ S=w.heap.size+1:=by omega
  have n5':¬ w.heap.size=P:=by omega
  have n6':¬ w.heap.size+1=P:=by omega
  have n7':¬ w.heap.size=S:=by omega
  have n8':¬ w.heap.size+1=S:=by omega
  go_wp2_with fail
  go_region
  all_goals
   obtain ⟨V5,hV5,r1,r2,r3,r4⟩:=EV.out.fin (.slice b1 pd'.caps.length d4) (.slice b2 pd'.bods.length d5) (.slice t1 D.ths.length d1) (.slice t2 D.chs.length d2) (.slice t3 D.tr.length d3)
   have e0:V5.cell? ⟨w.heap.size,0,none⟩=some (.slice b1 pd'.caps.length d4):=by rw [← hV5];simp [go_sem,g0,g1,g2,g3,g4]
   have e1:V5.cell? ⟨w.heap.size,1,none⟩=some (.slice b2 pd'.bods.length d5):=by rw [← hV5];simp [go_sem,g0,g1,g2,g3,g4]
   have e2:V5.cell? ⟨w.heap.size+1,0,none⟩=some (.slice t1 D.ths.length d1):=by rw [← hV5];simp [go_sem,g0,g1,g2,g3,g4]
   have e3:V5.cell? ⟨w.heap.size+1,1,none⟩=some (.slice t2 D.chs.length d2):=by rw [← hV5];simp [go_sem,g0,g1,g2,g3,g4]
   have e4:V5.cell? ⟨w.heap.size+1,2,none⟩=some (.slice t3 D.tr.length d3):=by rw [← hV5];simp [go_sem,g0,g1,g2,g3,g4]
   rw [hV5]
   have X1:=hidR r1
   have X2:=hidR r2
   have X3:=hidR r3
   have X4:=hidR r4
   clear hV5 r1 r2 r3 r4 g0 g1 g2 g3 g4 m0 m1 m2 k0 k1 fr ft
   go_wp2
   exact bodyPost_ret (v:=.tuple #[.agg #[.slice b1 pd'.caps.length d4,.slice b2 pd'.bods.length d5],.agg #[.slice t1 D.ths.length d1,.slice t2 D.chs.length d2,.slice t3 D.tr.length d3]]) (by simp [results,Tryz.results24,go_sem,e0,e1,e2,e3,e4]) rfl ⟨_,_,_,_,_,rfl,X1.out,X2.out,X3.out,X4.out⟩
 ·have m2:=D3.out.sb.c2
  have D3d:=hidR (D3.out.step (D3.out.rb.cb.keep (Below.drew (Below.refl _ _))) (But.of_below (Below.drew (Below.refl _ _))))
  have o2:=D3.out.o2
  have o3:=D3.out.o3
  have o4:=D3.out.o4
  have o5:=D3.out.o5
  have o6:=D3.out.o6
  have htl:=D3.out.hF.2.2
  go_wp2_with fail
  go_region_law (first | (refine step_note (by rfl) _ _ (by rfl) base (.slice t3 D.tr.length d3) D.tr.length (flatN D.tr) (by rfl) (show World.ownsRow (w5.alloc (.cells #[.int .i64 y,.int .i64 0] 67)) base 67 2 (.slice t3 D.tr.length d3) D.tr.length (flatN D.tr) from ownKeep' D5.out.ow.n (fun k hk=>Below.heap_alloc _ _ _ (World.ownsRow.lt D5.out.ow.n _ hk).2)) w5.heap.size (.int .i64 y) (.int .i64 0) rfl rfl (by rfl) (by simp [go_sem]) (by simp [go_sem]) (by omega) (by simp;omega) ?_;intro g6 cap6 w6 ho6 hg6 hgr6 hlt6;have KS:w6.heap[S]? =w5.heap[S]? :=(hg6.block S (by simp;omega) (fun e=>by have:=D5.out.fa S (.inr (.inr e.symm));omega)).trans (Below.heap_alloc _ _ _ (by omega));have sb6:=D5.out.sb.keep KS (by have:=hg6.size;simp at this;omega);have m2':=sb6.c2;have mf':=sb6.f) | (refine step_call 25 #[.pointer (some ⟨cu,0,none⟩),.int .i64 6] (by rfl) _ _ (by rfl) (by simp [go_sem]) ent_below ?_;refine (below_cb cu s n c 6 w3.drew D3d.out.rb.cb (by omega) (by omega)).mono ?_;rintro e w5 ⟨y,rfl,y0,y1,hc5,hb5⟩;have D5:=hidR (D3d.out.step hc5 hb5);have m2q:=D5.out.sb.c2;have o7:=D5.out.o7;have o7b:=D5.out.rb.o2;have o1b:=D5.out.rb.o1;refine ⟨_,rfl,?_⟩) | fail)
  all_goals
   have EV:Hid (EndS w (w6.setCell ⟨S,2,none⟩ (.slice (some ⟨g6,0,none⟩) (D.tr.length+1) cap6)) cu s n c P S (.slice p1 pd.caps.length a1) (.slice p2 pd.bods.length a2) (.slice t1 D.ths.length d1) (.slice t2 D.chs.length d2) (.slice (some ⟨g6,0,none⟩) (D.tr.length+1) cap6)):=by
    have hal:Below w5.heap.size w5 (w5.alloc (.cells #[.int .i64 y,.int .i64 0] 67)):=(Below.refl _ _).alloc (Nat.le_refl _) _
    have hsz:=hg6.size
    rw [World.size_alloc] at hsz
    have n3:∀ k,(Value.slice t3 D.tr.length d3).ownBlock=some k→base≤k∧k < P:=fun k e=>⟨(World.ownsRow.lt D5.out.ow.n _ e).1,D5.out.fa k (.inr (.inr e))⟩
    have bk:∀ k,k < w5.heap.size→(Value.slice t3 D.tr.length d3).ownBlock≠some k→w6.heap[k]? =w5.heap[k]? :=fun k a b=>(hg6.block k (by simp;omega) (fun e=>b e.symm)).trans (hal.block k a)
    have bt:But cu w5 (w5.alloc (.cells #[.int .i64 y,.int .i64 0] 67)):=But.of_below hal
    have hcb6:CB w6 cu s n c:=(D5.out.rb.cb.keep hal).grown hg6 (fun k e=>by have:=n3 k e;omega)
    have hbt6:But cu w w6:=((D5.out.rb.but).trans bt).grown hg6 (fun k e=>by have:=n3 k e;omega)
    have rb6:RB5 w w6 cu s n c:=by
     have C:∀ k j,k < w.heap.size+2→w6.cell? ⟨k,j,none⟩=w5.cell? ⟨k,j,none⟩:=fun k j a=>World.cell?_of_block (w:=w5) (bk k (by omega) (fun e=>by have:=n3 k e;omega))
     have F:∀ k j,k < w.heap.size+2→w6.frozen? ⟨k,j,none⟩=w5.frozen? ⟨k,j,none⟩:=fun k j a=>World.frozen?_of_block (w:=w5) (bk k (by omega) (fun e=>by have:=n3 k e;omega))
     exact ⟨hcb6,hbt6,by rw [C _ _ (by omega)];exact D5.out.rb.r0,by rw [C _ _ (by omega)];exact D5.out.rb.r1,fun j=>(F _ _ (by omega)).trans (D5.out.rb.fr j),by rw [C _ _ (by omega)];exact D5.out.rb.t0,by rw [C _ _ (by omega)];exact D5.out.rb.t1,by rw [C _ _ (by omega)];exact D5.out.rb.t2,fun j=>(F _ _ (by omega)).trans (D5.out.rb.ft j),D5.out.rb.o1,by omega⟩
    refine D5.out.trc (tr:=D.tr++[⟨y,0⟩]) rb6 (fun k a b e=>bk k b e) (by omega) ?_ (by have:=tr_le D5.out.ok;simp;omega) (NtOk.snoc (NtOk.of D5.out.ok LB.out.2) _ ⟨y0,by show y≤15;omega⟩)
    show w6.ownsRow _ _ _ _ (D.tr++[(⟨y,0⟩:ND)]).length (flatN (D.tr++[(⟨y,0⟩:ND)]))
    rw [flatN_app,List.length_append]
    exact ho6
   clear ho6 hg6 hgr6 hlt6 KS sb6 m2' mf' m2 m2q D3 D3d
   obtain ⟨Z,hZ⟩:∃ Z,w6.setCell ⟨S,2,none⟩ (.slice (some ⟨g6,0,none⟩) (D.tr.length+1) cap6)=Z:=⟨_,rfl⟩
   rw [hZ] at EV ⊢
   clear hZ
   obtain ⟨m0,m1,m2,mf,mz⟩:=EV.out.sb
   have k0:=EV.out.k0
   have k1:=EV.out.k1
   have oP:=EV.out.oP
   have oS:=EV.out.oS
   obtain ⟨q0,g0⟩:=Option.isSome_iff_exists.1 EV.out.rb.r0
   obtain ⟨q1,g1⟩:=Option.isSome_iff_exists.1 EV.out.rb.r1
   obtain ⟨q2,g2⟩:=Option.isSome_iff_exists.1 EV.out.rb.t0
   obtain ⟨q3,g3⟩:=Option.isSome_iff_exists.1 EV.out.rb.t1
   obtain ⟨q4,g4⟩:=Option.isSome_iff_exists.1 EV.out.rb.t2
   have fr:=EV.out.rb.fr
   have ft:=EV.out.rb.ft
   have n1':¬ P=w.heap.size:=by omega
   have n2':¬ P=w.heap.size+1:=by omega
   have n3':¬ S=w.heap.size:=by omega
   have n4':¬ S=w.heap.size+1:=by omega
   have n5':¬ w.heap.size=P:=by omega
   have n6':¬ w.heap.size+1=P:=by omega
   have n7':¬ w.heap.size=S:=by omega
   have n8':¬ w.heap.size+1=S:=by omega
   go_wp2_with fail
   go_region
   all_goals
    obtain ⟨V5,hV5,r1,r2,r3,r4⟩:=EV.out.fin (.slice p1 pd.caps.length a1) (.slice p2 pd.bods.length a2) (.slice t1 D.ths.length d1) (.slice t2 D.chs.length d2) (.slice (some ⟨g6,0,none⟩) (D.tr.length+1) cap6)
    have e0:V5.cell? ⟨w.heap.size,0,none⟩=some (.slice p1 pd.caps.length a1):=by rw [← hV5];simp [go_sem,g0,g1,g2,g3,g4]
    have e1:V5.cell? ⟨w.heap.size,1,none⟩=some (.slice p2 pd.bods.length a2):=by rw [← hV5];simp [go_sem,g0,g1,g2,g3,g4]
    have e2:V5.cell? ⟨w.heap.size+1,0,none⟩=some (.slice t1 D.ths.length d1):=by rw [← hV5];simp [go_sem,g0,g1,g2,g3,g4]
    have e3:V5.cell? ⟨w.heap.size+1,1,none⟩=some (.slice t2 D.chs.length d2):=by rw [← hV5];simp [go_sem,g0,g1,g2,g3,g4]
    have e4:V5.cell? ⟨w.heap.size+1,2,none⟩=some (.slice (some ⟨g6,0,none⟩) (D.tr.length+1) cap6):=by rw [← hV5];simp [go_sem,g0,g1,g2,g3,g4]
    rw [hV5]
    have X1:=hidR r1
    have X2:=hidR r2
    have X3:=hidR r3
    have X4:=hidR r4
    clear hV5 r1 r2 r3 r4 g0 g1 g2 g3 g4 m0 m1 m2 k0 k1 fr ft
    go_wp2
    exact bodyPost_ret (v:=.tuple #[.agg #[.slice p1 pd.caps.length a1,.slice p2 pd.bods.length a2],.agg #[.slice t1 D.ths.length d1,.slice t2 D.chs.length d2,.slice (some ⟨g6,0,none⟩) (D.tr.length+1) cap6]]) (by simp [results,Tryz.results24,go_sem,e0,e1,e2,e3,e4]) rfl ⟨_,_,_,_,_,rfl,X1.out,X2.out,X3.out,X4.out⟩
 ·go_wp2_with fail
  refine (below_cb cu s n c 2 w3 D3.out.rb.cb (by omega) (by omega)).mono ?_
  rintro e w5 ⟨y,rfl,y0,y1,hc5,hb5⟩
  have D5:=hidR (D3.out.step hc5 hb5)
  obtain ⟨m,hm⟩:∃ m:Nat,4000+y=(m:Int):=⟨(4000+y).toNat,by omega⟩
  have hwr:IntKind.i64.wrap (4000+y)=(m:Int):=by rw [IntWalk.i64_in _ ⟨by omega,by omega⟩,hm]
  have hmk:=mkN m (by omega)
  obtain ⟨m0,m1,m2,mf,mz⟩:=D5.out.sb
  have o7:=D5.out.o7
  have o4:=D5.out.o4
  have o5:=D5.out.o5
  have o6:=D5.out.o6
  have EV:Hid (EndS w ((w5.alloc (.cells (madeCells #[.int .i64 0,.int .i64 0] (m * 2)) 67)).setCell ⟨S,2,none⟩ (.slice (some ⟨w5.heap.size,0,none⟩) m m)) cu s n c P S (.slice p1 pd.caps.length a1) (.slice p2 pd.bods.length a2) (.slice t1 D.ths.length d1) (.slice t2 D.chs.length d2) (.slice (some ⟨w5.heap.size,0,none⟩) m m)):=by
   have hal:Below w5.heap.size w5 (w5.alloc (.cells (madeCells #[.int .i64 0,.int .i64 0] (m * 2)) 67)):=(Below.refl _ _).alloc (Nat.le_refl _) _
   exact D5.out.trc (tr:=List.replicate m ⟨0,0⟩) (D5.out.rb.step (D5.out.rb.cb.keep hal) (But.of_below hal)) (fun k _ b _=>hal.block k b) hal.size (ownLow' (own_made w5 m (by omega)) (by omega)) (by simp;omega) (ntOk_made m)
  clear hc5 hb5 D3 D5 m0 m1
  go_wp2_with fail
  rw [World.setCell_alloc_past _ _ _ _ o7] at EV
  obtain ⟨Z,hZ⟩:∃ Z,(w5.setCell ⟨S,2,none⟩ (.slice (some ⟨w5.heap.size,0,none⟩) m m)).alloc (.cells (madeCells #[.int .i64 0,.int .i64 0] (m * 2)) 67)=Z:=⟨_,rfl⟩
  rw [hZ] at EV ⊢
  clear hZ hmk m2 mf mz hwr hm
  obtain ⟨m0,m1,m2,mf,mz⟩:=EV.out.sb
  have k0:=EV.out.k0
  have k1:=EV.out.k1
  have oP:=EV.out.oP
  have oS:=EV.out.oS
  obtain ⟨q0,g0⟩:=Option.isSome_iff_exists.1 EV.out.rb.r0
  obtain ⟨q1,g1⟩:=Option.isSome_iff_exists.1 EV.out.rb.r1
  obtain ⟨q2,g2⟩:=Option.isSome_iff_exists.1 EV.out.rb.t0
  obtain ⟨q3,g3⟩:=Option.isSome_iff_exists.1 EV.out.rb.t1
  obtain ⟨q4,g4⟩:=Option.isSome_iff_exists.1 EV.out.rb.t2
  have fr:=EV.out.rb.fr
  have ft:=EV.out.rb.ft
  have n1':¬ P=w.heap.size:=by omega
  have n2':¬ P=w.heap.size+1:=by omega
  have n3':¬ S=w.heap.size:=by omega
  have n4':¬ S=w.heap.size+1:=by omega
  have n5':¬ w.heap.size=P:=by omega
  have n6':¬ w.heap.size+1=P:=by omega
  have n7':¬ w.heap.size=S:=by omega
  have n8':¬ w.heap.size+1=S:=by omega
  go_wp2_with fail
  go_region
  all_goals
   obtain ⟨V5,hV5,r1,r2,r3,r4⟩:=EV.out.fin (.slice p1 pd.caps.length a1) (.slice p2 pd.bods.length a2) (.slice t1 D.ths.length d1) (.slice t2 D.chs.length d2) (.slice (some ⟨w5.heap.size,0,none⟩) m m)
   have e0:V5.cell? ⟨w.heap.size,0,none⟩=some (.slice p1 pd.caps.length a1):=by rw [← hV5];simp [go_sem,g0,g1,g2,g3,g4]
   have e1:V5.cell? ⟨w.heap.size,1,none⟩=some (.slice p2 pd.bods.length a2):=by rw [← hV5];simp [go_sem,g0,g1,g2,g3,g4]
   have e2:V5.cell? ⟨w.heap.size+1,0,none⟩=some (.slice t1 D.ths.length d1):=by rw [← hV5];simp [go_sem,g0,g1,g2,g3,g4]
   have e3:V5.cell? ⟨w.heap.size+1,1,none⟩=some (.slice t2 D.chs.length d2):=by rw [← hV5];simp [go_sem,g0,g1,g2,g3,g4]
   have e4:V5.cell? ⟨w.heap.size+1,2,none⟩=some (.slice (some ⟨w5.heap.size,0,none⟩) m m):=by rw [← hV5];simp [go_sem,g0,g1,g2,g3,g4]
   rw [hV5]
   have X1:=hidR r1
   have X2:=hidR r2
   have X3:=hidR r3
   have X4:=hidR r4
   clear hV5 r1 r2 r3 r4 g0 g1 g2 g3 g4 m0 m1 m2 k0 k1 fr ft
   go_wp2
   exact bodyPost_ret (v:=.tuple #[.agg #[.slice p1 pd.caps.length a1,.slice p2 pd.bods.length a2],.agg #[.slice t1 D.ths.length d1,.slice t2 D.chs.length d2,.slice (some ⟨w5.heap.size,0,none⟩) m m]]) (by simp [results,Tryz.results24,go_sem,e0,e1,e2,e3,e4]) rfl ⟨_,_,_,_,_,rfl,X1.out,X2.out,X3.out,X4.out⟩
 ·have b0:(q==0)=false:=by simp;omega
  have b1:(q==1)=false:=by simp;omega
  have b2:(q==2)=false:=by simp;omega
  have b3:(q==3)=false:=by simp;omega
  have b4:(q==4)=false:=by simp;omega
  have b5:(q==5)=false:=by simp;omega
  have b6:(q==6)=false:=by simp;omega
  have EV:=hidR (D3.out.asIs LB.out.2)
  obtain ⟨m0,m1,m2,mf,mz⟩:=EV.out.sb
  have k0:=EV.out.k0
  have k1:=EV.out.k1
  have oP:=EV.out.oP
  have oS:=EV.out.oS
  obtain ⟨q0,g0⟩:=Option.isSome_iff_exists.1 EV.out.rb.r0
  obtain ⟨q1,g1⟩:=Option.isSome_iff_exists.1 EV.out.rb.r1
  obtain ⟨q2,g2⟩:=Option.isSome_iff_exists.1 EV.out.rb.t0
  obtain ⟨q3,g3⟩:=Option.isSome_iff_exists.1 EV.out.rb.t1
  obtain ⟨q4,g4⟩:=Option.isSome_iff_exists.1 EV.out.rb.t2
  have fr:=EV.out.rb.fr
  have ft:=EV.out.rb.ft
  have n1':¬ P=w.heap.size:=by omega
  have n2':¬ P=w.heap.size+1:=by omega
  have n3':¬ S=w.heap.size:=by omega
  have n4':¬ S=w.heap.size+1:=by omega
  have n5':¬ w.heap.size=P:=by omega
  have n6':¬ w.heap.size+1=P:=by omega
  have n7':¬ w.heap.size=S:=by omega
  have n8':¬ w.heap.size+1=S:=by omega
  go_wp2_with fail
  go_region
  all_goals
   obtain ⟨V5,hV5,r1,r2,r3,r4⟩:=EV.out.fin (.slice p1 pd.caps.length a1) (.slice p2 pd.bods.length a2) (.slice t1 D.ths.length d1) (.slice t2 D.chs.length d2) (.slice t3 D.tr.length d3)
   have e0:V5.cell? ⟨w.heap.size,0,none⟩=some (.slice p1 pd.caps.length a1):=by rw [← hV5];simp [go_sem,g0,g1,g2,g3,g4]
   have e1:V5.cell? ⟨w.heap.size,1,none⟩=some (.slice p2 pd.bods.length a2):=by rw [← hV5];simp [go_sem,g0,g1,g2,g3,g4]
   have e2:V5.cell? ⟨w.heap.size+1,0,none⟩=some (.slice t1 D.ths.length d1):=by rw [← hV5];simp [go_sem,g0,g1,g2,g3,g4]
   have e3:V5.cell? ⟨w.heap.size+1,1,none⟩=some (.slice t2 D.chs.length d2):=by rw [← hV5];simp [go_sem,g0,g1,g2,g3,g4]
   have e4:V5.cell? ⟨w.heap.size+1,2,none⟩=some (.slice t3 D.tr.length d3):=by rw [← hV5];simp [go_sem,g0,g1,g2,g3,g4]
   rw [hV5]
   have X1:=hidR r1
   have X2:=hidR r2
   have X3:=hidR r3
   have X4:=hidR r4
   clear hV5 r1 r2 r3 r4 g0 g1 g2 g3 g4 m0 m1 m2 k0 k1 fr ft
   go_wp2
   exact bodyPost_ret (v:=.tuple #[.agg #[.slice p1 pd.caps.length a1,.slice p2 pd.bods.length a2],.agg #[.slice t1 D.ths.length d1,.slice t2 D.chs.length d2,.slice t3 D.tr.length d3]]) (by simp [results,Tryz.results24,go_sem,e0,e1,e2,e3,e4]) rfl ⟨_,_,_,_,_,rfl,X1.out,X2.out,X3.out,X4.out⟩
end Go.Proofs.YtknffngbdakblaaGreat
